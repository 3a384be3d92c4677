/-
  What the program's iterator tells of expressions, one behind the other, and the table that comes of it.
-/
import Derived.Test.YtdadppjncdkpiaaTablePure
namespace Go.Proofs.Ytdadppjncdkpiaa
open Go.RowKit Go.Joins

set_option maxRecDepth 100000

mutual
/-- What is told of an expression: the number of the code whose kid it is, and the expression. -/
def Ex.told : Int → Nat → Ex → List (Int × Ex)
  | ab, a, .mk k n t ks => (ab, .mk k n t ks) :: Ex.toldL a (a + 1) ks
def Ex.toldL : Int → Nat → List Ex → List (Int × Ex)
  | _, _, [] => []
  | ab, a, e :: r => e.told ab a ++ Ex.toldL ab (a + e.count) r
end
theorem Ex.told_eq (ab : Int) (a : Nat) (e : Ex) : e.told ab a = (ab, e) :: Ex.toldL a (a + 1) e.kids := by cases e; rw [Ex.told]; rfl
mutual
theorem Ex.told_len : ∀ (e : Ex) (ab : Int) (a : Nat), (e.told ab a).length = e.count
  | .mk k n t ks, ab, a => by
    rw [Ex.told, List.length_cons, Ex.toldL_len ks, Ex.count]
    omega
theorem Ex.toldL_len : ∀ (es : List Ex) (ab : Int) (a : Nat), (Ex.toldL ab a es).length = Ex.countL es
  | [], _, _ => by rw [Ex.toldL, Ex.countL]; rfl
  | e :: r, ab, a => by rw [Ex.toldL, List.length_append, Ex.told_len e, Ex.toldL_len r, Ex.countL]
end
theorem toldL_snoc : ∀ (es : List Ex) (ab : Int) (a : Nat) (e : Ex), Ex.toldL ab a (es ++ [e]) = Ex.toldL ab a es ++ e.told ab (a + Ex.countL es)
  | [], ab, a, e => by rw [List.nil_append, Ex.toldL, Ex.toldL, Ex.toldL, Ex.countL]; simp
  | x :: r, ab, a, e => by
    rw [List.cons_append, Ex.toldL, Ex.toldL, toldL_snoc r ab (a + x.count) e, Ex.countL, List.append_assoc]
    rw [show a + x.count + Ex.countL r = a + (x.count + Ex.countL r) by omega]

theorem toldL_take : ∀ (es : List Ex) (ab : Int) (a k : Nat), Ex.toldL ab a (es.take k) <+: Ex.toldL ab a es
  | [], ab, a, k => by simp
  | e :: r, ab, a, 0 => by rw [List.take_zero, Ex.toldL]; exact List.nil_prefix
  | e :: r, ab, a, k + 1 => by
    rw [List.take_succ_cons, Ex.toldL, Ex.toldL]
    exact (List.prefix_append_right_inj _).2 (toldL_take r ab (a + e.count) k)

mutual
/-- Who is whose kid: one that stands ahead. -/
theorem Ex.told_ab : ∀ (e : Ex) (ab : Int) (a i : Nat) (x : Int × Ex), (e.told ab a)[i]? = some x → x.1 = ab ∨ ((a : Int) ≤ x.1 ∧ x.1 < ((a + i : Nat) : Int))
  | .mk k n t ks, ab, a, i, x, h => by
    rw [Ex.told] at h
    cases i with
    | zero => simp at h; subst h; exact .inl rfl
    | succ i =>
      rw [List.getElem?_cons_succ] at h
      rcases Ex.toldL_ab ks a (a + 1) i x h with h | h
      · right; omega
      · right; omega
theorem Ex.toldL_ab : ∀ (es : List Ex) (ab : Int) (a i : Nat) (x : Int × Ex), (Ex.toldL ab a es)[i]? = some x → x.1 = ab ∨ ((a : Int) ≤ x.1 ∧ x.1 < ((a + i : Nat) : Int))
  | [], _, _, i, x, h => by rw [Ex.toldL] at h; simp at h
  | e :: r, ab, a, i, x, h => by
    rw [Ex.toldL] at h
    by_cases hi : i < (e.told ab a).length
    · rw [List.getElem?_append_left hi] at h
      exact Ex.told_ab e ab a i x h
    · rw [List.getElem?_append_right (by omega), Ex.told_len] at h
      rw [Ex.told_len] at hi
      rcases Ex.toldL_ab r ab (a + e.count) (i - e.count) x h with h | h
      · exact .inl h
      · right; omega
end

/-- What is told is as it lies in memory. -/
theorem told_ok {w : World} {S : Nat → Prop} : ∀ (d : Nat) (v : Value) (es : List Ex) (ab : Int) (a : Nat), KidsAt w S d v es → ∀ x ∈ Ex.toldL ab a es, inI64 x.2.kind ∧ inI64 x.2.n ∧ x.2.text.size ≤ maxLen
  | 0, _, _, _, _, h => h.elim
  | d + 1, v, es, ab, a, ⟨ad, cap, _, _, hc⟩ => by
    have hall : ∀ (l : List Ex) (a : Nat), (∀ e ∈ l, e ∈ es) → ∀ x ∈ Ex.toldL ab a l, inI64 x.2.kind ∧ inI64 x.2.n ∧ x.2.text.size ≤ maxLen := by
      intro l
      induction l with
      | nil => intro a _ x hx; rw [Ex.toldL] at hx; simp at hx
      | cons e r ih =>
        intro a hl x hx
        rw [Ex.toldL, Ex.told_eq, List.mem_append, List.mem_cons] at hx
        obtain ⟨i, hi⟩ := List.getElem?_of_mem (hl e (by simp))
        obtain ⟨b, off, kv, _, _, _, _, _, _, _, r1, r2, r3, hk⟩ := hc i e hi
        rcases hx with (rfl | hx) | hx
        · exact ⟨r1, r2, r3⟩
        · exact told_ok d kv e.kids _ _ hk x hx
        · exact ih _ (fun e' he' => hl e' (by simp [he'])) x hx
    exact hall es a (fun _ h => h)

def addKids (ks : List Int) (c : Cd) : Cd := { c with kids := c.kids ++ ks }
def Ex.code (e : Ex) : Cd := ⟨e.kind, e.n, e.text, []⟩
/-- What a round makes of a table. -/
def tellStep (s : List Cd × List Int) (x : Int × Ex) : List Cd × List Int :=
  if x.1 < 0 then (s.1 ++ [x.2.code], s.2 ++ [(s.1.length : Int)]) else ((s.1 ++ [x.2.code]).modify x.1.toNat (addKids [(s.1.length : Int)]), s.2)
def tellAll (xs : List (Int × Ex)) : List Cd × List Int := xs.foldl tellStep ([], [])
theorem tellAll_snoc (xs : List (Int × Ex)) (x : Int × Ex) : tellAll (xs ++ [x]) = tellStep (tellAll xs) x := by simp [tellAll]
theorem tellStep_len (s : List Cd × List Int) (x : Int × Ex) : (tellStep s x).1.length = s.1.length + 1 := by
  unfold tellStep
  split <;> simp
theorem tellAll_len (xs : List (Int × Ex)) : (tellAll xs).1.length = xs.length := by
  have : ∀ (xs : List (Int × Ex)) (s : List Cd × List Int), (xs.foldl tellStep s).1.length = s.1.length + xs.length := by
    intro xs
    induction xs with
    | nil => intro s; simp
    | cons x r ih => intro s; rw [List.foldl_cons, ih, tellStep_len, List.length_cons]; omega
  simpa [tellAll] using this xs ([], [])

theorem modify_left (f : Cd → Cd) : ∀ (l r : List Cd) (p : Nat), p < l.length → (l ++ r).modify p f = l.modify p f ++ r
  | [], _, p, h => by simp at h
  | c :: l, r, 0, _ => by simp
  | c :: l, r, p + 1, h => by
    have := modify_left f l r p (by simpa using h)
    simpa using this
theorem modify_mid (f : Cd → Cd) : ∀ (l r : List Cd) (c : Cd), (l ++ c :: r).modify l.length f = l ++ f c :: r
  | [], r, c => by simp
  | d :: l, r, c => by simpa using modify_mid f l r c
theorem modify_two (f g : Cd → Cd) : ∀ (l : List Cd) (p : Nat), (l.modify p f).modify p g = l.modify p (fun c => g (f c))
  | [], p => by cases p <;> simp
  | c :: l, 0 => by simp
  | c :: l, p + 1 => by simpa using modify_two f g l p
theorem modify_none (f : Cd → Cd) (hf : ∀ c, f c = c) : ∀ (l : List Cd) (p : Nat), l.modify p f = l
  | [], p => by cases p <;> simp
  | c :: l, 0 => by simp [hf]
  | c :: l, p + 1 => by simpa using modify_none f hf l p

mutual
theorem told_kids : ∀ (e : Ex) (cs : List Cd) (tops : List Int), (Ex.toldL cs.length (cs.length + 1) e.kids).foldl tellStep (cs ++ [e.code], tops) = (cs ++ e.flat cs.length, tops)
  | .mk k n t ks, cs, tops => by
    have := toldL_pos ks (cs ++ [Ex.code (.mk k n t ks)]) tops cs.length (by simp)
    rw [List.length_append] at this
    show (Ex.toldL cs.length (cs.length + 1) ks).foldl tellStep _ = _
    rw [show cs.length + [Ex.code (.mk k n t ks)].length = cs.length + 1 from rfl] at this
    rw [this, modify_mid, Ex.flat]
    simp [addKids, Ex.code, Ex.kind, Ex.n, Ex.text]
theorem toldL_pos : ∀ (es : List Ex) (cs : List Cd) (tops : List Int) (p : Nat), p < cs.length → (Ex.toldL p cs.length es).foldl tellStep (cs, tops) = (cs.modify p (addKids (numsL cs.length es)) ++ Ex.flatL cs.length es, tops)
  | [], cs, tops, p, h => by
    rw [Ex.toldL, numsL, Ex.flatL, modify_none _ (fun c => by simp [addKids])]
    simp
  | e :: r, cs, tops, p, h => by
    have h1 : (e.told p cs.length).foldl tellStep (cs, tops) = (cs.modify p (addKids [(cs.length : Int)]) ++ e.flat cs.length, tops) := by
      rw [Ex.told_eq, List.foldl_cons]
      have hs : tellStep (cs, tops) ((p : Int), e) = (cs.modify p (addKids [(cs.length : Int)]) ++ [e.code], tops) := by
        unfold tellStep
        rw [if_neg (by simp)]
        simp only [Int.toNat_natCast]
        rw [modify_left _ _ _ _ h]
      rw [hs]
      have := told_kids e (cs.modify p (addKids [(cs.length : Int)])) tops
      rw [List.length_modify] at this
      exact this
    have h2 := toldL_pos r (cs.modify p (addKids [(cs.length : Int)]) ++ e.flat cs.length) tops p (by rw [List.length_append, List.length_modify]; omega)
    rw [List.length_append, List.length_modify, Ex.flat_len] at h2
    rw [Ex.toldL, List.foldl_append, h1, h2, modify_left _ _ _ _ (by rw [List.length_modify]; exact h), modify_two, numsL, Ex.flatL, List.append_assoc]
    congr 2
    congr 1
    funext c
    simp [addKids]
end
theorem toldL_neg : ∀ (es : List Ex) (cs : List Cd) (tops : List Int), (Ex.toldL (-1) cs.length es).foldl tellStep (cs, tops) = (cs ++ Ex.flatL cs.length es, tops ++ numsL cs.length es)
  | [], cs, tops => by rw [Ex.toldL, numsL, Ex.flatL]; simp
  | e :: r, cs, tops => by
    have h1 : (e.told (-1) cs.length).foldl tellStep (cs, tops) = (cs ++ e.flat cs.length, tops ++ [(cs.length : Int)]) := by
      rw [Ex.told_eq, List.foldl_cons]
      have hs : tellStep (cs, tops) ((-1 : Int), e) = (cs ++ [e.code], tops ++ [(cs.length : Int)]) := by
        unfold tellStep
        rw [if_pos (by simp)]
      rw [hs]
      exact told_kids e cs _
    have h2 := toldL_neg r (cs ++ e.flat cs.length) (tops ++ [(cs.length : Int)])
    rw [List.length_append, Ex.flat_len] at h2
    rw [Ex.toldL, List.foldl_append, h1, h2, numsL, Ex.flatL]
    simp
/-- The table of what is told of bodies. -/
theorem tellAll_told (es : List Ex) : tellAll (Ex.toldL (-1) 0 es) = (Ex.flatL 0 es, numsL 0 es) := by
  have := toldL_neg es [] []
  simpa [tellAll] using this
end Go.Proofs.Ytdadppjncdkpiaa
