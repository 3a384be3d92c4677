/-
  When a program is right, in plain words: its names, each once, and its bodies.
  A program's table, in plain words.
  What the program's iterator tells of expressions, one behind the other, and the table that comes of it.
  A range over a function whose iterator keeps state of its own in memory: what the iterator and the loop's body promise each other, by the types of the blocks.
-/
import Derived.Test.YtnjfccagkeonpaaMB
import Derived.Test.YtnjfccagkeonpaaName
import Derived.Test.YtnjfccagkeonpaaTbAt
import Derived.RangeFuncNested
import Derived.RangeFuncBound
import Derived.RangeFuncCalls
import Derived.RangeFuncLeaves
import Derived.Below
namespace Go.Proofs.Ytnjfccagkeonpaa
open Go.RowKit Go.Joins Go.Maps

set_option maxRecDepth 100000

/-- The place of the last one of a text among the first k, or -1. -/
def lastN (ts : List ByteArray) (s : ByteArray) : Nat → Int
  | 0 => -1
  | k + 1 => if ((ts.getD k ByteArray.empty).toList == s.toList) = true then (k : Int) else lastN ts s k

theorem lastN_range (ts : List ByteArray) (s : ByteArray) : ∀ n : Nat, -1 ≤ lastN ts s n ∧ lastN ts s n < n
  | 0 => by simp [lastN]
  | k + 1 => by
    have := lastN_range ts s k
    rw [lastN]
    split <;> omega

theorem lastN_is (ts : List ByteArray) (s : ByteArray) (i : Nat) : ∀ n : Nat, i < n → (ts.getD i ByteArray.empty).toList = s.toList → (lastN ts s n = i ↔ ∀ j, i < j → j < n → (ts.getD j ByteArray.empty).toList ≠ s.toList)
  | 0, h, _ => by omega
  | n + 1, h, he => by
    rw [lastN]
    by_cases hn : ((ts.getD n ByteArray.empty).toList == s.toList) = true
    · rw [if_pos hn]
      constructor
      · intro h1 j hj hjn; omega
      · intro h1
        by_cases hi : i = n
        · omega
        · exact absurd (by simpa using hn) (h1 n (by omega) (by omega))
    · rw [if_neg hn]
      have hin : i ≠ n := by rintro rfl; exact hn (by simpa using he)
      rw [lastN_is ts s i n (by omega) he]
      constructor
      · intro h1 j hj hjn
        by_cases hjn' : j = n
        · subst hjn'; simpa using hn
        · exact h1 j hj (by omega)
      · intro h1 j hj hjn; exact h1 j hj (by omega)

def keysS (ts : List ByteArray) : List (List UInt8) := ts.map (fun t => t.data.toList)
theorem toList_eq (s : ByteArray) : s.toList = s.data.toList := ByteArray.toList_eq s

theorem keys_at {ts : List ByteArray} {i : Nat} (h : i < ts.length) : (keysS ts)[i]'(by simpa [keysS] using h) = (ts.getD i ByteArray.empty).toList := by
  simp [keysS, List.getD, List.getElem?_eq_getElem h, toList_eq]

theorem nodup_last (ts : List ByteArray) : (keysS ts).Nodup ↔ ∀ i, i < ts.length → lastN ts (ts.getD i ByteArray.empty) ts.length = i := by
  have hl : (keysS ts).length = ts.length := by simp [keysS]
  rw [List.Nodup, List.pairwise_iff_getElem]
  constructor
  · intro h i hi
    refine (lastN_is ts _ i ts.length hi rfl).2 fun j hij hj he => ?_
    refine h i j (by omega) (by omega) hij ?_
    rw [keys_at hi, keys_at hj, he]
  · intro h i j hi hj hij he
    refine (lastN_is ts _ i ts.length (by omega) rfl).1 (h i (by omega)) j hij (by omega) ?_
    rw [← keys_at (by omega : i < ts.length), ← keys_at (by omega : j < ts.length), he]

theorem addKey_str (L : List (List UInt8)) (x : List UInt8) : addKey (L.map Lit.string) (.string x) = if x ∈ L then L.map Lit.string else (L ++ [x]).map Lit.string := by
  unfold addKey
  have : ((L.map Lit.string).any fun y => y.sameKey (.string x)) = L.contains x := by
    rw [List.any_map]
    induction L with
    | nil => rfl
    | cons a r ih =>
      rw [List.any_cons, List.contains_cons, ih]
      have hc : ((fun y : Lit => y.sameKey (.string x)) ∘ Lit.string) a = (x == a) := by
        show (a == x) = (x == a)
        exact Bool.eq_iff_iff.2 (by simp only [beq_iff_eq]; exact ⟨fun h => h.symm, fun h => h.symm⟩)
      rw [hc]
  rw [this]
  by_cases h : x ∈ L
  · rw [if_pos h, if_pos (by simpa using h)]
  · rw [if_neg h, if_neg (by simpa using h)]; simp

theorem fold_le : ∀ (xs L : List (List UInt8)), ((xs.map Lit.string).foldl addKey (L.map Lit.string)).length ≤ L.length + xs.length
  | [], L => by simp
  | x :: r, L => by
    rw [List.map_cons, List.foldl_cons, addKey_str]
    split
    · have := fold_le r L; simp only [List.length_cons]; omega
    · have := fold_le r (L ++ [x]); simp only [List.length_append, List.length_cons, List.length_nil] at this; simp only [List.length_cons]; omega

theorem fold_nodup : ∀ (xs L : List (List UInt8)), L.Nodup → (((xs.map Lit.string).foldl addKey (L.map Lit.string)).length = L.length + xs.length ↔ (L ++ xs).Nodup)
  | [], L, h => by simp [h]
  | x :: r, L, h => by
    rw [List.map_cons, List.foldl_cons, addKey_str]
    by_cases hx : x ∈ L
    · rw [if_pos hx]
      constructor
      · intro he; have := fold_le r L; simp only [List.length_cons] at he; omega
      · intro hn
        rw [List.nodup_append] at hn
        exact absurd rfl (hn.2.2 x hx x (by simp))
    · rw [if_neg hx]
      have h1 : (L ++ [x]).Nodup := by
        rw [List.nodup_append]
        exact ⟨h, by simp, fun a ha b hb => by simp at hb; subst hb; exact fun e => hx (e ▸ ha)⟩
      have := fold_nodup r (L ++ [x]) h1
      rw [show L ++ [x] ++ r = L ++ x :: r by simp] at this
      rw [← this]
      simp only [List.length_append, List.length_cons, List.length_nil]
      omega

theorem size_names (u : DataW Unit) (ts : List ByteArray) : Maps.size (setOf u ((keysS ts).map Lit.string)) = ts.length ↔ (keysS ts).Nodup := by
  rw [size_setOf _ _ (fun y hy => by obtain ⟨_, _, rfl⟩ := List.mem_map.1 hy; trivial)]
  have := fold_nodup (keysS ts) [] List.nodup_nil
  simp only [List.map_nil, List.length_nil, Nat.zero_add, List.nil_append] at this
  rw [← this]
  simp [keysS]

/-- A program is right. -/
def Pr.ok (p : Pr) : Bool := decide (p.names.length = p.bodies.length) && decide (1 ≤ p.names.length) && decide (p.names.length ≤ 30) && p.names.all nameOk && decide (keysS p.names).Nodup && p.bodies.all (fun b => b.right 0 (p.names.length : Int) 60)
theorem Pr.ok_iff (p : Pr) : p.ok = true ↔ p.names.length = p.bodies.length ∧ 1 ≤ p.names.length ∧ p.names.length ≤ 30 ∧ (∀ t ∈ p.names, nameOk t = true) ∧ (keysS p.names).Nodup ∧ ∀ b ∈ p.bodies, b.right 0 (p.names.length : Int) 60 = true := by
  unfold Pr.ok
  simp only [Bool.and_eq_true, decide_eq_true_eq, List.all_eq_true]
  constructor
  · rintro ⟨⟨⟨⟨⟨h1, h2⟩, h3⟩, h4⟩, h5⟩, h6⟩; exact ⟨h1, h2, h3, h4, h5, h6⟩
  · rintro ⟨h1, h2, h3, h4, h5, h6⟩; exact ⟨⟨⟨⟨⟨h1, h2⟩, h3⟩, h4⟩, h5⟩, h6⟩
theorem Pr.ok_false {p : Pr} (h : ¬ (p.names.length = p.bodies.length ∧ 1 ≤ p.names.length ∧ p.names.length ≤ 30 ∧ (∀ t ∈ p.names, nameOk t = true) ∧ (keysS p.names).Nodup ∧ ∀ b ∈ p.bodies, b.right 0 (p.names.length : Int) 60 = true)) : p.ok = false := by
  cases hp : p.ok with
  | false => rfl
  | true => exact absurd (p.ok_iff.1 hp) h
end Go.Proofs.Ytnjfccagkeonpaa

namespace Go.Proofs.Ytnjfccagkeonpaa
open Go.RowKit Go.Joins

set_option maxRecDepth 100000

/-- The numbers of expressions that stand one behind the other, from a number on. -/
def numsL : Nat → List Ex → List Int
  | _, [] => []
  | at', e :: r => (at' : Int) :: numsL (at' + e.count) r
theorem numsL_len : ∀ (es : List Ex) (a : Nat), (numsL a es).length = es.length
  | [], _ => rfl
  | e :: r, a => by rw [numsL, List.length_cons, numsL_len r, List.length_cons]

mutual
/-- The codes of an expression whose number is known. -/
def Ex.flat : Nat → Ex → List Cd
  | a, .mk k n t ks => ⟨k, n, t, numsL (a + 1) ks⟩ :: Ex.flatL (a + 1) ks
def Ex.flatL : Nat → List Ex → List Cd
  | _, [] => []
  | a, e :: r => e.flat a ++ Ex.flatL (a + e.count) r
end
theorem Ex.flat_eq (a : Nat) (e : Ex) : e.flat a = ⟨e.kind, e.n, e.text, numsL (a + 1) e.kids⟩ :: Ex.flatL (a + 1) e.kids := by cases e; rw [Ex.flat]; rfl
mutual
theorem Ex.flat_len : ∀ (e : Ex) (a : Nat), (e.flat a).length = e.count
  | .mk k n t ks, a => by
    rw [Ex.flat, List.length_cons, Ex.flatL_len ks (a + 1), Ex.count]
    omega
theorem Ex.flatL_len : ∀ (es : List Ex) (a : Nat), (Ex.flatL a es).length = Ex.countL es
  | [], _ => by rw [Ex.flatL, Ex.countL]; rfl
  | e :: r, a => by rw [Ex.flatL, List.length_append, Ex.flat_len e a, Ex.flatL_len r, Ex.countL]
end
theorem flatL_snoc : ∀ (es : List Ex) (a : Nat) (e : Ex), Ex.flatL a (es ++ [e]) = Ex.flatL a es ++ e.flat (a + Ex.countL es)
  | [], a, e => by rw [List.nil_append, Ex.flatL, Ex.flatL, Ex.flatL, Ex.countL]; simp
  | x :: r, a, e => by
    rw [List.cons_append, Ex.flatL, Ex.flatL, flatL_snoc r (a + x.count) e, Ex.countL, List.append_assoc]
    rw [show a + x.count + Ex.countL r = a + (x.count + Ex.countL r) by omega]
theorem numsL_snoc : ∀ (es : List Ex) (a : Nat) (e : Ex), numsL a (es ++ [e]) = numsL a es ++ [((a + Ex.countL es : Nat) : Int)]
  | [], a, e => by rw [List.nil_append, numsL, numsL, numsL, Ex.countL]; simp
  | x :: r, a, e => by
    rw [List.cons_append, numsL, numsL, numsL_snoc r (a + x.count) e, Ex.countL, List.cons_append]
    rw [show a + x.count + Ex.countL r = a + (x.count + Ex.countL r) by omega]

/-- A program's table. -/
def tableOf (p : Pr) : Tb := if p.ok = true then ⟨Ex.flatL 0 p.bodies, numsL 0 p.bodies⟩ else ⟨[], []⟩
end Go.Proofs.Ytnjfccagkeonpaa

namespace Go.Proofs.Ytnjfccagkeonpaa
open Go.RowKit Go.Joins

set_option maxRecDepth 100000

mutual
/-- What is told of an expression: the number of the code whose kid it is, and the expression. -/
def Ex.told : Int → Nat → Ex → List (Int × Ex)
  | ab, a, .mk k n t ks => (ab, .mk k n t ks) :: Ex.toldL a (a + 1) ks
def Ex.toldL : Int → Nat → List Ex → List (Int × Ex)
  | _, _, [] => []
  | ab, a, e :: r => e.told ab a ++ Ex.toldL ab (a + e.count) r
end
theorem Ex.told_eq (ab : Int) (a : Nat) (e : Ex) : e.told ab a = (ab, e) :: Ex.toldL a (a + 1) e.kids := by cases e; rw [Ex.told]; rfl
mutual
theorem Ex.told_len : ∀ (e : Ex) (ab : Int) (a : Nat), (e.told ab a).length = e.count
  | .mk k n t ks, ab, a => by
    rw [Ex.told, List.length_cons, Ex.toldL_len ks, Ex.count]
    omega
theorem Ex.toldL_len : ∀ (es : List Ex) (ab : Int) (a : Nat), (Ex.toldL ab a es).length = Ex.countL es
  | [], _, _ => by rw [Ex.toldL, Ex.countL]; rfl
  | e :: r, ab, a => by rw [Ex.toldL, List.length_append, Ex.told_len e, Ex.toldL_len r, Ex.countL]
end
theorem toldL_snoc : ∀ (es : List Ex) (ab : Int) (a : Nat) (e : Ex), Ex.toldL ab a (es ++ [e]) = Ex.toldL ab a es ++ e.told ab (a + Ex.countL es)
  | [], ab, a, e => by rw [List.nil_append, Ex.toldL, Ex.toldL, Ex.toldL, Ex.countL]; simp
  | x :: r, ab, a, e => by
    rw [List.cons_append, Ex.toldL, Ex.toldL, toldL_snoc r ab (a + x.count) e, Ex.countL, List.append_assoc]
    rw [show a + x.count + Ex.countL r = a + (x.count + Ex.countL r) by omega]

theorem toldL_take : ∀ (es : List Ex) (ab : Int) (a k : Nat), Ex.toldL ab a (es.take k) <+: Ex.toldL ab a es
  | [], ab, a, k => by simp
  | e :: r, ab, a, 0 => by rw [List.take_zero, Ex.toldL]; exact List.nil_prefix
  | e :: r, ab, a, k + 1 => by
    rw [List.take_succ_cons, Ex.toldL, Ex.toldL]
    exact (List.prefix_append_right_inj _).2 (toldL_take r ab (a + e.count) k)

mutual
/-- Who is whose kid: one that stands ahead. -/
theorem Ex.told_ab : ∀ (e : Ex) (ab : Int) (a i : Nat) (x : Int × Ex), (e.told ab a)[i]? = some x → x.1 = ab ∨ ((a : Int) ≤ x.1 ∧ x.1 < ((a + i : Nat) : Int))
  | .mk k n t ks, ab, a, i, x, h => by
    rw [Ex.told] at h
    cases i with
    | zero => simp at h; subst h; exact .inl rfl
    | succ i =>
      rw [List.getElem?_cons_succ] at h
      rcases Ex.toldL_ab ks a (a + 1) i x h with h | h
      · right; omega
      · right; omega
theorem Ex.toldL_ab : ∀ (es : List Ex) (ab : Int) (a i : Nat) (x : Int × Ex), (Ex.toldL ab a es)[i]? = some x → x.1 = ab ∨ ((a : Int) ≤ x.1 ∧ x.1 < ((a + i : Nat) : Int))
  | [], _, _, i, x, h => by rw [Ex.toldL] at h; simp at h
  | e :: r, ab, a, i, x, h => by
    rw [Ex.toldL] at h
    by_cases hi : i < (e.told ab a).length
    · rw [List.getElem?_append_left hi] at h
      exact Ex.told_ab e ab a i x h
    · rw [List.getElem?_append_right (by omega), Ex.told_len] at h
      rw [Ex.told_len] at hi
      rcases Ex.toldL_ab r ab (a + e.count) (i - e.count) x h with h | h
      · exact .inl h
      · right; omega
end

/-- What is told is as it lies in memory. -/
theorem told_ok {w : World} {S : Nat → Prop} : ∀ (d : Nat) (v : Value) (es : List Ex) (ab : Int) (a : Nat), KidsAt w S d v es → ∀ x ∈ Ex.toldL ab a es, inI64 x.2.kind ∧ inI64 x.2.n ∧ x.2.text.size ≤ maxLen
  | 0, _, _, _, _, h => h.elim
  | d + 1, v, es, ab, a, ⟨ad, cap, _, _, hc⟩ => by
    have hall : ∀ (l : List Ex) (a : Nat), (∀ e ∈ l, e ∈ es) → ∀ x ∈ Ex.toldL ab a l, inI64 x.2.kind ∧ inI64 x.2.n ∧ x.2.text.size ≤ maxLen := by
      intro l
      induction l with
      | nil => intro a _ x hx; rw [Ex.toldL] at hx; simp at hx
      | cons e r ih =>
        intro a hl x hx
        rw [Ex.toldL, Ex.told_eq, List.mem_append, List.mem_cons] at hx
        obtain ⟨i, hi⟩ := List.getElem?_of_mem (hl e (by simp))
        obtain ⟨b, off, kv, _, _, _, _, _, _, _, r1, r2, r3, hk⟩ := hc i e hi
        rcases hx with (rfl | hx) | hx
        · exact ⟨r1, r2, r3⟩
        · exact told_ok d kv e.kids _ _ hk x hx
        · exact ih _ (fun e' he' => hl e' (by simp [he'])) x hx
    exact hall es a (fun _ h => h)

def addKids (ks : List Int) (c : Cd) : Cd := { c with kids := c.kids ++ ks }
def Ex.code (e : Ex) : Cd := ⟨e.kind, e.n, e.text, []⟩
/-- What a round makes of a table. -/
def tellStep (s : List Cd × List Int) (x : Int × Ex) : List Cd × List Int :=
  if x.1 < 0 then (s.1 ++ [x.2.code], s.2 ++ [(s.1.length : Int)]) else ((s.1 ++ [x.2.code]).modify x.1.toNat (addKids [(s.1.length : Int)]), s.2)
def tellAll (xs : List (Int × Ex)) : List Cd × List Int := xs.foldl tellStep ([], [])
theorem tellAll_snoc (xs : List (Int × Ex)) (x : Int × Ex) : tellAll (xs ++ [x]) = tellStep (tellAll xs) x := by simp [tellAll]
theorem tellStep_len (s : List Cd × List Int) (x : Int × Ex) : (tellStep s x).1.length = s.1.length + 1 := by
  unfold tellStep
  split <;> simp
theorem tellAll_len (xs : List (Int × Ex)) : (tellAll xs).1.length = xs.length := by
  have : ∀ (xs : List (Int × Ex)) (s : List Cd × List Int), (xs.foldl tellStep s).1.length = s.1.length + xs.length := by
    intro xs
    induction xs with
    | nil => intro s; simp
    | cons x r ih => intro s; rw [List.foldl_cons, ih, tellStep_len, List.length_cons]; omega
  simpa [tellAll] using this xs ([], [])

theorem modify_left (f : Cd → Cd) : ∀ (l r : List Cd) (p : Nat), p < l.length → (l ++ r).modify p f = l.modify p f ++ r
  | [], _, p, h => by simp at h
  | c :: l, r, 0, _ => by simp
  | c :: l, r, p + 1, h => by
    have := modify_left f l r p (by simpa using h)
    simpa using this
theorem modify_mid (f : Cd → Cd) : ∀ (l r : List Cd) (c : Cd), (l ++ c :: r).modify l.length f = l ++ f c :: r
  | [], r, c => by simp
  | d :: l, r, c => by simpa using modify_mid f l r c
theorem modify_two (f g : Cd → Cd) : ∀ (l : List Cd) (p : Nat), (l.modify p f).modify p g = l.modify p (fun c => g (f c))
  | [], p => by cases p <;> simp
  | c :: l, 0 => by simp
  | c :: l, p + 1 => by simpa using modify_two f g l p
theorem modify_none (f : Cd → Cd) (hf : ∀ c, f c = c) : ∀ (l : List Cd) (p : Nat), l.modify p f = l
  | [], p => by cases p <;> simp
  | c :: l, 0 => by simp [hf]
  | c :: l, p + 1 => by simpa using modify_none f hf l p

mutual
theorem told_kids : ∀ (e : Ex) (cs : List Cd) (tops : List Int), (Ex.toldL cs.length (cs.length + 1) e.kids).foldl tellStep (cs ++ [e.code], tops) = (cs ++ e.flat cs.length, tops)
  | .mk k n t ks, cs, tops => by
    have := toldL_pos ks (cs ++ [Ex.code (.mk k n t ks)]) tops cs.length (by simp)
    rw [List.length_append] at this
    show (Ex.toldL cs.length (cs.length + 1) ks).foldl tellStep _ = _
    rw [show cs.length + [Ex.code (.mk k n t ks)].length = cs.length + 1 from rfl] at this
    rw [this, modify_mid, Ex.flat]
    simp [addKids, Ex.code, Ex.kind, Ex.n, Ex.text]
theorem toldL_pos : ∀ (es : List Ex) (cs : List Cd) (tops : List Int) (p : Nat), p < cs.length → (Ex.toldL p cs.length es).foldl tellStep (cs, tops) = (cs.modify p (addKids (numsL cs.length es)) ++ Ex.flatL cs.length es, tops)
  | [], cs, tops, p, h => by
    rw [Ex.toldL, numsL, Ex.flatL, modify_none _ (fun c => by simp [addKids])]
    simp
  | e :: r, cs, tops, p, h => by
    have h1 : (e.told p cs.length).foldl tellStep (cs, tops) = (cs.modify p (addKids [(cs.length : Int)]) ++ e.flat cs.length, tops) := by
      rw [Ex.told_eq, List.foldl_cons]
      have hs : tellStep (cs, tops) ((p : Int), e) = (cs.modify p (addKids [(cs.length : Int)]) ++ [e.code], tops) := by
        unfold tellStep
        rw [if_neg (by simp)]
        simp only [Int.toNat_natCast]
        rw [modify_left _ _ _ _ h]
      rw [hs]
      have := told_kids e (cs.modify p (addKids [(cs.length : Int)])) tops
      rw [List.length_modify] at this
      exact this
    have h2 := toldL_pos r (cs.modify p (addKids [(cs.length : Int)]) ++ e.flat cs.length) tops p (by rw [List.length_append, List.length_modify]; omega)
    rw [List.length_append, List.length_modify, Ex.flat_len] at h2
    rw [Ex.toldL, List.foldl_append, h1, h2, modify_left _ _ _ _ (by rw [List.length_modify]; exact h), modify_two, numsL, Ex.flatL, List.append_assoc]
    congr 2
    congr 1
    funext c
    simp [addKids]
end
theorem toldL_neg : ∀ (es : List Ex) (cs : List Cd) (tops : List Int), (Ex.toldL (-1) cs.length es).foldl tellStep (cs, tops) = (cs ++ Ex.flatL cs.length es, tops ++ numsL cs.length es)
  | [], cs, tops => by rw [Ex.toldL, numsL, Ex.flatL]; simp
  | e :: r, cs, tops => by
    have h1 : (e.told (-1) cs.length).foldl tellStep (cs, tops) = (cs ++ e.flat cs.length, tops ++ [(cs.length : Int)]) := by
      rw [Ex.told_eq, List.foldl_cons]
      have hs : tellStep (cs, tops) ((-1 : Int), e) = (cs ++ [e.code], tops ++ [(cs.length : Int)]) := by
        unfold tellStep
        rw [if_pos (by simp)]
      rw [hs]
      exact told_kids e cs _
    have h2 := toldL_neg r (cs ++ e.flat cs.length) (tops ++ [(cs.length : Int)])
    rw [List.length_append, Ex.flat_len] at h2
    rw [Ex.toldL, List.foldl_append, h1, h2, numsL, Ex.flatL]
    simp
/-- The table of what is told of bodies. -/
theorem tellAll_told (es : List Ex) : tellAll (Ex.toldL (-1) 0 es) = (Ex.flatL 0 es, numsL 0 es) := by
  have := toldL_neg es [] []
  simpa [tellAll] using this
end Go.Proofs.Ytnjfccagkeonpaa

namespace Go.Proofs.Ytnjfccagkeonpaa
open Go.RowKit

/-- A step of the iterator's: what lies below B lies; cells of types that are not the iterator's lie. -/
structure StepT (O : TypeId → Prop) (B : Nat) (W W' : World) : Prop where
  os : W'.os = W.os
  tape : W'.tape = W.tape
  output : W'.output = W.output
  size : W.heap.size ≤ W'.heap.size
  low : ∀ k, k < B → W'.heap[k]? = W.heap[k]?
  cells : ∀ (k : Nat) (cs : Array Value) (t : TypeId) (rng : Nat × Nat), W.heap[k]? = some (.cells cs t rng) → ¬ O t → W'.heap[k]? = some (.cells cs t rng)
/-- What a round keeps: what lies below B, the iterator's cells, and whatever is no cells. -/
structure KeepT (O : TypeId → Prop) (B : Nat) (W W' : World) : Prop where
  below : Below B W W'
  own : ∀ (k : Nat) (cs : Array Value) (t : TypeId) (rng : Nat × Nat), W.heap[k]? = some (.cells cs t rng) → O t → W'.heap[k]? = some (.cells cs t rng)
  others : ∀ (k : Nat) (o : Obj), W.heap[k]? = some o → o.isCells = false → W'.heap[k]? = some o
def StableT {β : Type} (O : TypeId → Prop) (B : Nat) (I : β → World → Prop) : Prop := ∀ s W W', I s W → StepT O B W W' → I s W'

theorem StepT.refl (O : TypeId → Prop) (B : Nat) (W : World) : StepT O B W W := ⟨rfl, rfl, rfl, Nat.le_refl _, fun _ _ => rfl, fun _ _ _ _ h _ => h⟩
theorem StepT.trans {O : TypeId → Prop} {B : Nat} {X Y Z : World} (h : StepT O B X Y) (k : StepT O B Y Z) : StepT O B X Z :=
  ⟨k.os.trans h.os, k.tape.trans h.tape, k.output.trans h.output, Nat.le_trans h.size k.size, fun i hi => (k.low i hi).trans (h.low i hi), fun i cs t rng hi ht => k.cells i cs t rng (h.cells i cs t rng hi ht) ht⟩
theorem StepT.below {O : TypeId → Prop} {B : Nat} {W W' : World} (h : StepT O B W W') : Below B W W' := ⟨h.os, h.tape, h.output, h.size, h.low⟩
theorem StepT.alloc (O : TypeId → Prop) {B : Nat} (W : World) (o : Obj) (hB : B ≤ W.heap.size) : StepT O B W (W.alloc o) :=
  ⟨rfl, rfl, rfl, by simp, fun k hk => Below.heap_alloc W o k (by omega), fun k _ _ _ h _ => (Below.heap_alloc W o k (Array.getElem?_eq_some_iff.1 h).1).trans h⟩
theorem StepT.drew (O : TypeId → Prop) (B : Nat) (W : World) : StepT O B W W.drew := ⟨rfl, rfl, rfl, Nat.le_refl _, fun _ _ => rfl, fun _ _ _ _ h _ => h⟩
theorem StepT.putObj (O : TypeId → Prop) {B : Nat} {W : World} {l : Nat} {o : Obj} (o' : Obj) (hB : B ≤ l) (hl : W.heap[l]? = some o) (ho : o.isCells = false) : StepT O B W (W.putObj l o') :=
  ⟨rfl, rfl, rfl, by simp, fun k hk => World.putObj_heap_other (by omega), fun k cs t rng h _ => by
    refine (World.putObj_heap_other (fun e => ?_)).trans h
    subst e
    rw [h] at hl
    cases hl
    cases ho⟩
theorem StepT.setCell {O : TypeId → Prop} {B : Nat} {W : World} {b : Nat} {cs : Array Value} {t : TypeId} {rng : Nat × Nat} (hb : W.heap[b]? = some (.cells cs t rng)) (hO : O t) (hB : B ≤ b) (off : Nat) (v : Value) : StepT O B W (W.setCell ⟨b, off, none⟩ v) :=
  ⟨rfl, rfl, rfl, by simp [World.setCell], fun k hk => Below.heap_setCell _ _ _ _ (by show k ≠ b; omega), fun k cs' t' rng' h ht => by
    refine (Below.heap_setCell _ _ _ _ (fun e => ?_)).trans h
    subst e
    rw [h] at hb
    cases hb
    exact ht hO⟩
/-- A step of the iterator's own: whatever is no cells lies, too. -/
structure StepI (O : TypeId → Prop) (B : Nat) (W W' : World) : Prop where
  step : StepT O B W W'
  others : ∀ (k : Nat) (o : Obj), W.heap[k]? = some o → o.isCells = false → W'.heap[k]? = some o
def StableI {β : Type} (O : TypeId → Prop) (B : Nat) (J : β → World → Prop) : Prop := ∀ s W W', J s W → StepI O B W W' → J s W'
theorem StepI.refl (O : TypeId → Prop) (B : Nat) (W : World) : StepI O B W W := ⟨StepT.refl O B W, fun _ _ h _ => h⟩
theorem StepI.trans {O : TypeId → Prop} {B : Nat} {X Y Z : World} (h : StepI O B X Y) (k : StepI O B Y Z) : StepI O B X Z := ⟨h.step.trans k.step, fun i o hi ho => k.others i o (h.others i o hi ho) ho⟩
theorem StepI.alloc (O : TypeId → Prop) {B : Nat} (W : World) (o : Obj) (hB : B ≤ W.heap.size) : StepI O B W (W.alloc o) :=
  ⟨StepT.alloc O W o hB, fun k _ h _ => (Below.heap_alloc W o k (Array.getElem?_eq_some_iff.1 h).1).trans h⟩
theorem StepI.drew (O : TypeId → Prop) (B : Nat) (W : World) : StepI O B W W.drew := ⟨StepT.drew O B W, fun _ _ h _ => h⟩
theorem StepI.setCell {O : TypeId → Prop} {B : Nat} {W : World} {b : Nat} {cs : Array Value} {t : TypeId} {rng : Nat × Nat} (hb : W.heap[b]? = some (.cells cs t rng)) (hO : O t) (hB : B ≤ b) (off : Nat) (v : Value) : StepI O B W (W.setCell ⟨b, off, none⟩ v) :=
  ⟨StepT.setCell hb hO hB off v, fun k o h ho => by
    refine (Below.heap_setCell _ _ _ _ (fun e => ?_)).trans h
    subst e
    rw [h] at hb
    cases hb
    cases ho⟩
theorem KeepT.refl (O : TypeId → Prop) (B : Nat) (W : World) : KeepT O B W W := ⟨Below.refl _ _, fun _ _ _ _ h _ => h, fun _ _ h _ => h⟩
theorem KeepT.trans {O : TypeId → Prop} {B : Nat} {X Y Z : World} (h : KeepT O B X Y) (k : KeepT O B Y Z) : KeepT O B X Z :=
  ⟨h.below.trans k.below, fun i cs t rng hi ht => k.own i cs t rng (h.own i cs t rng hi ht) ht, fun i o hi ho => k.others i o (h.others i o hi ho) ho⟩
theorem KeepT.alloc (O : TypeId → Prop) {B : Nat} (W : World) (o : Obj) (hB : B ≤ W.heap.size) : KeepT O B W (W.alloc o) :=
  ⟨(Below.refl B W).alloc hB o, fun k _ _ _ h _ => (Below.heap_alloc W o k (Array.getElem?_eq_some_iff.1 h).1).trans h, fun k _ h _ => (Below.heap_alloc W o k (Array.getElem?_eq_some_iff.1 h).1).trans h⟩
theorem KeepT.drew (O : TypeId → Prop) (B : Nat) (W : World) : KeepT O B W W.drew := ⟨(Below.refl B W).drew, fun _ _ _ _ h _ => h, fun _ _ h _ => h⟩
/-- A growth whose one row is of a type that is not the iterator's. -/
theorem KeepT.grown {O : TypeId → Prop} {B : Nat} {W W' : World} {row : Option Nat} (hg : W.grownBy W' row) (hB : B ≤ W.heap.size) (hr : ∀ g, row = some g → B ≤ g ∧ ∃ cs t rng, W.heap[g]? = some (.cells cs t rng) ∧ ¬ O t) : KeepT O B W W' := by
  refine ⟨(Below.refl B W).grown hg hB (fun k e => (hr k e).1), fun k cs t rng h ht => ?_, fun k o h ho => ?_⟩
  · refine (hg.block k (Array.getElem?_eq_some_iff.1 h).1 (fun e => ?_)).trans h
    obtain ⟨_, cs', t', rng', h', ht'⟩ := hr k e.symm
    rw [h] at h'
    cases h'
    exact ht' ht
  · refine (hg.block k (Array.getElem?_eq_some_iff.1 h).1 (fun e => ?_)).trans h
    obtain ⟨_, cs', t', rng', h', _⟩ := hr k e.symm
    rw [h] at h'
    cases h'
    cases ho
theorem KeepT.setCell {O : TypeId → Prop} {B : Nat} {W : World} {b : Nat} {cs : Array Value} {t : TypeId} {rng : Nat × Nat} (hb : W.heap[b]? = some (.cells cs t rng)) (hO : ¬ O t) (hB : B ≤ b) (off : Nat) (v : Value) : KeepT O B W (W.setCell ⟨b, off, none⟩ v) := by
  refine ⟨(Below.refl B W).setCell (p := ⟨b, off, none⟩) hB v, fun k cs' t' rng' h ht => ?_, fun k o h ho => ?_⟩
  · refine (Below.heap_setCell _ _ _ _ (fun e => ?_)).trans h
    subst e
    rw [h] at hb
    cases hb
    exact hO ht
  · refine (Below.heap_setCell _ _ _ _ (fun e => ?_)).trans h
    subst e
    rw [h] at hb
    cases hb
    cases ho

/-- The iterator's contract: it tells all of xs, one round each. -/
def TellSeq {α : Type} (P : Program) (gf : Nat) (lb : Array Value) (encs : α → Array Value) (O : TypeId → Prop) (B : Nat) (xs : List α) (w : World) : Prop :=
  ∀ (l n : Nat) (J : List α → World → Prop) (W : World), Below w.heap.size w W → StableI O B J →
    (∀ m pre x W1, pre ++ [x] <+: xs → J pre W1 → YieldAt Fence.wide m P l (encs x) W1 fun e W' => e = .returned (.bool true) ∧ J (pre ++ [x]) W' ∧ KeepT O B W1 W') →
    J [] W → CallsIn Fence.wide n P gf (#[.func (.yield l) #[] #[]] ++ lb) W fun e W' => (∃ v, e = .returned v) ∧ J xs W'

/-- How a round's body is left. -/
def postT {α : Type} (O : TypeId → Prop) (B : Nat) (I : List α → World → Prop) (xs : List α) (W : World) : Exit → Act → World → Prop
  | .normal, _, W' => KeepT O B W W' ∧ I xs W'
  | _, _, _ => False

theorem yield_round {α : Type} {P : Program} {O : TypeId → Prop} {B l D : Nat} {rec : LoopState → Option Code → Loop} {fn : FuncId} {tmps : Array Value} {ps : Array Tmp} {assign body : Code} {args : Array Value}
    (hrec : rec = fun st pe => { state := st, pending := pe, fn, tmps, params := ps, assign, body, defers := D }) (hps : args.size = ps.size) {m : Nat} {W : World}
    (I : List α → World → Prop) (hI : StableT O B I) (pre : List α) (x : α) (A : Act → World → Prop) (hA : ∀ a', StableT O B (fun (_ : Unit) W => A a' W)) (hBl : B ≤ l) (hDl : D ≠ l)
    (hl : W.heap[l]? = some (.loop (rec .ready none))) (hk : W.heap[D]? = some (.deferred (some [])))
    (hassign : ∀ K : Act → World → Prop, (∀ a' W', KeepT O B W W' → I pre W' → A a' W' → K a' W') → assign.wpIn (Fence.wide.inRound l) m P (Exit.then K (fun _ _ _ => False)) { tmps := (ps.zip args).foldl (fun t (p, v) => t.setIfInBounds p v) tmps, defers := [] } W)
    (hbody : ∀ a' W', I pre W' → A a' W' → body.wpIn (Fence.wide.inRound l) m P (postT O B I (pre ++ [x]) W') a' W') :
    YieldAt Fence.wide m P l args W fun e W' => e = .returned (.bool true) ∧ (I (pre ++ [x]) W' ∧ W'.heap[l]? = some (.loop (rec .ready none)) ∧ W'.heap[D]? = some (.deferred (some []))) ∧ KeepT O B W W' := by
  subst hrec
  have hy := run_yield (P := P) (args := args) hl hps
  refine ⟨_, _, _, _, hy, roundIn_of_wpIn trivial (hassign _ ?_)⟩
  intro a' W' hkp hi' ha'
  have hl' := hkp.others _ _ hl rfl
  have hk' := hkp.others _ _ hk rfl
  have hlt : l < W'.heap.size := (Array.getElem?_eq_some_iff.1 hl').1
  refine ⟨_, run_beginRound hl' rfl, ?_⟩
  have S1 := StepT.putObj O (.loop { state := .busy, pending := none, fn, tmps, params := ps, assign, body, defers := D }) hBl hl' rfl
  have hl2 : (W'.putObj l (.loop { state := .busy, pending := none, fn, tmps, params := ps, assign, body, defers := D })).heap[l]? = some (.loop { state := .busy, pending := none, fn, tmps, params := ps, assign, body, defers := D }) := World.putObj_heap_same hlt
  have hk2 : (W'.putObj l (.loop { state := .busy, pending := none, fn, tmps, params := ps, assign, body, defers := D })).heap[D]? = some (.deferred (some [])) := (World.putObj_heap_other hDl).trans hk'
  refine wpIn_mono (hbody a' _ (hI _ _ _ hi' S1) (hA a' () _ _ ha' S1)) ?_
  rintro e a3 W3 hp
  cases e with
  | normal =>
    obtain ⟨hk3, hi3⟩ := hp
    have hl3 := hk3.others _ _ hl2 rfl
    have S2 := StepT.putObj O (.loop { state := .ready, pending := none, fn, tmps, params := ps, assign, body, defers := D }) hBl hl3 rfl
    refine ⟨_, _, run_endRound none hl3, rfl, ⟨hI _ _ _ hi3 S2, World.putObj_heap_same (Array.getElem?_eq_some_iff.1 hl3).1, (World.putObj_heap_other hDl).trans (hk3.others _ _ hk2 rfl)⟩, ?_, ?_, ?_⟩
    · exact (hkp.below.trans S1.below).trans (hk3.below.trans S2.below)
    · intro k cs t rng h ht
      have h1 := hkp.own k cs t rng h ht
      have e1 : k ≠ l := by rintro rfl; rw [h1] at hl'; cases hl'
      exact (World.putObj_heap_other e1).trans (hk3.own k cs t rng ((World.putObj_heap_other e1).trans h1) ht)
    · intro k o h ho
      have h1 := hkp.others k o h ho
      by_cases e1 : k = l
      · subst e1
        rw [hl] at h
        cases h
        exact World.putObj_heap_same (Array.getElem?_eq_some_iff.1 hl3).1
      · exact (World.putObj_heap_other e1).trans (hk3.others k o ((World.putObj_heap_other e1).trans h1) ho)
  | _ => exact hp.elim

/-- The statement. -/
theorem range_tell {α : Type} {P : Program} {n : Nat} {g : Operand} {ps : Array Tmp} {assign body : Code} {Q : Exit → Act → World → Prop} {a : Act} {w : World} {O : TypeId → Prop} {B gf : Nat} {lb : Array Value}
    (hg : a.eval g = .func (.func gf) #[] lb) (eg : ∀ args w, (callFunc gf args).run P w = .ok (.enter gf args) w)
    {encs : α → Array Value} {xs : List α} (hseq : TellSeq P gf lb encs O B xs w) (hps : ∀ x, (encs x).size = ps.size) (hB : B ≤ w.heap.size)
    (I : List α → World → Prop) (hI : StableT O B I) (h0 : I [] w) (A : List α → α → Act → World → Prop) (hA : ∀ pre x a', StableT O B (fun (_ : Unit) W => A pre x a' W))
    (hassign : ∀ (l m : Nat) (pre : List α) (x : α) (W : World) (K : Act → World → Prop), pre ++ [x] <+: xs → I pre W → (∀ a' W', KeepT O B W W' → I pre W' → A pre x a' W' → K a' W') →
      assign.wpIn (Fence.wide.inRound l) m P (Exit.then K (fun _ _ _ => False)) { tmps := (ps.zip (encs x)).foldl (fun t (p, v) => t.setIfInBounds p v) a.tmps, defers := [] } W)
    (hbody : ∀ (l m : Nat) (pre : List α) (x : α) (a' : Act) (W : World), pre ++ [x] <+: xs → I pre W → A pre x a' W → body.wpIn (Fence.wide.inRound l) m P (postT O B I (pre ++ [x]) W) a' W)
    (hdone : ∀ (D : Nat) (W : World), w.heap.size ≤ D → I xs W → W.heap[D]? = some (.deferred (some [])) → Q .normal { a with defers := { target := .collected D, args := #[] } :: a.defers } W) :
    (Code.rangeFunc g ps assign body).wpIn Fence.wide n P Q a w := by
  refine wpIn_rangeFunc ?_
  intro fn hfn
  obtain ⟨rec, hrec⟩ : ∃ rec : LoopState → Option Code → Loop, rec = fun st pe => { state := st, pending := pe, fn, tmps := a.tmps, params := ps, assign, body, defers := w.heap.size } := ⟨_, rfl⟩
  obtain ⟨W1, hW1⟩ : ∃ W1, (w.alloc (.deferred (some []))).alloc (.loop (rec .ready none)) = W1 := ⟨_, rfl⟩
  have hL1 : W1.heap[w.heap.size + 1]? = some (.loop (rec .ready none)) := by
    rw [← hW1]
    have := World.alloc_heap_new (w.alloc (.deferred (some []))) (.loop (rec .ready none))
    rwa [World.size_alloc] at this
  have hK1 : W1.heap[w.heap.size]? = some (.deferred (some [])) := by
    rw [← hW1]
    exact (Below.heap_alloc _ _ _ (by simp)).trans (World.alloc_heap_new w _)
  have hS1 : StepT O B w W1 := by
    rw [← hW1]
    exact (StepT.alloc O w _ hB).trans (StepT.alloc O _ _ (by simp; omega))
  have hb1 : Below w.heap.size w W1 := by
    rw [← hW1]
    exact ((Below.refl _ w).alloc (Nat.le_refl _) _).alloc (by simp) _
  refine ⟨w.heap.size + 1, [{ target := .collected w.heap.size, args := #[] }], W1, { target := .fn (.func gf) lb, args := #[.func (.yield (w.heap.size + 1)) #[] #[]] }, W1, gf,
    #[.func (.yield (w.heap.size + 1)) #[] #[]] ++ lb, W1, ?_, ?_, fun _ _ => trivial, ?_, ?_, ?_⟩
  · rw [← hW1, hrec]
    exact run_enterLoop_outer _ _ _ _ _
  · simp only [resolve, hg]
    simp [go_sem]
  · simp [invoke, go_sem, eg]
  · intro h
    cases h
  · refine (hseq (w.heap.size + 1) (n - 1) (fun pre W => I pre W ∧ W.heap[w.heap.size + 1]? = some (.loop (rec .ready none)) ∧ W.heap[w.heap.size]? = some (.deferred (some []))) W1 hb1 ?_ ?_ ⟨hI _ _ _ h0 hS1, hL1, hK1⟩).mono ?_
    · rintro s W W' ⟨hi, hl, hk⟩ hs
      exact ⟨hI _ _ _ hi hs.step, hs.others _ _ hl rfl, hs.others _ _ hk rfl⟩
    · rintro m pre x W hx ⟨hi, hl, hk⟩
      exact yield_round hrec (hps x) I hI pre x (A pre x) (hA pre x) (by omega) (by omega) hl hk (fun K hK => hassign _ m pre x W K hx hi hK) (fun a' W' hi' ha' => hbody _ m pre x a' W' hx hi' ha')
    · rintro e W2 ⟨⟨v, rfl⟩, hi, hl, hk⟩
      refine ⟨none, _, by have := run_endLoop (P := P) hl (by rw [hrec]; simp); rw [hrec] at this; exact this, ?_⟩
      exact hdone _ _ (Nat.le_refl _) (hI _ _ _ hi (StepT.putObj O _ (by omega) hl rfl)) ((World.putObj_heap_other (by omega)).trans hk)
end Go.Proofs.Ytnjfccagkeonpaa
