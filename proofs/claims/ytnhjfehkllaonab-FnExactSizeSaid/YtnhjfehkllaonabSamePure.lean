/-
  The program's SameExp, what its loop holds: each pair that was seen has one head, and its kids' pairs were seen or wait.
-/
import Derived.Test.YtnhjfehkllaonabImplSame
import Derived.Deep.RegionLaw
namespace Go.Proofs.Ytnhjfehkllaonab
open Go.RowKit Go.Joins

set_option maxRecDepth 100000

/-- A pair that waits: two pointers, and what they point at. -/
structure Item where
  p : Addr
  q : Addr
  e : Ex
  g : Ex
def Item.key (t : Item) : Value := .agg #[.pointer (some t.p), .pointer (some t.q)]
def keyOf2 (p q : Addr) : Value := .agg #[.pointer (some p), .pointer (some q)]
def itemCells (L : List Item) : List Value := L.flatMap fun t => [.pointer (some t.p), .pointer (some t.q)]
def itemSum : List Item → Nat
  | [] => 0
  | t :: r => t.e.count + itemSum r
theorem itemSum_app (a b : List Item) : itemSum (a ++ b) = itemSum a + itemSum b := by
  induction a with
  | nil => simp [itemSum]
  | cons t r ih => rw [List.cons_append, itemSum, itemSum, ih]; omega
theorem nil_or_last {α : Type} (L : List α) : L = [] ∨ ∃ L' t, L = L' ++ [t] := by
  rcases List.eq_nil_or_concat L with h | ⟨L', t, h⟩
  · exact Or.inl h
  · exact Or.inr ⟨L', t, by rw [h, List.concat_eq_append]⟩
theorem itemSum_len : ∀ L : List Item, L.length ≤ itemSum L
  | [] => Nat.zero_le _
  | t :: r => by have := itemSum_len r; have := Ex.count_eq t.e; rw [itemSum, List.length_cons]; omega
theorem itemCells_app (a b : List Item) : itemCells (a ++ b) = itemCells a ++ itemCells b := by simp [itemCells]
theorem itemCells_len (L : List Item) : (itemCells L).length = L.length * 2 := by
  induction L with
  | nil => rfl
  | cons t r ih =>
    have e : itemCells (t :: r) = [.pointer (some t.p), .pointer (some t.q)] ++ itemCells r := by simp [itemCells]
    rw [e, List.length_append, ih, List.length_cons]; simp; omega

def InOr (f : Value → Option Value) (L : List Item) (p q : Addr) : Prop := (∃ u, f (keyOf2 p q) = some u) ∨ ∃ t ∈ L, t.p = p ∧ t.q = q

/-- What the loop holds. -/
structure Gh (w : World) (x y : Ex) (ra rb : Addr) (L : List Item) (f : Value → Option Value) : Prop where
  waits : ∀ t ∈ L, (∃ d, NodeAt w d t.p t.e ∧ NodeAt w d t.q t.g) ∧ (x.same y = true → t.e.same t.g = true)
  seen : ∀ key u, f key = some u → ∃ p q, key = keyOf2 p q ∧ ∀ d d' e g, NodeAt w d p e → NodeAt w d' q g → headSame e g ∧
    ∀ (i : Nat) (k l : Ex) (b o b' o' : Nat), e.kids[i]? = some k → g.kids[i]? = some l → RowOf w p b o → RowOf w q b' o' → InOr f L ⟨b, o + i * 4, none⟩ ⟨b', o' + i * 4, none⟩
  root : InOr f L ra rb

theorem keyOf2_inj {p q p' q' : Addr} (h : keyOf2 p q = keyOf2 p' q') : p = p' ∧ q = q' := by
  simp [keyOf2] at h
  exact h

/-- All pairs seen: all alike. -/
theorem Gh.alike {w : World} {x y : Ex} {ra rb : Addr} {f : Value → Option Value} (G : Gh w x y ra rb [] f) : ∀ (d d' : Nat) (p q : Addr) (e g : Ex), NodeAt w d p e → NodeAt w d' q g → (∃ u, f (keyOf2 p q) = some u) → e.same g = true := by
  intro d
  induction d with
  | zero => intro d' p q e g h _ _; obtain ⟨b, o, kv, rfl, hp, c0, c1, c2, c3, r1, r2, r3, hks⟩ := h; exact hks.elim
  | succ d ih =>
    intro d' p q e g hp hq ⟨u, hu⟩
    obtain ⟨p', q', hk, hall⟩ := G.seen _ u hu
    obtain ⟨rfl, rfl⟩ := keyOf2_inj hk
    obtain ⟨hh, hkids⟩ := hall _ _ e g hp hq
    rw [same_iff]
    refine ⟨hh, fun i k l hk hl => ?_⟩
    obtain ⟨d1, b, o, hd, hr, hn⟩ := hp.kid hk
    obtain ⟨d2, b', o', hd', hr', hn'⟩ := hq.kid hl
    obtain rfl : d = d1 := by omega
    rcases hkids i k l b o b' o' hk hl hr hr' with h | ⟨t, ht, _⟩
    · exact ih _ _ _ _ _ hn hn' h
    · simp at ht
theorem Gh.done {w : World} {x y : Ex} {ra rb : Addr} {f : Value → Option Value} (G : Gh w x y ra rb [] f) {d d' : Nat} (ha : NodeAt w d ra x) (hb : NodeAt w d' rb y) : x.same y = true := by
  rcases G.root with h | ⟨t, ht, _⟩
  · exact G.alike d d' ra rb x y ha hb h
  · simp at ht

/-- A pair that was seen already falls. -/
theorem Gh.skip {w : World} {x y : Ex} {ra rb : Addr} {L : List Item} {t : Item} {f : Value → Option Value} (G : Gh w x y ra rb (L ++ [t]) f) {u : Value} (hu : f t.key = some u) : Gh w x y ra rb L f := by
  have hin : ∀ p q, InOr f (L ++ [t]) p q → InOr f L p q := by
    rintro p q (h | ⟨t', ht', rfl, rfl⟩)
    · exact Or.inl h
    · rcases List.mem_append.1 ht' with h | h
      · exact Or.inr ⟨t', h, rfl, rfl⟩
      · obtain rfl := List.mem_singleton.1 h
        exact Or.inl ⟨u, hu⟩
  refine ⟨fun t' ht' => G.waits t' (List.mem_append_left _ ht'), fun key u' hk => ?_, hin _ _ G.root⟩
  obtain ⟨p, q, hkey, hall⟩ := G.seen key u' hk
  refine ⟨p, q, hkey, fun d d' e g h1 h2 => ?_⟩
  obtain ⟨hh, hkids⟩ := hall d d' e g h1 h2
  exact ⟨hh, fun i k l b o b' o' a1 a2 a3 a4 => hin _ _ (hkids i k l b o b' o' a1 a2 a3 a4)⟩

/-- A pair whose heads differ: the two are not alike. -/
theorem Gh.differ {w : World} {x y : Ex} {ra rb : Addr} {L : List Item} {t : Item} {f : Value → Option Value} (G : Gh w x y ra rb (L ++ [t]) f) (h : headB t.e t.g = false) : x.same y = false := by
  cases hs : x.same y with
  | false => rfl
  | true =>
    have h1 := (G.waits t (by simp)).2 hs
    have h2 := ((same_iff _ _).1 h1).1
    rw [← headB_iff, h] at h2
    cases h2

def noEx : Ex := .mk 0 0 ⟨#[]⟩ []
def kidItem (b o b' o' : Nat) (e g : Ex) (i : Nat) : Item := ⟨⟨b, o + i * 4, none⟩, ⟨b', o' + i * 4, none⟩, (e.kids[i]?).getD noEx, (g.kids[i]?).getD noEx⟩
def kidItems (b o b' o' : Nat) (e g : Ex) (n : Nat) : List Item := (List.range n).map (kidItem b o b' o' e g)
theorem kidItems_succ (b o b' o' : Nat) (e g : Ex) (n : Nat) : kidItems b o b' o' e g (n + 1) = kidItems b o b' o' e g n ++ [kidItem b o b' o' e g n] := by simp [kidItems, List.range_succ]
theorem kidItems_len (b o b' o' : Nat) (e g : Ex) (n : Nat) : (kidItems b o b' o' e g n).length = n := by simp [kidItems]
theorem kidItems_sum (b o b' o' : Nat) (e g : Ex) : ∀ n, n ≤ e.kids.length → itemSum (kidItems b o b' o' e g n) = Ex.countL (e.kids.take n)
  | 0, _ => by simp [kidItems, itemSum, Ex.countL]
  | n + 1, h => by
    have hn : n < e.kids.length := h
    rw [kidItems_succ, itemSum_app, kidItems_sum b o b' o' e g n (by omega), Ex.countL_take e.kids n _ (List.getElem?_eq_getElem hn)]
    simp [itemSum, kidItem, List.getElem?_eq_getElem hn]

/-- A new pair goes among the seen ones, its kids wait. -/
theorem Gh.push {w : World} {x y : Ex} {ra rb : Addr} {L : List Item} {t : Item} {f : Value → Option Value} (G : Gh w x y ra rb (L ++ [t]) f) (h : headB t.e t.g = true) {b o b' o' : Nat} (hr : 0 < t.e.kids.length → RowOf w t.p b o ∧ RowOf w t.q b' o') (v : Value) :
    Gh w x y ra rb (L ++ kidItems b o b' o' t.e t.g t.e.kids.length) (setAt f t.key v) := by
  obtain ⟨⟨d, hp, hq⟩, hs⟩ := G.waits t (by simp)
  have hh := (headB_iff _ _).1 h
  have hkid : ∀ i, i < t.e.kids.length → kidItem b o b' o' t.e t.g i ∈ kidItems b o b' o' t.e t.g t.e.kids.length := fun i hi => List.mem_map.2 ⟨i, List.mem_range.2 hi, rfl⟩
  have hin : ∀ p q, InOr f (L ++ [t]) p q → InOr (setAt f t.key v) (L ++ kidItems b o b' o' t.e t.g t.e.kids.length) p q := by
    rintro p q (⟨u, hu⟩ | ⟨t', ht', rfl, rfl⟩)
    · left
      by_cases hk : keyOf2 p q = t.key
      · exact ⟨v, by rw [hk]; exact setAt_same _ _ _⟩
      · exact ⟨u, by rw [setAt_other _ _ _ hk]; exact hu⟩
    · rcases List.mem_append.1 ht' with h | h
      · exact Or.inr ⟨t', List.mem_append_left _ h, rfl, rfl⟩
      · obtain rfl := List.mem_singleton.1 h
        exact Or.inl ⟨v, setAt_same _ _ _⟩
  refine ⟨fun t' ht' => ?_, fun key u' hk => ?_, hin _ _ G.root⟩
  · rcases List.mem_append.1 ht' with h1 | h1
    · exact G.waits t' (List.mem_append_left _ h1)
    · obtain ⟨i, hi, rfl⟩ := List.mem_map.1 h1
      have hi := List.mem_range.1 hi
      have hi' : i < t.g.kids.length := by rw [← hh.2.2.2]; exact hi
      have ge := List.getElem?_eq_getElem hi
      have gg := List.getElem?_eq_getElem hi'
      obtain ⟨h2, h3⟩ := hr (by omega)
      obtain ⟨d1, b1, o1, hd, hr1, hn⟩ := hp.kid ge
      obtain ⟨d2, b2, o2, hd', hr2, hn'⟩ := hq.kid gg
      obtain ⟨rfl, rfl⟩ := h2.one hr1
      obtain ⟨rfl, rfl⟩ := h3.one hr2
      obtain rfl : d1 = d2 := by omega
      refine ⟨⟨d1, ?_, ?_⟩, fun hxy => ?_⟩
      · simpa [kidItem, ge] using hn
      · simpa [kidItem, gg] using hn'
      · have := ((same_iff _ _).1 (hs hxy)).2 i _ _ ge gg
        simpa [kidItem, ge, gg] using this
  · by_cases hkk : key = t.key
    · refine ⟨t.p, t.q, hkk, fun d1 d2 e g h1 h2 => ?_⟩
      obtain rfl := h1.count hp
      obtain rfl := h2.count hq
      refine ⟨hh, fun i k l b1 o1 b2 o2 a1 a2 a3 a4 => ?_⟩
      have hi : i < t.e.kids.length := (List.getElem?_eq_some_iff.1 a1).1
      obtain ⟨h2, h3⟩ := hr (by omega)
      obtain ⟨rfl, rfl⟩ := h2.one a3
      obtain ⟨rfl, rfl⟩ := h3.one a4
      exact Or.inr ⟨_, List.mem_append_right _ (hkid i hi), rfl, rfl⟩
    · rw [setAt_other _ _ _ hkk] at hk
      obtain ⟨p, q, hkey, hall⟩ := G.seen key u' hk
      refine ⟨p, q, hkey, fun d d' e g h1 h2 => ?_⟩
      obtain ⟨hh', hkids⟩ := hall d d' e g h1 h2
      exact ⟨hh', fun i k l b o b' o' a1 a2 a3 a4 => hin _ _ (hkids i k l b o b' o' a1 a2 a3 a4)⟩

/-- At the start. -/
theorem Gh.start {w : World} {x y : Ex} {ra rb : Addr} {d : Nat} (ha : NodeAt w d ra x) (hb : NodeAt w d rb y) : Gh w x y ra rb [⟨ra, rb, x, y⟩] (fun _ => none) :=
  ⟨fun t ht => by obtain rfl := List.mem_singleton.1 ht; exact ⟨⟨d, ha, hb⟩, fun h => h⟩, fun _ _ h => (by cases h), Or.inr ⟨⟨ra, rb, x, y⟩, by simp, rfl, rfl⟩⟩

theorem PtMap.kept {Kd : World → Value → Prop} {w w' : World} {b : Nat} {f : Value → Option Value} (h : PtMap Kd w b f) (hb : w'.heap[b]? = w.heap[b]?) (hg : ∀ v, Kd w v → Kd w' v) : PtMap Kd w' b f := by
  obtain ⟨es, clock, h1, h2, h3⟩ := h
  exact ⟨es, clock, hb.trans h1, fun e he => hg _ (h2 e he), h3⟩
theorem KeysGo.sub {P : Program} {k : TypeId} {Kd Kd' : World → Value → Prop} (K : KeysGo P k Kd) (h : ∀ w v, Kd' w v → Kd w v) (hg : ∀ (w w' : World) (v : Value), (∀ b, Pl w b → Pl w' b) → Kd' w v → Kd' w' v) : KeysGo P k Kd' :=
  ⟨fun w em v hv => K.check w em v (h w v hv), fun w v hv => K.same w v (h w v hv), fun w u v hu hv => K.other w u v (h w u hu) (h w v hv), fun w u v hu hv => K.slow w u v (h w u hu) (h w v hv), fun w v hv => K.bits w v (h w v hv), hg⟩
/-- Two pointers into plain blocks below N. -/
def PtrsN (N : Nat) (w : World) (v : Value) : Prop := ∃ a b : Addr, v = .agg #[.pointer (some a), .pointer (some b)] ∧ a.block < N ∧ b.block < N ∧ Pl w a.block ∧ Pl w b.block
theorem PtrsN.keys {P : Program} {k : TypeId} (K : KeysGo P k PtrsK) (N : Nat) : KeysGo P k (PtrsN N) :=
  K.sub (fun _ _ ⟨a, b, hv, _, _, ha, hb⟩ => ⟨a, b, hv, ha, hb⟩) (fun _ _ _ hg ⟨a, b, hv, h1, h2, ha, hb⟩ => ⟨a, b, hv, h1, h2, hg _ ha, hg _ hb⟩)
theorem PtrsN.kept {N : Nat} {w w' : World} {v : Value} (h : PtrsN N w v) (hb : ∀ b, b < N → w'.heap[b]? = w.heap[b]?) : PtrsN N w' v := by
  obtain ⟨a, b, hv, h1, h2, ha, hb'⟩ := h
  exact ⟨a, b, hv, h1, h2, ha.of (hb _ h1), hb'.of (hb _ h2)⟩
theorem Below.grown {B : Nat} {a w w' : World} {row : Option Nat} (h : Below B a w) (hg : w.grownBy w' row) (hr : ∀ k, row = some k → B ≤ k) (hB : B ≤ w.heap.size) : Below B a w' :=
  h.trans ⟨hg.os, hg.tape, hg.output, hg.size, fun k hk => hg.block k (by omega) (fun e => by have := hr k e.symm; omega)⟩
theorem cell_two_new (w : World) (x y : Value) (t : TypeId) : ∀ j u, [x, y][j]? = some u → (w.alloc (.cells #[x, y] t)).cell? ((⟨w.heap.size, 0, none⟩ : Addr).add j) = some u := by
  intro j u hj
  match j, hj with
  | 0, hj => simp at hj; subst hj; simp [Addr.add]
  | 1, hj => simp at hj; subst hj; simp [Addr.add]

/-- A row that is cut. -/
theorem ownsRow_cut {w : World} {base : Nat} {e : TypeId} {size n m : Nat} {a : Option Addr} {cap : Nat} {xs ys : List Value} (h : w.ownsRow base e size (.slice a (n + m) cap) (n + m) (xs ++ ys)) (hx : xs.length = n * size) (hm : 0 < m) : w.ownsRow base e size (.slice a n cap) n xs := by
  obtain ⟨hl, h | ⟨g, cap', cur, hv, hb, hc, h1, h2, h3, h4⟩⟩ := h
  · omega
  · cases hv
    refine ⟨hx, Or.inr ⟨g, cap, cur, rfl, hb, hc, by omega, h2, h3, ?_⟩⟩
    have := congrArg (List.take (n * size)) h4
    rw [List.take_take, List.take_append_of_le_length (by omega), Nat.min_eq_left (Nat.mul_le_mul_right _ (by omega)), List.take_of_length_le (l := xs) (by omega)] at this
    exact this

/-- The last of a row's pairs. -/
theorem itemCells_last {w : World} {base : Nat} {e : TypeId} {v : Value} {L : List Item} {t : Item} (h : w.ownsRow base e 2 v (L ++ [t]).length (itemCells (L ++ [t]))) : ∃ g cap, v = .slice (some ⟨g, 0, none⟩) (L.length + 1) cap ∧ L.length + 1 ≤ cap ∧ cap ≤ maxLen ∧ base ≤ g ∧
    w.cell? ⟨g, L.length * 2, none⟩ = some (.pointer (some t.p)) ∧ w.cell? ⟨g, L.length * 2 + 1, none⟩ = some (.pointer (some t.q)) ∧ w.ownsRow base e 2 (.slice (some ⟨g, 0, none⟩) L.length cap) L.length (itemCells L) := by
  have h0 := h
  obtain ⟨hl, h | ⟨g, cap, cur, hv, hb, hc, h1, h2, h3, h4⟩⟩ := h
  · have := h.2; simp at this
  · have hlen : (L ++ [t]).length = L.length + 1 := by simp
    rw [hlen] at hv h1 h4
    have hcell : ∀ j u, (itemCells (L ++ [t]))[j]? = some u → w.cell? ⟨g, j, none⟩ = some u := by
      intro j u hj
      rw [cell_of_block hc, ← Array.getElem?_toList]
      rw [← h4, List.getElem?_take] at hj
      split at hj
      · exact hj
      · cases hj
    refine ⟨g, cap, hv, h1, h2, hb, hcell _ _ ?_, hcell _ _ ?_, ?_⟩
    · rw [itemCells_app, List.getElem?_append_right (by rw [itemCells_len]; omega), itemCells_len]; simp [itemCells]
    · rw [itemCells_app, List.getElem?_append_right (by rw [itemCells_len]; omega), itemCells_len]; simp [itemCells]
    · rw [hv, hlen, itemCells_app] at h0
      exact ownsRow_cut h0 (itemCells_len L) (by decide)
theorem itemCells_none {w : World} {base : Nat} {e : TypeId} {v : Value} (h : w.ownsRow base e 2 v 0 (itemCells [])) : ∃ a cap, v = .slice a 0 cap := by
  obtain ⟨hl, h | ⟨g, cap, cur, hv, hb, hc, h1, h2, h3, h4⟩⟩ := h
  · exact ⟨none, 0, h.1⟩
  · exact ⟨_, _, hv⟩

/-- append onto a row of the call's own, as one step of a region that draws. -/
theorem step_append_own {P : Program} {ops : Array Oper} {o : Oper} {a : Act} {w : World} {K : Act → World → Prop} {Q : Exit → Act → World → Prop} {E : Prop}
    (hg : o.guard = none) (s x : Operand) (t : TypeId) (hop : o.op = Op.call { callee := Callee.builtin Builtin.append, args := #[s, x], argTypes := #[t, t] })
    (base : Nat) (e : TypeId) (i : TypeInfo) (z : Value) (size bytes : Nat) (ht : P.underlying t = some (.slice e)) (hi : P.info? e = some i) (hz : i.zero = some z) (hsize : i.size = size) (hby : i.bytes = bytes) (hzs : z.cells.size = size) (hsz : 0 < size)
    (v : Value) (n : Nat) (xs : List Value) (hs : a.eval s = v) (hown : w.ownsRow base e size v n xs)
    (ad : Addr) (m c : Nat) (news : List Value) (hx : a.eval x = .slice (some ad) m c) (hl : news.length = m * size) (hnews : ∀ j u, news[j]? = some u → w.cell? (ad.add j) = some u) (h1 : ∀ u ∈ news, u.oneCell' = true)
    (h63 : n + m ≤ maxLen) (hbytes : (n + m) * bytes ≤ 140737488355328) (hbase : base ≤ w.heap.size)
    (hK : ∀ v' w', w'.ownsRow base e size v' (n + m) (xs ++ news) → w.grownBy w' v.ownBlock → (v'.ownBlock = v.ownBlock ∨ v'.ownBlock = some w.heap.size) → K (a.put o.dst v') w') :
    if Region.wanted o (yielded ops a.tmps) = true then Oper.wp P o a w K Q else E := by
  have hw : Region.wanted o (yielded ops a.tmps) = true := by simp [Region.wanted, hg]
  rw [if_pos hw]
  obtain ⟨v', w', hr, h2, h3, h4, h5⟩ := run_append_own_at (P := P) w base t o.type e i z size bytes ht hi hz hsize hby hzs hsz v n xs hown ad m c news hl hnews h1 h63 hbytes hbase
  unfold Oper.wp execOp
  simp only [hop, resolve, invoke, builtin, Sem.run_bind, Sem.run_pure, Result.andThen_ok, List.map_toArray, List.map_cons, List.map_nil, hs, hx, hr]
  exact hK v' w' h2 h3 h5
end Go.Proofs.Ytnhjfehkllaonab
