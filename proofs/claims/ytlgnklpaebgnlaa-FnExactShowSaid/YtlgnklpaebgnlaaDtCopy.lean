/-
  Copies of rows of any shape: a row's cells one behind the other, a shallow copy, a copy whose elements are replaced one by one, a row that grows.
-/
import Derived.Test.YtlgnklpaebgnlaaDtShape
import Derived.Test.YtlgnklpaebgnlaaOwnRow
namespace Go.Proofs.Ytlgnklpaebgnlaa
open Go.RowKit Go.Joins

set_option maxRecDepth 100000

theorem FAt.one {w : World} {S : Nat → Prop} {v : Value} {d : Dt} (h : FAt w S v d) : v.oneCell' = true := by cases h <;> rfl
theorem Own.one {w : World} {X : Nat → Prop} {v : Value} {d : Dt} (h : Own w v d X) : v.oneCell' = true := h.at.one
/-- The cells of a row, one behind the other. -/
theorem FAt.flat {w : World} {S : Nat → Prop} {ad : Addr} {len cap n : Nat} {xs : List (List Dt)} (h : FAt w S (.slice (some ad) len cap) (.row xs)) (hN : ∀ (i : Nat) (r : List Dt), xs[i]? = some r → r.length = n) (hn : 0 < n) :
    ∃ flat : List Value, flat.length = xs.length * n ∧ (∀ (q : Nat) (u : Value), flat[q]? = some u → w.cell? (ad.add q) = some u ∧ ad.block < w.heap.size) ∧ (∀ u ∈ flat, u.oneCell' = true) ∧ ∀ (i j : Nat) (r : List Dt) (d : Dt), xs[i]? = some r → r[j]? = some d → ∃ u, flat[i * n + j]? = some u ∧ FAt w S u d := by
  cases h with
  | nil a cap => exact ⟨[], by simp, fun q u h => by simp at h, fun u h => by simp at h, fun i j r d h => by simp at h⟩
  | row b off cap m xs vs hl hS hb hm hc hd =>
    by_cases h0 : xs.length = 0
    · obtain rfl : xs = [] := List.length_eq_zero_iff.1 h0
      exact ⟨[], by simp, fun q u h => by simp at h, fun u h => by simp at h, fun i j r d h => by simp at h⟩
    obtain rfl : m = n := by
      have hr := List.getElem?_eq_getElem (show 0 < xs.length by omega)
      exact (hm 0 _ hr).symm.trans (hN 0 _ hr)
    have get : ∀ q, q < xs.length * m → ∃ (r : List Dt) (d : Dt), xs[q / m]? = some r ∧ r[q % m]? = some d := by
      intro q hq
      have h1 : q / m < xs.length := Nat.div_lt_of_lt_mul (by rw [Nat.mul_comm]; exact hq)
      have hr := List.getElem?_eq_getElem h1
      have h2 : q % m < (xs[q / m]).length := by rw [hm _ _ hr]; exact Nat.mod_lt _ hn
      exact ⟨_, _, hr, List.getElem?_eq_getElem h2⟩
    refine ⟨(List.range (xs.length * m)).map (fun q => vs (q / m) (q % m)), by simp, fun q u hq => ?_, fun u hu => ?_, fun i j r d hr hj => ?_⟩
    · have hql : q < xs.length * m := by have := (List.getElem?_eq_some_iff.1 hq).1; simpa using this
      obtain rfl : vs (q / m) (q % m) = u := by simpa [hql] using hq
      obtain ⟨r, d, hr, hj⟩ := get q hql
      have := hc _ _ r d hr hj
      rw [addr_add]
      refine ⟨?_, hb⟩
      rw [show off + q = off + q / m * m + q % m by have := Nat.div_add_mod q m; rw [Nat.mul_comm] at this; omega]
      exact this
    · obtain ⟨q, hq, rfl⟩ := List.mem_map.1 hu
      obtain ⟨r, d, hr, hj⟩ := get q (by simpa using hq)
      exact (hd _ _ r d hr hj).one
    · have hil := (List.getElem?_eq_some_iff.1 hr).1
      have hjl : j < m := by have := (List.getElem?_eq_some_iff.1 hj).1; rw [hm i r hr] at this; exact this
      have h1 := idx_le (n := m) hil
      have e1 : (i * m + j) / m = i := by rw [Nat.mul_comm, Nat.mul_add_div (by omega), Nat.div_eq_of_lt hjl, Nat.add_zero]
      have e2 : (i * m + j) % m = j := by rw [Nat.mul_comm, Nat.mul_add_mod, Nat.mod_eq_of_lt hjl]
      refine ⟨vs i j, ?_, hd i j r d hr hj⟩
      rw [List.getElem?_map, List.getElem?_range (by omega)]
      simp [e1, e2]

/-- A shallow copy. -/
def Cloned (w w' : World) (S : Nat → Prop) (e : TypeId) (n : Nat) (u : Value) (xs : List (List Dt)) : Prop :=
  (u = .slice none 0 0 ∧ xs = []) ∨ ∃ g cap cur, u = .slice (some ⟨g, 0, none⟩) xs.length cap ∧ w.heap.size ≤ g ∧ w'.heap[g]? = some (.cells cur e (0, 0)) ∧ xs.length ≤ cap ∧ cap ≤ maxLen ∧ cur.size = cap * n ∧
    ∀ (i j : Nat) (r : List Dt) (d : Dt), xs[i]? = some r → r[j]? = some d → ∃ z, cur[i * n + j]? = some z ∧ FAt w S z d
theorem add_block (a : Addr) (k : Nat) : (a.add k).block = a.block := by unfold Addr.add; split <;> rfl
theorem own_get {k n : Nat} {cur : Array Value} {flat : List Value} (ht : cur.toList.take (k * n) = flat) {q : Nat} {u : Value} (hq : flat[q]? = some u) : cur[q]? = some u := by
  rw [← ht, List.getElem?_take] at hq
  split at hq
  · rw [← hq]; simp
  · cases hq
theorem Cloned.of_own {w w' : World} {S : Nat → Prop} {e : TypeId} {n : Nat} {u : Value} {xs : List (List Dt)} {flat : List Value} (h : w'.ownsRow w.heap.size e n u xs.length flat)
    (hf : ∀ (i j : Nat) (r : List Dt) (d : Dt), xs[i]? = some r → r[j]? = some d → ∃ z, flat[i * n + j]? = some z ∧ FAt w S z d) : Cloned w w' S e n u xs := by
  rcases h.2 with ⟨rfl, h0⟩ | ⟨g, cap, cur, rfl, hb, hg, hl, hm, hs, ht⟩
  · exact .inl ⟨rfl, List.length_eq_zero_iff.1 h0⟩
  · refine .inr ⟨g, cap, cur, rfl, hb, hg, hl, hm, hs, fun i j r d hr hj => ?_⟩
    obtain ⟨z, hz, hF⟩ := hf i j r d hr hj
    exact ⟨z, own_get ht hz, hF⟩
def Atom (d : Dt) : Prop := (∃ z, d = .int z) ∨ ∃ b, d = .str b
theorem FAt.atom {w w' : World} {S X : Nat → Prop} {v : Value} {d : Dt} (h : FAt w S v d) (ha : Atom d) : Own w' v d X := by
  rcases ha with ⟨z, rfl⟩ | ⟨b, rfl⟩
  · obtain ⟨rfl, hz⟩ := h.ofInt
    exact .int z hz X
  · obtain ⟨rfl, hb⟩ := h.ofStr
    exact .str b hb X
theorem IntR.atoms {r : List Dt} (h : IntR r) : ∀ (j : Nat) (d : Dt), r[j]? = some d → Atom d := by
  obtain ⟨z, rfl⟩ := h
  intro j d hj
  match j, hj with
  | 0, hj => simp at hj; exact .inl ⟨z, hj.symm⟩
theorem StringR.atoms {r : List Dt} (h : StringR r) : ∀ (j : Nat) (d : Dt), r[j]? = some d → Atom d := by
  obtain ⟨z, rfl⟩ := h
  intro j d hj
  match j, hj with
  | 0, hj => simp at hj; exact .inr ⟨z, hj.symm⟩
/-- A shallow copy of a row of atoms owns all. -/
theorem Cloned.own {w w' : World} {S : Nat → Prop} {e : TypeId} {n : Nat} {u : Value} {xs : List (List Dt)} (h : Cloned w w' S e n u xs) (hN : ∀ (i : Nat) (r : List Dt), xs[i]? = some r → r.length = n)
    (ha : ∀ (i j : Nat) (r : List Dt) (d : Dt), xs[i]? = some r → r[j]? = some d → Atom d) : Own w' u (.row xs) (Btw w.heap.size w'.heap.size) := by
  rcases h with ⟨rfl, rfl⟩ | ⟨g, cap, cur, rfl, hb, hg, hl, hm, hs, hc⟩
  · exact .nil _
  · refine .row g cap n e cur xs (fun i j => (cur[i * n + j]?).getD .nilFunc) (fun _ _ _ => False) _ hl hm hs ⟨hb, lt_heap hg⟩ hg hN (fun i j r d hr hj => ?_) (fun i j r d hr hj => ?_) (fun _ _ _ h => h.elim) (fun _ _ _ _ _ h => h.elim)
    · obtain ⟨z, hz, _⟩ := hc i j r d hr hj
      rw [hz]; rfl
    · obtain ⟨z, hz, hF⟩ := hc i j r d hr hj
      rw [hz]
      exact hF.atom (ha i j r d hr hj)
def ClS (f : FuncId) (e : TypeId) (n : Nat) (P : List Dt → Prop) : Prop := ∀ (v : Value) (xs : List (List Dt)) (S : Nat → Prop) (w : World), AllR P xs → FAt w S v (.row xs) → xs.length ≤ 1048576 →
  Calls Try.prog f #[v] w fun r w' => ∃ u : Value, r = .returned u ∧ Cloned w w' S e n u xs ∧ Below w.heap.size w w'

/-- A shallow copy whose first k elements are replaced by copies that own all. -/
def RowC (w0 w : World) (S : Nat → Prop) (e : TypeId) (g n cap k : Nat) (xs : List (List Dt)) : Prop :=
  ∃ (cur : Array Value) (vs : Nat → Nat → Value) (Y : Nat → Nat → Nat → Prop), w.heap[g]? = some (.cells cur e (0, 0)) ∧ cur.size = cap * n ∧
    (∀ (i j : Nat) (r : List Dt) (d : Dt), i < k → xs[i]? = some r → r[j]? = some d → cur[i * n + j]? = some (vs i j) ∧ Own w (vs i j) d (Y i j)) ∧
    (∀ (i j : Nat) (r : List Dt) (d : Dt), k ≤ i → xs[i]? = some r → r[j]? = some d → ∃ z, cur[i * n + j]? = some z ∧ FAt w0 S z d) ∧
    (∀ i j b, Y i j b → w0.heap.size ≤ b ∧ b ≠ g ∧ b < w.heap.size) ∧ (∀ i j i' j' b, Y i j b → Y i' j' b → i = i' ∧ j = j')
theorem RowC.start {w0 w : World} {S : Nat → Prop} {e : TypeId} {g n cap : Nat} {xs : List (List Dt)} {cur : Array Value} (h : w.heap[g]? = some (.cells cur e (0, 0))) (hs : cur.size = cap * n)
    (hc : ∀ (i j : Nat) (r : List Dt) (d : Dt), xs[i]? = some r → r[j]? = some d → ∃ z, cur[i * n + j]? = some z ∧ FAt w0 S z d) : RowC w0 w S e g n cap 0 xs :=
  ⟨cur, fun _ _ => .nilFunc, fun _ _ _ => False, h, hs, fun i j r d hi => by omega, fun i j r d _ hr hj => hc i j r d hr hj, fun _ _ _ h => h.elim, fun _ _ _ _ _ h => h.elim⟩
theorem RowC.next {w0 wr w1 : World} {S : Nat → Prop} {e : TypeId} {g n cap k : Nat} {xs : List (List Dt)} {r : List Dt} {us : List Value} (h : RowC w0 wr S e g n cap k xs) (h0 : w0.heap.size ≤ wr.heap.size) (hcap : xs.length ≤ cap) (hb : Below wr.heap.size wr w1) (hr : xs[k]? = some r) (hN : ∀ (i : Nat) (r : List Dt), xs[i]? = some r → r.length = n)
    (ho : OFs w1 us r (Btw wr.heap.size w1.heap.size)) : RowC w0 (setN w1 g (k * n) 0 us) S e g n cap (k + 1) xs := by
  obtain ⟨cur, vs, Y, hg, hs, hc, hraw, hY, hd⟩ := h
  have hn := hN k r hr
  have hgl := lt_heap hg
  have hkl : k < xs.length := (List.getElem?_eq_some_iff.1 hr).1
  obtain ⟨hul, Z, z1, z2, z3⟩ := ho.fam
  have hg1 : w1.heap[g]? = some (.cells cur e (0, 0)) := (hb.block g hgl).trans hg
  have hkn := idx_le (n := n) hkl
  have hcn := Nat.mul_le_mul_right n hcap
  obtain ⟨cur', b1, b2, b3, b4⟩ := setN_block (e := e) g (k * n) us w1 0 cur hg1 (by rw [hul, hn, hs]; omega)
  have hoth : ∀ b, b ≠ g → (setN w1 g (k * n) 0 us).heap[b]? = w1.heap[b]? := fun b hb => setN_other g (k * n) us w1 0 b hb
  refine ⟨cur', fun i j => if i = k then (us[j]?).getD .nilFunc else vs i j, fun i j b => if i = k then Z j b else (Y i j b ∧ b < wr.heap.size), b1, by rw [b2, hs], fun i j r' d hi hr' hj => ?_, fun i j r' d hi hr' hj => ?_, fun i j b hb' => ?_, fun i j i' j' b h1 h2 => ?_⟩
  · by_cases hik : i = k
    · subst hik
      obtain rfl : r = r' := Option.some.inj (hr.symm.trans hr')
      have hjl : j < us.length := by have := (List.getElem?_eq_some_iff.1 hj).1; omega
      have hu := List.getElem?_eq_getElem hjl
      simp only [if_true, hu, Option.getD_some]
      refine ⟨by have := b3 j _ hu; simpa using this, ?_⟩
      refine (z3 j _ d hu hj).moved (fun b hb' hlt => hoth b ?_)
      have := (z1 j b hb').1
      omega
    · simp only [if_neg hik]
      have hi' : i < k := by omega
      obtain ⟨q1, q2⟩ := hc i j r' d hi' hr' hj
      have hin := idx_le (n := n) hi'
      have hjn : j < n := by have h1 := (List.getElem?_eq_some_iff.1 hj).1; have h2 := hN i r' hr'; omega
      refine ⟨by rw [b4 _ (by omega)]; exact q1, ?_⟩
      have := q2.dom
      refine this.moved (fun b hb' hlt => ?_)
      rw [hoth b (hY i j b hb'.1).2.1]
      exact hb.block b hlt
  · obtain ⟨z, q1, q2⟩ := hraw i j r' d (by omega) hr' hj
    have hin := idx_le (n := n) (show k < i by omega)
    exact ⟨z, by rw [b4 _ (by omega)]; exact q1, q2⟩
  · by_cases hik : i = k
    · simp only [if_pos hik] at hb'
      have := z1 j b hb'
      rw [setN_size]
      exact ⟨by have := this.1; omega, by have := this.1; omega, this.2⟩
    · simp only [if_neg hik] at hb'
      rw [setN_size]
      exact ⟨(hY i j b hb'.1).1, (hY i j b hb'.1).2.1, Nat.lt_of_lt_of_le hb'.2 hb.size⟩
  · by_cases hik : i = k
    · simp only [if_pos hik] at h1
      by_cases hik' : i' = k
      · simp only [if_pos hik'] at h2
        exact ⟨by omega, z2 j j' b h1 h2⟩
      · simp only [if_neg hik'] at h2
        have := (z1 j b h1).1
        have := h2.2
        omega
    · simp only [if_neg hik] at h1
      by_cases hik' : i' = k
      · simp only [if_pos hik'] at h2
        have := (z1 j' b h2).1
        have := h1.2
        omega
      · simp only [if_neg hik'] at h2
        exact hd i j i' j' b h1.1 h2.1
theorem RowC.done {w0 w : World} {S : Nat → Prop} {e : TypeId} {g n cap : Nat} {xs : List (List Dt)} (h : RowC w0 w S e g n cap xs.length xs) (hN : ∀ (i : Nat) (r : List Dt), xs[i]? = some r → r.length = n) (hl : xs.length ≤ cap) (hm : cap ≤ maxLen) (hg0 : w0.heap.size ≤ g) :
    Own w (.slice (some ⟨g, 0, none⟩) xs.length cap) (.row xs) (Btw w0.heap.size w.heap.size) := by
  obtain ⟨cur, vs, Y, hg, hs, hc, _, hY, hd⟩ := h
  exact .row g cap n e cur xs vs Y _ hl hm hs ⟨hg0, lt_heap hg⟩ hg hN (fun i j r d hr hj => (hc i j r d (List.getElem?_eq_some_iff.1 hr).1 hr hj).1) (fun i j r d hr hj => (hc i j r d (List.getElem?_eq_some_iff.1 hr).1 hr hj).2)
    (fun i j b hb => ⟨⟨(hY i j b hb).1, (hY i j b hb).2.2⟩, (hY i j b hb).2.1⟩) hd
theorem RowC.typed {w0 w : World} {S : Nat → Prop} {e : TypeId} {g n cap k : Nat} {xs : List (List Dt)} (h : RowC w0 w S e g n cap k xs) (hl : xs.length ≤ cap) (hm : cap ≤ maxLen) (hg0 : w0.heap.size ≤ g) : ∃ flat, w.ownsRow w0.heap.size e n (.slice (some ⟨g, 0, none⟩) xs.length cap) xs.length flat := by
  obtain ⟨cur, _, _, hg, hs, _⟩ := h
  refine ⟨cur.toList.take (xs.length * n), ?_, .inr ⟨g, cap, cur, rfl, hg0, hg, hl, hm, hs, rfl⟩⟩
  have := Nat.mul_le_mul_right n hl
  have hcl : cur.toList.length = cap * n := by simpa using hs
  rw [List.length_take, hcl]
  omega
/-- What copyEach does: a copy that owns all. -/
def CpS (f cf : FuncId) (E : TypeId) (n : Nat) (P : List Dt → Prop) : Prop := ∀ (v : Value) (xs : List (List Dt)) (S : Nat → Prop) (w : World), AllR P xs → FAt w S v (.row xs) → Dt.bulkS xs ≤ 1048576 →
  Calls Try.prog f #[v, .func (.func cf) #[] #[]] w fun e w' => ∃ u : Value, e = .returned u ∧ Own w' u (.row xs) (Btw w.heap.size w'.heap.size) ∧ (∃ flat, w'.ownsRow w.heap.size E n u xs.length flat) ∧ Below w.heap.size w w'

def rowLen : Option Dt → Nat
  | some (.row xs) => xs.length
  | _ => 0
/-- A copy of a machine: as ToC, and the row of its threads is of their type. -/
def ToMT (f : FuncId) : Prop := ∀ (vs : List Value) (r : List Dt) (S : Nat → Prop) (w : World), MachineR r → FsAt w S vs r → Dt.bulkR r ≤ 1048576 →
  Calls Try.prog f #[.agg vs.toArray] w fun e w' => ∃ us : List Value, e = .returned (.agg us.toArray) ∧ OFs w' us r (Btw w.heap.size w'.heap.size) ∧ (∃ u, us[3]? = some u ∧ ∃ flat, w'.ownsRow w.heap.size 69 5 u (rowLen r[3]?) flat) ∧ Below w.heap.size w w'
/-- A row that grows: its first k elements, each of which owns all. -/
def Grow (w : World) (lo : Nat) (e : TypeId) (n : Nat) (v : Value) (k : Nat) (xs : List (List Dt)) : Prop :=
  ∃ (flat : List Value) (vs : Nat → Nat → Value) (Y : Nat → Nat → Nat → Prop), w.ownsRow lo e n v k flat ∧
    (∀ (i j : Nat) (r : List Dt) (d : Dt), i < k → xs[i]? = some r → r[j]? = some d → flat[i * n + j]? = some (vs i j) ∧ Own w (vs i j) d (Y i j)) ∧
    (∀ i j b, Y i j b → lo ≤ b ∧ b < w.heap.size ∧ v.ownBlock ≠ some b) ∧ (∀ i j i' j' b, Y i j b → Y i' j' b → i = i' ∧ j = j')
theorem Grow.start {w : World} {lo n : Nat} {e : TypeId} {v : Value} (h : w.ownsRow lo e n v 0 []) (xs : List (List Dt)) : Grow w lo e n v 0 xs :=
  ⟨[], fun _ _ => .nilFunc, fun _ _ _ => False, h, fun i j r d hi => by omega, fun _ _ _ h => h.elim, fun _ _ _ _ _ h => h.elim⟩
theorem Grow.row {w : World} {lo n k : Nat} {e : TypeId} {v : Value} {xs : List (List Dt)} (h : Grow w lo e n v k xs) : ∃ flat, w.ownsRow lo e n v k flat := by
  obtain ⟨flat, _, _, h, _⟩ := h
  exact ⟨flat, h⟩
theorem Grow.up {w w' : World} {lo n k : Nat} {e : TypeId} {v : Value} {xs : List (List Dt)} (h : Grow w lo e n v k xs) (hb : Below w.heap.size w w') : Grow w' lo e n v k xs := by
  obtain ⟨flat, vs, Y, h1, h2, h3, h4⟩ := h
  exact ⟨flat, vs, Y, own_moved h1 (fun g hg => hb.block g (own_lt h1 g hg)), fun i j r d hi hr hj => ⟨(h2 i j r d hi hr hj).1, (h2 i j r d hi hr hj).2.up hb⟩, fun i j b hb' => ⟨(h3 i j b hb').1, Nat.lt_of_lt_of_le (h3 i j b hb').2.1 hb.size, (h3 i j b hb').2.2⟩, h4⟩
theorem Grow.moved {w w' : World} {lo n k : Nat} {e : TypeId} {v : Value} {xs : List (List Dt)} (h : Grow w lo e n v k xs) (hb : ∀ b, lo ≤ b → b < w.heap.size → w'.heap[b]? = w.heap[b]?) (hs : w.heap.size ≤ w'.heap.size) : Grow w' lo e n v k xs := by
  obtain ⟨flat, vs, Y, h1, h2, h3, h4⟩ := h
  exact ⟨flat, vs, Y, own_moved h1 (fun g hg => hb g (own_type h1 g hg).1 (own_lt h1 g hg)), fun i j r d hi hr hj => ⟨(h2 i j r d hi hr hj).1, (h2 i j r d hi hr hj).2.moved (fun b hy hlt => hb b (h3 i j b hy).1 hlt)⟩, fun i j b hb' => ⟨(h3 i j b hb').1, Nat.lt_of_lt_of_le (h3 i j b hb').2.1 hs, (h3 i j b hb').2.2⟩, h4⟩
/-- One element more, put behind it. -/
theorem Grow.next {wr w1 w2 : World} {lo n k : Nat} {e : TypeId} {v v' : Value} {xs : List (List Dt)} {r : List Dt} {us flat : List Value} (h : Grow wr lo e n v k xs) (hb : Below wr.heap.size wr w1) (hlo : lo ≤ wr.heap.size) (hr : xs[k]? = some r) (hN : ∀ (i : Nat) (r : List Dt), xs[i]? = some r → r.length = n)
    (ho : OFs w1 us r (Btw wr.heap.size w1.heap.size)) (hf : wr.ownsRow lo e n v k flat) (hown : w2.ownsRow lo e n v' (k + 1) (flat ++ us)) (hg : w1.grownBy w2 v.ownBlock) (hat : v'.ownBlock = v.ownBlock ∨ v'.ownBlock = some w1.heap.size) : Grow w2 lo e n v' (k + 1) xs := by
  obtain ⟨flat', vs, Y, h1, h2, h3, h4⟩ := h
  obtain rfl : flat = flat' := by
    rcases hf.2 with ⟨rfl, h0⟩ | ⟨g, cap, cur, rfl, _, hg1, _, _, _, ht⟩
    · have e1 := hf.1
      have e2 := h1.1
      rw [h0, Nat.zero_mul] at e1 e2
      rw [List.length_eq_zero_iff.1 e1, List.length_eq_zero_iff.1 e2]
    · rcases h1.2 with ⟨h', _⟩ | ⟨g', cap', cur', h', _, hg2, _, _, _, ht'⟩
      · cases h'
      · simp only [Value.slice.injEq, Option.some.injEq, Addr.mk.injEq, and_true, true_and] at h'
        obtain ⟨rfl, rfl⟩ := h'
        rw [hg1] at hg2
        cases hg2
        exact ht.symm.trans ht'
  have hn := hN k r hr
  obtain ⟨hul, Z, z1, z2, z3⟩ := ho.fam
  have hfl := hf.1
  -- blocks that stay
  have stay : ∀ b, b < w1.heap.size → v.ownBlock ≠ some b → w2.heap[b]? = w1.heap[b]? := fun b hb' hne => hg.block b hb' (fun e => hne e.symm)
  have ownlt : ∀ b, v.ownBlock = some b → b < wr.heap.size := fun b hb' => own_lt hf b hb'
  refine ⟨flat ++ us, fun i j => if i = k then (us[j]?).getD .nilFunc else vs i j, fun i j b => if i = k then Z j b else (Y i j b ∧ b < wr.heap.size), hown, fun i j r' d hi hr' hj => ?_, fun i j b hb' => ?_, fun i j i' j' b h1' h2' => ?_⟩
  · by_cases hik : i = k
    · subst hik
      obtain rfl : r = r' := Option.some.inj (hr.symm.trans hr')
      have hjl : j < us.length := by have := (List.getElem?_eq_some_iff.1 hj).1; omega
      have hu := List.getElem?_eq_getElem hjl
      simp only [if_true, hu, Option.getD_some]
      refine ⟨?_, ?_⟩
      · rw [List.getElem?_append_right (by omega), hfl, Nat.add_sub_cancel_left]
        exact hu
      · refine (z3 j _ d hu hj).moved (fun b hb' hlt => stay b hlt (fun e => ?_))
        have := (z1 j b hb').1
        have := ownlt b e
        omega
    · simp only [if_neg hik]
      have hi' : i < k := by omega
      obtain ⟨q1, q2⟩ := h2 i j r' d hi' hr' hj
      have hin := idx_le (n := n) hi'
      have hjn : j < n := by have h1 := (List.getElem?_eq_some_iff.1 hj).1; have h2 := hN i r' hr'; omega
      refine ⟨by rw [List.getElem?_append_left (by omega)]; exact q1, ?_⟩
      refine q2.dom.moved (fun b hb' hlt => ?_)
      rw [stay b (Nat.lt_of_lt_of_le hlt hb.size) (h3 i j b hb'.1).2.2]
      exact hb.block b hlt
  · have hs := hg.size
    by_cases hik : i = k
    · simp only [if_pos hik] at hb'
      have hz := z1 j b hb'
      refine ⟨by have := hz.1; omega, by have := hz.2; omega, fun e => ?_⟩
      rcases hat with hat | hat
      · rw [hat] at e
        have := ownlt b e
        have := hz.1
        omega
      · rw [hat] at e
        have := Option.some.inj e
        have := hz.2
        omega
    · simp only [if_neg hik] at hb'
      have hz := h3 i j b hb'.1
      have hbs := hb.size
      refine ⟨hz.1, by have := hb'.2; omega, fun e => ?_⟩
      rcases hat with hat | hat
      · rw [hat] at e
        exact hz.2.2 e
      · rw [hat] at e
        have := Option.some.inj e
        have := hb'.2
        omega
  · by_cases hik : i = k
    · simp only [if_pos hik] at h1'
      by_cases hik' : i' = k
      · simp only [if_pos hik'] at h2'
        exact ⟨by omega, z2 j j' b h1' h2'⟩
      · simp only [if_neg hik'] at h2'
        have := (z1 j b h1').1
        have := h2'.2
        omega
    · simp only [if_neg hik] at h1'
      by_cases hik' : i' = k
      · simp only [if_pos hik'] at h2'
        have := (z1 j' b h2').1
        have := h1'.2
        omega
      · simp only [if_neg hik'] at h2'
        exact h4 i j i' j' b h1'.1 h2'.1
theorem Grow.done {w : World} {lo n : Nat} {e : TypeId} {v : Value} {xs : List (List Dt)} (h : Grow w lo e n v xs.length xs) (hN : ∀ (i : Nat) (r : List Dt), xs[i]? = some r → r.length = n) : Own w v (.row xs) (Btw lo w.heap.size) := by
  obtain ⟨flat, vs, Y, h1, h2, h3, h4⟩ := h
  rcases h1.2 with ⟨rfl, h0⟩ | ⟨g, cap, cur, rfl, hb, hg, hl, hm, hs, ht⟩
  · obtain rfl : xs = [] := List.length_eq_zero_iff.1 h0
    exact .nil _
  · exact .row g cap n e cur xs vs Y _ hl hm hs ⟨hb, lt_heap hg⟩ hg hN
      (fun i j r d hr hj => own_get ht (h2 i j r d (List.getElem?_eq_some_iff.1 hr).1 hr hj).1)
      (fun i j r d hr hj => (h2 i j r d (List.getElem?_eq_some_iff.1 hr).1 hr hj).2)
      (fun i j b hb' => ⟨⟨(h3 i j b hb').1, (h3 i j b hb').2.1⟩, fun e => (h3 i j b hb').2.2 (by rw [e]; rfl)⟩) h4
end Go.Proofs.Ytlgnklpaebgnlaa
