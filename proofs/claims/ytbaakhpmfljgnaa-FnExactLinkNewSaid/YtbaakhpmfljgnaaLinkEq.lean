/-
  Links: two that are alike.
-/
import Derived.Test.YtbaakhpmfljgnaaLinkEqS
import Derived.Test.YtbaakhpmfljgnaaKeptBut
namespace Go.Proofs.Ytbaakhpmfljgnaa
open Go.RowKit Go.Joins

set_option maxRecDepth 100000

abbrev Lk.row (l : Lk) (ov sv : Value) : Array Value := #[.int .i64 l.id, .int .i64 l.next, ov, sv]
theorem lbox {W : World} {b : Nat} {l : Lk} {ov sv : Value} {t : TypeId} {fz : Nat × Nat} (h : W.heap[b]? = some (.cells (l.row ov sv) t fz)) : W.cell? ⟨b, 0, none⟩ = some (.int .i64 l.id) ∧ W.cell? ⟨b, 1, none⟩ = some (.int .i64 l.next) ∧ W.cell? ⟨b, 2, none⟩ = some ov ∧ W.cell? ⟨b, 3, none⟩ = some sv :=
  ⟨(cell_of_block h 0).trans rfl, (cell_of_block h 1).trans rfl, (cell_of_block h 2).trans rfl, (cell_of_block h 3).trans rfl⟩

set_option maxHeartbeats 1600000 in
theorem eqLink_any (v1 v2 : Value) (l : Lk) (S1 S2 : Nat → Prop) (w : World) (h1 : LkAt w S1 v1 l) (h2 : LkAt w S2 v2 l) (hb : l.bulk ≤ 4194304) :
    Calls Try.prog 6 #[v1, v2] w fun e w' => e = .returned (.bool true) ∧ Below w.heap.size w w' := by
  obtain ⟨oa, oc, sa, sc, rfl, h3, h4⟩ := h1.form
  obtain ⟨oa', oc', sa', sc', rfl, h3', h4'⟩ := h2.form
  clear h1 h2
  have hbe := (show l.bulk = bulkO l.out + bulkN l.seen from rfl)
  have hnot := ex_not
  have e1 : (l.id != l.id) = false := by simp
  have e2 : (l.next != l.next) = false := by simp
  obtain ⟨W0, hW0⟩ : ∃ W0, W0 = (w.alloc (.cells (l.row (.slice oa l.out.length oc) (.slice sa l.seen.length sc)) 25)).alloc (.cells (l.row (.slice oa' l.out.length oc') (.slice sa' l.seen.length sc')) 25) := ⟨_, rfl⟩
  have B0 : Below w.heap.size w W0 := by rw [hW0]; exact ((Below.refl _ w).alloc (Nat.le_refl _) _).alloc (by simp) _
  have O0 : W0.heap[w.heap.size]? = some (.cells (l.row (.slice oa l.out.length oc) (.slice sa l.seen.length sc)) 25) := by
    rw [hW0, Below.heap_alloc _ _ _ (by simp)]; exact (MapKept.heap_alloc w _).1
  have O1 : W0.heap[w.heap.size + 1]? = some (.cells (l.row (.slice oa' l.out.length oc') (.slice sa' l.seen.length sc')) 25) := by
    have := (MapKept.heap_alloc (w.alloc (.cells (l.row (.slice oa l.out.length oc) (.slice sa l.seen.length sc)) 25)) (.cells (l.row (.slice oa' l.out.length oc') (.slice sa' l.seen.length sc')) 25)).1
    rw [hW0]
    simpa using this
  have H0 := (show Hid (_ ∧ _ ∧ _ ∧ _ ∧ _ ∧ _ ∧ _ ∧ _) from ⟨h3.below B0, h3'.below B0, h4.below B0, h4'.below B0, B0, O0, O1, hW0⟩)
  have hs0 : w.heap.size + 2 ≤ W0.heap.size := lt_heap O1
  clear h3 h4 h3' h4' B0 O0 O1 hW0
  go_enter Try.func6, Try.ntmps6
  go_wp2_with fail
  rw [← (show W0 = _ from H0.out.2.2.2.2.2.2.2)]
  refine (eqSentS_any _ _ l.out S1 S2 _ H0.out.1 H0.out.2.1 (by omega)).mono ?_
  rintro e w1 ⟨rfl, b1⟩
  have hs1 : W0.heap.size ≤ w1.heap.size := b1.size
  have H1 := (show Hid (_ ∧ _ ∧ _ ∧ _ ∧ _) from ⟨H0.out.2.2.1.below b1, H0.out.2.2.2.1.below b1, H0.out.2.2.2.2.1.trans (b1.mono (by omega)), (b1.block _ (lt_heap H0.out.2.2.2.2.2.1)).trans H0.out.2.2.2.2.2.1, (b1.block _ (lt_heap H0.out.2.2.2.2.2.2.1)).trans H0.out.2.2.2.2.2.2.1⟩)
  clear b1 H0
  obtain ⟨q0, q1, q2, q3⟩ := lbox H1.out.2.2.2.1
  obtain ⟨p0, p1, p2, p3⟩ := lbox H1.out.2.2.2.2
  go_wp2_with fail
  clear q0 q1 q2 q3 p0 p1 p2 p3
  refine (eqSeenS_any _ _ l.seen S1 S2 _ H1.out.1 H1.out.2.1 (by omega)).mono ?_
  rintro e w2 ⟨rfl, b2⟩
  have H2 := (show Hid (_ ∧ True) from ⟨H1.out.2.2.1.trans (b2.mono (by omega)), trivial⟩)
  clear b2 H1
  go_wp2
  go_ret
  exact ⟨rfl, H2.out.1⟩
end Go.Proofs.Ytbaakhpmfljgnaa
