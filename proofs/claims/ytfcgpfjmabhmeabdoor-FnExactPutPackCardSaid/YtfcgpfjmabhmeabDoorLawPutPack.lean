/-
  The law of PutPack, walked.
-/
import Derived.Test.YtfcgpfjmabhmeabDoorImplPutPack
import Derived.Test.YtfcgpfjmabhmeabDoorSpecPutPack
namespace Go.Proofs.YtfcgpfjmabhmeabDoor
open Go.RowKit Go.Joins

set_option maxRecDepth 100000

set_option maxHeartbeats 1600000 in
theorem putPack_walk (p : Pa) (hs : p.body.size ≤ maxLen) (hp : p.fits) (w : World) (hg : ET w) :
    Calls Tryd.prog 3 #[.agg p.row] w fun e w' => e = .returned (.bool true) ∧ Below w.heap.size w w' := by
  obtain ⟨W0, hW0⟩ : ∃ W0, W0 = w.alloc (.cells p.row 23) := ⟨_, rfl⟩
  have B0 : Below w.heap.size w W0 := by rw [hW0]; exact (Below.refl _ w).alloc (Nat.le_refl _) _
  have O0 : W0.heap[w.heap.size]? = some (.cells p.row 23) := by rw [hW0]; exact (MapKept.heap_alloc w _).1
  have H0 := (show Hid (_ ∧ _ ∧ _ ∧ _ ∧ _) from ⟨szPack_any p W0 hs, B0, O0, hg.below B0, hW0⟩)
  clear B0 O0 hg hW0
  go_enter Tryd.func3, Tryd.ntmps3
  go_wp2_with fail
  rw [← (show W0 = _ from H0.out.2.2.2.2)]
  refine H0.out.1.mono ?_
  rintro e w1 ⟨rfl, b1⟩
  have hs1 : W0.heap.size ≤ w1.heap.size := b1.size
  have hs0 : w.heap.size + 1 ≤ W0.heap.size := lt_heap H0.out.2.2.1
  have H1 := (show Hid (_ ∧ _ ∧ _) from ⟨H0.out.2.1.trans (b1.mono (by omega)), (b1.block _ (lt_heap H0.out.2.2.1)).trans H0.out.2.2.1, H0.out.2.2.2.1.below b1⟩)
  clear b1 H0
  by_cases hb : p.body.size ≤ 1048576
  case neg =>
    rw [if_neg hb]
    go_wp2
    all_goals (go_ret; exact ⟨rfl, H1.out.1⟩)
  rw [if_pos hb]
  have hpos : ¬ (1048576 : Int) - (p.body.size : Int) < 0 := by omega
  obtain ⟨q0, q1, q2, q3, q4, q5⟩ := pbox6 H1.out.2.1
  go_wp2_with fail
  clear q0 q1 q2 q3 q4 q5
  refine (toPack_any p w1).mono ?_
  rintro e w2 ⟨rfl, b2⟩
  have hs2 : w1.heap.size ≤ w2.heap.size := b2.size
  have H2 := (show Hid (_ ∧ _ ∧ _) from ⟨H1.out.1.trans (b2.mono (by omega)), (b2.block _ (lt_heap H1.out.2.1)).trans H1.out.2.1, H1.out.2.2.below b2⟩)
  clear b2 H1
  go_wp2_with fail
  refine (specPutPack_any p w2 hb hp).mono ?_
  rintro e w3 ⟨rfl, b3⟩
  have hs3 : w2.heap.size ≤ w3.heap.size := b3.size
  have H3 := (show Hid (_ ∧ _ ∧ _) from ⟨H2.out.1.trans (b3.mono (by omega)), (b3.block _ (lt_heap H2.out.2.1)).trans H2.out.2.1, H2.out.2.2.below b3⟩)
  clear b3 H2
  obtain ⟨q0, q1, q2, q3, q4, q5⟩ := pbox6 H3.out.2.1
  go_wp2_with fail
  clear q0 q1 q2 q3 q4 q5
  refine (toPack_any p w3).mono ?_
  rintro e w4 ⟨rfl, b4⟩
  have hs4 : w3.heap.size ≤ w4.heap.size := b4.size
  have H4 := (show Hid (_ ∧ _) from ⟨H3.out.1.trans (b4.mono (by omega)), H3.out.2.2.below b4⟩)
  clear b4 H3
  go_wp2_with fail
  refine (implPutPack_any p w4 hb hp H4.out.2).mono ?_
  rintro e w5 ⟨rfl, b5⟩
  have H5 := (show Hid (_ ∧ True) from ⟨H4.out.1.trans (b5.mono (by omega)), trivial⟩)
  clear b5 H4
  generalize (⟨p.bytes.toArray⟩ : ByteArray) = r at *
  have hne : (r.toList != r.toList) = false := by simp
  go_wp2
  go_ret
  exact ⟨rfl, H5.out.1⟩
end Go.Proofs.YtfcgpfjmabhmeabDoor
