/-
  Two messages that are alike.
-/
import Derived.Test.YtbaakhpmfljgnabDoorMsgForm
import Derived.Test.YtbaakhpmfljgnabDoorCellEq
namespace Go.Proofs.YtbaakhpmfljgnabDoor
open Go.RowKit Go.Joins

set_option maxRecDepth 100000

set_option maxHeartbeats 3200000 in
theorem eqMsg_any (v1 v2 : Value) (m : Ms) (S1 S2 : Nat → Prop) (w : World) (h1 : MsAt w S1 v1 m) (h2 : MsAt w S2 v2 m) (hb : m.cell.bulk ≤ 4194304) :
    Calls Tryd.prog 8 #[v1, v2] w fun e w' => e = .returned (.bool true) ∧ Below w.heap.size w w' := by
  obtain ⟨a1, c1, rfl⟩ := h1.form
  obtain ⟨a2, c2, rfl⟩ := h2.form
  have e1 : (m.kind != m.kind) = false := by simp
  have e2 : (m.frm != m.frm) = false := by simp
  have e3 : (m.dst != m.dst) = false := by simp
  have e4 : (m.id != m.id) = false := by simp
  have e5 : (m.want != m.want) = false := by simp
  have B0 : Below w.heap.size w ((w.alloc (.cells (m.row (.slice a1 m.cell.kids.length c1)) 31)).alloc (.cells (m.row (.slice a2 m.cell.kids.length c2)) 31)) :=
    ((Below.refl _ w).alloc (Nat.le_refl _) _).alloc (by simp) _
  have HK := (show Hid (_ ∧ _ ∧ _) from ⟨h1.cellAt.belowM B0, h2.cellAt.belowM B0, B0⟩)
  have hnot := ex_not
  clear h1 h2 B0
  go_enter Tryd.func8, Tryd.ntmps8
  go_wp2_with (go_at_call 18; refine (eqCell_any _ _ m.cell S1 S2 _ HK.out.1 HK.out.2.1 hb).mono ?_; rintro e w1 ⟨rfl, b1⟩)
  go_ret
  exact ⟨rfl, HK.out.2.2.trans (b1.mono HK.out.2.2.size)⟩
end Go.Proofs.YtbaakhpmfljgnabDoor
