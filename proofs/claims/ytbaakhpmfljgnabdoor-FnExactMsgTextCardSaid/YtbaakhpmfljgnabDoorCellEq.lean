/-
  Two cells that are alike.
-/
import Derived.Test.YtbaakhpmfljgnabDoorIntsAt
import Derived.Test.YtbaakhpmfljgnabDoorCellsAt
namespace Go.Proofs.YtbaakhpmfljgnabDoor
open Go.RowKit Go.Joins

set_option maxRecDepth 100000

set_option maxHeartbeats 3200000 in
theorem eqCell_any (v1 v2 : Value) (x : Ce) (S1 S2 : Nat → Prop) (w : World) (h1 : CeAt w S1 v1 x) (h2 : CeAt w S2 v2 x) (hb : x.bulk ≤ 4194304) :
    Calls Tryd.prog 18 #[v1, v2] w fun e w' => e = .returned (.bool true) ∧ Below w.heap.size w w' := by
  have hbe := (show x.bulk = x.kids.length from rfl)
  obtain ⟨kv1, rfl, -, -, -, k1⟩ := h1
  obtain ⟨kv2, rfl, -, -, -, k2⟩ := h2
  obtain ⟨a1, c1, rfl⟩ := k1.form
  obtain ⟨a2, c2, rfl⟩ := k2.form
  have e1 : (x.kind != x.kind) = false := by simp
  have e2 : (x.n != x.n) = false := by simp
  have e3 : (x.pos != x.pos) = false := by simp
  have B0 : Below w.heap.size w ((w.alloc (.cells #[.int .i64 x.kind, .int .i64 x.n, .int .i64 x.pos, .slice a1 x.kids.length c1] 29)).alloc (.cells #[.int .i64 x.kind, .int .i64 x.n, .int .i64 x.pos, .slice a2 x.kids.length c2] 29)) :=
    ((Below.refl _ w).alloc (Nat.le_refl _) _).alloc (by simp) _
  have HK1 := (show Hid (_ ∧ True) from ⟨k1.below B0, trivial⟩)
  have HK2 := (show Hid (_ ∧ True) from ⟨k2.below B0, trivial⟩)
  have HB0 := (show Hid (_ ∧ True) from ⟨B0, trivial⟩)
  have hnot := ex_not
  clear k1 k2 B0
  go_enter Tryd.func18, Tryd.ntmps18
  go_wp2_with fail
  refine (eqIntS_same _ _ x.kids S1 S2 _ HK1.out.1 HK2.out.1 (by omega)).mono ?_
  rintro e w1 ⟨rfl, b1⟩
  have B1 : Below w.heap.size w w1 := HB0.out.1.trans (b1.mono HB0.out.1.size)
  clear b1 HB0 HK1 HK2
  go_wp2
  go_ret
  exact ⟨rfl, B1⟩
end Go.Proofs.YtbaakhpmfljgnabDoor
