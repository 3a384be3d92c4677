/-
  The program's looks at places of a heap.
-/
import Derived.Test.YtfhjkiimdkjhjaaGreatDoorCellsPure
import Derived.Test.YtfhjkiimdkjhjaaGreatDoorWithin
namespace Go.Proofs.YtfhjkiimdkjhjaaGreatDoor
open Go.RowKit Go.Joins

set_option maxRecDepth 100000

theorem isPlace_is (a : Option Addr) (cap n : Nat) (p : Int) (r : Bool) (h : inB p 0 ((n : Int) - 1) = r) (w : World) (hn : n ≤ 4194304) :
    Calls Tryz.prog 37 #[.slice a n cap, .int .i64 p] w fun e w' => e = .returned (.bool r) ∧ w' = w := by
  go_enter Tryz.func37, Tryz.ntmps37
  go_wp2_with fail
  refine (within_r _ _ _ r h _).mono ?_
  rintro e w1 ⟨rfl, rfl⟩
  go_wp2
  go_ret
  exact ⟨rfl, rfl⟩
/-- Whether one who follows stays at a cell. -/
def Ce.isEnd (c : Ce) : Bool := (c.kind != 6) || ((c.kids.length : Int) == 0)
set_option maxHeartbeats 1600000 in
theorem isEnd_any (v : Value) (c : Ce) (S : Nat → Prop) (w : World) (h : CeAt w S v c) :
    Calls Tryz.prog 38 #[v] w fun e w' => e = .returned (.bool c.isEnd) ∧ Below w.heap.size w w' := by
  obtain ⟨kv, rfl, r1, r2, r3, hk⟩ := h
  obtain ⟨a, cap, rfl⟩ := hk.form
  have B0 : Below w.heap.size w (w.alloc (.cells #[.int .i64 c.kind, .int .i64 c.n, .int .i64 c.pos, .slice a c.kids.length cap] 32)) := (Below.refl _ w).alloc (Nat.le_refl _) _
  unfold Ce.isEnd
  clear hk r1 r2 r3
  cases b0 : (c.kind != 6) <;> cases b1 : ((c.kids.length : Int) == 0) <;>
  ( go_enter Tryz.func38, Tryz.ntmps38
    go_wp2
    go_ret
    exact ⟨by simp, B0⟩ )
end Go.Proofs.YtfhjkiimdkjhjaaGreatDoor
