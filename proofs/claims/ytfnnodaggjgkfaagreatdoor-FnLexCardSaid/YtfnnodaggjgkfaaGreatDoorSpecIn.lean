/-
  The specification's look whether a number lies between two, and whether a byte is a digit.
-/
import Derived.Test.YtfnnodaggjgkfaaGreatDoorPlain
import Derived.WalkKit
namespace Go.Proofs.YtfnnodaggjgkfaaGreatDoor
open Go.RowKit

set_option maxRecDepth 100000

def inB (x a b : Int) : Bool := decide (a ≤ x) && decide (x ≤ b)

theorem specIn_any (x a b : Int) (w : World) : Calls Tryz.prog 38 #[.int .i64 x, .int .i64 a, .int .i64 b] w fun e w' => e = .returned (.bool (inB x a b)) ∧ w' = w := by
  unfold inB
  by_cases h1 : a ≤ x
  · have d1 : decide (a ≤ x) = true := by simpa using h1
    go_enter Tryz.func38, Tryz.ntmps38
    go_wp2
    go_ret
    exact ⟨by simp [h1], rfl⟩
  · have d1 : decide (a ≤ x) = false := by simpa using h1
    go_enter Tryz.func38, Tryz.ntmps38
    go_wp2
    go_ret
    exact ⟨by simp, rfl⟩

theorem specIn_is (x a b : Int) (r : Bool) (h : inB x a b = r) (w : World) : Calls Tryz.prog 38 #[.int .i64 x, .int .i64 a, .int .i64 b] w fun e w' => e = .returned (.bool r) ∧ w' = w := by
  rw [← h]; exact specIn_any x a b w

theorem specDigit_is (n : Int) (b : Bool) (h0 : 0 ≤ n) (h9 : n ≤ 255) (h : dgi n = b) (w : World) : Calls Tryz.prog 37 #[.int .u8 n] w fun e w' => e = .returned (.bool b) ∧ w' = w := by
  have h' : inB n 48 57 = b := h
  go_enter Tryz.func37, Tryz.ntmps37
  go_wp2_with (go_at_call 38; refine (specIn_is _ _ _ _ h' _).mono ?_; rintro e w' ⟨rfl, rfl⟩)
  go_ret
  exact ⟨rfl, rfl⟩

end Go.Proofs.YtfnnodaggjgkfaaGreatDoor
