/-
  The specification's look whether a number lies between two, and whether a byte is a digit.
-/
import Derived.Test.YtfldnonifhedgaaPlain
import Derived.WalkKit
namespace Go.Proofs.Ytfldnonifhedgaa
open Go.RowKit

set_option maxRecDepth 100000

def inB (x a b : Int) : Bool := decide (a ≤ x) && decide (x ≤ b)

theorem specIn_any (x a b : Int) (w : World) : Calls Try.prog 11 #[.int .i64 x, .int .i64 a, .int .i64 b] w fun e w' => e = .returned (.bool (inB x a b)) ∧ w' = w := by
  unfold inB
  by_cases h1 : a ≤ x
  · have d1 : decide (a ≤ x) = true := by simpa using h1
    go_enter Try.func11, Try.ntmps11
    go_wp2
    go_ret
    exact ⟨by simp [h1], rfl⟩
  · have d1 : decide (a ≤ x) = false := by simpa using h1
    go_enter Try.func11, Try.ntmps11
    go_wp2
    go_ret
    exact ⟨by simp, rfl⟩

theorem specIn_is (x a b : Int) (r : Bool) (h : inB x a b = r) (w : World) : Calls Try.prog 11 #[.int .i64 x, .int .i64 a, .int .i64 b] w fun e w' => e = .returned (.bool r) ∧ w' = w := by
  rw [← h]; exact specIn_any x a b w

theorem specDigit_is (n : Int) (b : Bool) (h0 : 0 ≤ n) (h9 : n ≤ 255) (h : dgi n = b) (w : World) : Calls Try.prog 23 #[.int .u8 n] w fun e w' => e = .returned (.bool b) ∧ w' = w := by
  have h' : inB n 48 57 = b := h
  go_enter Try.func23, Try.ntmps23
  go_wp2_with (go_at_call 11; refine (specIn_is _ _ _ _ h' _).mono ?_; rintro e w' ⟨rfl, rfl⟩)
  go_ret
  exact ⟨rfl, rfl⟩

end Go.Proofs.Ytfldnonifhedgaa
