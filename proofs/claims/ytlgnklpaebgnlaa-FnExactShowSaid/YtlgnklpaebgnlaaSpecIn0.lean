/-
  The specification's look whether a number lies between two.
-/
import Derived.Test.YtlgnklpaebgnlaaRows
import Derived.WalkKit
namespace Go.Proofs.Ytlgnklpaebgnlaa
open Go.RowKit

set_option maxRecDepth 100000

def inB (x a b : Int) : Bool := decide (a ≤ x) && decide (x ≤ b)

theorem specIn_any (x a b : Int) (w : World) : Calls Try.prog 23 #[.int .i64 x, .int .i64 a, .int .i64 b] w fun e w' => e = .returned (.bool (inB x a b)) ∧ w' = w := by
  unfold inB
  by_cases h1 : a ≤ x
  · have d1 : decide (a ≤ x) = true := by simpa using h1
    go_enter Try.func23, Try.ntmps23
    go_wp2
    go_ret
    exact ⟨by simp [h1], rfl⟩
  · have d1 : decide (a ≤ x) = false := by simpa using h1
    go_enter Try.func23, Try.ntmps23
    go_wp2
    go_ret
    exact ⟨by simp, rfl⟩

theorem specIn_is (x a b : Int) (r : Bool) (h : inB x a b = r) (w : World) : Calls Try.prog 23 #[.int .i64 x, .int .i64 a, .int .i64 b] w fun e w' => e = .returned (.bool r) ∧ w' = w := by
  rw [← h]; exact specIn_any x a b w
end Go.Proofs.Ytlgnklpaebgnlaa
