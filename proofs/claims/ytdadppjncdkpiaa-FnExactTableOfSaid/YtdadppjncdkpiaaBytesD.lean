/-
  The program's look whether a byte is a digit.
-/
import Derived.Test.YtdadppjncdkpiaaPlain
import Derived.WalkKit
namespace Go.Proofs.Ytdadppjncdkpiaa
open Go.RowKit

set_option maxRecDepth 100000

theorem lti_t {n : Int} (h : lti n = true) : 97 ≤ n ∧ n ≤ 122 := by simpa [lti] using h
theorem dgi_t {n : Int} (h : dgi n = true) : 48 ≤ n ∧ n ≤ 57 := by simpa [dgi] using h

theorem isDigit_any (n : Int) (w : World) : Calls Try.prog 137 #[.int .u8 n] w fun e w' => e = .returned (.bool (dgi n)) ∧ w' = w := by
  unfold dgi
  by_cases h1 : 48 ≤ n
  · have d1 : decide (48 ≤ n) = true := by simpa using h1
    go_enter Try.func137, Try.ntmps137
    go_wp2
    go_ret
    exact ⟨by simp [h1], rfl⟩
  · have d1 : decide (48 ≤ n) = false := by simpa using h1
    go_enter Try.func137, Try.ntmps137
    go_wp2
    go_ret
    exact ⟨by simp, rfl⟩

theorem isDigit_is (n : Int) (b : Bool) (h : dgi n = b) (w : World) : Calls Try.prog 137 #[.int .u8 n] w fun e w' => e = .returned (.bool b) ∧ w' = w := by
  rw [← h]; exact isDigit_any n w

theorem ret_int {k : IntKind} {a b : Int} (h : a = b) : Ending.returned (.int k a) = .returned (.int k b) := by rw [h]

end Go.Proofs.Ytdadppjncdkpiaa
