/-
  The specification's look whether a byte is a digit.
-/
import Derived.Test.YtdadppjncdkpiaaPlain
import Derived.Test.YtdadppjncdkpiaaSpecIn0
import Derived.WalkKit
namespace Go.Proofs.Ytdadppjncdkpiaa
open Go.RowKit

set_option maxRecDepth 100000

theorem specDigit_is (n : Int) (b : Bool) (h0 : 0 ≤ n) (h9 : n ≤ 255) (h : dgi n = b) (w : World) : Calls Try.prog 98 #[.int .u8 n] w fun e w' => e = .returned (.bool b) ∧ w' = w := by
  have h' : inB n 48 57 = b := h
  go_enter Try.func98, Try.ntmps98
  go_wp2_with (go_at_call 30; refine (specIn_is _ _ _ _ h' _).mono ?_; rintro e w' ⟨rfl, rfl⟩)
  go_ret
  exact ⟨rfl, rfl⟩

end Go.Proofs.Ytdadppjncdkpiaa
