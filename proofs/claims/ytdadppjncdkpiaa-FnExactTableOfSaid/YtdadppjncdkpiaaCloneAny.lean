/-
  strings.Clone: the same bytes.
-/
import Derived.Test.YtdadppjncdkpiaaShelf
import Derived.WalkKit
import Derived.Below
namespace Go.Proofs.Ytdadppjncdkpiaa
open Go.RowKit

set_option maxRecDepth 100000

theorem strClone_any (s : ByteArray) (w : World) (hlim : s.size ≤ 281474976710656) :
    Calls Try.prog 109 #[.string s] w fun e w' => e = .returned (.string s) ∧ Below w.heap.size w w' := by
  go_enter Try.func109, Try.ntmps109
  go_wp2_with (go_at_call 131; refine (Try.stringslite_Clone s _ hlim).mono ?_; rintro e w1 ⟨rfl, hb⟩)
  go_ret
  exact ⟨rfl, hb⟩
end Go.Proofs.Ytdadppjncdkpiaa
