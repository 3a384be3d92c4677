/-
  strings.Clone: the same bytes.
-/
import Derived.Test.YtlgnklpaebgnlaaShelf
import Derived.WalkKit
import Derived.Below
namespace Go.Proofs.Ytlgnklpaebgnlaa
open Go.RowKit

set_option maxRecDepth 100000

theorem strClone_any (s : ByteArray) (w : World) (hlim : s.size ≤ 281474976710656) :
    Calls Try.prog 50 #[.string s] w fun e w' => e = .returned (.string s) ∧ Below w.heap.size w w' := by
  go_enter Try.func50, Try.ntmps50
  go_wp2_with (go_at_call 85; refine (Try.stringslite_Clone s _ hlim).mono ?_; rintro e w1 ⟨rfl, hb⟩)
  go_ret
  exact ⟨rfl, hb⟩
end Go.Proofs.Ytlgnklpaebgnlaa
