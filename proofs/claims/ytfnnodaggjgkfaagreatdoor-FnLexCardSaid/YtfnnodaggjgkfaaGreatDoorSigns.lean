/-
  The signs: the program's isSign answers whether a text is one of the fifteen.
-/
import Derived.Test.YtfnnodaggjgkfaaGreatDoorBytes
namespace Go.Proofs.YtfnnodaggjgkfaaGreatDoor
open Go.RowKit

set_option maxRecDepth 100000

def signs : List (List UInt8) := [[92], [46], [61], [59], [58], [91, 93], [45, 62], [124], [61, 61], [60], [43], [45], [42], [40], [41]]
def isSg (s : ByteArray) : Bool := signs.any (fun x => s.toList == x)

set_option maxHeartbeats 1600000 in
theorem isSign_any (s : ByteArray) (w : World) :
    Calls Tryz.prog 58 #[.string s] w fun e w' => e = .returned (.bool (isSg s)) ∧ w' = w := by
  go_enter Tryz.func58, Tryz.ntmps58
  go_wp2
  all_goals first
    | (exfalso; exact absurd ((‹(_ == _) = false›).symm.trans ‹(_ == _) = true›) Bool.false_ne_true)
    | (go_ret; exact ⟨by simp [isSg, signs, *], rfl⟩)
end Go.Proofs.YtfnnodaggjgkfaaGreatDoor
