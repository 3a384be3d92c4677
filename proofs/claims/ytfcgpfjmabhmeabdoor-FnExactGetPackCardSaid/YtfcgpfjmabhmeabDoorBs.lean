/-
  Texts as lists of bytes.
-/
import Derived.Test.YtfcgpfjmabhmeabDoorRows
import Derived.WalkKit
namespace Go.Proofs.YtfcgpfjmabhmeabDoor
open Go.RowKit

def bsOf (l : List UInt8) : ByteArray := ⟨l.toArray⟩
theorem bsOf_app (a b : List UInt8) : bsOf a ++ bsOf b = bsOf (a ++ b) := by
  apply ByteArray.ext
  simp [bsOf, ByteArray.data_append]
theorem bsOf_data (t : ByteArray) : bsOf t.data.toList = t := by unfold bsOf; simp
end Go.Proofs.YtfcgpfjmabhmeabDoor
