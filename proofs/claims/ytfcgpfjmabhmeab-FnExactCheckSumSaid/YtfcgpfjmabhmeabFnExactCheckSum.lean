/-
  FnExactCheckSum: at every text the program's CheckSum answers as the specification's: the law returns true.
-/
import Derived.Test.YtfcgpfjmabhmeabLawCheckSum
import Derived.Test.YtfcgpfjmabhmeabImplCrc
namespace Go.Proofs.Ytfcgpfjmabhmeab
open Go.RowKit
theorem fnExactCheckSum_holds : Rows.FnExactCheckSumSaid :=
  fnExactCheckSum.over fun s w hs => (implCrc_any s w (by unfold maxLen; omega)).mono fun _ _ ⟨he, hw⟩ => ⟨he, hw ▸ Below.refl _ _⟩
end Go.Proofs.Ytfcgpfjmabhmeab
