/-
  FnExactGetNum: at every text and place the program's GetNum answers as the specification's: the law returns true.
-/
import Derived.Test.YtfcgpfjmabhmeaaLawGetNum
import Derived.Test.YtfcgpfjmabhmeaaImplGetNum
namespace Go.Proofs.Ytfcgpfjmabhmeaa
theorem fnExactGetNum_holds : Rows.FnExactGetNumSaid := fnExactGetNum.over implGetNum_any
end Go.Proofs.Ytfcgpfjmabhmeaa
