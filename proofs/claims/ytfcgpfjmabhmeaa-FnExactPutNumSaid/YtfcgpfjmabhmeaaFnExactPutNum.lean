/-
  FnExactPutNum: at every number the program's PutNum answers as the specification's: the law returns true.
-/
import Derived.Test.YtfcgpfjmabhmeaaLawPutNum
import Derived.Test.YtfcgpfjmabhmeaaImplPutNum
namespace Go.Proofs.Ytfcgpfjmabhmeaa
theorem fnExactPutNum_holds : Rows.FnExactPutNumSaid := fnExactPutNum.over implPutNum_any
end Go.Proofs.Ytfcgpfjmabhmeaa
