/-
  FnExactMsgOk: at every message the program's MsgOk answers as the specification's, and the message reads as before: the law returns true.
-/
import Derived.Test.YtfcgpfjmabhmeaaLawMsgOk
import Derived.Test.YtfcgpfjmabhmeaaImplMsgOk
namespace Go.Proofs.Ytfcgpfjmabhmeaa
theorem fnExactMsgOk_holds : Rows.FnExactMsgOkSaid := fnExactMsgOk.over fun v m _ w h _ _ => implMsgOk_any v m _ w h
end Go.Proofs.Ytfcgpfjmabhmeaa
