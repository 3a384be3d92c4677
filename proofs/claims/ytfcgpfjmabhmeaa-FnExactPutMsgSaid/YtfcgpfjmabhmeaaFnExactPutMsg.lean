/-
  FnExactPutMsg: at every message the program's PutMsg answers as the specification's, and the message reads as before: the law returns true.
-/
import Derived.Test.YtfcgpfjmabhmeaaLawPutMsg
import Derived.Test.YtfcgpfjmabhmeaaImplPutMsg
namespace Go.Proofs.Ytfcgpfjmabhmeaa
theorem fnExactPutMsg_holds : Rows.FnExactPutMsgSaid := fnExactPutMsg.over fun v m _ w h _ _ => implPutMsg_any v m _ w h
end Go.Proofs.Ytfcgpfjmabhmeaa
