/-
  At every machine and number the program's Show answers as the specification's, writes into no argument, its answer owns its memory, and the law's call changes nothing that was there; no condition.
-/
import Derived.Test.YtlgnklpaebgnlaaFrameShow
import Derived.Test.YtlgnklpaebgnlaaShowS
import Derived.Test.YtlgnklpaebgnlaaScMach
namespace Go.Proofs.Ytlgnklpaebgnlaa

theorem fnExactShow_holds : Rows.FnExactShowSaid := fnExactShow.over (specShow_of l06CopyT_dt)
#print axioms fnExactShow_holds
end Go.Proofs.Ytlgnklpaebgnlaa
