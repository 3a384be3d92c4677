/-
  The law of Follow: the program and the specification answer alike at every heap and place.
-/
import Derived.Test.YthjpmdoljceaiaaImplFollow
import Derived.Test.YthjpmdoljceaiaaLawFollow
namespace Go.Proofs.Ythjpmdoljceaiaa
open Go.RowKit Go.Joins

theorem fnExactFollow_holds : Rows.FnExactFollowSaid :=
  fnExactFollow.over fun v es p n0 w h hb _ => implFollow_any v es p _ w h (by have : es.length ≤ bulkL es := Nat.le_add_right _ _; omega)
end Go.Proofs.Ythjpmdoljceaiaa
