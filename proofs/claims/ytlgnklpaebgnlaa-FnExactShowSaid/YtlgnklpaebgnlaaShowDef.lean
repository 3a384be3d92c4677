/-
  What Show answers, in plain words.
-/
import Derived.Test.YtlgnklpaebgnlaaDtSnoc
import Derived.Test.YtlgnklpaebgnlaaSpecIn0
namespace Go.Proofs.Ytlgnklpaebgnlaa
open Go.RowKit Go.Joins

set_option maxRecDepth 100000

def showT (at_ : Int) : List Dt := [.int 1, .int at_, .row [], .row [[.int 6, .int 0, .int 0, .row []]], .str ⟨#[]⟩]
def showC (x2 x3 : List (List Dt)) (at_ : Int) : Bool := inB at_ 0 ((x2.length : Int) - 1) && decide (x3.length < 60)
def showOf (x2 x3 : List (List Dt)) (at_ : Int) : List (List Dt) := if showC x2 x3 at_ then x3 ++ [showT at_] else x3
/-- What Show does. -/
def ShC (f : FuncId) : Prop := ∀ (vs : List Value) (x0 x1 x2 x3 x4 x5 x6 : List (List Dt)) (S : Nat → Prop) (w : World) (at_ : Int), MachineR [.row x0, .row x1, .row x2, .row x3, .row x4, .row x5, .row x6] → FsAt w S vs [.row x0, .row x1, .row x2, .row x3, .row x4, .row x5, .row x6] → Dt.bulkR [.row x0, .row x1, .row x2, .row x3, .row x4, .row x5, .row x6] ≤ 1048576 → inI64 at_ →
  Calls Try.prog f #[.agg vs.toArray, .int .i64 at_] w fun e w' => ∃ us : List Value, e = .returned (.agg us.toArray) ∧ OFs w' us [.row x0, .row x1, .row x2, .row (showOf x2 x3 at_), .row x4, .row x5, .row x6] (Btw w.heap.size w'.heap.size) ∧ Below w.heap.size w w'
theorem showT_len (at_ : Int) : (showT at_).length = 5 := rfl
theorem infoTh : (Try.prog.info? 69).map (fun i => (i.zero, i.size, i.bytes)) = some (some (.agg #[.int .i64 0, .int .i64 0, .slice none 0 0, .slice none 0 0, .string ⟨#[]⟩]), 5, 80) := by kernel_rfl

end Go.Proofs.Ytlgnklpaebgnlaa
