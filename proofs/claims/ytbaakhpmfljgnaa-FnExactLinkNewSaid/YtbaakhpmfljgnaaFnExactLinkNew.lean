/-
  At every two numbers the program's LinkNew answers as the specification's, field by field, and its answer owns its memory: the law returns true; no condition.
-/
import Derived.Test.YtbaakhpmfljgnaaLawLinkNew
namespace Go.Proofs.Ytbaakhpmfljgnaa
open Go.ChangeShapes Go.WideShapes Go.ChangeAt Go.RowKit Go.Joins

set_option maxRecDepth 100000

theorem fnExactLinkNew_holds : Rows.FnExactLinkNewSaid :=
  OpenClaim.holds_of_wide 3 Try.f3 rfl rfl rfl rfl rfl rfl rfl ⟨rfl, rfl, rfl, rfl, rfl⟩ rfl rfl rfl rfl rfl (by kernel_rfl) Try.func3 (by kernel_rfl)
    (of_decide_eq_true (by kernel_rfl)) (by unfold Func.isWrapper; first | (rw [if_pos (by decide +kernel)]; kernel_rfl) | (rw [if_neg (by decide +kernel)]; exact ⟨rfl, rfl⟩))
    (fun os started H enc _ => fnExactLinkNew.lifted os started H enc)
#print axioms fnExactLinkNew_holds
end Go.Proofs.Ytbaakhpmfljgnaa
