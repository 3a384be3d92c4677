/-
  A call of a function as one step of a region that draws its order, within a round of a range over a function.
-/
import Derived.Test.YtdadppjncdkpiaaRoundRegion
import Derived.Test.YtdadppjncdkpiaaRows
import Derived.Shelf.Abstract
namespace Go.Proofs.Ytdadppjncdkpiaa
open Go Go.Shelf

theorem opIn_call1 {n : Nat} {P : Program} {w : World} {o : Oper} {a : Act} {K : Act → World → Prop} {Q : Exit → Act → World → Prop} (f : FuncId) (x : Operand) (ts : Array TypeId) (hop : o.op = Op.call { callee := Callee.value (.func f), args := #[x], argTypes := ts })
    (hent : ∀ args w, (callFunc f args).run P w = .ok (.enter f args) w) (u : Value) (hx : a.eval x = u) (Post : Value → World → Prop) (hc : Calls P f #[u] w fun e w' => ∃ r, e = .returned r ∧ Post r w') (hK : ∀ r w', Post r w' → K (a.put o.dst r) w') : o.wpIn Fence.wide n P a w K Q := by
  unfold Oper.wpIn
  refine ⟨fun _ _ => trivial, ?_⟩
  rw [Oper.semAt_plain _ _ _ (by rw [hop]; intro c hc'; cases hc')]
  have hf : a.eval (.func f) = .func (.func f) #[] #[] := rfl
  simp [execOp, hop, resolve, invoke, hx, hf, hent, Deferred.ofValue]
  refine ⟨fun h => (by cases h), callsIn_wide.2 (hc.mono ?_)⟩
  rintro e w' ⟨r, rfl, h⟩
  exact hK r w' h
theorem opIn_call2 {n : Nat} {P : Program} {w : World} {o : Oper} {a : Act} {K : Act → World → Prop} {Q : Exit → Act → World → Prop} (f : FuncId) (x y : Operand) (ts : Array TypeId) (hop : o.op = Op.call { callee := Callee.value (.func f), args := #[x, y], argTypes := ts })
    (hent : ∀ args w, (callFunc f args).run P w = .ok (.enter f args) w) (u v : Value) (hx : a.eval x = u) (hy : a.eval y = v) (Post : Value → World → Prop) (hc : Calls P f #[u, v] w fun e w' => ∃ r, e = .returned r ∧ Post r w') (hK : ∀ r w', Post r w' → K (a.put o.dst r) w') : o.wpIn Fence.wide n P a w K Q := by
  unfold Oper.wpIn
  refine ⟨fun _ _ => trivial, ?_⟩
  rw [Oper.semAt_plain _ _ _ (by rw [hop]; intro c hc'; cases hc')]
  have hf : a.eval (.func f) = .func (.func f) #[] #[] := rfl
  simp [execOp, hop, resolve, invoke, hx, hy, hf, hent, Deferred.ofValue]
  refine ⟨fun h => (by cases h), callsIn_wide.2 (hc.mono ?_)⟩
  rintro e w' ⟨r, rfl, h⟩
  exact hK r w' h
theorem entIn_kid : ∀ args w, (callFunc 104 args).run Try.prog w = .ok (.enter 104 args) w := enters_of Try.func104 (by kernel_rfl) rfl
theorem entIn_grow : ∀ args w, (callFunc 110 args).run Try.prog w = .ok (.enter 110 args) w := enters_of Try.func110 (by kernel_rfl) rfl
end Go.Proofs.Ytdadppjncdkpiaa
