/-
  A call with one argument within a region that draws its order.
-/
import Derived.Test.YtlgnklpaebgnlaaStepApp
import Derived.Shelf.Abstract
namespace Go.Proofs.Ytlgnklpaebgnlaa
open Go.RowKit Go.Joins Go.Shelf

theorem step_call1 {P : Program} {ops : Array Oper} {o : Oper} {a : Act} {w : World} {K : Act → World → Prop} {Q : Exit → Act → World → Prop} {E : Prop}
    (hg : o.guard = none) (f : FuncId) (x : Operand) (ts : Array TypeId) (hop : o.op = Op.call { callee := Callee.value (.func f), args := #[x], argTypes := ts }) (hent : ∀ args w, (callFunc f args).run P w = .ok (.enter f args) w)
    (u : Value) (hx : a.eval x = u) (Post : Value → World → Prop) (hc : Calls P f #[u] w fun e w' => ∃ r, e = .returned r ∧ Post r w') (hK : ∀ r w', Post r w' → K (a.put o.dst r) w') :
    if Region.wanted o (yielded ops a.tmps) = true then Oper.wp P o a w K Q else E := by
  have hw : Region.wanted o (yielded ops a.tmps) = true := by simp [Region.wanted, hg]
  rw [if_pos hw]
  unfold Oper.wp execOp
  have hf : a.eval (.func f) = .func (.func f) #[] #[] := rfl
  simp [hop, resolve, invoke, hx, hf, hent, Deferred.ofValue]
  refine hc.mono ?_
  rintro e w' ⟨r, rfl, h⟩
  exact hK r w' h
theorem step_callB {P : Program} {ops : Array Oper} {o : Oper} {a : Act} {w : World} {K : Act → World → Prop} {Q : Exit → Act → World → Prop} {E : Prop}
    (hg : o.guard = none) (f : FuncId) (x y : Operand) (ts : Array TypeId) (hop : o.op = Op.call { callee := Callee.value (.func f), args := #[x, y], argTypes := ts }) (hent : ∀ args w, (callFunc f args).run P w = .ok (.enter f args) w)
    (u v : Value) (hx : a.eval x = u) (hy : a.eval y = v) (Post : Value → World → Prop) (hc : Calls P f #[u, v] w fun e w' => ∃ r, e = .returned r ∧ Post r w') (hK : ∀ r w', Post r w' → K (a.put o.dst r) w') :
    if Region.wanted o (yielded ops a.tmps) = true then Oper.wp P o a w K Q else E := by
  have hw : Region.wanted o (yielded ops a.tmps) = true := by simp [Region.wanted, hg]
  rw [if_pos hw]
  unfold Oper.wp execOp
  have hf : a.eval (.func f) = .func (.func f) #[] #[] := rfl
  simp [hop, resolve, invoke, hx, hy, hf, hent, Deferred.ofValue]
  refine hc.mono ?_
  rintro e w' ⟨r, rfl, h⟩
  exact hK r w' h
end Go.Proofs.Ytlgnklpaebgnlaa
