/-
  At every two expressions the program's SameExp answers as the specification's, writes into neither, and the law's call changes nothing that was there; no condition.
-/
import Derived.Test.YtnhjfehkllaonabFnExactSameExp
import Derived.Test.YtnhjfehkllaonabSameLoop
import Derived.ChangeOld
namespace Go.Proofs.Ytnhjfehkllaonab.fnExactSameExp
open Go.ChangeShapes Go.WideShapes Go.ChangeAt Go.RowKit Go.Joins

set_option maxRecDepth 100000

theorem implSame : ImplSame := fun d v1 v2 x y w h1 h2 hx _ => same_walk d v1 v2 x y w h1 h2 hx

theorem own : ownKnob Try.prog.godebug = none := by kernel_rfl
theorem laidOut : laidOutB Try.prog = true := by kernel_rfl

theorem lifted (os : Os) (started : os.Started) (H : Type) (enc : TypeId × Value → H) :
    ReturnsInHanded {} Try.checked os 3 .any (Rows.fnExactSameExpSpec.pre6 enc Try.prog Try.f3 Rows.fnExactSameExpRow.domain false) (Rows.fnExactSameExpSpec.post enc Try.prog Try.f3 false true false false) := by
  refine returnsInHanded_of_change (C := Try.checked) own started (by kernel_rfl) Try.func3
    (ChangeSpec.witness6 (enc := enc) (C := Try.checked) false ⟨#[], #[.agg #[.int .i64 0, .int .i64 0, .string ByteArray.empty, .slice none 0 0], .agg #[.int .i64 0, .int .i64 0, .string ByteArray.empty, .slice none 0 0]], []⟩ 8 (by kernel_rfl) (by kernel_rfl) (by kernel_rfl) (by kernel_rfl)) ?_
  intro W base args ds gs before hval0 hW hcnd _
  have hval : ∀ (j : Nat) t v, Try.f3.params[j]? = some t → args[j]? = some v → Value.okWide Try.prog W .any base t v := hval0
  have hW' := hW
  obtain ⟨p, q, hA0, hV, rfl, hfz, hnd⟩ := hW
  have hA : DataW.TrodAll enc Try.prog W 0 (fun _ => true) true Try.f3.params.toList args.toList ds p := hA0
  rw [Try.params3] at hA hval
  obtain ⟨v0, vs0, d0, ds0, p0, q0, hargs, rfl, rfl, h0, r0⟩ := trodAll_cons hA
  obtain ⟨v1, vs1, d1, ds1, p1, q1, hargs1, rfl, rfl, h1, r1⟩ := trodAll_cons r0
  obtain ⟨rfl, rfl, rfl⟩ := trodAll_nil r1
  obtain rfl : args = #[v0, v1] := by cases args; simp_all
  obtain ⟨rfl, rfl⟩ := trodVars_none hV
  have k0 := h0
  have k1 := h1
  have lt0 : ∀ x ∈ p0, x.block < W.heap.size := by obtain ⟨m, hm⟩ := k0; exact DataW.trod_lt m _ _ _ hm
  have lt1 : ∀ x ∈ p1, x.block < W.heap.size := by obtain ⟨m, hm⟩ := k1; exact DataW.trod_lt m _ _ _ hm
  obtain ⟨x, dx, hx⟩ := open_exp (okWide_struct Try.underlying24 (hval 0 24 v0 rfl rfl)) h0
  obtain ⟨y, dy, hy⟩ := open_exp (okWide_struct Try.underlying24 (hval 1 24 v1 rfl rfl)) h1
  clear hA0 hval0
  have hx' : ExAt W (fun _ => True) (dx + dy) v0 x := by
    obtain ⟨kv, e1, e2, e3, e4, e5⟩ := hx
    exact ⟨kv, e1, e2, e3, e4, e5.deep (by omega)⟩
  have hy' : ExAt W (fun _ => True) (dx + dy) v1 y := by
    obtain ⟨kv, e1, e2, e3, e4, e5⟩ := hy
    exact ⟨kv, e1, e2, e3, e4, e5.deep (by omega)⟩
  refine (walk implSame _ v0 v1 x y W hx' hy').mono fun e W' ⟨he, bel⟩ => ?_
  subst he
  exact ⟨_, rfl, _, _, _, [], _, [], hW', trodAll_mk1 (shut_bool Try.underlying4 _), (trodAll_cons_mk (Below.trod laidOut (by kernel_rfl) (of_decide_eq_true (by kernel_rfl)) k0 bel lt0) (trodAll_cons_mk (Below.trod laidOut (by kernel_rfl) (of_decide_eq_true (by kernel_rfl)) k1 bel lt1) trodAll_mk0)), rfl, bel.frame _, fun h => by cases h⟩

theorem over : Rows.fnExactSameExpRow.holds Try.pinned (OpenSpec.ofChange Rows.fnExactSameExpSpec) :=
  OpenClaim.holds_of_wide 3 Try.f3 rfl rfl rfl rfl rfl rfl rfl ⟨rfl, rfl, rfl, rfl, rfl⟩ rfl rfl rfl rfl rfl (by kernel_rfl) Try.func3 (by kernel_rfl)
    (of_decide_eq_true (by kernel_rfl)) (by unfold Func.isWrapper; first | (rw [if_pos (by decide +kernel)]; kernel_rfl) | (rw [if_neg (by decide +kernel)]; exact ⟨rfl, rfl⟩))
    (fun os started H enc _ => lifted os started H enc)

end Go.Proofs.Ytnhjfehkllaonab.fnExactSameExp
namespace Go.Proofs.Ytnhjfehkllaonab
theorem fnExactSameExp_holds : Rows.FnExactSameExpSaid := fnExactSameExp.over
#print axioms fnExactSameExp_holds
end Go.Proofs.Ytnhjfehkllaonab
