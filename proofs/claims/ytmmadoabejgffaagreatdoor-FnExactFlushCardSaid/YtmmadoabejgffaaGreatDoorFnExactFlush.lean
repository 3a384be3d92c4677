/-
  At every node the program's Flush answers as the specification's, writes into no argument, its answer owns its memory, and the law's call changes nothing that was there; the library's variable and the program's three errors that the row lists hold what the program's text lays, and the card ties that; no further condition.
-/
import Derived.Test.YtmmadoabejgffaaGreatDoorLawFlush
import Derived.Test.YtmmadoabejgffaaGreatDoorLaidFlush
import Derived.Test.YtmmadoabejgffaaGreatDoorOA
import Derived.ChangeOld
import Derived.OpenShut
namespace Go.Proofs.YtmmadoabejgffaaGreatDoor
open Go.ChangeShapes Go.WideShapes Go.ChangeAt Go.RowKit Go.Joins
set_option maxRecDepth 100000
namespace fnExactFlush
theorem laidOut:laidOutB Tryz.prog=true:=by kernel_rfl
theorem contract (H:Type) (enc:TypeId×Value→H) (W:World) (base:Nat) (args:Array Value) (ds gs:List (DataW H)) (before:List MemPlace)
  (hval:∀ (j:Nat) t v,Tryz.f3.params[j]? = some t→args[j]? = some v→Value.okWide Tryz.prog W .any base t v)
  (hW:DataW.Whole enc Tryz.prog Tryz.f3.params.toList Rows.fnExactFlushSpec.vars false W args.toList ds gs before) (hL:laidMetH Tryz.prog Rows.fnExactFlushRow.laid W) :
  Calls Tryz.prog 3 args W fun e W'=>∃ v,e = .returned v∧Rows.fnExactFlushSpec.post enc Tryz.prog Tryz.f3 false true false false W args v W':=by
 have hW':=hW
 obtain ⟨p,q,hA0,hV,rfl,hfz,hnd⟩:=hW
 have hA:DataW.TrodAll enc Tryz.prog W 0 (fun _=>true) true Tryz.f3.params.toList args.toList ds p:=hA0
 rw [Tryz.params3] at hA hval
 obtain ⟨v0,vs0,d0,ds0,p0,q0,hargs,rfl,rfl,h0,r0⟩:=trodAll_cons hA
 obtain ⟨rfl,rfl,rfl⟩:=trodAll_nil r0
 obtain rfl:args = #[v0]:=by cases args; simp_all
 obtain ⟨a0,a1,a2,heg,het,hv0,hv1,hv2⟩:=send_laid hL
 have hV' : DataW.TrodVars enc Tryz.prog W (fun _ => true) ["loop.example/g00303/impl.errNoLink", "loop.example/g00303/impl.errNoMsg", "loop.example/g00303/impl.errNoRoom"] gs q := hV
 obtain ⟨rfl,rfl⟩:=hV'.unique (vars3 enc hv0 hv1 hv2 _)
 have k0:=h0
 have lt0:∀ x ∈ p0,x.block<W.heap.size:=by obtain ⟨m,hm⟩:=k0; exact DataW.trod_lt m _ _ _ hm
 obtain ⟨vs,r,rfl,hP,hx⟩:=open_top openPeer (okWide_struct Tryz.underlying36 (hval 0 36 v0 rfl rfl)) h0
 clear hA0
 refine (lawFlush_walk vs r W a0 a1 a2 hP hx het heg).mono fun e W' ⟨he,bel⟩ => ?_
 subst he
 exact ⟨_,rfl,_,_,_,[],_,[.cell 0 0,.cell 1 0,.cell 2 0],hW',trodAll_mk1 (shut_bool Tryz.underlying4 _),(trodAll_cons_mk (Below.trod laidOut (by kernel_rfl) (of_decide_eq_true (by kernel_rfl)) k0 bel lt0) trodAll_mk0),vars3 enc (var_below hv0 bel) (var_below hv1 bel) (var_below hv2 bel) _,bel.frame _,fun h=>by cases h⟩
theorem laid_met (os:Os):laidMetH Tryz.prog Rows.fnExactFlushRow.laid ((laidWorldS os).forCall (fun _ _=>0) ⟨#[],#[.agg #[.slice none 0 0,.slice none 0 0,.slice none 0 0,.slice none 0 0,.slice none 0 0,.slice none 0 0,.slice none 0 0,.int .i64 0,.int .i64 0,.slice none 0 0,.slice none 0 0]],[]⟩).memory :=
 laidMetH_of_parts (laidMet_of_run' 8 (by kernel_rfl) (by kernel_rfl)) (by kernel_rfl)
theorem reads (os:Os) {H:Type} (enc:TypeId×Value→H):∃ places,DataW.whole enc Tryz.prog ((laidWorldS os).forCall (fun _ _=>0) ⟨#[],#[.agg #[.slice none 0 0,.slice none 0 0,.slice none 0 0,.slice none 0 0,.slice none 0 0,.slice none 0 0,.slice none 0 0,.int .i64 0,.int .i64 0,.slice none 0 0,.slice none 0 0]],[]⟩).memory Tryz.f3.params.toList Rows.fnExactFlushSpec.vars false #[Value.agg #[.slice none 0 0,.slice none 0 0,.slice none 0 0,.slice none 0 0,.slice none 0 0,.slice none 0 0,.slice none 0 0,.int .i64 0,.int .i64 0,.slice none 0 0,.slice none 0 0]].toList 8=some ([.agg [.agg [.agg [.nil,.nil],.nil,.nil,.nil,.nil,.nil],.agg [.lit (.int .i64 0),.lit (.int .i64 0),.nil,.nil]]],[tok enc (errV ⟨lowS,0,none⟩),tok enc (errV ⟨lowS+1,0,none⟩),tok enc (errV ⟨lowS+2,0,none⟩)],places) :=
 ⟨[.cell 0 0,.cell 1 0,.cell 2 0],by kernel_rfl⟩
theorem lifted (os:Os) (started:os.Started) (H:Type) (enc:TypeId×Value→H) (F:Stop.Interp) :
  ReturnsInHanded {} Tryz.checked os 3 .any ((OpenSpec.ofChange Rows.fnExactFlushSpec).preRow enc Tryz.prog Tryz.f3 Rows.fnExactFlushRow.domain false Rows.fnExactFlushRow.laid) (((OpenSpec.ofChange Rows.fnExactFlushSpec).at F).post enc Tryz.prog Tryz.f3 false true false false):=by
 obtain ⟨places,hx⟩:=reads os enc
 refine returnsInHanded_of_row (C:=Tryz.checked) (s:=OpenSpec.ofChange Rows.fnExactFlushSpec) own started (by kernel_rfl) Tryz.func3
  (witness_row_at (enc:=enc) (C:=Tryz.checked) false (laidWorldS os) #[.agg #[.slice none 0 0,.slice none 0 0,.slice none 0 0,.slice none 0 0,.slice none 0 0,.slice none 0 0,.slice none 0 0,.int .i64 0,.int .i64 0,.slice none 0 0,.slice none 0 0]] rfl (by kernel_rfl) (by kernel_rfl) (by kernel_rfl)
   (OpenSpec.preRow_of_cond 8 hx (by kernel_rfl) (fun k hk=>by cases hk) (by kernel_rfl) (laid_met os))) ?_
 intro W base args ds gs before hval hW _ _ _ hL _ _
 exact contract H enc W base args ds gs before hval hW hL
theorem said:Rows.FnExactFlushSaid :=
 OpenClaim.holds_of_cond 3 Tryz.f3 rfl rfl rfl rfl rfl rfl rfl ⟨rfl,rfl,rfl,rfl,rfl⟩ rfl rfl rfl rfl rfl (by kernel_rfl) Tryz.func3 (by kernel_rfl)
  (of_decide_eq_true (by kernel_rfl)) (by unfold Func.isWrapper; first | (rw [if_pos (by decide +kernel)]; kernel_rfl) | (rw [if_neg (by decide +kernel)]; exact ⟨rfl,rfl⟩))
  (fun os started H enc _ F=>by rw [OpenClaim.pre_eq_preRow]; exact lifted os started H enc F)
theorem plain (f : FuncId) (fn : Func) (hf : Tryz.pinned.checked.prog.funcNamed "loop.example/g00303/laws.FnExactFlush" = some f) (hfn : Tryz.pinned.checked.prog.funcs[f]? = some fn) :
  true=Tryz.pinned.checked.prog.looks []∧∀ (j:Nat) t,fn.params[j]? = some t→Tryz.pinned.checked.prog.wantsStandIn t=false:=by
 obtain rfl : f = 3 := Option.some.inj ((show Tryz.prog.funcNamed "loop.example/g00303/laws.FnExactFlush" = some 3 by kernel_rfl).symm.trans hf) |>.symm
 obtain rfl:fn=Tryz.f3:=(Option.some.inj (Tryz.func3.symm.trans hfn)).symm
 refine ⟨by kernel_rfl,fun j t ht => ?_⟩
 rw [Tryz.params3] at ht
 obtain rfl:t=36:=by simpa using Array.mem_of_getElem? ht
 exact (show Tryz.prog.wantsStandIn 36=false by kernel_rfl)
end fnExactFlush
theorem fnExactFlush_holds:Rows.FnExactFlushCardSaid :=
 Claim7.holds_tied_plain_at .later [] _ _ _ _ fnExactFlush.said (fun _ h=>by cases h) (by kernel_rfl) (fun _ h=>by cases h) fnExactFlush_row_tie rfl ⟨rfl,rfl⟩ (by kernel_rfl) rfl fnExactFlush.plain (by kernel_rfl)
#print axioms fnExactFlush_holds
end Go.Proofs.YtmmadoabejgffaaGreatDoor
