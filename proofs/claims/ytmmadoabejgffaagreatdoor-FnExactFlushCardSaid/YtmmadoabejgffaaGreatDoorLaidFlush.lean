/-
  Proofs.
-/
import Derived.Test.YtmmadoabejgffaaGreatDoorCards
import Derived.Test.YtmmadoabejgffaaGreatDoorTie
import Derived.Test.YtmmadoabejgffaaGreatDoorL
import Derived.Test.YtmmadoabejgffaaGreatDoorSendP
import Derived.ProofKit
import Derived.OpenShut
import Derived.ShutString
import Derived.Deep.DeepHandedRow
import Derived.LaidLaws
import Derived.LaidHandle
import Derived.Stop.Joined
import Derived.Stop.LaidErr
import Derived.Stop.LaidTwo
import Derived.RowKitTokens
namespace Go.Proofs.YtmmadoabejgffaaGreatDoor
open Go.ChangeShapes Go.WideShapes Go.ChangeAt Go.RowKit
set_option maxRecDepth 100000
theorem own:ownKnob Tryz.prog.godebug=none:=by kernel_rfl
theorem gErr : Tryz.prog.globalNamed "errors.errorType" = some 3 := by kernel_rfl
theorem rtErr : (Tryz.prog.cutTypes.find? (·.1 == "internal/reflectlite.rtype")).map (·.2) = some 249 := by kernel_rfl
theorem rowErr:((List.range 335).filter fun t=>Tryz.prog.rowNamed t [101,114,114,111,114])=[166]:=by kernel_rfl
theorem sizeTypes:Tryz.prog.types.size=335:=by kernel_rfl
theorem et_of {W : World} (h' : handlesMet Tryz.prog [("errors.errorType", Rows.laid_errors_errorType)] W) : ET W := by
 obtain ⟨name,u,ty,e1,e2,e3,e4,e5⟩:=h' _ (List.mem_singleton.2 rfl)
 have en:name=[101,114,114,111,114]:=(Option.some.inj e1).symm
 subst en
 obtain rfl:=Option.some.inj (rtErr.symm.trans e2)
 have hm:ty ∈ (List.range 335).filter fun t=>Tryz.prog.rowNamed t [101,114,114,111,114]:=List.mem_filter.2 ⟨List.mem_range.2 (by rw [← sizeTypes]; exact e3),e4⟩
 rw [rowErr] at hm
 obtain rfl:=List.mem_singleton.1 hm
 have hh:typeHandle Tryz.prog 166 = .pointer (some ⟨4,166,none⟩):=by kernel_rfl
 rw [hh] at e5
 unfold ET
 simpa using World.var?_cell gErr e5 0
theorem gNL : Tryz.prog.globalNamed "loop.example/g00303/impl.errNoLink" = some 0 := by kernel_rfl
theorem gNM : Tryz.prog.globalNamed "loop.example/g00303/impl.errNoMsg" = some 1 := by kernel_rfl
theorem gNR : Tryz.prog.globalNamed "loop.example/g00303/impl.errNoRoom" = some 2 := by kernel_rfl
theorem tNL:(Tryz.prog.globals[0]?).map (·.type)=some 166:=by kernel_rfl
theorem tNM:(Tryz.prog.globals[1]?).map (·.type)=some 166:=by kernel_rfl
theorem tNR:(Tryz.prog.globals[2]?).map (·.type)=some 166:=by kernel_rfl
theorem cellsES:Tryz.prog.cellsOf 323=1:=by kernel_rfl
theorem cellsStr:Tryz.prog.cellsOf 9=1:=by kernel_rfl
theorem starES : "*" ++ "errors.errorString" = "*errors.errorString" := by decide
theorem rowES (u : TypeId) (h : Tryz.prog.typeName? 3 u = some "*errors.errorString") : u = 304 :=
 typeName_ptr_named (nm := "errors.errorString") (by rw [starES]; kernel_rfl) (by kernel_rfl) (by decide) u (by rw [starES]; exact h)
theorem laidMet_drop {P:Program} {x y:String×DataW Unit} {r:List (String×DataW Unit)} {w:World} (h:laidMet P (x :: y :: r) w):laidMet P (x :: r) w:=by
 obtain ⟨ps,hv,hnd,hrows⟩:=h
 obtain ⟨n,d⟩:=x
 obtain ⟨n',d'⟩:=y
 obtain ⟨g,t,cs,fuel,p,q,h1,h2,h3,h4,⟨g',t',cs',fuel',p',q',_,_,_,_,hq,rfl⟩,rfl⟩:=hv
 refine ⟨MemPlace.row ⟨g,0,none⟩ cs.size ++ p ++ q',⟨g,t,cs,fuel,p,q',h1,h2,h3,h4,hq,rfl⟩,?_,?_⟩
 ·exact List.Nodup.sublist (List.Sublist.append (List.Sublist.refl _) (List.sublist_append_right _ _)) hnd
 ·intro b off hm
  refine hrows b off ?_
  rcases List.mem_append.1 hm with h | h
  ·exact List.mem_append_left _ h
  ·exact List.mem_append_right _ (List.mem_append_right _ h)
theorem errV_inj {W:World} {n:String} {a b:Addr} (h:W.var? Tryz.prog n=some #[errV a]) (h':W.var? Tryz.prog n=some #[errV b]):a=b:=by
 have:=h.symm.trans h'
 simp at this
 exact this
theorem send_laid {W : World} (h : laidMetH Tryz.prog Rows.fnExactFlushRow.laid W) : ∃ a0 a1 a2, EG a0 a1 a2 W ∧ ET W ∧ W.var? Tryz.prog "loop.example/g00303/impl.errNoLink" = some #[errV a0] ∧ W.var? Tryz.prog "loop.example/g00303/impl.errNoMsg" = some #[errV a1] ∧ W.var? Tryz.prog "loop.example/g00303/impl.errNoRoom" = some #[errV a2] := by
 have h' : laidMet Tryz.prog [("loop.example/g00303/impl.errNoLink", Rows.laid_loop_example_g00303_impl_errNoLink), ("loop.example/g00303/impl.errNoMsg", Rows.laid_loop_example_g00303_impl_errNoMsg), ("loop.example/g00303/impl.errNoRoom", Rows.laid_loop_example_g00303_impl_errNoRoom)] W ∧ handlesMet Tryz.prog [("errors.errorType", Rows.laid_errors_errorType)] W := h
 obtain ⟨a0,a1,_,_,c0,c1,t0,t1,hv0,hv1,_,_,_,_,_,_,hne01,hb0,hb1⟩:=laid_sentinels2 h'.1 gNL tNL gNM tNM Tryz.underlying166 rowES Tryz.underlying304 Tryz.underlying323 rfl rfl Tryz.underlying9 cellsES cellsStr
 obtain ⟨b0,a2,_,_,_,c2,_,t2,hx0,hv2,_,_,_,_,_,_,hne02,_,hb2⟩:=laid_sentinels2 (laidMet_drop h'.1) gNL tNL gNR tNR Tryz.underlying166 rowES Tryz.underlying304 Tryz.underlying323 rfl rfl Tryz.underlying9 cellsES cellsStr
 obtain ⟨b1,b2,_,_,_,_,_,_,hx1,hx2,_,_,_,_,_,_,hne12,_,_⟩:=laid_sentinels2 (laidMet.tail h'.1) gNM tNM gNR tNR Tryz.underlying166 rowES Tryz.underlying304 Tryz.underlying323 rfl rfl Tryz.underlying9 cellsES cellsStr
 obtain rfl:=errV_inj hx0 hv0
 obtain rfl:=errV_inj hx1 hv1
 obtain rfl:=errV_inj hx2 hv2
 exact ⟨b0,b1,b2,⟨by simpa using World.var?_cell gNL hv0 0,by simpa using World.var?_cell gNM hv1 0,by simpa using World.var?_cell gNR hv2 0,⟨c0,t0,hb0⟩,⟨c1,t1,hb1⟩,⟨c2,t2,hb2⟩,⟨hne01,hne02,hne12⟩⟩,et_of h'.2,hv0,hv1,hv2⟩
theorem var_below {W W':World} {n:String} {cs:Array Value} (h:W.var? Tryz.prog n=some cs) (hb:Below W.heap.size W W'):W'.var? Tryz.prog n=some cs:=by
 unfold World.var? at h ⊢
 cases hg:Tryz.prog.globalNamed n with
 | none=>simp [hg] at h
 | some g =>
  simp only [hg,Option.bind_some] at h ⊢
  have hlt:g<W.heap.size:=by
   rcases Nat.lt_or_ge g W.heap.size with h' | h'
   ·exact h'
   ·simp [Array.getElem?_eq_none h'] at h
  rw [hb.block g hlt]
  exact h
theorem vars3 {H : Type} (enc : TypeId × Value → H) {W : World} {a0 a1 a2 : Addr} (h0 : W.var? Tryz.prog "loop.example/g00303/impl.errNoLink" = some #[errV a0]) (h1 : W.var? Tryz.prog "loop.example/g00303/impl.errNoMsg" = some #[errV a1]) (h2 : W.var? Tryz.prog "loop.example/g00303/impl.errNoRoom" = some #[errV a2]) (sp : Nat → Bool) :
  DataW.TrodVars enc Tryz.prog W sp ["loop.example/g00303/impl.errNoLink", "loop.example/g00303/impl.errNoMsg", "loop.example/g00303/impl.errNoRoom"] [tok enc (errV a0), tok enc (errV a1), tok enc (errV a2)] [.cell 0 0, .cell 1 0, .cell 2 0] :=
 ⟨_,166,#[errV a0],1,[],_,gNL,tNL,h0,trod_held (v:=errV a0) Tryz.underlying166 trivial 0,vars_read2 enc gNM tNM Tryz.underlying166 h1 trivial gNR tNR Tryz.underlying166 h2 trivial sp,rfl⟩
noncomputable def lowS:Nat:=(World.holding Tryz.prog default ⟨#[],#[],[]⟩).heap.size
noncomputable def laidWorldS (os:Os):World :=
 let w0:=World.holding Tryz.prog os ⟨#[.cells #[.string ⟨#[116,104,101,32,108,105,110,107,32,105,115,32,110,111,116,32,114,105,103,104,116]⟩] 323,.cells #[.string ⟨#[116,104,101,32,109,101,115,115,97,103,101,32,105,115,32,110,111,110,101,32,111,102,32,116,104,105,115,32,110,111,100,101,32,116,111,32,97,110,111,116,104,101,114,32,111,110,101]⟩] 323,.cells #[.string ⟨#[116,104,101,114,101,32,105,115,32,110,111,32,114,111,111,109,32,102,111,114,32,111,110,101,32,109,111,114,101,44,32,111,114,32,110,111,32,110,117,109,98,101,114]⟩] 323],#[],[]⟩
 { w0 with heap:=(((w0.heap.modify 0 fun
   | .cells _ t frozen => .cells #[errV ⟨lowS,0,none⟩] t frozen
   | o=>o).modify 1 fun
   | .cells _ t frozen => .cells #[errV ⟨lowS+1,0,none⟩] t frozen
   | o=>o).modify 2 fun
   | .cells _ t frozen => .cells #[errV ⟨lowS+2,0,none⟩] t frozen
   | o=>o).modify 3 fun
   | .cells _ t frozen => .cells #[.iface 249 (.agg #[.pointer (some ⟨4,166,none⟩)])] t frozen
   | o=>o }
end Go.Proofs.YtmmadoabejgffaaGreatDoor
