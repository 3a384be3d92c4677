/-
  Proofs.
-/
import Derived.Test.YtmmadoabejgffaaGreatDoorA
import Derived.Test.YtmmadoabejgffaaGreatDoorLinkSendS
import Derived.Test.YtmmadoabejgffaaGreatDoorU
import Derived.Test.YtmmadoabejgffaaGreatDoorL
import Derived.Test.YtmmadoabejgffaaGreatDoorD
import Derived.Deep.RegionHeld3
namespace Go.Proofs.YtmmadoabejgffaaGreatDoor
open Go.RowKit Go.Joins Go.Shelf
set_option maxRecDepth 100000
structure EG (a0 a1 a2:Addr) (w:World):Prop where
 g0:w.cell? ⟨0,0,none⟩=some (errV a0)
 g1:w.cell? ⟨1,0,none⟩=some (errV a1)
 g2:w.cell? ⟨2,0,none⟩=some (errV a2)
 b0:∃ c t,w.heap[a0.block]? = some (.cells c t (0,0))
 b1:∃ c t,w.heap[a1.block]? = some (.cells c t (0,0))
 b2:∃ c t,w.heap[a2.block]? = some (.cells c t (0,0))
 ne:a0≠a1∧a0≠a2∧a1≠a2
theorem EG.below {a0 a1 a2:Addr} {w w':World} (h:EG a0 a1 a2 w) (hb:Below w.heap.size w w'):EG a0 a1 a2 w':=by
 have hl:∀ {b:Nat} {u:Value},w.cell? ⟨b,0,none⟩=some u→w'.cell? ⟨b,0,none⟩=some u:=fun {b u} hc=>by
  have hlt:b<w.heap.size:=World.block_lt_of_cell? _ _ hc
  rw [hb.cell (by exact hlt)]
  exact hc
 have hk:∀ {b:Nat} {o:Obj},w.heap[b]? = some o→w'.heap[b]? = some o:=fun hc=>(hb.block _ (lh hc)).trans hc
 obtain ⟨c0,t0,e0⟩:=h.b0
 obtain ⟨c1,t1,e1⟩:=h.b1
 obtain ⟨c2,t2,e2⟩:=h.b2
 exact ⟨hl h.g0,hl h.g1,hl h.g2,⟨c0,t0,hk e0⟩,⟨c1,t1,hk e1⟩,⟨c2,t2,hk e2⟩,h.ne⟩
theorem obm {W:World} {b b':Nat} {l:Lk} {m:Ms} {ov sv kv:Value} {t t':TypeId} (h:W.heap[b]? = some (.cells (l.row ov sv) t)) (h':W.heap[b']? = some (.cells (m.row kv) t')):W.cell? ⟨b,0,none⟩=some (.int .i64 l.id)∧W.cell? ⟨b,1,none⟩=some (.int .i64 l.next)∧W.cell? ⟨b,2,none⟩=some ov∧W.cell? ⟨b,3,none⟩=some sv∧W.cell? ⟨b',0,none⟩=some (.int .i64 m.kind)∧W.cell? ⟨b',1,none⟩=some (.int .i64 m.frm)∧W.cell? ⟨b',2,none⟩=some (.int .i64 m.dst)∧W.cell? ⟨b',3,none⟩=some (.int .i64 m.id)∧W.cell? ⟨b',4,none⟩=some (.int .i64 m.want)∧W.cell? ⟨b',5,none⟩=some (.int .i64 m.cell.kind)∧W.cell? ⟨b',6,none⟩=some (.int .i64 m.cell.n)∧W.cell? ⟨b',7,none⟩=some (.int .i64 m.cell.pos)∧W.cell? ⟨b',8,none⟩=some kv:=by
 obtain ⟨h0,h1,h2,h3⟩:=lbox h
 obtain ⟨y0,y1,y2,y3,y4,y5,y6,y7,y8⟩:=boxM h'
 exact ⟨h0,h1,h2,h3,y0,y1,y2,y3,y4,y5,y6,y7,y8⟩
theorem ent_msgOk:∀ args w,(callFunc 144 args).run Tryz.prog w = .ok (.enter 144 args) w:=enters_of Tryz.func144 (by kernel_rfl) rfl
theorem ent_isOwn:∀ args w,(callFunc 145 args).run Tryz.prog w = .ok (.enter 145 args) w:=enters_of Tryz.func145 (by kernel_rfl) rfl
theorem ent_putMsg:∀ args w,(callFunc 146 args).run Tryz.prog w = .ok (.enter 146 args) w:=enters_of Tryz.func146 (by kernel_rfl) rfl
theorem obs {W:World} {b b':Nat} {l:Lk} {m:Ms} {ov sv kv:Value} {t t':TypeId} (h:W.heap[b]? = some (.cells (l.row ov sv) t)) (h':W.heap[b']? = some (.cells (m.row kv) t')):W.cell? ⟨b,1,none⟩=some (.int .i64 l.next)∧W.cell? ⟨b',0,none⟩=some (.int .i64 m.kind)∧W.cell? ⟨b',1,none⟩=some (.int .i64 m.frm)∧W.cell? ⟨b',2,none⟩=some (.int .i64 m.dst)∧W.cell? ⟨b',3,none⟩=some (.int .i64 m.id)∧W.cell? ⟨b',4,none⟩=some (.int .i64 m.want)∧W.cell? ⟨b',5,none⟩=some (.int .i64 m.cell.kind)∧W.cell? ⟨b',6,none⟩=some (.int .i64 m.cell.n)∧W.cell? ⟨b',7,none⟩=some (.int .i64 m.cell.pos)∧W.cell? ⟨b',8,none⟩=some kv:=by
 obtain ⟨h0,h1,h2,h3⟩:=lbox h
 obtain ⟨y0,y1,y2,y3,y4,y5,y6,y7,y8⟩:=boxM h'
 exact ⟨h1,y0,y1,y2,y3,y4,y5,y6,y7,y8⟩
theorem step_callW {P:Program} {ops:Array Oper} {o:Oper} {a:Act} {w:World} {K:Act→World→Prop} {Q:Exit→Act→World→Prop} {E:Prop}
  (hw:Region.wanted o (yielded ops a.tmps)=true) (f:FuncId) (x y:Operand) (ts:Array TypeId) (hop:o.op=Op.call { callee:=Callee.value (.func f),args:=#[x,y],argTypes:=ts }) (hent:∀ args w,(callFunc f args).run P w = .ok (.enter f args) w)
  (u v:Value) (hx:a.eval x=u) (hy:a.eval y=v) (Post:Value→World→Prop) (hc:Calls P f #[u,v] w fun e w'=>∃ r,e = .returned r∧Post r w') (hK:∀ r w',Post r w'→K (a.put o.dst r) w') :
  if Region.wanted o (yielded ops a.tmps)=true then Oper.wp P o a w K Q else E:=by
 rw [if_pos hw]
 unfold Oper.wp execOp
 have hf:a.eval (.func f) = .func (.func f) #[] #[]:=rfl
 simp [hop,resolve,invoke,hx,hy,hf,hent,Deferred.ofValue]
 refine hc.mono ?_
 rintro e w' ⟨r,rfl,h⟩
 exact hK r w' h
set_option maxHeartbeats 1600000 in
theorem send_any {w W:World} {l:Lk} {m:Ms} {lov lsv:Value} {ka oa1 sa1:Option Addr} {kc oc1 sc1 ob Bc:Nat} {rs:List (Se×Value)} {T:Nat→Prop} {a0 a1 a2:Addr}
  (h:SdSt w W l m lov lsv (.slice ka m.cell.kids.length kc) ob Bc l (.slice oa1 l.out.length oc1) (.slice sa1 l.seen.length sc1) rs)
  (hm:MsAt W T (.agg (m.row (.slice ka m.cell.kids.length kc))) m) (hb:l.bulk≤1048576) (he:EG a0 a1 a2 W) (hg:ET W) :
  Calls Tryz.prog 102 #[.pointer (some ⟨ob,0,none⟩),.agg (m.row (.slice ka m.cell.kids.length kc))] W fun e W' =>
   (l.goes m=false∧(∃ a,(a=a0∨a=a1∨a=a2)∧e = .returned (errV a))∧Below W.heap.size W W') ∨
   (l.goes m=true∧e = .returned .nilIface∧∃ a6 c6,SdSt w W' l m lov lsv (.slice ka m.cell.kids.length kc) ob Bc (l.push m) (.slice a6 (l.out.length+1) c6) (.slice sa1 l.seen.length sc1) rs):=by
 have hnot:=ex_not
 obtain ⟨i0,hi,hz0,hz1,hz2⟩:=info_parts infoSent
 obtain ⟨W0,hW0⟩:∃ W0,W0=W.alloc (.cells (m.row (.slice ka m.cell.kids.length kc)) 67):=⟨_,rfl⟩
 have B0:Below W.heap.size W W0:=by rw [hW0]; exact (Below.refl _ W).alloc (Nat.le_refl _) _
 have O0:W0.heap[W.heap.size]? = some (.cells (m.row (.slice ka m.cell.kids.length kc)) 67):=by rw [hW0]; exact (MapKept.heap_alloc W _).1
 have hs0:W.heap.size+1≤W0.heap.size:=lh O0
 have st0:=h.below B0
 have H0:=(show Hid (_∧_∧_∧_) from ⟨B0,O0,st0,hW0⟩)
 have HL:=(show Hid (_∧_∧_∧_) from ⟨hm,he,hg,h⟩)
 obtain ⟨p0,p1,p2,p3⟩:=lbox h.obx
 have hob:ob<W.heap.size:=lh h.obx
 have hsl:l.seen.length≤maxLen:=by obtain ⟨_,_,_,_,_,_,h4⟩:=h.own.at; exact h4.len
 clear B0 O0 hW0 st0 h hm he hg
 go_enter Tryz.func102,Tryz.ntmps102
 go_wp2_with fail
 clear p0 p1 p2 p3
 rw [← (show W0=_ from H0.out.2.2.2)]
 refine (implLinkOk_any _ l _ W0 H0.out.2.2.1.own.at hb (HL.out.2.2.1.below H0.out.1)).mono ?_
 rintro e w1 ⟨rfl,b1⟩
 have hs1:W0.heap.size≤w1.heap.size:=b1.size
 have b01:=H0.out.1.trans (b1.mono (by omega))
 have H1:=(show Hid (_∧_∧_∧_) from ⟨b01,(b1.block _ (lh H0.out.2.1)).trans H0.out.2.1,H0.out.2.2.1.below b1,HL.out.2.1.below b01⟩)
 have hs01:W.heap.size≤w1.heap.size:=by omega
 clear b1 b01 H0
 cases hlo:l.ok with
 | false =>
  have HN:Hid (l.goes m=false):=by show _=_; unfold Lk.goes; rw [hlo]; rfl
  clear hlo
  have g0:=H1.out.2.2.2.g0
  go_wp2
  go_ret
  exact .inl ⟨HN.out,⟨a0,.inl rfl,rfl⟩,H1.out.1⟩
 | true =>
 have hS1:=obm H1.out.2.2.1.obx H1.out.2.1
 have K1:=(show Hid (_∧_) from ⟨fun (wx:World) (hx:Below w1.heap.size w1 wx)=>obm ((hx.block _ (lh H1.out.2.2.1.obx)).trans H1.out.2.2.1.obx) ((hx.block _ (lh H1.out.2.1)).trans H1.out.2.1),(Below.refl w1.heap.size w1).drew⟩)
 go_wp2_with fail
 refine wp_region_held_drew (S:=fun w'=>w'.cell? ⟨ob,0,none⟩=some (.int .i64 l.id)∧w'.cell? ⟨ob,1,none⟩=some (.int .i64 l.next)∧w'.cell? ⟨ob,2,none⟩=some (.slice oa1 l.out.length oc1)∧w'.cell? ⟨ob,3,none⟩=some (.slice sa1 l.seen.length sc1)∧w'.cell? ⟨W.heap.size,0,none⟩=some (.int .i64 m.kind)∧w'.cell? ⟨W.heap.size,1,none⟩=some (.int .i64 m.frm)∧w'.cell? ⟨W.heap.size,2,none⟩=some (.int .i64 m.dst)∧w'.cell? ⟨W.heap.size,3,none⟩=some (.int .i64 m.id)∧w'.cell? ⟨W.heap.size,4,none⟩=some (.int .i64 m.want)∧w'.cell? ⟨W.heap.size,5,none⟩=some (.int .i64 m.cell.kind)∧w'.cell? ⟨W.heap.size,6,none⟩=some (.int .i64 m.cell.n)∧w'.cell? ⟨W.heap.size,7,none⟩=some (.int .i64 m.cell.pos)∧w'.cell? ⟨W.heap.size,8,none⟩=some (.slice ka m.cell.kids.length kc)) (by kernel_rfl) hS1 (fun hS => ?_)
 refine wpAnyH_take (i:=0) (v:=.agg #[.int .i64 m.kind,.int .i64 m.frm,.int .i64 m.dst,.int .i64 m.id,.int .i64 m.want,.int .i64 m.cell.kind,.int .i64 m.cell.n,.int .i64 m.cell.pos,.slice ka m.cell.kids.length kc]) rfl (by kernel_rfl) (by kernel_rfl) (by kernel_rfl) (fun _ _ _ h=>h) (Or.inl ⟨by rfl,?_⟩) hS ?_
 ·intro wq hSw
  obtain ⟨q0,q1,q2,q3,y0,y1,y2,y3,y4,y5,y6,y7,y8⟩:=hSw
  go_simp
 simp only [Act.put,ls]
 refine wpAnyH_ready (rs:=[1]) (by kernel_rfl) (by simp) ?_
 refine AllReadyH.cons rfl (fun K hK => ?_) AllReadyH.nil
 refine step_call1 rfl 144 (.tmp 11) _ rfl ent_msgOk (.agg #[.int .i64 m.kind,.int .i64 m.frm,.int .i64 m.dst,.int .i64 m.id,.int .i64 m.want,.int .i64 m.cell.kind,.int .i64 m.cell.n,.int .i64 m.cell.pos,.slice ka m.cell.kids.length kc]) (by simp [Act.eval]) (fun r w'=>r = .bool m.ok∧Below w1.heap.size w1 w') ((implMsgOk_any _ m T _ (HL.out.1.below (H1.out.1.trans (K1.out.2.mono hs01)))).mono (fun e w' h=>⟨_,h.1,rfl,K1.out.2.trans h.2⟩)) ?_
 rintro r w2 ⟨rfl,b2⟩
 have hs2:w1.heap.size≤w2.heap.size:=b2.size
 have hS2:=K1.out.1 w2 b2
 refine hK.out _ _ hS2 (fun _ => ?_)
 clear hK K
 simp only [Act.put,ls]
 cases hmo:m.ok with
 | false =>
  have HN:Hid (l.goes m=false):=by show _=_; unfold Lk.goes; rw [hmo]; simp
  clear hmo
  refine wpAnyH_take (i:=2) (v:=.bool true) rfl (by kernel_rfl) (by kernel_rfl) (by kernel_rfl) (fun _ _ _ h=>h) (Or.inl ⟨by rfl,?_⟩) hS2 ?_
  ·intro wq hSw
   go_simp
  simp only [Act.put,ls]
  refine wpAnyH_take (i:=3) (v:=.bool true) rfl (by kernel_rfl) (by kernel_rfl) (by kernel_rfl) (fun _ _ _ h=>h) (Or.inl ⟨by rfl,?_⟩) hS2 ?_
  ·intro wq hSw
   go_simp
  simp only [Act.put,ls]
  refine wpAnyH_take (i:=4) (v:=undef) rfl (by kernel_rfl) (by kernel_rfl) (by kernel_rfl) (fun _ _ _ h=>h) (Or.inr ⟨by rfl,rfl⟩) hS2 ?_
  simp only [Act.put,ls]
  refine wpAnyH_take (i:=5) (v:=undef) rfl (by kernel_rfl) (by kernel_rfl) (by kernel_rfl) (fun _ _ _ h=>h) (Or.inr ⟨by rfl,rfl⟩) hS2 ?_
  simp only [Act.put,ls]
  refine wpAnyH_take (i:=6) (v:=undef) rfl (by kernel_rfl) (by kernel_rfl) (by kernel_rfl) (fun _ _ _ h=>h) (Or.inr ⟨by rfl,rfl⟩) hS2 ?_
  simp only [Act.put,ls]
  refine wpAnyH_take (i:=7) (v:=undef) rfl (by kernel_rfl) (by kernel_rfl) (by kernel_rfl) (fun _ _ _ h=>h) (Or.inr ⟨by rfl,rfl⟩) hS2 ?_
  simp only [Act.put,ls]
  refine wpAnyH_take (i:=8) (v:=undef) rfl (by kernel_rfl) (by kernel_rfl) (by kernel_rfl) (fun _ _ _ h=>h) (Or.inr ⟨by rfl,rfl⟩) hS2 ?_
  simp only [Act.put,ls]
  refine wpAnyH_take (i:=9) (v:=undef) rfl (by kernel_rfl) (by kernel_rfl) (by kernel_rfl) (fun _ _ _ h=>h) (Or.inr ⟨by rfl,rfl⟩) hS2 ?_
  simp only [Act.put,ls]
  refine wpAnyH_take (i:=10) (v:=.bool true) rfl (by kernel_rfl) (by kernel_rfl) (by kernel_rfl) (fun _ _ _ h=>h) (Or.inl ⟨by rfl,?_⟩) hS2 ?_
  ·intro wq hSw
   go_simp
  simp only [Act.put,ls]
  refine wpAnyH_done (by kernel_rfl) ?_ _
  have g1:=(H1.out.2.2.2.below b2).g1
  have HB:=(show Hid (_∧True) from ⟨H1.out.1.trans (b2.mono hs01),trivial⟩)
  clear hS1 hS2 hS K1 b2
  go_wp2
  go_ret
  exact .inl ⟨HN.out,⟨a1,.inr (.inl rfl),rfl⟩,HB.out.1⟩
 | true =>
 refine wpAnyH_take (i:=2) (v:=.bool false) rfl (by kernel_rfl) (by kernel_rfl) (by kernel_rfl) (fun _ _ _ h=>h) (Or.inl ⟨by rfl,?_⟩) hS2 ?_
 ·intro wq hSw
  go_simp
 simp only [Act.put,ls]
 refine wpAnyH_take (i:=3) (v:=.bool false) rfl (by kernel_rfl) (by kernel_rfl) (by kernel_rfl) (fun _ _ _ h=>h) (Or.inl ⟨by rfl,?_⟩) hS2 ?_
 ·intro wq hSw
  go_simp
 simp only [Act.put,ls]
 refine wpAnyH_take (i:=4) (v:=.pointer (some ⟨ob,0,none⟩)) rfl (by kernel_rfl) (by kernel_rfl) (by kernel_rfl) (fun _ _ _ h=>h) (Or.inl ⟨by rfl,?_⟩) hS2 ?_
 ·intro wq hSw
  go_simp
 simp only [Act.put,ls]
 refine wpAnyH_take (i:=5) (v:=.pointer (some ⟨ob,0,none⟩)) rfl (by kernel_rfl) (by kernel_rfl) (by kernel_rfl) (fun _ _ _ h=>h) (Or.inl ⟨by rfl,?_⟩) hS2 ?_
 ·intro wq hSw
  go_simp
 simp only [Act.put,ls]
 refine wpAnyH_take (i:=6) (v:=.agg #[.int .i64 l.id,.int .i64 l.next,.slice oa1 l.out.length oc1,.slice sa1 l.seen.length sc1]) rfl (by kernel_rfl) (by kernel_rfl) (by kernel_rfl) (fun _ _ _ h=>h) (Or.inl ⟨by rfl,?_⟩) hS2 ?_
 ·intro wq hSw
  obtain ⟨q0,q1,q2,q3,y0,y1,y2,y3,y4,y5,y6,y7,y8⟩:=hSw
  go_simp
 simp only [Act.put,ls]
 refine wpAnyH_take (i:=7) (v:=.agg #[.int .i64 m.kind,.int .i64 m.frm,.int .i64 m.dst,.int .i64 m.id,.int .i64 m.want,.int .i64 m.cell.kind,.int .i64 m.cell.n,.int .i64 m.cell.pos,.slice ka m.cell.kids.length kc]) rfl (by kernel_rfl) (by kernel_rfl) (by kernel_rfl) (fun _ _ _ h=>h) (Or.inl ⟨by rfl,?_⟩) hS2 ?_
 ·intro wq hSw
  obtain ⟨q0,q1,q2,q3,y0,y1,y2,y3,y4,y5,y6,y7,y8⟩:=hSw
  go_simp
 simp only [Act.put,ls]
 refine wpAnyH_ready (rs:=[8]) (by kernel_rfl) (by simp) ?_
 refine AllReadyH.cons rfl (fun K hK => ?_) AllReadyH.nil
 refine step_callW (by rfl) 145 (.tmp 17) (.tmp 18) _ rfl ent_isOwn (.agg #[.int .i64 l.id,.int .i64 l.next,.slice oa1 l.out.length oc1,.slice sa1 l.seen.length sc1]) (.agg #[.int .i64 m.kind,.int .i64 m.frm,.int .i64 m.dst,.int .i64 m.id,.int .i64 m.want,.int .i64 m.cell.kind,.int .i64 m.cell.n,.int .i64 m.cell.pos,.slice ka m.cell.kids.length kc]) (by simp [Act.eval]) (by simp [Act.eval]) (fun r w'=>r = .bool (ownB l.id l.seen.length m)∧Below w2.heap.size w2 w') ((isOwn_any l m (.slice oa1 l.out.length oc1) (.slice ka m.cell.kids.length kc) sa1 sc1 _ hsl).mono (fun e w' h=>⟨_,h.1,rfl,h.2⟩)) ?_
 rintro r w3 ⟨rfl,b3⟩
 have hs3:w2.heap.size≤w3.heap.size:=b3.size
 have b13:Below w1.heap.size w1 w3:=b2.trans (b3.mono hs2)
 have hS3:=K1.out.1 w3 b13
 refine hK.out _ _ hS3 (fun _ => ?_)
 clear hK K
 simp only [Act.put,ls]
 have H3:=(show Hid (_∧_∧_∧_∧_) from ⟨H1.out.1.trans (b13.mono hs01),(b13.block _ (lh H1.out.2.1)).trans H1.out.2.1,H1.out.2.2.1.below b13,H1.out.2.2.2.below b13,hS3⟩)
 clear b2 b3 b13 K1 hS1 hS2 hS hS3
 have hS3:=H3.out.2.2.2.2
 cases hown:ownB l.id l.seen.length m with
 | false =>
  have HN:Hid (l.goes m=false):=by show _=_; unfold Lk.goes; rw [hown]; simp
  clear hown hmo hlo
  refine wpAnyH_take (i:=9) (v:=.bool true) rfl (by kernel_rfl) (by kernel_rfl) (by kernel_rfl) (fun _ _ _ h=>h) (Or.inl ⟨by rfl,?_⟩) hS3 ?_
  ·intro wq hSw
   go_simp
  simp only [Act.put,ls]
  refine wpAnyH_take (i:=10) (v:=.bool true) rfl (by kernel_rfl) (by kernel_rfl) (by kernel_rfl) (fun _ _ _ h=>h) (Or.inl ⟨by rfl,?_⟩) hS3 ?_
  ·intro wq hSw
   go_simp
  simp only [Act.put,ls]
  refine wpAnyH_done (by kernel_rfl) ?_ _
  have g1:=H3.out.2.2.2.1.g1
  clear hS3
  go_wp2
  go_ret
  exact .inl ⟨HN.out,⟨a1,.inr (.inl rfl),rfl⟩,H3.out.1⟩
 | true =>
 refine wpAnyH_take (i:=9) (v:=.bool false) rfl (by kernel_rfl) (by kernel_rfl) (by kernel_rfl) (fun _ _ _ h=>h) (Or.inl ⟨by rfl,?_⟩) hS3 ?_
 ·intro wq hSw
  go_simp
 simp only [Act.put,ls]
 refine wpAnyH_take (i:=10) (v:=.bool false) rfl (by kernel_rfl) (by kernel_rfl) (by kernel_rfl) (fun _ _ _ h=>h) (Or.inl ⟨by rfl,?_⟩) hS3 ?_
 ·intro wq hSw
  go_simp
 simp only [Act.put,ls]
 refine wpAnyH_done (by kernel_rfl) ?_ _
 have HK:=(show Hid (_∧_∧_) from ⟨hlo,hmo,hown⟩)
 obtain ⟨p0,p1,p2,p3,_,_,_,_,_,_,_,_,_⟩:=hS3
 have g2:=H3.out.2.2.2.1.g2
 clear hlo hmo hown
 cases h60:((l.out.length:Int) == 60) with
 | true =>
  have HN:Hid (l.goes m=false):=by show _=_; unfold Lk.goes Lk.room; rw [h60]; simp
  have h60':(l.out.length:Int)=60:=by simpa using h60
  go_wp2
  go_ret
  exact .inl ⟨HN.out,⟨a2,.inr (.inr rfl),rfl⟩,H3.out.1⟩
 | false =>
 cases h99:(l.next == 999999) with
 | true =>
  have HN:Hid (l.goes m=false):=by show _=_; unfold Lk.goes Lk.room; rw [h99]; simp
  go_wp2
  go_ret
  exact .inl ⟨HN.out,⟨a2,.inr (.inr rfl),rfl⟩,H3.out.1⟩
 | false =>
 have HY:Hid (l.goes m=true):=by show _=_; unfold Lk.goes Lk.room; rw [HK.out.1,HK.out.2.1,HK.out.2.2,h60,h99]; rfl
 go_wp2_with fail
 clear p0 p1 p2 p3 g2 h60 h99
 have hfit:=H3.out.2.2.1.own.fits
 have h60:l.out.length≤60:=by have:=(Lk.parts HK.out.1).2.2.1; simp at this; omega
 have hnx:1≤l.next∧l.next≤999999:=by have:=(Lk.parts HK.out.1).2.1; unfold inB at this; simpa using this
 have hmf:=ms_fitsS HL.out.1
 have hox:SnOk (l.sentOf m):=⟨hfit.2,hmf.2.2.1,by show m.bytes.toArray.size≤maxLen; have:=fit_len (msg_back_fit HK.out.2.1 hmf); unfold maxLen; rw [List.size_toArray]; omega⟩
 have hord:=H3.out.2.2.1.ord
 have hs30:W.heap.size≤w3.heap.size:=H3.out.1.size
 have hob3:ob<w3.heap.size:=lh H3.out.2.2.1.obx
 have K3:=(show Hid (_∧_∧_) from ⟨fun (wx:World) (hx:Below w3.heap.size w3 wx)=>obs ((hx.block _ (lh H3.out.2.2.1.obx)).trans H3.out.2.2.1.obx) ((hx.block _ (lh H3.out.2.1)).trans H3.out.2.1),(Below.refl w3.heap.size w3).drew,fun (wx:World) (hx:Below w3.heap.size w3 wx)=>H3.out.2.2.1.below hx⟩)
 have CP:Hid (Calls Tryz.prog 146 #[.agg #[.int .i64 m.kind,.int .i64 m.frm,.int .i64 m.dst,.int .i64 m.id,.int .i64 m.want,.int .i64 m.cell.kind,.int .i64 m.cell.n,.int .i64 m.cell.pos,.slice ka m.cell.kids.length kc]] w3.drew fun e w'=>∃ r,e = .returned r∧(r = .string ⟨m.bytes.toArray⟩∧Below w3.heap.size w3 w')):=(implPutMsg_any _ m T _ (HL.out.1.below (H3.out.1.trans (K3.out.2.1.mono hs30)))).mono (fun e w' h=>⟨_,h.1,rfl,K3.out.2.1.trans h.2⟩)
 refine wp_region_held_drew (S:=fun w'=>w'.cell? ⟨ob,1,none⟩=some (.int .i64 l.next)∧w'.cell? ⟨W.heap.size,0,none⟩=some (.int .i64 m.kind)∧w'.cell? ⟨W.heap.size,1,none⟩=some (.int .i64 m.frm)∧w'.cell? ⟨W.heap.size,2,none⟩=some (.int .i64 m.dst)∧w'.cell? ⟨W.heap.size,3,none⟩=some (.int .i64 m.id)∧w'.cell? ⟨W.heap.size,4,none⟩=some (.int .i64 m.want)∧w'.cell? ⟨W.heap.size,5,none⟩=some (.int .i64 m.cell.kind)∧w'.cell? ⟨W.heap.size,6,none⟩=some (.int .i64 m.cell.n)∧w'.cell? ⟨W.heap.size,7,none⟩=some (.int .i64 m.cell.pos)∧w'.cell? ⟨W.heap.size,8,none⟩=some (.slice ka m.cell.kids.length kc)) (by kernel_rfl) (K3.out.1 w3 (Below.refl _ _)) (fun hS => ?_)
 refine wpAnyH_take (i:=0) (v:=.pointer (some ⟨ob,0,none⟩)) rfl (by kernel_rfl) (by kernel_rfl) (by kernel_rfl) (fun _ _ _ h=>h) (Or.inl ⟨by rfl,?_⟩) hS ?_
 ·intro wq hSw
  go_simp
 simp only [Act.put,ls]
 refine wpAnyH_take (i:=1) (v:=.pointer (some ⟨ob,0,none⟩)) rfl (by kernel_rfl) (by kernel_rfl) (by kernel_rfl) (fun _ _ _ h=>h) (Or.inl ⟨by rfl,?_⟩) hS ?_
 ·intro wq hSw
  go_simp
 simp only [Act.put,ls]
 refine wpAnyH_take (i:=2) (v:=.pointer (some ⟨ob,0,none⟩)) rfl (by kernel_rfl) (by kernel_rfl) (by kernel_rfl) (fun _ _ _ h=>h) (Or.inl ⟨by rfl,?_⟩) hS ?_
 ·intro wq hSw
  go_simp
 simp only [Act.put,ls]
 refine wpAnyH_take (i:=3) (v:=.pointer (some ⟨ob,2,none⟩)) rfl (by kernel_rfl) (by kernel_rfl) (by kernel_rfl) (fun _ _ _ h=>h) (Or.inl ⟨by rfl,?_⟩) hS ?_
 ·intro wq hSw
  go_simp
 simp only [Act.put,ls]
 refine wpAnyH_take (i:=5) (v:=.pointer (some ⟨ob,0,none⟩)) rfl (by kernel_rfl) (by kernel_rfl) (by kernel_rfl) (fun _ _ _ h=>h) (Or.inl ⟨by rfl,?_⟩) hS ?_
 ·intro wq hSw
  go_simp
 simp only [Act.put,ls]
 refine wpAnyH_take (i:=6) (v:=.pointer (some ⟨ob,0,none⟩)) rfl (by kernel_rfl) (by kernel_rfl) (by kernel_rfl) (fun _ _ _ h=>h) (Or.inl ⟨by rfl,?_⟩) hS ?_
 ·intro wq hSw
  go_simp
 simp only [Act.put,ls]
 refine wpAnyH_take (i:=7) (v:=.pointer (some ⟨ob,1,none⟩)) rfl (by kernel_rfl) (by kernel_rfl) (by kernel_rfl) (fun _ _ _ h=>h) (Or.inl ⟨by rfl,?_⟩) hS ?_
 ·intro wq hSw
  go_simp
 simp only [Act.put,ls]
 refine wpAnyH_take (i:=8) (v:=.int .i64 l.next) rfl (by kernel_rfl) (by kernel_rfl) (by kernel_rfl) (fun _ _ _ h=>h) (Or.inl ⟨by rfl,?_⟩) hS ?_
 ·intro wq hSw
  obtain ⟨q1,y0,y1,y2,y3,y4,y5,y6,y7,y8⟩:=hSw
  go_simp
 simp only [Act.put,ls]
 refine wpAnyH_take (i:=9) (v:=.pointer (some ⟨W.heap.size,2,none⟩)) rfl (by kernel_rfl) (by kernel_rfl) (by kernel_rfl) (fun _ _ _ h=>h) (Or.inl ⟨by rfl,?_⟩) hS ?_
 ·intro wq hSw
  go_simp
 simp only [Act.put,ls]
 refine wpAnyH_take (i:=10) (v:=.int .i64 m.dst) rfl (by kernel_rfl) (by kernel_rfl) (by kernel_rfl) (fun _ _ _ h=>h) (Or.inl ⟨by rfl,?_⟩) hS ?_
 ·intro wq hSw
  obtain ⟨q1,y0,y1,y2,y3,y4,y5,y6,y7,y8⟩:=hSw
  go_simp
 simp only [Act.put,ls]
 refine wpAnyH_take (i:=11) (v:=.agg #[.int .i64 m.kind,.int .i64 m.frm,.int .i64 m.dst,.int .i64 m.id,.int .i64 m.want,.int .i64 m.cell.kind,.int .i64 m.cell.n,.int .i64 m.cell.pos,.slice ka m.cell.kids.length kc]) rfl (by kernel_rfl) (by kernel_rfl) (by kernel_rfl) (fun _ _ _ h=>h) (Or.inl ⟨by rfl,?_⟩) hS ?_
 ·intro wq hSw
  obtain ⟨q1,y0,y1,y2,y3,y4,y5,y6,y7,y8⟩:=hSw
  go_simp
 simp only [Act.put,ls]
 refine wpAnyH_ready (rs:=[4,12]) (by kernel_rfl) (by simp) ?_
 refine AllReadyH.cons rfl (fun K hK => ?_) (AllReadyH.cons rfl (fun K hK => ?_) AllReadyH.nil)
 ·have p2:=(show w3.drew.cell? ⟨ob,2,none⟩=some (.slice oa1 l.out.length oc1) from (lbox (show w3.drew.heap[ob]? = _ from H3.out.2.2.1.obx)).2.2.1)
  go_simp
  clear p2
  refine hK.out _ _ hS (fun _ => ?_)
  clear hK K
  refine wpAnyH_ready (rs:=[12]) (by kernel_rfl) (by simp) ?_
  refine AllReadyH.cons rfl (fun K hK => ?_) AllReadyH.nil
  refine step_call1 rfl 146 (.tmp 48) _ rfl ent_putMsg (.agg #[.int .i64 m.kind,.int .i64 m.frm,.int .i64 m.dst,.int .i64 m.id,.int .i64 m.want,.int .i64 m.cell.kind,.int .i64 m.cell.n,.int .i64 m.cell.pos,.slice ka m.cell.kids.length kc]) (by simp [Act.eval]) _ CP.out ?_
  rintro r w4 ⟨rfl,b4⟩
  have hs4:w3.heap.size≤w4.heap.size:=b4.size
  have B4:=(show Hid (_∧_) from ⟨b4,b4.alloc hs4 (.cells #[.int .i64 l.next,.int .i64 m.dst,.string ⟨m.bytes.toArray⟩] 93)⟩)
  clear b4
  refine hK.out _ _ (K3.out.1 w4 B4.out.1) (fun _ => ?_)
  clear hK K
  simp only [Act.put,ls]
  refine wpAnyH_take (i:=13) (v:=.agg #[.int .i64 l.next,.int .i64 m.dst,.string ⟨m.bytes.toArray⟩]) rfl (by kernel_rfl) (by kernel_rfl) (by kernel_rfl) (fun _ _ _ h=>h) (Or.inl ⟨by rfl,?_⟩) (K3.out.1 w4 B4.out.1) ?_
  ·intro wq hSw
   go_simp
  simp only [Act.put,ls]
  refine wpAnyH_ready (rs:=[14]) (by kernel_rfl) (by simp) ?_
  refine AllReadyH.cons rfl (fun K hK => ?_) AllReadyH.nil
  go_simp
  refine hK.out _ _ (K3.out.1 _ B4.out.2) (fun _ => ?_)
  clear hK K
  refine wpAnyH_ready (rs:=[15]) (by kernel_rfl) (by simp) ?_
  refine AllReadyH.cons rfl (fun K hK => ?_) AllReadyH.nil
  have HQ:=(show Hid (_∧True) from ⟨K3.out.2.2 _ B4.out.2,trivial⟩)
  refine step_append_row rfl (.tmp 41) (.tmp 51) 46 rfl Bc 93 i0 _ 3 32 Tryz.underlying46 hi hz0 hz1 hz2 rfl (by decide) (.slice oa1 l.out.length oc1) l.out.length _ (by simp [Act.eval]) HQ.out.1.own.out.1 ⟨w4.heap.size,0,none⟩ 1 1 (snCells (l.sentOf m)) (by simp [Act.eval]) rfl (cell_threeS _ _ _ _ _) (snS_ones _) (by unfold maxLen; omega) (by omega) (by simp; omega) ?_
  intro v6 w6 hown6 hgrow6 hat6
  have st6:=HQ.out.1.pushed (x:=l.sentOf m) (n':=l.next+1) hgrow6 hown6 hat6 hox ⟨by omega,by omega⟩
  obtain ⟨g1,g2,g3,g4,g5⟩:=HQ.out.1.grew hgrow6
  have hw6:w6.heap[W.heap.size]? = some (.cells (m.row (.slice ka m.cell.kids.length kc)) 67):=(hgrow6.block W.heap.size (by simp; omega) (fun e=>by obtain ⟨cs,hc⟩:=(own_type HQ.out.1.own.out.1 _ e.symm).2; rw [Below.heap_alloc _ _ _ (by omega),B4.out.1.block _ (by omega),H3.out.2.1] at hc; simp at hc)).trans ((B4.out.2.block _ (by omega)).trans H3.out.2.1)
  have S6:=obs g5 hw6
  obtain ⟨a6,c6,rfl⟩:=own_form hown6
  have H6:=(show Hid (_∧_∧_) from ⟨st6,g5,hw6⟩)
  clear hown6 hgrow6 hat6 st6 g1 g2 g3 g4 g5 hw6
  refine hK.out _ _ S6 (fun _ => ?_)
  clear hK K
  simp only [Act.put,ls]
  refine wpAnyH_take (i:=16) (v:=.pointer (some ⟨ob,0,none⟩)) rfl (by kernel_rfl) (by kernel_rfl) (by kernel_rfl) (fun _ _ _ h=>h) (Or.inl ⟨by rfl,?_⟩) S6 ?_
  ·intro wq hSw
   go_simp
  simp only [Act.put,ls]
  refine wpAnyH_take (i:=17) (v:=.pointer (some ⟨ob,2,none⟩)) rfl (by kernel_rfl) (by kernel_rfl) (by kernel_rfl) (fun _ _ _ h=>h) (Or.inl ⟨by rfl,?_⟩) S6 ?_
  ·intro wq hSw
   go_simp
  simp only [Act.put,ls]
  refine wpAnyH_ready (rs:=[18]) (by kernel_rfl) (by simp) ?_
  refine AllReadyH.cons rfl (fun K hK => ?_) AllReadyH.nil
  obtain ⟨p0,p1,p2,p3⟩:=lbox H6.out.2.1
  have f1:=ub H6.out.2.1 1
  have f2:=ub H6.out.2.1 2
  go_simp
  refine hK.out _ _ (obs (l:=⟨l.id,l.next,l.out,l.seen⟩) (block_setCell (i:=2) H6.out.2.1 _) ((Below.heap_setCell _ _ _ _ (by show W.heap.size≠ob; omega)).trans H6.out.2.2)) (fun _ => ?_)
  clear hK K S6
  refine wpAnyH_done (by kernel_rfl) ?_ _
  go_wp2
  go_ret
  exact .inr ⟨HY.out,rfl,a6,c6,H6.out.1⟩
 ·refine step_call1 rfl 146 (.tmp 48) _ rfl ent_putMsg (.agg #[.int .i64 m.kind,.int .i64 m.frm,.int .i64 m.dst,.int .i64 m.id,.int .i64 m.want,.int .i64 m.cell.kind,.int .i64 m.cell.n,.int .i64 m.cell.pos,.slice ka m.cell.kids.length kc]) (by simp [Act.eval]) _ CP.out ?_
  rintro r w4 ⟨rfl,b4⟩
  have hs4:w3.heap.size≤w4.heap.size:=b4.size
  have B4:=(show Hid (_∧_) from ⟨b4,b4.alloc hs4 (.cells #[.int .i64 l.next,.int .i64 m.dst,.string ⟨m.bytes.toArray⟩] 93)⟩)
  clear b4
  refine hK.out _ _ (K3.out.1 w4 B4.out.1) (fun _ => ?_)
  clear hK K
  simp only [Act.put,ls]
  refine wpAnyH_take (i:=13) (v:=.agg #[.int .i64 l.next,.int .i64 m.dst,.string ⟨m.bytes.toArray⟩]) rfl (by kernel_rfl) (by kernel_rfl) (by kernel_rfl) (fun _ _ _ h=>h) (Or.inl ⟨by rfl,?_⟩) (K3.out.1 w4 B4.out.1) ?_
  ·intro wq hSw
   go_simp
  simp only [Act.put,ls]
  refine wpAnyH_ready (rs:=[4,14]) (by kernel_rfl) (by simp) ?_
  refine AllReadyH.cons rfl (fun K hK => ?_) (AllReadyH.cons rfl (fun K hK => ?_) AllReadyH.nil)
  ·have p2:=(lbox ((B4.out.1.block _ hob3).trans H3.out.2.2.1.obx)).2.2.1
   go_simp
   clear p2
   refine hK.out _ _ (K3.out.1 w4 B4.out.1) (fun _ => ?_)
   clear hK K
   refine wpAnyH_ready (rs:=[14]) (by kernel_rfl) (by simp) ?_
   refine AllReadyH.cons rfl (fun K hK => ?_) AllReadyH.nil
   go_simp
   refine hK.out _ _ (K3.out.1 _ B4.out.2) (fun _ => ?_)
   clear hK K
   refine wpAnyH_ready (rs:=[15]) (by kernel_rfl) (by simp) ?_
   refine AllReadyH.cons rfl (fun K hK => ?_) AllReadyH.nil
   have HQ:=(show Hid (_∧True) from ⟨K3.out.2.2 _ B4.out.2,trivial⟩)
   refine step_append_row rfl (.tmp 41) (.tmp 51) 46 rfl Bc 93 i0 _ 3 32 Tryz.underlying46 hi hz0 hz1 hz2 rfl (by decide) (.slice oa1 l.out.length oc1) l.out.length _ (by simp [Act.eval]) HQ.out.1.own.out.1 ⟨w4.heap.size,0,none⟩ 1 1 (snCells (l.sentOf m)) (by simp [Act.eval]) rfl (cell_threeS _ _ _ _ _) (snS_ones _) (by unfold maxLen; omega) (by omega) (by simp; omega) ?_
   intro v6 w6 hown6 hgrow6 hat6
   have st6:=HQ.out.1.pushed (x:=l.sentOf m) (n':=l.next+1) hgrow6 hown6 hat6 hox ⟨by omega,by omega⟩
   obtain ⟨g1,g2,g3,g4,g5⟩:=HQ.out.1.grew hgrow6
   have hw6:w6.heap[W.heap.size]? = some (.cells (m.row (.slice ka m.cell.kids.length kc)) 67):=(hgrow6.block W.heap.size (by simp; omega) (fun e=>by obtain ⟨cs,hc⟩:=(own_type HQ.out.1.own.out.1 _ e.symm).2; rw [Below.heap_alloc _ _ _ (by omega),B4.out.1.block _ (by omega),H3.out.2.1] at hc; simp at hc)).trans ((B4.out.2.block _ (by omega)).trans H3.out.2.1)
   have S6:=obs g5 hw6
   obtain ⟨a6,c6,rfl⟩:=own_form hown6
   have H6:=(show Hid (_∧_∧_) from ⟨st6,g5,hw6⟩)
   clear hown6 hgrow6 hat6 st6 g1 g2 g3 g4 g5 hw6
   refine hK.out _ _ S6 (fun _ => ?_)
   clear hK K
   simp only [Act.put,ls]
   refine wpAnyH_take (i:=16) (v:=.pointer (some ⟨ob,0,none⟩)) rfl (by kernel_rfl) (by kernel_rfl) (by kernel_rfl) (fun _ _ _ h=>h) (Or.inl ⟨by rfl,?_⟩) S6 ?_
   ·intro wq hSw
    go_simp
   simp only [Act.put,ls]
   refine wpAnyH_take (i:=17) (v:=.pointer (some ⟨ob,2,none⟩)) rfl (by kernel_rfl) (by kernel_rfl) (by kernel_rfl) (fun _ _ _ h=>h) (Or.inl ⟨by rfl,?_⟩) S6 ?_
   ·intro wq hSw
    go_simp
   simp only [Act.put,ls]
   refine wpAnyH_ready (rs:=[18]) (by kernel_rfl) (by simp) ?_
   refine AllReadyH.cons rfl (fun K hK => ?_) AllReadyH.nil
   obtain ⟨p0,p1,p2,p3⟩:=lbox H6.out.2.1
   have f1:=ub H6.out.2.1 1
   have f2:=ub H6.out.2.1 2
   go_simp
   refine hK.out _ _ (obs (l:=⟨l.id,l.next,l.out,l.seen⟩) (block_setCell (i:=2) H6.out.2.1 _) ((Below.heap_setCell _ _ _ _ (by show W.heap.size≠ob; omega)).trans H6.out.2.2)) (fun _ => ?_)
   clear hK K S6
   refine wpAnyH_done (by kernel_rfl) ?_ _
   go_wp2
   go_ret
   exact .inr ⟨HY.out,rfl,a6,c6,H6.out.1⟩
  ·go_simp
   refine hK.out _ _ (K3.out.1 _ B4.out.2) (fun _ => ?_)
   clear hK K
   refine wpAnyH_ready (rs:=[4]) (by kernel_rfl) (by simp) ?_
   refine AllReadyH.cons rfl (fun K hK => ?_) AllReadyH.nil
   have p2:=(lbox ((B4.out.2.block _ hob3).trans H3.out.2.2.1.obx)).2.2.1
   go_simp
   clear p2
   refine hK.out _ _ (K3.out.1 _ B4.out.2) (fun _ => ?_)
   clear hK K
   refine wpAnyH_ready (rs:=[15]) (by kernel_rfl) (by simp) ?_
   refine AllReadyH.cons rfl (fun K hK => ?_) AllReadyH.nil
   have HQ:=(show Hid (_∧True) from ⟨K3.out.2.2 _ B4.out.2,trivial⟩)
   refine step_append_row rfl (.tmp 41) (.tmp 51) 46 rfl Bc 93 i0 _ 3 32 Tryz.underlying46 hi hz0 hz1 hz2 rfl (by decide) (.slice oa1 l.out.length oc1) l.out.length _ (by simp [Act.eval]) HQ.out.1.own.out.1 ⟨w4.heap.size,0,none⟩ 1 1 (snCells (l.sentOf m)) (by simp [Act.eval]) rfl (cell_threeS _ _ _ _ _) (snS_ones _) (by unfold maxLen; omega) (by omega) (by simp; omega) ?_
   intro v6 w6 hown6 hgrow6 hat6
   have st6:=HQ.out.1.pushed (x:=l.sentOf m) (n':=l.next+1) hgrow6 hown6 hat6 hox ⟨by omega,by omega⟩
   obtain ⟨g1,g2,g3,g4,g5⟩:=HQ.out.1.grew hgrow6
   have hw6:w6.heap[W.heap.size]? = some (.cells (m.row (.slice ka m.cell.kids.length kc)) 67):=(hgrow6.block W.heap.size (by simp; omega) (fun e=>by obtain ⟨cs,hc⟩:=(own_type HQ.out.1.own.out.1 _ e.symm).2; rw [Below.heap_alloc _ _ _ (by omega),B4.out.1.block _ (by omega),H3.out.2.1] at hc; simp at hc)).trans ((B4.out.2.block _ (by omega)).trans H3.out.2.1)
   have S6:=obs g5 hw6
   obtain ⟨a6,c6,rfl⟩:=own_form hown6
   have H6:=(show Hid (_∧_∧_) from ⟨st6,g5,hw6⟩)
   clear hown6 hgrow6 hat6 st6 g1 g2 g3 g4 g5 hw6
   refine hK.out _ _ S6 (fun _ => ?_)
   clear hK K
   simp only [Act.put,ls]
   refine wpAnyH_take (i:=16) (v:=.pointer (some ⟨ob,0,none⟩)) rfl (by kernel_rfl) (by kernel_rfl) (by kernel_rfl) (fun _ _ _ h=>h) (Or.inl ⟨by rfl,?_⟩) S6 ?_
   ·intro wq hSw
    go_simp
   simp only [Act.put,ls]
   refine wpAnyH_take (i:=17) (v:=.pointer (some ⟨ob,2,none⟩)) rfl (by kernel_rfl) (by kernel_rfl) (by kernel_rfl) (fun _ _ _ h=>h) (Or.inl ⟨by rfl,?_⟩) S6 ?_
   ·intro wq hSw
    go_simp
   simp only [Act.put,ls]
   refine wpAnyH_ready (rs:=[18]) (by kernel_rfl) (by simp) ?_
   refine AllReadyH.cons rfl (fun K hK => ?_) AllReadyH.nil
   obtain ⟨p0,p1,p2,p3⟩:=lbox H6.out.2.1
   have f1:=ub H6.out.2.1 1
   have f2:=ub H6.out.2.1 2
   go_simp
   refine hK.out _ _ (obs (l:=⟨l.id,l.next,l.out,l.seen⟩) (block_setCell (i:=2) H6.out.2.1 _) ((Below.heap_setCell _ _ _ _ (by show W.heap.size≠ob; omega)).trans H6.out.2.2)) (fun _ => ?_)
   clear hK K S6
   refine wpAnyH_done (by kernel_rfl) ?_ _
   go_wp2
   go_ret
   exact .inr ⟨HY.out,rfl,a6,c6,H6.out.1⟩
end Go.Proofs.YtmmadoabejgffaaGreatDoor
