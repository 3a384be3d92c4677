/-
  Proofs.
-/
import Derived.Test.YtmmadoabejgffaaGreatDoorA
import Derived.Test.YtmmadoabejgffaaGreatDoorT
import Derived.Test.YtmmadoabejgffaaGreatDoorD
import Derived.Test.YtmmadoabejgffaaGreatDoorResWalk
import Derived.Deep.RegionHeld3
namespace Go.Proofs.YtmmadoabejgffaaGreatDoor
open Go.RowKit Go.Joins
set_option maxRecDepth 100000
theorem infoThM:(Tryz.prog.info? 145).map (fun i=>(i.zero,i.size,i.bytes))=some (some (.agg #[.int .i64 0,.int .i64 0,.slice none 0 0,.slice none 0 0,.string ⟨#[]⟩]),5,80):=by kernel_rfl
def MachR (x0 x1 x2 _x3 x4 x5 x6:List (List Dt)):Nat→List Value→Value→(Nat→Prop)→World→Prop:=fun i vs v Y w=>match i with
 | 2=>∃ (s0 s1:Option Addr) (t0 t1:Nat),v = .agg #[.slice s0 x0.length t0,.slice s1 x1.length t1]∧OFs w [.slice s0 x0.length t0,.slice s1 x1.length t1] [.row x0,.row x1] Y
 | 5=>Own w v (.row x2) Y
 | 6=>∃ g,v = .slice (some ⟨g,0,none⟩) 0 0∧w.heap[g]? = some (.cells #[] 3)∧Y g
 | 9=>Own w v (.row x4) Y
 | 10=>∃ g,v = .slice (some ⟨g,0,none⟩) 0 0∧w.heap[g]? = some (.cells #[] 3)∧Y g
 | 13=>Own w v (.row x5) Y
 | 16=>Own w v (.row x6) Y
 | 17=>∃ (s0 s1 s2 s4 s5 s6:Option Addr) (t0 t1 t2 t4 t5 t6:Nat),v = .agg #[.slice s0 x0.length t0,.slice s1 x1.length t1,.slice s2 x2.length t2,.slice none 0 0,.slice s4 x4.length t4,.slice s5 x5.length t5,.slice s6 x6.length t6]∧OFs w [.slice s0 x0.length t0,.slice s1 x1.length t1,.slice s2 x2.length t2,.slice s4 x4.length t4,.slice s5 x5.length t5,.slice s6 x6.length t6] [.row x0,.row x1,.row x2,.row x4,.row x5,.row x6] Y
 | 18=>∃ g,v = .pointer (some ⟨g,0,none⟩)∧w.heap[g]? = some (.cells #[.slice none 0 0,.slice none 0 0,.slice none 0 0,.slice none 0 0,.slice none 0 0,.slice none 0 0,.slice none 0 0] 45)∧Y g
 | 19=>∃ (g:Nat) (s0 s1 s2 s4 s5 s6:Option Addr) (t0 t1 t2 t4 t5 t6:Nat) (Z:Nat→Prop),vs=[.agg #[.slice s0 x0.length t0,.slice s1 x1.length t1,.slice s2 x2.length t2,.slice none 0 0,.slice s4 x4.length t4,.slice s5 x5.length t5,.slice s6 x6.length t6],.pointer (some ⟨g,0,none⟩)]∧w.heap[g]? = some (.cells #[.slice s0 x0.length t0,.slice s1 x1.length t1,.slice s2 x2.length t2,.slice none 0 0,.slice s4 x4.length t4,.slice s5 x5.length t5,.slice s6 x6.length t6] 45)∧Y g∧OFs w [.slice s0 x0.length t0,.slice s1 x1.length t1,.slice s2 x2.length t2,.slice s4 x4.length t4,.slice s5 x5.length t5,.slice s6 x6.length t6] [.row x0,.row x1,.row x2,.row x4,.row x5,.row x6] Z∧(∀ b,Z b→Y b∧b≠g)
 | _=>False
theorem MachR.stay {x0 x1 x2 x3 x4 x5 x6:List (List Dt)}:∀ (i:Nat) (vs:List Value) (v:Value) (Y:Nat→Prop) (w w':World),MachR x0 x1 x2 x3 x4 x5 x6 i vs v Y w→(∀ b,Y b→b<w.heap.size→w'.heap[b]? = w.heap[b]?)→MachR x0 x1 x2 x3 x4 x5 x6 i vs v Y w':=by
 intro i vs v Y w w' h hs
 unfold MachR at h ⊢
 split at h
 ·obtain ⟨s0,s1,t0,t1,e,h⟩:=h; exact ⟨s0,s1,t0,t1,e,h.moved hs⟩
 ·exact h.moved hs
 ·obtain ⟨g,e,h,hY⟩:=h; exact ⟨g,e,(hs g hY (lh h)).trans h,hY⟩
 ·exact h.moved hs
 ·obtain ⟨g,e,h,hY⟩:=h; exact ⟨g,e,(hs g hY (lh h)).trans h,hY⟩
 ·exact h.moved hs
 ·exact h.moved hs
 ·obtain ⟨s0,s1,s2,s4,s5,s6,t0,t1,t2,t4,t5,t6,e,h⟩:=h; exact ⟨s0,s1,s2,s4,s5,s6,t0,t1,t2,t4,t5,t6,e,h.moved hs⟩
 ·obtain ⟨g,e,h,hY⟩:=h; exact ⟨g,e,(hs g hY (lh h)).trans h,hY⟩
 ·obtain ⟨g,s0,s1,s2,s4,s5,s6,t0,t1,t2,t4,t5,t6,Z,e,h,hY,hO,hZ⟩:=h; exact ⟨g,s0,s1,s2,s4,s5,s6,t0,t1,t2,t4,t5,t6,Z,e,(hs g hY (lh h)).trans h,hY,hO.moved (fun b hb=>hs b (hZ b hb).1),hZ⟩
 ·exact h.elim
theorem OFs.snoc1 {w:World} {vs:List Value} {ds:List Dt} {X Y Z:Nat→Prop} {v:Value} {d:Dt} (h:OFs w vs ds X) (ho:Own w v d Y) (hX:∀ b,X b→Z b) (hY:∀ b,Y b→Z b) (hd:∀ b,X b→Y b→False):OFs w (vs ++ [v]) (ds ++ [d]) Z :=
 OFs.join hX hY hd h ⟨Y,fun _=>False,fun _ h=>h,fun _ h=>h.elim,fun _ _ h=>h,ho,trivial⟩
theorem run_buildM5 (a0 a1 a2 a4 a5 a6:Option Addr) (l0 c0 l1 c1 l2 c2 l4 c4 l5 c5 l6 c6:Nat) (w:World):(Instr.build 45 #[(0,.agg #[.slice a0 l0 c0,.slice a1 l1 c1]),(1,.slice a2 l2 c2),(3,.slice a4 l4 c4),(4,.slice a5 l5 c5),(5,.slice a6 l6 c6)]).run Tryz.prog w = .ok (.agg #[.slice a0 l0 c0,.slice a1 l1 c1,.slice a2 l2 c2,.slice none 0 0,.slice a4 l4 c4,.slice a5 l5 c5,.slice a6 l6 c6]) w:=by kernel_rfl
theorem ex_buildM5 (e:Operand→Value) (o:Oper) (x0 x1 x2 x3 x4:Operand) (a0 a1 a2 a4 a5 a6:Option Addr) (l0 c0 l1 c1 l2 c2 l4 c4 l5 c5 l6 c6:Nat) (w:World) (ho:o.op = .build 45 #[(0,x0),(1,x1),(3,x2),(4,x3),(5,x4)]) (h0:e x0 = .agg #[.slice a0 l0 c0,.slice a1 l1 c1]) (h1:e x1 = .slice a2 l2 c2) (h2:e x2 = .slice a4 l4 c4) (h3:e x3 = .slice a5 l5 c5) (h4:e x4 = .slice a6 l6 c6):(execOp e o).run Tryz.prog w = .ok (.value (.agg #[.slice a0 l0 c0,.slice a1 l1 c1,.slice a2 l2 c2,.slice none 0 0,.slice a4 l4 c4,.slice a5 l5 c5,.slice a6 l6 c6])) w:=by
 unfold execOp
 rw [ho]
 simp only [List.map_toArray,List.map_cons,List.map_nil,h0,h1,h2,h3,h4,Sem.run_bind,run_buildM5,Result.andThen_ok,Sem.run_pure]
set_option maxHeartbeats 25600000 in
theorem l06CopyT_dt:ToMT 36:=by
 rintro vs r S w ⟨x0,x1,x2,x3,x4,x5,x6,rfl,q0,q1,q2,q3,q4,q5,q6⟩ h hb
 obtain ⟨v0,v1,v2,v3,v4,v5,v6,rfl,a0,a1,a2,a3,a4,a5,a6⟩:=fs7 h
 obtain ⟨p0,c0,rfl⟩:=a0.form
 obtain ⟨p1,c1,rfl⟩:=a1.form
 obtain ⟨p2,c2,rfl⟩:=a2.form
 obtain ⟨p3,c3,rfl⟩:=a3.form
 obtain ⟨p4,c4,rfl⟩:=a4.form
 obtain ⟨p5,c5,rfl⟩:=a5.form
 obtain ⟨p6,c6,rfl⟩:=a6.form
 rw [show Dt.bR [.row x0,.row x1,.row x2,.row x3,.row x4,.row x5,.row x6]=Dt.bS x0+Dt.bS x1+Dt.bS x2+Dt.bS x3+Dt.bS x4+Dt.bS x5+Dt.bS x6 from by simp [Dt.bR,Dt.bulk]; try omega] at hb
 have hl4:=bulkS_len x4
 have hl5:=bulkS_len x5
 have hl3:=bulkS_len x3
 obtain ⟨iI,hiI,hzI0,hzI1,hzI2⟩:=info_parts infoAI
 obtain ⟨W0,hW0⟩:∃ W0,W0=(w.alloc (.cells #[.slice p0 x0.length c0,.slice p1 x1.length c1,.slice p2 x2.length c2,.slice p3 x3.length c3,.slice p4 x4.length c4,.slice p5 x5.length c5,.slice p6 x6.length c6] 45)).alloc (.cells #[.slice none 0 0,.slice none 0 0,.slice none 0 0,.slice none 0 0,.slice none 0 0,.slice none 0 0,.slice none 0 0] 45):=⟨_,rfl⟩
 have B:Below w.heap.size w W0:=by rw [hW0]; exact ((Below.refl _ w).alloc (Nat.le_refl _) _).alloc (by simp) _
 have SZ:W0.heap.size=w.heap.size+2:=by rw [hW0]; simp
 have O0:W0.heap[w.heap.size]? = some (.cells #[.slice p0 x0.length c0,.slice p1 x1.length c1,.slice p2 x2.length c2,.slice p3 x3.length c3,.slice p4 x4.length c4,.slice p5 x5.length c5,.slice p6 x6.length c6] 45):=by rw [hW0]; exact (Below.heap_alloc _ _ _ (by simp)).trans (MapKept.heap_alloc w _).1
 have O1:W0.heap[w.heap.size+1]? = some (.cells #[.slice none 0 0,.slice none 0 0,.slice none 0 0,.slice none 0 0,.slice none 0 0,.slice none 0 0,.slice none 0 0] 45):=by
  rw [hW0]
  have:=(MapKept.heap_alloc (w.alloc (.cells #[.slice p0 x0.length c0,.slice p1 x1.length c1,.slice p2 x2.length c2,.slice p3 x3.length c3,.slice p4 x4.length c4,.slice p5 x5.length c5,.slice p6 x6.length c6] 45)) (.cells #[.slice none 0 0,.slice none 0 0,.slice none 0 0,.slice none 0 0,.slice none 0 0,.slice none 0 0,.slice none 0 0] 45)).1
  simpa using this
 have HZ:Hid (∀ wx:World,Below W0.heap.size W0 wx→wx.cell? ⟨w.heap.size,0,none⟩=some (.slice p0 x0.length c0)∧wx.cell? ⟨w.heap.size,1,none⟩=some (.slice p1 x1.length c1)∧wx.cell? ⟨w.heap.size,2,none⟩=some (.slice p2 x2.length c2)∧wx.cell? ⟨w.heap.size,3,none⟩=some (.slice p3 x3.length c3)∧wx.cell? ⟨w.heap.size,4,none⟩=some (.slice p4 x4.length c4)∧wx.cell? ⟨w.heap.size,5,none⟩=some (.slice p5 x5.length c5)∧wx.cell? ⟨w.heap.size,6,none⟩=some (.slice p6 x6.length c6)):=fun wx hx=>by
  have o:=(hx.block _ (lh O0)).trans O0
  exact ⟨by rw [cell_of_block o]; rfl,by rw [cell_of_block o]; rfl,by rw [cell_of_block o]; rfl,by rw [cell_of_block o]; rfl,by rw [cell_of_block o]; rfl,by rw [cell_of_block o]; rfl,by rw [cell_of_block o]; rfl⟩
 have HS:=(show Hid (_∧_∧_∧_) from ⟨B,SZ,O0,O1⟩)
 have HA:=(show Hid (_∧_∧_∧_∧_∧_∧_∧_) from ⟨a0,a1,a2,a3,a4,a5,a6,trivial⟩)
 have HW:=(show Hid (_∧True) from ⟨hW0,trivial⟩)
 clear B SZ O0 O1 hW0 h a0 a1 a2 a3 a4 a5 a6
 go_enter Tryz.func36,Tryz.ntmps36
 go_wp2_with fail
 rw [← HW.out.1]
 clear HW
 refine wp_region_held_drew (S:=fun w'=>w'.cell? ⟨w.heap.size,0,none⟩=some (.slice p0 x0.length c0)∧w'.cell? ⟨w.heap.size,1,none⟩=some (.slice p1 x1.length c1)∧w'.cell? ⟨w.heap.size,2,none⟩=some (.slice p2 x2.length c2)∧w'.cell? ⟨w.heap.size,3,none⟩=some (.slice p3 x3.length c3)∧w'.cell? ⟨w.heap.size,4,none⟩=some (.slice p4 x4.length c4)∧w'.cell? ⟨w.heap.size,5,none⟩=some (.slice p5 x5.length c5)∧w'.cell? ⟨w.heap.size,6,none⟩=some (.slice p6 x6.length c6)) (by kernel_rfl) (HZ.out W0 (Below.refl _ W0)) (fun hS => ?_)
 refine wpAnyH_take (i:=0) (v:=.pointer (some ⟨w.heap.size,0,none⟩)) rfl (by kernel_rfl) (by kernel_rfl) (by kernel_rfl) (fun _ _ _ h=>h) (Or.inl ⟨by rfl,?_⟩) hS ?_
 ·intro wq hSw
  obtain ⟨e0,e1,e2,e3,e4,e5,e6⟩:=hSw
  go_simp
 simp only [Act.put,ls]
 refine wpAnyH_take (i:=1) (v:=.agg #[.slice p0 x0.length c0,.slice p1 x1.length c1]) rfl (by kernel_rfl) (by kernel_rfl) (by kernel_rfl) (fun _ _ _ h=>h) (Or.inl ⟨by rfl,?_⟩) hS ?_
 ·intro wq hSw
  obtain ⟨e0,e1,e2,e3,e4,e5,e6⟩:=hSw
  go_simp
 simp only [Act.put,ls]
 refine wpAnyH_take (i:=3) (v:=.pointer (some ⟨w.heap.size,2,none⟩)) rfl (by kernel_rfl) (by kernel_rfl) (by kernel_rfl) (fun _ _ _ h=>h) (Or.inl ⟨by rfl,?_⟩) hS ?_
 ·intro wq hSw
  obtain ⟨e0,e1,e2,e3,e4,e5,e6⟩:=hSw
  go_simp
 simp only [Act.put,ls]
 refine wpAnyH_take (i:=4) (v:=.slice p2 x2.length c2) rfl (by kernel_rfl) (by kernel_rfl) (by kernel_rfl) (fun _ _ _ h=>h) (Or.inl ⟨by rfl,?_⟩) hS ?_
 ·intro wq hSw
  obtain ⟨e0,e1,e2,e3,e4,e5,e6⟩:=hSw
  go_simp
 simp only [Act.put,ls]
 refine wpAnyH_take (i:=7) (v:=.pointer (some ⟨w.heap.size,4,none⟩)) rfl (by kernel_rfl) (by kernel_rfl) (by kernel_rfl) (fun _ _ _ h=>h) (Or.inl ⟨by rfl,?_⟩) hS ?_
 ·intro wq hSw
  obtain ⟨e0,e1,e2,e3,e4,e5,e6⟩:=hSw
  go_simp
 simp only [Act.put,ls]
 refine wpAnyH_take (i:=8) (v:=.slice p4 x4.length c4) rfl (by kernel_rfl) (by kernel_rfl) (by kernel_rfl) (fun _ _ _ h=>h) (Or.inl ⟨by rfl,?_⟩) hS ?_
 ·intro wq hSw
  obtain ⟨e0,e1,e2,e3,e4,e5,e6⟩:=hSw
  go_simp
 simp only [Act.put,ls]
 refine wpAnyH_take (i:=11) (v:=.pointer (some ⟨w.heap.size,5,none⟩)) rfl (by kernel_rfl) (by kernel_rfl) (by kernel_rfl) (fun _ _ _ h=>h) (Or.inl ⟨by rfl,?_⟩) hS ?_
 ·intro wq hSw
  obtain ⟨e0,e1,e2,e3,e4,e5,e6⟩:=hSw
  go_simp
 simp only [Act.put,ls]
 refine wpAnyH_take (i:=12) (v:=.slice p5 x5.length c5) rfl (by kernel_rfl) (by kernel_rfl) (by kernel_rfl) (fun _ _ _ h=>h) (Or.inl ⟨by rfl,?_⟩) hS ?_
 ·intro wq hSw
  obtain ⟨e0,e1,e2,e3,e4,e5,e6⟩:=hSw
  go_simp
 simp only [Act.put,ls]
 refine wpAnyH_take (i:=14) (v:=.pointer (some ⟨w.heap.size,6,none⟩)) rfl (by kernel_rfl) (by kernel_rfl) (by kernel_rfl) (fun _ _ _ h=>h) (Or.inl ⟨by rfl,?_⟩) hS ?_
 ·intro wq hSw
  obtain ⟨e0,e1,e2,e3,e4,e5,e6⟩:=hSw
  go_simp
 simp only [Act.put,ls]
 refine wpAnyH_take (i:=15) (v:=.slice p6 x6.length c6) rfl (by kernel_rfl) (by kernel_rfl) (by kernel_rfl) (fun _ _ _ h=>h) (Or.inl ⟨by rfl,?_⟩) hS ?_
 ·intro wq hSw
  obtain ⟨e0,e1,e2,e3,e4,e5,e6⟩:=hSw
  go_simp
 simp only [Act.put,ls]
 have hlo2:=HS.out.2.1
 refine region_res [⟨2,some 7,[],[]⟩,⟨5,some 10,[],[]⟩,⟨6,some 11,[],[]⟩,⟨9,some 14,[6],[6]⟩,⟨10,some 15,[],[]⟩,⟨13,some 18,[10],[10]⟩,⟨16,some 21,[],[]⟩,⟨17,some 22,[2,5,9,13,16],[2,5,9,13,16]⟩,⟨18,some 3,[],[]⟩,⟨19,none,[17,18],[17,18]⟩] (MachR x0 x1 x2 x3 x4 x5 x6) (fun wx=>Below W0.heap.size W0 wx) W0.heap.size (fun _=>undef) (fun _ _=>False) 42 rfl (by kernel_rfl) (fun _ h=>h.size) (Below.refl W0.heap.size W0).drew (fun _ _ h=>h.elim) (fun _ _ _ h=>h.elim) ?_ MachR.stay ?_ ?_
 ·exact ⟨fun h=>absurd h (by decide),fun h=>absurd h (by decide),fun h=>absurd h (by decide),fun h=>absurd h (by decide),fun h=>absurd h (by decide),fun h=>absurd h (by decide),fun h=>absurd h (by decide),fun h=>absurd h (by decide),fun h=>absurd h (by decide),fun h=>absurd h (by decide),trivial⟩
 ·refine ⟨?_,?_,?_,?_,?_,?_,?_,?_,?_,?_,trivial⟩
  ·refine .inr ⟨_,rfl,fun val X a wx K hFr hds hT hN hdom hdis hK => ?_⟩
   obtain ⟨tm,df⟩:=a
   obtain rfl:df=[]:=hds
   have bw:Below w.heap.size w wx:=HS.out.1.trans (Below.mono hFr HS.out.1.size)
   have hlo:=hFr.size
   refine step_call1 rfl 80 (.tmp 6) _ rfl (enters_of Tryz.func80 (by kernel_rfl) rfl) (.agg #[.slice p0 x0.length c0,.slice p1 x1.length c1]) ((hT 6 undef (by decide)).trans rfl) (fun r w'=>∃ us:List Value,r = .agg us.toArray∧OFs w' us [.row x0,.row x1] (Btw wx.heap.size w'.heap.size)∧Below wx.heap.size wx w') ((l06CopyTable_dt [.slice p0 x0.length c0,.slice p1 x1.length c1] [.row x0,.row x1] S _ ⟨_,_,rfl,q0,q1⟩ ⟨HA.out.1.up bw,HA.out.2.1.up bw,trivial⟩ (by rw [show Dt.bR [.row x0,.row x1]=Dt.bS x0+Dt.bS x1 from (by simp [Dt.bR,Dt.bulk])]; omega)).mono (fun e w' ⟨us,he,h1,h2⟩=>⟨_,he,us,rfl,h1,h2⟩)) ?_
   rintro r w' ⟨us,rfl,N,b1⟩
   obtain ⟨v0,v1,rfl,k0,k1⟩:=fs2 N.at
   obtain ⟨s0,t0,rfl⟩:=k0.form
   obtain ⟨s1,t1,rfl⟩:=k1.form
   exact hK _ _ w' (hFr.trans (b1.mono hlo)) (HZ.out _ (hFr.trans (b1.mono hlo))) b1.size (fun b j hx _=>b1.block b (hdom j b hx).2) (fun b hb => .inr hb) ⟨s0,s1,t0,t1,rfl,N⟩
  ·refine .inr ⟨_,rfl,fun val X a wx K hFr hds hT hN hdom hdis hK => ?_⟩
   obtain ⟨tm,df⟩:=a
   obtain rfl:df=[]:=hds
   have bw:Below w.heap.size w wx:=HS.out.1.trans (Below.mono hFr HS.out.1.size)
   have hlo:=hFr.size
   refine step_call1 rfl 81 (.tmp 9) _ rfl (enters_of Tryz.func81 (by kernel_rfl) rfl) (.slice p2 x2.length c2) ((hT 9 undef (by decide)).trans rfl) (fun r w'=>Own w' r (.row x2) (Btw wx.heap.size w'.heap.size)∧Below wx.heap.size wx w') ((l05Copy_dt _ x2 S _ q2 (HA.out.2.2.1.up bw) (by omega)).mono (fun e w' ⟨u,he,h1,h2⟩=>⟨u,he,h1,h2⟩)) ?_
   rintro r w' ⟨N,b1⟩
   exact hK _ _ w' (hFr.trans (b1.mono hlo)) (HZ.out _ (hFr.trans (b1.mono hlo))) b1.size (fun b j hx _=>b1.block b (hdom j b hx).2) (fun b hb => .inr hb) N
  ·refine .inr ⟨_,rfl,fun val X a wx K hFr hds hT hN hdom hdis hK => ?_⟩
   obtain ⟨tm,df⟩:=a
   obtain rfl:df=[]:=hds
   have bw:Below w.heap.size w wx:=HS.out.1.trans (Below.mono hFr HS.out.1.size)
   have hlo:=hFr.size
   have b1:Below wx.heap.size wx (wx.alloc (.cells #[] 3)):=(Below.refl _ wx).alloc (Nat.le_refl _) _
   have hk:=hK (.slice (some ⟨wx.heap.size,0,none⟩) 0 0) (fun b=>b=wx.heap.size) (wx.alloc (.cells #[] 3)) (hFr.alloc hlo _) (HZ.out _ (hFr.alloc hlo _)) b1.size (fun b j hx _=>b1.block b (hdom j b hx).2) (fun b hb => .inr ⟨by omega,by rw [hb]; simp⟩) ⟨wx.heap.size,rfl,(MapKept.heap_alloc wx _).1,rfl⟩
   clear hK hN hT hdom hdis
   go_simp
   exact hk
  ·refine .inr ⟨_,rfl,fun val X a wx K hFr hds hT hN hdom hdis hK => ?_⟩
   obtain ⟨tm,df⟩:=a
   obtain rfl:df=[]:=hds
   have h6:=hN ⟨6,some 11,[],[]⟩ (by simp) (by simp)
   have bw:Below w.heap.size w wx:=HS.out.1.trans (Below.mono hFr HS.out.1.size)
   have hlo:=hFr.size
   obtain ⟨g,eg,hg,hgY⟩:=h6.2
   have hg0:=(hdom _ g hgY).1
   refine step_append_fat rfl (.tmp 11) (.tmp 13) 23 rfl W0.heap.size 3 iI (.int .i64 0) 1 8 Tryz.underlying23 hiI hzI0 hzI1 hzI2 rfl (by decide) (.slice (some ⟨g,0,none⟩) 0 0) 0 [] ((h6.1 11 undef rfl).trans eg) (row_empty hg hg0) (.slice p4 x4.length c4) ((hT 13 undef (by decide)).trans rfl) x4 S (HA.out.2.2.2.2.1.up bw) (q4.len IntR.len) (by unfold maxLen; omega) (by omega) hlo ?_
   intro v' w' flat hown hgr hat hf
   rw [Nat.zero_add,List.nil_append] at hown
   have own:=(own_atoms hown (q4.len IntR.len) hf (fun i j r d hr hj=>(q4 i r hr).atoms j d hj)).mono (X':=fun b=>v'.ownBlock=some b) (fun b hb=>hb.2)
   have hb':Below W0.heap.size W0 w':=Below.grown hFr hgr hlo (fun k hk=>by simp [Value.ownBlock] at hk; omega)
   refine hK v' _ w' hb' (HZ.out _ hb') hgr.size (fun b j hx hj=>hgr.block b (hdom j b hx).2 (fun e=>hj (by simp [Value.ownBlock] at e; subst e; rw [hdis j _ _ hx hgY]; simp))) (fun b hb => ?_) own
   have hlt:=own_lt hown b hb
   rcases hat with hat | hat
   ·rw [hat] at hb; simp [Value.ownBlock] at hb; exact .inl ⟨6,by simp,hb ▸ hgY⟩
   ·rw [hat] at hb; simp at hb; exact .inr ⟨by omega,hlt⟩
  ·refine .inr ⟨_,rfl,fun val X a wx K hFr hds hT hN hdom hdis hK => ?_⟩
   obtain ⟨tm,df⟩:=a
   obtain rfl:df=[]:=hds
   have bw:Below w.heap.size w wx:=HS.out.1.trans (Below.mono hFr HS.out.1.size)
   have hlo:=hFr.size
   have b1:Below wx.heap.size wx (wx.alloc (.cells #[] 3)):=(Below.refl _ wx).alloc (Nat.le_refl _) _
   have hk:=hK (.slice (some ⟨wx.heap.size,0,none⟩) 0 0) (fun b=>b=wx.heap.size) (wx.alloc (.cells #[] 3)) (hFr.alloc hlo _) (HZ.out _ (hFr.alloc hlo _)) b1.size (fun b j hx _=>b1.block b (hdom j b hx).2) (fun b hb => .inr ⟨by omega,by rw [hb]; simp⟩) ⟨wx.heap.size,rfl,(MapKept.heap_alloc wx _).1,rfl⟩
   clear hK hN hT hdom hdis
   go_simp
   exact hk
  ·refine .inr ⟨_,rfl,fun val X a wx K hFr hds hT hN hdom hdis hK => ?_⟩
   obtain ⟨tm,df⟩:=a
   obtain rfl:df=[]:=hds
   have h10:=hN ⟨10,some 15,[],[]⟩ (by simp) (by simp)
   have bw:Below w.heap.size w wx:=HS.out.1.trans (Below.mono hFr HS.out.1.size)
   have hlo:=hFr.size
   obtain ⟨g,eg,hg,hgY⟩:=h10.2
   have hg0:=(hdom _ g hgY).1
   refine step_append_fat rfl (.tmp 15) (.tmp 17) 23 rfl W0.heap.size 3 iI (.int .i64 0) 1 8 Tryz.underlying23 hiI hzI0 hzI1 hzI2 rfl (by decide) (.slice (some ⟨g,0,none⟩) 0 0) 0 [] ((h10.1 15 undef rfl).trans eg) (row_empty hg hg0) (.slice p5 x5.length c5) ((hT 17 undef (by decide)).trans rfl) x5 S (HA.out.2.2.2.2.2.1.up bw) (q5.len IntR.len) (by unfold maxLen; omega) (by omega) hlo ?_
   intro v' w' flat hown hgr hat hf
   rw [Nat.zero_add,List.nil_append] at hown
   have own:=(own_atoms hown (q5.len IntR.len) hf (fun i j r d hr hj=>(q5 i r hr).atoms j d hj)).mono (X':=fun b=>v'.ownBlock=some b) (fun b hb=>hb.2)
   have hb':Below W0.heap.size W0 w':=Below.grown hFr hgr hlo (fun k hk=>by simp [Value.ownBlock] at hk; omega)
   refine hK v' _ w' hb' (HZ.out _ hb') hgr.size (fun b j hx hj=>hgr.block b (hdom j b hx).2 (fun e=>hj (by simp [Value.ownBlock] at e; subst e; rw [hdis j _ _ hx hgY]; simp))) (fun b hb => ?_) own
   have hlt:=own_lt hown b hb
   rcases hat with hat | hat
   ·rw [hat] at hb; simp [Value.ownBlock] at hb; exact .inl ⟨10,by simp,hb ▸ hgY⟩
   ·rw [hat] at hb; simp at hb; exact .inr ⟨by omega,hlt⟩
  ·refine .inr ⟨_,rfl,fun val X a wx K hFr hds hT hN hdom hdis hK => ?_⟩
   obtain ⟨tm,df⟩:=a
   obtain rfl:df=[]:=hds
   have bw:Below w.heap.size w wx:=HS.out.1.trans (Below.mono hFr HS.out.1.size)
   have hlo:=hFr.size
   refine step_call1 rfl 82 (.tmp 20) _ rfl (enters_of Tryz.func82 (by kernel_rfl) rfl) (.slice p6 x6.length c6) ((hT 20 undef (by decide)).trans rfl) (fun r w'=>Own w' r (.row x6) (Btw wx.heap.size w'.heap.size)∧Below wx.heap.size wx w') ((l06CopyMsgs_dt _ x6 S _ q6 (HA.out.2.2.2.2.2.2.1.up bw) (by omega)).mono (fun e w' ⟨u,he,h1,h2⟩=>⟨u,he,h1,h2⟩)) ?_
   rintro r w' ⟨N,b1⟩
   exact hK _ _ w' (hFr.trans (b1.mono hlo)) (HZ.out _ (hFr.trans (b1.mono hlo))) b1.size (fun b j hx _=>b1.block b (hdom j b hx).2) (fun b hb => .inr hb) N
  ·refine .inr ⟨_,rfl,fun val X a wx K hFr hds hT hN hdom hdis hK => ?_⟩
   obtain ⟨tm,df⟩:=a
   obtain rfl:df=[]:=hds
   have h2:=hN ⟨2,some 7,[],[]⟩ (by simp) (by simp)
   have h5:=hN ⟨5,some 10,[],[]⟩ (by simp) (by simp)
   have h9:=hN ⟨9,some 14,[6],[6]⟩ (by simp) (by simp)
   have h13:=hN ⟨13,some 18,[10],[10]⟩ (by simp) (by simp)
   have h16:=hN ⟨16,some 21,[],[]⟩ (by simp) (by simp)
   have bw:Below w.heap.size w wx:=HS.out.1.trans (Below.mono hFr HS.out.1.size)
   have hlo:=hFr.size
   obtain ⟨s0,s1,t0,t1,e2,o2⟩:=h2.2
   have o5:Own wx (val 5) (.row x2) (X 5):=h5.2
   obtain ⟨s2,t2,e5⟩:=o5.form
   rw [e5] at o5
   have o9:Own wx (val 9) (.row x4) (X 9):=h9.2
   obtain ⟨s4,t4,e9⟩:=o9.form
   rw [e9] at o9
   have o13:Own wx (val 13) (.row x5) (X 13):=h13.2
   obtain ⟨s5,t5,e13⟩:=o13.form
   rw [e13] at o13
   have o16:Own wx (val 16) (.row x6) (X 16):=h16.2
   obtain ⟨s6,t6,e16⟩:=o16.form
   rw [e16] at o16
   have key:=(((OFs.snoc1 (Z:=fun b=>X 2 b∨X 5 b) o2 o5 (fun _ h => .inl h) (fun _ h => .inr h) (fun b h h'=>absurd (hdis _ _ b h h') (by decide))).snoc1 (Z:=fun b=>(X 2 b∨X 5 b)∨X 9 b) o9 (fun _ h => .inl h) (fun _ h => .inr h) (fun b h h'=>h.elim (fun h=>absurd (hdis _ _ b h h') (by decide)) (fun h=>absurd (hdis _ _ b h h') (by decide)))).snoc1 (Z:=fun b=>((X 2 b∨X 5 b)∨X 9 b)∨X 13 b) o13 (fun _ h => .inl h) (fun _ h => .inr h) (fun b h h'=>by rcases h with (h | h) | h <;> exact absurd (hdis _ _ b h h') (by decide))).snoc1 (Z:=fun b=>(((X 2 b∨X 5 b)∨X 9 b)∨X 13 b)∨X 16 b) o16 (fun _ h => .inl h) (fun _ h => .inr h) (fun b h h'=>by rcases h with ((h | h) | h) | h <;> exact absurd (hdis _ _ b h h') (by decide))
   have hk:=hK (.agg #[.slice s0 x0.length t0,.slice s1 x1.length t1,.slice s2 x2.length t2,.slice none 0 0,.slice s4 x4.length t4,.slice s5 x5.length t5,.slice s6 x6.length t6]) _ wx hFr (HZ.out _ hFr) (Nat.le_refl _) (fun _ _ _ _=>rfl) (fun b hb=>by rcases hb with (((hb | hb) | hb) | hb) | hb <;> exact .inl ⟨_,by simp,hb⟩) ⟨s0,s1,s2,s4,s5,s6,t0,t1,t2,t4,t5,t6,rfl,key⟩
   refine step_yields rfl (ex_buildM5 _ _ (.tmp 7) (.tmp 10) (.tmp 14) (.tmp 18) (.tmp 21) _ _ _ _ _ _ _ _ _ _ _ _ _ _ _ _ _ _ wx rfl ((h2.1 7 undef rfl).trans e2) ((h5.1 10 undef rfl).trans e5) ((h9.1 14 undef rfl).trans e9) ((h13.1 18 undef rfl).trans e13) ((h16.1 21 undef rfl).trans e16)) hk
  ·refine .inr ⟨_,rfl,fun val X a wx K hFr hds hT hN hdom hdis hK => ?_⟩
   obtain ⟨tm,df⟩:=a
   obtain rfl:df=[]:=hds
   have bw:Below w.heap.size w wx:=HS.out.1.trans (Below.mono hFr HS.out.1.size)
   have hlo:=hFr.size
   have b1:Below wx.heap.size wx (wx.alloc (.cells #[.slice none 0 0,.slice none 0 0,.slice none 0 0,.slice none 0 0,.slice none 0 0,.slice none 0 0,.slice none 0 0] 45)):=(Below.refl _ wx).alloc (Nat.le_refl _) _
   have hk:=hK (.pointer (some ⟨wx.heap.size,0,none⟩)) (fun b=>b=wx.heap.size) (wx.alloc (.cells #[.slice none 0 0,.slice none 0 0,.slice none 0 0,.slice none 0 0,.slice none 0 0,.slice none 0 0,.slice none 0 0] 45)) (hFr.alloc hlo _) (HZ.out _ (hFr.alloc hlo _)) b1.size (fun b j hx _=>b1.block b (hdom j b hx).2) (fun b hb => .inr ⟨by omega,by rw [hb]; simp⟩) ⟨wx.heap.size,rfl,(MapKept.heap_alloc wx _).1,rfl⟩
   clear hK hN hT hdom hdis
   go_simp
   exact hk
  ·refine .inr ⟨_,rfl,fun val X a wx K hFr hds hT hN hdom hdis hK => ?_⟩
   obtain ⟨tm,df⟩:=a
   obtain rfl:df=[]:=hds
   have h17:=hN ⟨17,some 22,[2,5,9,13,16],[2,5,9,13,16]⟩ (by simp) (by simp)
   have h18:=hN ⟨18,some 3,[],[]⟩ (by simp) (by simp)
   have bw:Below w.heap.size w wx:=HS.out.1.trans (Below.mono hFr HS.out.1.size)
   have hlo:=hFr.size
   obtain ⟨s0,s1,s2,s4,s5,s6,t0,t1,t2,t4,t5,t6,e17,o17⟩:=h17.2
   obtain ⟨g,e18,hg,hgY⟩:=h18.2
   have hg0:=(hdom _ g hgY).1
   have hgl:=lh hg
   have y0:=cb hg 0 (.slice none 0 0) rfl
   have f0:=ub hg 0
   have y1:=cb hg 1 (.slice none 0 0) rfl
   have f1:=ub hg 1
   have y2:=cb hg 2 (.slice none 0 0) rfl
   have f2:=ub hg 2
   have y3:=cb hg 3 (.slice none 0 0) rfl
   have f3:=ub hg 3
   have y4:=cb hg 4 (.slice none 0 0) rfl
   have f4:=ub hg 4
   have y5:=cb hg 5 (.slice none 0 0) rfl
   have f5:=ub hg 5
   have y6:=cb hg 6 (.slice none 0 0) rfl
   have f6:=ub hg 6
   obtain ⟨W1,hW1⟩:∃ W1,W1=(((((((wx.setCell ⟨g,0,none⟩ (.slice s0 x0.length t0)).setCell ⟨g,1,none⟩ (.slice s1 x1.length t1)).setCell ⟨g,2,none⟩ (.slice s2 x2.length t2)).setCell ⟨g,3,none⟩ (.slice none 0 0)).setCell ⟨g,4,none⟩ (.slice s4 x4.length t4)).setCell ⟨g,5,none⟩ (.slice s5 x5.length t5)).setCell ⟨g,6,none⟩ (.slice s6 x6.length t6)):=⟨_,rfl⟩
   have eW:∀ b,b≠g→W1.heap[b]? = wx.heap[b]? := fun b hb=>by
     rw [hW1]
     simp only [Below.heap_setCell _ _ _ b (show b≠(⟨g,_,none⟩:Addr).block from hb)]
   have OB:W1.heap[g]? = some (.cells #[.slice s0 x0.length t0,.slice s1 x1.length t1,.slice s2 x2.length t2,.slice none 0 0,.slice s4 x4.length t4,.slice s5 x5.length t5,.slice s6 x6.length t6] 45):=by
     rw [hW1]
     have:=(block_setCell (i:=6) (block_setCell (i:=5) (block_setCell (i:=4) (block_setCell (i:=3) (block_setCell (i:=2) (block_setCell (i:=1) (block_setCell (i:=0) hg (.slice s0 x0.length t0)) (.slice s1 x1.length t1)) (.slice s2 x2.length t2)) (.slice none 0 0)) (.slice s4 x4.length t4)) (.slice s5 x5.length t5)) (.slice s6 x6.length t6))
     simpa only [List.setIfInBounds_toArray,List.set_cons_zero,List.set_cons_succ] using this
   have sW:W1.heap.size=wx.heap.size:=by rw [hW1]; simp
   have BW:Below W0.heap.size W0 W1:=by
     rw [hW1]
     iterate 7 refine Below.setCell ?_ (by simp; omega) _
     exact hFr
   have hk:=hK undef (fun b=>X 17 b∨X 18 b) W1 BW (HZ.out _ BW) (by omega) (fun b j hx hj=>eW b (fun e=>hj (by subst e; rw [hdis j _ _ hx hgY]; simp))) (fun b hb => .inl (hb.elim (fun h=>⟨17,by simp,h⟩) (fun h=>⟨18,by simp,h⟩))) ⟨g,s0,s1,s2,s4,s5,s6,t0,t1,t2,t4,t5,t6,X 17,by show [val 17,val 18]=_; rw [e17,e18],OB,.inr hgY,OFs.moved o17 (fun b hb _=>eW b (fun e=>absurd (hdis _ _ _ hb (e ▸ hgY)) (by decide))),fun b hb=>⟨.inl hb,fun e=>absurd (hdis _ _ _ hb (e ▸ hgY)) (by decide)⟩⟩
   rw [hW1] at hk
   have r3:tm.getD 3 undef = .pointer (some ⟨g,0,none⟩):=(h18.1 3 undef rfl).trans e18
   have r22:tm.getD 22 undef = .agg #[.slice s0 x0.length t0,.slice s1 x1.length t1,.slice s2 x2.length t2,.slice none 0 0,.slice s4 x4.length t4,.slice s5 x5.length t5,.slice s6 x6.length t6]:=(h17.1 22 undef rfl).trans e17
   clear hK hN hT hdom hdis eW OB sW BW o17 h17 h18 hW1
   go_simp
   exact hk
 ·intro val X W1 BW hdom hdis hres
  obtain ⟨g18,s0,s1,s2,s4,s5,s6,t0,t1,t2,t4,t5,t6,Z,evs,OB,hgY,FOW,hZ⟩:=hres ⟨19,none,[17,18],[17,18]⟩ (by simp) (by simp)
  have e18:val 18 = .pointer (some ⟨g18,0,none⟩):=by have:=congrArg (fun l:List Value=>l[1]?) evs; simpa using this
  have hg0:=(hdom 19 g18 hgY).1
  have hgl:=lh OB
  have hsz0:=HS.out.2.1
  have O0W:W1.heap[w.heap.size]? = some (.cells #[.slice p0 x0.length c0,.slice p1 x1.length c1,.slice p2 x2.length c2,.slice p3 x3.length c3,.slice p4 x4.length c4,.slice p5 x5.length c5,.slice p6 x6.length c6] 45):=(BW.block _ (lh HS.out.2.2.1)).trans HS.out.2.2.1
  have O1W:W1.heap[w.heap.size+1]? = some (.cells #[.slice none 0 0,.slice none 0 0,.slice none 0 0,.slice none 0 0,.slice none 0 0,.slice none 0 0,.slice none 0 0] 45):=(BW.block _ (lh HS.out.2.2.2)).trans HS.out.2.2.2
  have hS1:W1.cell? ⟨w.heap.size,0,none⟩=some (.slice p0 x0.length c0)∧W1.cell? ⟨w.heap.size,1,none⟩=some (.slice p1 x1.length c1)∧W1.cell? ⟨w.heap.size,2,none⟩=some (.slice p2 x2.length c2)∧W1.cell? ⟨w.heap.size,3,none⟩=some (.slice p3 x3.length c3)∧W1.cell? ⟨w.heap.size,4,none⟩=some (.slice p4 x4.length c4)∧W1.cell? ⟨w.heap.size,5,none⟩=some (.slice p5 x5.length c5)∧W1.cell? ⟨w.heap.size,6,none⟩=some (.slice p6 x6.length c6):=⟨by rw [cell_of_block O0W]; rfl,by rw [cell_of_block O0W]; rfl,by rw [cell_of_block O0W]; rfl,by rw [cell_of_block O0W]; rfl,by rw [cell_of_block O0W]; rfl,by rw [cell_of_block O0W]; rfl,by rw [cell_of_block O0W]; rfl⟩
  have HF1:=(show Hid (_∧_∧_∧_∧_∧_∧_) from ⟨OB,(OFs.mono FOW (X':=fun b=>(W0.heap.size≤b∧b<W1.heap.size)∧b≠g18) (fun b hb=>⟨hdom 19 b (hZ b hb).1,(hZ b hb).2⟩)),O0W,O1W,HS.out.1.trans (Below.mono BW HS.out.1.size),(rfl:W1.heap.size=W1.heap.size),hS1⟩)
  simp only [fillT,if_true,e18,List.setIfInBounds_toArray,List.set_cons_zero,List.set_cons_succ]
  clear OB FOW O0W O1W BW hS1 hdom hdis hres hgY hZ evs e18
  obtain ⟨iT,hiT,hzT0,hzT1,hzT2⟩:=info_parts infoThM
  go_wp2
  go_loopw [4] (fun i wr=>∃ (k:Nat) (oa:Option Addr) (oc:Nat),k≤x3.length∧i = .int .i64 k∧Hid (Grow wr W1.heap.size 145 5 (.slice oa k oc) k x3)∧Hid (wr.heap[g18]? = some (.cells #[.slice s0 x0.length t0,.slice s1 x1.length t1,.slice s2 x2.length t2,.slice oa k oc,.slice s4 x4.length t4,.slice s5 x5.length t5,.slice s6 x6.length t6] 45))∧Hid (KB (fun b=>b=g18∨W1.heap.size≤b) W1 wr)) (fun i _=>x3.length - (intOf i).toNat)
  case atStart=>exact ⟨0,none,0,Nat.zero_le _,rfl,Grow.start ⟨rfl,.inl ⟨rfl,rfl⟩⟩ x3,HF1.out.1,KB.refl _ _⟩
  case round =>
   obtain ⟨k,oa,oc,hk,rfl,HG,HOB,HKB⟩:=hrel
   have hszr:W1.heap.size≤wr.heap.size:=by have:=HKB.out.size; have:=HF1.out.2.2.2.2.2.1; omega
   have o0:=HKB.out.heap HF1.out.2.2.1 (fun hx=>by rcases hx with hx | hx <;> omega)
   have o1:=HKB.out.heap HF1.out.2.2.2.1 (fun hx=>by rcases hx with hx | hx <;> omega)
   have Y3:=cb o0 3 (.slice p3 x3.length c3) rfl
   have hbw:Below w.heap.size w wr:=HF1.out.2.2.2.2.1.trans (HKB.out.below (fun b hb=>by rcases hb with hb | hb <;> omega) HF1.out.2.2.2.2.1.size)
   by_cases hkl:k<x3.length
   ·skip
    have he:=List.getElem?_eq_getElem hkl
    have hbk:=bulkS_at he
    generalize x3[k]=r at *
    obtain ⟨z0,z1,E2,E3,b4,rfl,QA,QB⟩:=q3 k r he
    have hA3:=HA.out.2.2.2.1
    obtain ⟨b,off,rfl,-,hlb,us,hus⟩:=hA3.at he
    have c0':w.cell? ⟨b,off+k * 5,none⟩=some (us 0):=(hus 0 _ rfl).1
    have c1':w.cell? ⟨b,off+k * 5+1,none⟩=some (us 1):=(hus 1 _ rfl).1
    have c2':w.cell? ⟨b,off+k * 5+2,none⟩=some (us 2):=(hus 2 _ rfl).1
    have c3':w.cell? ⟨b,off+k * 5+3,none⟩=some (us 3):=(hus 3 _ rfl).1
    have c4':w.cell? ⟨b,off+k * 5+4,none⟩=some (us 4):=(hus 4 _ rfl).1
    have F0:=(hus 0 _ rfl).2
    have F1:=(hus 1 _ rfl).2
    have F2:=(hus 2 _ rfl).2
    have F3:=(hus 3 _ rfl).2
    have F4:=(hus 4 _ rfl).2
    obtain ⟨e2,h2,w2'⟩:=F2.form
    obtain ⟨e3,h3,w3'⟩:=F3.form
    rw [F0.ofInt.1] at c0' F0
    rw [F1.ofInt.1] at c1' F1
    rw [w2'] at c2' F2
    rw [w3'] at c3' F3
    rw [F4.ofStr.1] at c4' F4
    rw [← hbw.cell (by exact hlb)] at c0' c1' c2' c3' c4'
    have HE:=(show Hid (_∧_∧_) from ⟨(show FsAt wr S [.int .i64 z0,.int .i64 z1,.slice e2 E2.length h2,.slice e3 E3.length h3,.string b4] [.int z0,.int z1,.row E2,.row E3,.str b4] from ⟨F0.up hbw,F1.up hbw,F2.up hbw,F3.up hbw,F4.up hbw,trivial⟩),(show ThreadR [.int z0,.int z1,.row E2,.row E3,.str b4] from ⟨_,_,_,_,_,rfl,QA,QB⟩),he⟩)
    have hlw:b<wr.heap.size:=Nat.lt_of_lt_of_le hlb hbw.size
    have hbu:Dt.bR [.int z0,.int z1,.row E2,.row E3,.str b4]≤1048576:=by omega
    clear hus F0 F1 F2 F3 F4 w2' w3' hA3 QA QB he
    have hlt':((k:Nat):Int)<((x3.length:Nat):Int):=by omega
    have keepS:∀ wz:World,(∀ b',b'<w.heap.size+1→wz.heap[b']? = wr.heap[b']?)→wz.cell? ⟨w.heap.size,3,none⟩=some (.slice (some ⟨b,off,none⟩) x3.length c3)∧wz.cell? ⟨b,off+k * 5,none⟩=some (.int .i64 z0)∧wz.cell? ⟨b,off+k * 5+1,none⟩=some (.int .i64 z1)∧wz.cell? ⟨b,off+k * 5+2,none⟩=some (.slice e2 E2.length h2)∧wz.cell? ⟨b,off+k * 5+3,none⟩=some (.slice e3 E3.length h3)∧wz.cell? ⟨b,off+k * 5+4,none⟩=some (.string b4):=fun wz hz =>
     ⟨(World.cell?_of_block (hz _ (by simp))).trans Y3,(World.cell?_of_block (hz _ (by simp; omega))).trans c0',(World.cell?_of_block (hz _ (by simp; omega))).trans c1',(World.cell?_of_block (hz _ (by simp; omega))).trans c2',(World.cell?_of_block (hz _ (by simp; omega))).trans c3',(World.cell?_of_block (hz _ (by simp; omega))).trans c4'⟩
    have HKS:=(show Hid (_∧True) from ⟨keepS,trivial⟩)
    have hS0:=keepS wr (fun _ _=>rfl)
    have HS0:=(show Hid (_∧True) from ⟨hS0,trivial⟩)
    clear keepS hS0 o1
    go_wp2_with fail
    refine wp_region_held_drew (S:=fun w'=>w'.cell? ⟨w.heap.size,3,none⟩=some (.slice (some ⟨b,off,none⟩) x3.length c3)∧w'.cell? ⟨b,off+k * 5,none⟩=some (.int .i64 z0)∧w'.cell? ⟨b,off+k * 5+1,none⟩=some (.int .i64 z1)∧w'.cell? ⟨b,off+k * 5+2,none⟩=some (.slice e2 E2.length h2)∧w'.cell? ⟨b,off+k * 5+3,none⟩=some (.slice e3 E3.length h3)∧w'.cell? ⟨b,off+k * 5+4,none⟩=some (.string b4)) (by kernel_rfl) HS0.out.1 (fun hS => ?_)
    refine wpAnyH_take (i:=0) (v:=.pointer (some ⟨g18,3,none⟩)) rfl (by kernel_rfl) (by kernel_rfl) (by kernel_rfl) (fun _ _ _ h=>h) (Or.inl ⟨by rfl,?_⟩) hS ?_
    ·intro wq hSw
     obtain ⟨q3',qa,qb,qc,qd,qe⟩:=hSw
     go_simp
    simp only [Act.put,ls]
    refine wpAnyH_take (i:=2) (v:=.pointer (some ⟨w.heap.size,3,none⟩)) rfl (by kernel_rfl) (by kernel_rfl) (by kernel_rfl) (fun _ _ _ h=>h) (Or.inl ⟨by rfl,?_⟩) hS ?_
    ·intro wq hSw
     obtain ⟨q3',qa,qb,qc,qd,qe⟩:=hSw
     go_simp
    simp only [Act.put,ls]
    refine wpAnyH_take (i:=3) (v:=.slice (some ⟨b,off,none⟩) x3.length c3) rfl (by kernel_rfl) (by kernel_rfl) (by kernel_rfl) (fun _ _ _ h=>h) (Or.inl ⟨by rfl,?_⟩) hS ?_
    ·intro wq hSw
     obtain ⟨q3',qa,qb,qc,qd,qe⟩:=hSw
     go_simp
    simp only [Act.put,ls]
    refine wpAnyH_take (i:=4) (v:=.int .i64 k) rfl (by kernel_rfl) (by kernel_rfl) (by kernel_rfl) (fun _ _ _ h=>h) (Or.inl ⟨by rfl,?_⟩) hS ?_
    ·intro wq hSw
     obtain ⟨q3',qa,qb,qc,qd,qe⟩:=hSw
     go_simp
    simp only [Act.put,ls]
    refine wpAnyH_take (i:=5) (v:=.pointer (some ⟨b,off+k * 5,none⟩)) rfl (by kernel_rfl) (by kernel_rfl) (by kernel_rfl) (fun _ _ _ h=>h) (Or.inl ⟨by rfl,?_⟩) hS ?_
    ·intro wq hSw
     obtain ⟨q3',qa,qb,qc,qd,qe⟩:=hSw
     go_simp
    simp only [Act.put,ls]
    refine wpAnyH_take (i:=6) (v:=.agg #[.int .i64 z0,.int .i64 z1,.slice e2 E2.length h2,.slice e3 E3.length h3,.string b4]) rfl (by kernel_rfl) (by kernel_rfl) (by kernel_rfl) (fun _ _ _ h=>h) (Or.inl ⟨by rfl,?_⟩) hS ?_
    ·intro wq hSw
     obtain ⟨q3',qa,qb,qc,qd,qe⟩:=hSw
     go_simp
    simp only [Act.put,ls]
    obtain ⟨flatk,hflat⟩:=HG.out.row
    have HH:=(show Hid (_∧True) from ⟨hflat,trivial⟩)
    clear hflat
    refine wpAnyH_ready (rs:=[1,7]) (by kernel_rfl) (by simp) ?_
    refine AllReadyH.cons rfl (fun K hK => ?_) (AllReadyH.cons rfl (fun K hK => ?_) AllReadyH.nil)
    ·have U3:wr.drew.cell? ⟨g18,3,none⟩=some (.slice oa k oc):=by rw [cell_of_block (show wr.drew.heap[g18]? = _ from HOB.out)]; rfl
     go_simp
     clear U3
     refine hK.out _ _ (HKS.out.1 wr.drew (fun _ _=>rfl)) (fun _ => ?_)
     clear hK K
     try simp only [List.setIfInBounds_toArray,List.set_cons_zero,List.set_cons_succ]
     refine wpAnyH_ready (rs:=[7]) (by kernel_rfl) (by simp) ?_
     refine AllReadyH.cons rfl (fun K hK => ?_) AllReadyH.nil
     refine step_call1 rfl 83 (.tmp 36) _ rfl (enters_of Tryz.func83 (by kernel_rfl) rfl) (.agg #[.int .i64 z0,.int .i64 z1,.slice e2 E2.length h2,.slice e3 E3.length h3,.string b4]) (by simp [Act.eval]) (fun r w'=>∃ us:List Value,r = .agg us.toArray∧OFs w' us [.int z0,.int z1,.row E2,.row E3,.str b4] (Btw wr.heap.size w'.heap.size)∧Below wr.heap.size wr w') ((l06CopyThread_dt [.int .i64 z0,.int .i64 z1,.slice e2 E2.length h2,.slice e3 E3.length h3,.string b4] [.int z0,.int z1,.row E2,.row E3,.str b4] S _ HE.out.2.1 (FsAt.up HE.out.1 (Below.refl wr.heap.size wr).drew) hbu).mono (fun e w' ⟨us,he,h1,h2⟩=>⟨_,he,us,rfl,h1,(Below.refl wr.heap.size wr).drew.trans h2⟩)) ?_
     rintro r w3 ⟨us,rfl,N,b3⟩
     obtain ⟨v0,v1,v2,v3,v4,rfl,k0,k1,k2,k3,k4⟩:=fs5 N.at
     obtain ⟨rfl,-⟩:=k0.ofInt
     obtain ⟨rfl,-⟩:=k1.ofInt
     obtain ⟨n2,m2,rfl⟩:=k2.form
     obtain ⟨n3,m3,rfl⟩:=k3.form
     obtain ⟨rfl,-⟩:=k4.ofStr
     have H3:=(show Hid (_∧_) from ⟨N,b3⟩)
     clear N b3 k0 k1 k2 k3 k4
     refine hK.out _ _ (HKS.out.1 w3 (fun b' hb'=>H3.out.2.block b' (by omega))) (fun _ => ?_)
     clear hK K
     simp only [Act.put,ls]
     refine wpAnyH_ready (rs:=[8]) (by kernel_rfl) (by simp) ?_
     refine AllReadyH.cons rfl (fun K hK => ?_) AllReadyH.nil
     go_simp
     refine hK.out _ _ (HKS.out.1 _ (fun b' hb'=>((H3.out.2.alloc H3.out.2.size _).block b' (by omega)))) (fun _ => ?_)
     clear hK K
     try simp only [List.setIfInBounds_toArray,List.set_cons_zero,List.set_cons_succ]
     refine wpAnyH_ready (rs:=[9]) (by kernel_rfl) (by simp) ?_
     refine AllReadyH.cons rfl (fun K hK => ?_) AllReadyH.nil
     have B4:Below wr.heap.size wr (w3.alloc (.cells #[.int .i64 z0,.int .i64 z1,.slice n2 E2.length m2,.slice n3 E3.length m3,.string b4] 145)):=H3.out.2.alloc H3.out.2.size _
     have ofs:OFs (w3.alloc (.cells #[.int .i64 z0,.int .i64 z1,.slice n2 E2.length m2,.slice n3 E3.length m3,.string b4] 145)) [.int .i64 z0,.int .i64 z1,.slice n2 E2.length m2,.slice n3 E3.length m3,.string b4] [.int z0,.int z1,.row E2,.row E3,.str b4] (Btw wr.heap.size (w3.alloc (.cells #[.int .i64 z0,.int .i64 z1,.slice n2 E2.length m2,.slice n3 E3.length m3,.string b4] 145)).heap.size):=(OFs.up H3.out.1 ((Below.refl _ w3).alloc (Nat.le_refl _) _)).mono (fun b hb=>⟨hb.1,by have:=hb.2; simp; omega⟩)
     have R4:=own_moved (W':=(w3.alloc (.cells #[.int .i64 z0,.int .i64 z1,.slice n2 E2.length m2,.slice n3 E3.length m3,.string b4] 145))) HH.out.1 (fun g hg=>B4.block g (own_lt HH.out.1 g hg))
     refine step_append_row rfl (.tmp 31) (.tmp 38) 42 rfl W1.heap.size 145 iT _ 5 80 Tryz.underlying42 hiT hzT0 hzT1 hzT2 rfl (by decide) (.slice oa k oc) k _ (by simp [Act.eval]) R4 ⟨w3.heap.size,0,none⟩ 1 1 [.int .i64 z0,.int .i64 z1,.slice n2 E2.length m2,.slice n3 E3.length m3,.string b4] (by simp [Act.eval]) rfl ?_ (by intro u hu; simp at hu; rcases hu with rfl | rfl | rfl | rfl | rfl <;> rfl) (by unfold maxLen; omega) (by omega) (Nat.le_trans hszr B4.size) ?_
     ·intro j u hj
      rw [addr_add,Nat.zero_add,cell_of_block (MapKept.heap_alloc w3 _).1]
      simpa using hj
     intro v8 w8 hown8 hgrow8 hat8
     obtain ⟨a8,c8,rfl⟩:=own_form hown8
     have ob8:=(hgrow8.block g18 (Nat.lt_of_lt_of_le (lh HOB.out) B4.size) (fun e=>by have:=(own_type HH.out.1 g18 e.symm).1; omega)).trans ((B4.block _ (lh HOB.out)).trans HOB.out)
     have st8:∀ b',b'<W1.heap.size→w8.heap[b']? = wr.heap[b']? := fun b' hb'=>(hgrow8.block b' (by have:=B4.size; omega) (fun e=>by have:=(own_type HH.out.1 b' e.symm).1; omega)).trans (B4.block b' (by omega))
     have G8:=Grow.next HG.out B4 hszr HE.out.2.2 (q3.len ThreadR.len) ofs HH.out.1 hown8 hgrow8 hat8
     have kb8:KB (fun b=>b=g18∨W1.heap.size≤b) W1 w8:=HKB.out.trans ⟨hgrow8.os.trans B4.os,hgrow8.tape.trans B4.tape,hgrow8.output.trans B4.output,Nat.le_trans B4.size hgrow8.size,fun b' hl hx=>st8 b' (by have:=not_or.1 hx; omega)⟩
     have H8:=(show Hid (_∧_∧_∧_) from ⟨ob8,st8,G8,kb8⟩)
     clear B4 ofs R4 hown8 hgrow8 hat8 ob8 st8 G8 kb8
     refine hK.out _ _ (HKS.out.1 w8 (fun b' hb'=>H8.out.2.1 b' (by omega))) (fun _ => ?_)
     clear hK K
     simp only [Act.put,ls]
     refine wpAnyH_take (i:=10) (v:=.pointer (some ⟨g18,3,none⟩)) rfl (by kernel_rfl) (by kernel_rfl) (by kernel_rfl) (fun _ _ _ h=>h) (Or.inl ⟨by rfl,?_⟩) (HKS.out.1 w8 (fun b' hb'=>H8.out.2.1 b' (by omega))) ?_
     ·intro wq hSw
      obtain ⟨q3',qa,qb,qc,qd,qe⟩:=hSw
      go_simp
     simp only [Act.put,ls]
     refine wpAnyH_ready (rs:=[11]) (by kernel_rfl) (by simp) ?_
     refine AllReadyH.cons rfl (fun K hK => ?_) AllReadyH.nil
     have U3:=cb H8.out.1 3 (.slice oa k oc) rfl
     have V3:=ub H8.out.1 3
     go_simp
     refine hK.out _ _ (HKS.out.1 _ (fun b' hb'=>(Below.heap_setCell _ _ _ _ (by simp; omega)).trans (H8.out.2.1 b' (by omega)))) (fun _ => ?_)
     clear hK K U3 V3
     refine wpAnyH_done (by kernel_rfl) ?_ _
     go_wp2
     refine ⟨⟨k+1,a8,c8,by omega,by go_num,Grow.moved H8.out.2.2.1 (fun b' hb' _=>Below.heap_setCell _ _ _ _ (by simp; omega)) (by simp),?_,?_⟩,by simp [intOf]; omega⟩
     ·have:=block_setCell (i:=3) H8.out.1 (.slice a8 (k+1) c8)
      simp only [List.setIfInBounds_toArray,List.set_cons_zero,List.set_cons_succ] at this
      exact this
     ·exact H8.out.2.2.2.setCell (p:=⟨g18,3,none⟩) (.inl rfl) _
    ·refine step_call1 rfl 83 (.tmp 36) _ rfl (enters_of Tryz.func83 (by kernel_rfl) rfl) (.agg #[.int .i64 z0,.int .i64 z1,.slice e2 E2.length h2,.slice e3 E3.length h3,.string b4]) (by simp [Act.eval]) (fun r w'=>∃ us:List Value,r = .agg us.toArray∧OFs w' us [.int z0,.int z1,.row E2,.row E3,.str b4] (Btw wr.heap.size w'.heap.size)∧Below wr.heap.size wr w') ((l06CopyThread_dt [.int .i64 z0,.int .i64 z1,.slice e2 E2.length h2,.slice e3 E3.length h3,.string b4] [.int z0,.int z1,.row E2,.row E3,.str b4] S _ HE.out.2.1 (FsAt.up HE.out.1 (Below.refl wr.heap.size wr).drew) hbu).mono (fun e w' ⟨us,he,h1,h2⟩=>⟨_,he,us,rfl,h1,(Below.refl wr.heap.size wr).drew.trans h2⟩)) ?_
     rintro r w3 ⟨us,rfl,N,b3⟩
     obtain ⟨v0,v1,v2,v3,v4,rfl,k0,k1,k2,k3,k4⟩:=fs5 N.at
     obtain ⟨rfl,-⟩:=k0.ofInt
     obtain ⟨rfl,-⟩:=k1.ofInt
     obtain ⟨n2,m2,rfl⟩:=k2.form
     obtain ⟨n3,m3,rfl⟩:=k3.form
     obtain ⟨rfl,-⟩:=k4.ofStr
     have H3:=(show Hid (_∧_) from ⟨N,b3⟩)
     clear N b3 k0 k1 k2 k3 k4
     refine hK.out _ _ (HKS.out.1 w3 (fun b' hb'=>H3.out.2.block b' (by omega))) (fun _ => ?_)
     clear hK K
     simp only [Act.put,ls]
     refine wpAnyH_ready (rs:=[1,8]) (by kernel_rfl) (by simp) ?_
     refine AllReadyH.cons rfl (fun K hK => ?_) (AllReadyH.cons rfl (fun K hK => ?_) AllReadyH.nil)
     ·have U3:w3.cell? ⟨g18,3,none⟩=some (.slice oa k oc):=by rw [cell_of_block ((H3.out.2.block _ (lh HOB.out)).trans HOB.out)]; rfl
      go_simp
      clear U3
      refine hK.out _ _ (HKS.out.1 w3 (fun b' hb'=>H3.out.2.block b' (by omega))) (fun _ => ?_)
      clear hK K
      try simp only [List.setIfInBounds_toArray,List.set_cons_zero,List.set_cons_succ]
      refine wpAnyH_ready (rs:=[8]) (by kernel_rfl) (by simp) ?_
      refine AllReadyH.cons rfl (fun K hK => ?_) AllReadyH.nil
      go_simp
      refine hK.out _ _ (HKS.out.1 _ (fun b' hb'=>((H3.out.2.alloc H3.out.2.size _).block b' (by omega)))) (fun _ => ?_)
      clear hK K
      try simp only [List.setIfInBounds_toArray,List.set_cons_zero,List.set_cons_succ]
      refine wpAnyH_ready (rs:=[9]) (by kernel_rfl) (by simp) ?_
      refine AllReadyH.cons rfl (fun K hK => ?_) AllReadyH.nil
      have B4:Below wr.heap.size wr (w3.alloc (.cells #[.int .i64 z0,.int .i64 z1,.slice n2 E2.length m2,.slice n3 E3.length m3,.string b4] 145)):=H3.out.2.alloc H3.out.2.size _
      have ofs:OFs (w3.alloc (.cells #[.int .i64 z0,.int .i64 z1,.slice n2 E2.length m2,.slice n3 E3.length m3,.string b4] 145)) [.int .i64 z0,.int .i64 z1,.slice n2 E2.length m2,.slice n3 E3.length m3,.string b4] [.int z0,.int z1,.row E2,.row E3,.str b4] (Btw wr.heap.size (w3.alloc (.cells #[.int .i64 z0,.int .i64 z1,.slice n2 E2.length m2,.slice n3 E3.length m3,.string b4] 145)).heap.size):=(OFs.up H3.out.1 ((Below.refl _ w3).alloc (Nat.le_refl _) _)).mono (fun b hb=>⟨hb.1,by have:=hb.2; simp; omega⟩)
      have R4:=own_moved (W':=(w3.alloc (.cells #[.int .i64 z0,.int .i64 z1,.slice n2 E2.length m2,.slice n3 E3.length m3,.string b4] 145))) HH.out.1 (fun g hg=>B4.block g (own_lt HH.out.1 g hg))
      refine step_append_row rfl (.tmp 31) (.tmp 38) 42 rfl W1.heap.size 145 iT _ 5 80 Tryz.underlying42 hiT hzT0 hzT1 hzT2 rfl (by decide) (.slice oa k oc) k _ (by simp [Act.eval]) R4 ⟨w3.heap.size,0,none⟩ 1 1 [.int .i64 z0,.int .i64 z1,.slice n2 E2.length m2,.slice n3 E3.length m3,.string b4] (by simp [Act.eval]) rfl ?_ (by intro u hu; simp at hu; rcases hu with rfl | rfl | rfl | rfl | rfl <;> rfl) (by unfold maxLen; omega) (by omega) (Nat.le_trans hszr B4.size) ?_
      ·intro j u hj
       rw [addr_add,Nat.zero_add,cell_of_block (MapKept.heap_alloc w3 _).1]
       simpa using hj
      intro v8 w8 hown8 hgrow8 hat8
      obtain ⟨a8,c8,rfl⟩:=own_form hown8
      have ob8:=(hgrow8.block g18 (Nat.lt_of_lt_of_le (lh HOB.out) B4.size) (fun e=>by have:=(own_type HH.out.1 g18 e.symm).1; omega)).trans ((B4.block _ (lh HOB.out)).trans HOB.out)
      have st8:∀ b',b'<W1.heap.size→w8.heap[b']? = wr.heap[b']? := fun b' hb'=>(hgrow8.block b' (by have:=B4.size; omega) (fun e=>by have:=(own_type HH.out.1 b' e.symm).1; omega)).trans (B4.block b' (by omega))
      have G8:=Grow.next HG.out B4 hszr HE.out.2.2 (q3.len ThreadR.len) ofs HH.out.1 hown8 hgrow8 hat8
      have kb8:KB (fun b=>b=g18∨W1.heap.size≤b) W1 w8:=HKB.out.trans ⟨hgrow8.os.trans B4.os,hgrow8.tape.trans B4.tape,hgrow8.output.trans B4.output,Nat.le_trans B4.size hgrow8.size,fun b' hl hx=>st8 b' (by have:=not_or.1 hx; omega)⟩
      have H8:=(show Hid (_∧_∧_∧_) from ⟨ob8,st8,G8,kb8⟩)
      clear B4 ofs R4 hown8 hgrow8 hat8 ob8 st8 G8 kb8
      refine hK.out _ _ (HKS.out.1 w8 (fun b' hb'=>H8.out.2.1 b' (by omega))) (fun _ => ?_)
      clear hK K
      simp only [Act.put,ls]
      refine wpAnyH_take (i:=10) (v:=.pointer (some ⟨g18,3,none⟩)) rfl (by kernel_rfl) (by kernel_rfl) (by kernel_rfl) (fun _ _ _ h=>h) (Or.inl ⟨by rfl,?_⟩) (HKS.out.1 w8 (fun b' hb'=>H8.out.2.1 b' (by omega))) ?_
      ·intro wq hSw
       obtain ⟨q3',qa,qb,qc,qd,qe⟩:=hSw
       go_simp
      simp only [Act.put,ls]
      refine wpAnyH_ready (rs:=[11]) (by kernel_rfl) (by simp) ?_
      refine AllReadyH.cons rfl (fun K hK => ?_) AllReadyH.nil
      have U3:=cb H8.out.1 3 (.slice oa k oc) rfl
      have V3:=ub H8.out.1 3
      go_simp
      refine hK.out _ _ (HKS.out.1 _ (fun b' hb'=>(Below.heap_setCell _ _ _ _ (by simp; omega)).trans (H8.out.2.1 b' (by omega)))) (fun _ => ?_)
      clear hK K U3 V3
      refine wpAnyH_done (by kernel_rfl) ?_ _
      go_wp2
      refine ⟨⟨k+1,a8,c8,by omega,by go_num,Grow.moved H8.out.2.2.1 (fun b' hb' _=>Below.heap_setCell _ _ _ _ (by simp; omega)) (by simp),?_,?_⟩,by simp [intOf]; omega⟩
      ·have:=block_setCell (i:=3) H8.out.1 (.slice a8 (k+1) c8)
       simp only [List.setIfInBounds_toArray,List.set_cons_zero,List.set_cons_succ] at this
       exact this
      ·exact H8.out.2.2.2.setCell (p:=⟨g18,3,none⟩) (.inl rfl) _
     ·go_simp
      refine hK.out _ _ (HKS.out.1 _ (fun b' hb'=>((H3.out.2.alloc H3.out.2.size _).block b' (by omega)))) (fun _ => ?_)
      clear hK K
      try simp only [List.setIfInBounds_toArray,List.set_cons_zero,List.set_cons_succ]
      refine wpAnyH_ready (rs:=[1]) (by kernel_rfl) (by simp) ?_
      refine AllReadyH.cons rfl (fun K hK => ?_) AllReadyH.nil
      have U3:(w3.alloc (.cells #[.int .i64 z0,.int .i64 z1,.slice n2 E2.length m2,.slice n3 E3.length m3,.string b4] 145)).cell? ⟨g18,3,none⟩=some (.slice oa k oc):=by rw [cell_of_block (((H3.out.2.alloc H3.out.2.size _).block _ (lh HOB.out)).trans HOB.out)]; rfl
      go_simp
      clear U3
      refine hK.out _ _ (HKS.out.1 _ (fun b' hb'=>((H3.out.2.alloc H3.out.2.size _).block b' (by omega)))) (fun _ => ?_)
      clear hK K
      try simp only [List.setIfInBounds_toArray,List.set_cons_zero,List.set_cons_succ]
      refine wpAnyH_ready (rs:=[9]) (by kernel_rfl) (by simp) ?_
      refine AllReadyH.cons rfl (fun K hK => ?_) AllReadyH.nil
      have B4:Below wr.heap.size wr (w3.alloc (.cells #[.int .i64 z0,.int .i64 z1,.slice n2 E2.length m2,.slice n3 E3.length m3,.string b4] 145)):=H3.out.2.alloc H3.out.2.size _
      have ofs:OFs (w3.alloc (.cells #[.int .i64 z0,.int .i64 z1,.slice n2 E2.length m2,.slice n3 E3.length m3,.string b4] 145)) [.int .i64 z0,.int .i64 z1,.slice n2 E2.length m2,.slice n3 E3.length m3,.string b4] [.int z0,.int z1,.row E2,.row E3,.str b4] (Btw wr.heap.size (w3.alloc (.cells #[.int .i64 z0,.int .i64 z1,.slice n2 E2.length m2,.slice n3 E3.length m3,.string b4] 145)).heap.size):=(OFs.up H3.out.1 ((Below.refl _ w3).alloc (Nat.le_refl _) _)).mono (fun b hb=>⟨hb.1,by have:=hb.2; simp; omega⟩)
      have R4:=own_moved (W':=(w3.alloc (.cells #[.int .i64 z0,.int .i64 z1,.slice n2 E2.length m2,.slice n3 E3.length m3,.string b4] 145))) HH.out.1 (fun g hg=>B4.block g (own_lt HH.out.1 g hg))
      refine step_append_row rfl (.tmp 31) (.tmp 38) 42 rfl W1.heap.size 145 iT _ 5 80 Tryz.underlying42 hiT hzT0 hzT1 hzT2 rfl (by decide) (.slice oa k oc) k _ (by simp [Act.eval]) R4 ⟨w3.heap.size,0,none⟩ 1 1 [.int .i64 z0,.int .i64 z1,.slice n2 E2.length m2,.slice n3 E3.length m3,.string b4] (by simp [Act.eval]) rfl ?_ (by intro u hu; simp at hu; rcases hu with rfl | rfl | rfl | rfl | rfl <;> rfl) (by unfold maxLen; omega) (by omega) (Nat.le_trans hszr B4.size) ?_
      ·intro j u hj
       rw [addr_add,Nat.zero_add,cell_of_block (MapKept.heap_alloc w3 _).1]
       simpa using hj
      intro v8 w8 hown8 hgrow8 hat8
      obtain ⟨a8,c8,rfl⟩:=own_form hown8
      have ob8:=(hgrow8.block g18 (Nat.lt_of_lt_of_le (lh HOB.out) B4.size) (fun e=>by have:=(own_type HH.out.1 g18 e.symm).1; omega)).trans ((B4.block _ (lh HOB.out)).trans HOB.out)
      have st8:∀ b',b'<W1.heap.size→w8.heap[b']? = wr.heap[b']? := fun b' hb'=>(hgrow8.block b' (by have:=B4.size; omega) (fun e=>by have:=(own_type HH.out.1 b' e.symm).1; omega)).trans (B4.block b' (by omega))
      have G8:=Grow.next HG.out B4 hszr HE.out.2.2 (q3.len ThreadR.len) ofs HH.out.1 hown8 hgrow8 hat8
      have kb8:KB (fun b=>b=g18∨W1.heap.size≤b) W1 w8:=HKB.out.trans ⟨hgrow8.os.trans B4.os,hgrow8.tape.trans B4.tape,hgrow8.output.trans B4.output,Nat.le_trans B4.size hgrow8.size,fun b' hl hx=>st8 b' (by have:=not_or.1 hx; omega)⟩
      have H8:=(show Hid (_∧_∧_∧_) from ⟨ob8,st8,G8,kb8⟩)
      clear B4 ofs R4 hown8 hgrow8 hat8 ob8 st8 G8 kb8
      refine hK.out _ _ (HKS.out.1 w8 (fun b' hb'=>H8.out.2.1 b' (by omega))) (fun _ => ?_)
      clear hK K
      simp only [Act.put,ls]
      refine wpAnyH_take (i:=10) (v:=.pointer (some ⟨g18,3,none⟩)) rfl (by kernel_rfl) (by kernel_rfl) (by kernel_rfl) (fun _ _ _ h=>h) (Or.inl ⟨by rfl,?_⟩) (HKS.out.1 w8 (fun b' hb'=>H8.out.2.1 b' (by omega))) ?_
      ·intro wq hSw
       obtain ⟨q3',qa,qb,qc,qd,qe⟩:=hSw
       go_simp
      simp only [Act.put,ls]
      refine wpAnyH_ready (rs:=[11]) (by kernel_rfl) (by simp) ?_
      refine AllReadyH.cons rfl (fun K hK => ?_) AllReadyH.nil
      have U3:=cb H8.out.1 3 (.slice oa k oc) rfl
      have V3:=ub H8.out.1 3
      go_simp
      refine hK.out _ _ (HKS.out.1 _ (fun b' hb'=>(Below.heap_setCell _ _ _ _ (by simp; omega)).trans (H8.out.2.1 b' (by omega)))) (fun _ => ?_)
      clear hK K U3 V3
      refine wpAnyH_done (by kernel_rfl) ?_ _
      go_wp2
      refine ⟨⟨k+1,a8,c8,by omega,by go_num,Grow.moved H8.out.2.2.1 (fun b' hb' _=>Below.heap_setCell _ _ _ _ (by simp; omega)) (by simp),?_,?_⟩,by simp [intOf]; omega⟩
      ·have:=block_setCell (i:=3) H8.out.1 (.slice a8 (k+1) c8)
       simp only [List.setIfInBounds_toArray,List.set_cons_zero,List.set_cons_succ] at this
       exact this
      ·exact H8.out.2.2.2.setCell (p:=⟨g18,3,none⟩) (.inl rfl) _
   ·obtain rfl:k=x3.length:=by omega
    have U0:=cb HOB.out 0 (.slice s0 x0.length t0) rfl
    have D0:=cb o1 0 (.slice none 0 0) rfl
    have G0:=ub o1 0
    have U1:=cb HOB.out 1 (.slice s1 x1.length t1) rfl
    have D1:=cb o1 1 (.slice none 0 0) rfl
    have G1:=ub o1 1
    have U2:=cb HOB.out 2 (.slice s2 x2.length t2) rfl
    have D2:=cb o1 2 (.slice none 0 0) rfl
    have G2:=ub o1 2
    have U3:=cb HOB.out 3 (.slice oa x3.length oc) rfl
    have D3:=cb o1 3 (.slice none 0 0) rfl
    have G3:=ub o1 3
    have U4:=cb HOB.out 4 (.slice s4 x4.length t4) rfl
    have D4:=cb o1 4 (.slice none 0 0) rfl
    have G4:=ub o1 4
    have U5:=cb HOB.out 5 (.slice s5 x5.length t5) rfl
    have D5:=cb o1 5 (.slice none 0 0) rfl
    have G5:=ub o1 5
    have U6:=cb HOB.out 6 (.slice s6 x6.length t6) rfl
    have D6:=cb o1 6 (.slice none 0 0) rfl
    have G6:=ub o1 6
    have FOr:=OFs.moved HF1.out.2.1 (w':=wr) (fun b hb hlt=>HKB.out.block b hlt (fun hx=>by have h1:=hb.1.2; have h2:=hb.2; rcases hx with hx | hx <;> omega))
    obtain ⟨-,Y,y1,y2,y3⟩:=OFs.fam FOr
    have o3:=HG.out.done (q3.len ThreadR.len)
    have key:OFs wr [.slice s0 x0.length t0,.slice s1 x1.length t1,.slice s2 x2.length t2,.slice oa x3.length oc,.slice s4 x4.length t4,.slice s5 x5.length t5,.slice s6 x6.length t6] [.row x0,.row x1,.row x2,.row x3,.row x4,.row x5,.row x6] (fun b=>Btw W0.heap.size wr.heap.size b∧b≠g18):=by
     refine OFs.mk (fun j b=>if j=3 then Btw W1.heap.size wr.heap.size b else (if j<3 then Y j b else Y (j - 1) b)) rfl (fun j b hb' => ?_) (fun j j' b h1 h2 => ?_) (fun j v d hv hd => ?_)
     ·by_cases h3:j=3
      ·simp only [h3,if_true] at hb'; exact ⟨⟨by omega,hb'.2⟩,by have:=hb'.1; omega⟩
      ·by_cases h4:j<3
       ·simp only [h3,h4,if_true,if_false] at hb'; have:=y1 _ b hb'; exact ⟨⟨this.1.1,by have:=this.1.2; omega⟩,this.2⟩
       ·simp only [h3,h4,if_false] at hb'; have:=y1 _ b hb'; exact ⟨⟨this.1.1,by have:=this.1.2; omega⟩,this.2⟩
     ·have lt:∀ i,Y i b→b<W1.heap.size:=fun i hi=>(y1 i b hi).1.2
      by_cases h3:j=3 <;> by_cases h3':j'=3 <;> by_cases h4:j<3 <;> by_cases h4':j'<3 <;> simp only [h3,h3',h4,h4',if_true,if_false] at h1 h2 <;> first | omega | (have:=lt _ h2; have:=h1.1; omega) | (have:=lt _ h1; have:=h2.1; omega) | (have:=y2 _ _ b h1 h2; omega)
     ·match j,hv,hd with
      | 0,hv,hd=>simp at hv hd; subst hv hd; exact y3 0 _ _ rfl rfl
      | 1,hv,hd=>simp at hv hd; subst hv hd; exact y3 1 _ _ rfl rfl
      | 2,hv,hd=>simp at hv hd; subst hv hd; exact y3 2 _ _ rfl rfl
      | 3,hv,hd=>simp at hv hd; subst hv hd; exact o3
      | 4,hv,hd=>simp at hv hd; subst hv hd; exact y3 3 _ _ rfl rfl
      | 5,hv,hd=>simp at hv hd; subst hv hd; exact y3 4 _ _ rfl rfl
      | 6,hv,hd=>simp at hv hd; subst hv hd; exact y3 5 _ _ rfl rfl
    obtain ⟨flat,hty⟩:=HG.out.row
    have HF2:=(show Hid (_∧_∧_) from ⟨key,hbw,hty⟩)
    clear key hbw hty FOr o3 y1 y2 y3 HG HOB HKB o0 o1
    go_wp2
    refine bodyPost_ret (v:=.agg #[.slice s0 x0.length t0,.slice s1 x1.length t1,.slice s2 x2.length t2,.slice oa x3.length oc,.slice s4 x4.length t4,.slice s5 x5.length t5,.slice s6 x6.length t6]) (by simp [results,Tryz.results36,go_sem,D0,D1,D2,D3,D4,D5,D6]) rfl ⟨_,rfl,?_,⟨_,rfl,flat,?_⟩,?_⟩
    ·refine (HF2.out.1.moved (fun b hb' _ => ?_)).mono (fun b hb'=>⟨by have:=hb'.1.1; omega,by have:=hb'.1.2; simpa using this⟩)
     have e1:∀ (j:Nat) (u:Value) (W:World),(W.setCell ⟨w.heap.size+1,j,none⟩ u).heap[b]? = W.heap[b]? := fun j u W=>Below.heap_setCell W _ u b (by have:=hb'.1.1; simp; omega)
     simp only [e1]
    ·refine own_mono (own_moved HF2.out.2.2 (fun g hg => ?_)) (by omega)
     have hgb:=(own_type HF2.out.2.2 g hg).1
     have e1:∀ (j:Nat) (u:Value) (W:World),(W.setCell ⟨w.heap.size+1,j,none⟩ u).heap[g]? = W.heap[g]? := fun j u W=>Below.heap_setCell W _ u g (by simp; omega)
     simp only [e1]
    ·iterate 7 refine Below.setCell ?_ (by simp) _
     exact HF2.out.2.1
end Go.Proofs.YtmmadoabejgffaaGreatDoor
