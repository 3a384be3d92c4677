/-
  Proofs.
-/
import Derived.Test.YtmmadoabejgffaaGreatDoorA
import Derived.Test.YtmmadoabejgffaaGreatDoorR
import Derived.Test.YtmmadoabejgffaaGreatDoorQ
import Derived.Test.YtmmadoabejgffaaGreatDoorD
import Derived.OrdersHeld
namespace Go.Proofs.YtmmadoabejgffaaGreatDoor
open Go.RowKit Go.Joins
set_option maxRecDepth 100000
theorem run_buildMachine (a0 a1 a2 a3 a4 a5 a6:Option Addr) (l0 c0 l1 c1 l2 c2 l3 c3 l4 c4 l5 c5 l6 c6:Nat) (w:World):(Instr.build 45 #[(0,.agg #[.slice a0 l0 c0,.slice a1 l1 c1]),(1,.slice a2 l2 c2),(2,.slice a3 l3 c3),(3,.slice a4 l4 c4),(4,.slice a5 l5 c5),(5,.slice a6 l6 c6)]).run Tryz.prog w = .ok (.agg #[.slice a0 l0 c0,.slice a1 l1 c1,.slice a2 l2 c2,.slice a3 l3 c3,.slice a4 l4 c4,.slice a5 l5 c5,.slice a6 l6 c6]) w:=by kernel_rfl
theorem ex_buildMachine (e:Operand→Value) (o:Oper) (x0 x1 x2 x3 x4 x5:Operand) (a0 a1 a2 a3 a4 a5 a6:Option Addr) (l0 c0 l1 c1 l2 c2 l3 c3 l4 c4 l5 c5 l6 c6:Nat) (w:World) (ho:o.op = .build 45 #[(0,x0),(1,x1),(2,x2),(3,x3),(4,x4),(5,x5)]) (h0:e x0 = .agg #[.slice a0 l0 c0,.slice a1 l1 c1]) (h1:e x1 = .slice a2 l2 c2) (h2:e x2 = .slice a3 l3 c3) (h3:e x3 = .slice a4 l4 c4) (h4:e x4 = .slice a5 l5 c5) (h5:e x5 = .slice a6 l6 c6):(execOp e o).run Tryz.prog w = .ok (.value (.agg #[.slice a0 l0 c0,.slice a1 l1 c1,.slice a2 l2 c2,.slice a3 l3 c3,.slice a4 l4 c4,.slice a5 l5 c5,.slice a6 l6 c6])) w:=by
 unfold execOp
 rw [ho]
 simp only [List.map_toArray,List.map_cons,List.map_nil,h0,h1,h2,h3,h4,h5,Sem.run_bind,run_buildMachine,Result.andThen_ok,Sem.run_pure]
set_option maxHeartbeats 12800000 in
theorem copyMachineT_dt:ToMT 98:=by
 rintro vs r S w ⟨x0,x1,x2,x3,x4,x5,x6,rfl,q0,q1,q2,q3,q4,q5,q6⟩ h hb
 obtain ⟨v0,v1,v2,v3,v4,v5,v6,rfl,a0,a1,a2,a3,a4,a5,a6⟩:=fs7 h
 obtain ⟨p0,c0,rfl⟩:=a0.form
 obtain ⟨p1,c1,rfl⟩:=a1.form
 obtain ⟨p2,c2,rfl⟩:=a2.form
 obtain ⟨p3,c3,rfl⟩:=a3.form
 obtain ⟨p4,c4,rfl⟩:=a4.form
 obtain ⟨p5,c5,rfl⟩:=a5.form
 obtain ⟨p6,c6,rfl⟩:=a6.form
 rw [show Dt.bR [.row x0,.row x1,.row x2,.row x3,.row x4,.row x5,.row x6]=Dt.bS x0+Dt.bS x1+Dt.bS x2+Dt.bS x3+Dt.bS x4+Dt.bS x5+Dt.bS x6 from by simp [Dt.bR,Dt.bulk]; try omega] at hb
 obtain ⟨W0,hW0⟩:∃ W0,W0=(w.alloc (.cells #[.slice p0 x0.length c0,.slice p1 x1.length c1,.slice p2 x2.length c2,.slice p3 x3.length c3,.slice p4 x4.length c4,.slice p5 x5.length c5,.slice p6 x6.length c6] 45)).alloc (.cells #[.slice none 0 0,.slice none 0 0,.slice none 0 0,.slice none 0 0,.slice none 0 0,.slice none 0 0,.slice none 0 0] 45):=⟨_,rfl⟩
 have B:Below w.heap.size w W0:=by rw [hW0]; exact ((Below.refl _ w).alloc (Nat.le_refl _) _).alloc (by simp) _
 have SZ:W0.heap.size=w.heap.size+2:=by rw [hW0]; simp
 have O0:W0.heap[w.heap.size]? = some (.cells #[.slice p0 x0.length c0,.slice p1 x1.length c1,.slice p2 x2.length c2,.slice p3 x3.length c3,.slice p4 x4.length c4,.slice p5 x5.length c5,.slice p6 x6.length c6] 45):=by rw [hW0]; exact (Below.heap_alloc _ _ _ (by simp)).trans (MapKept.heap_alloc w _).1
 have O1:W0.heap[w.heap.size+1]? = some (.cells #[.slice none 0 0,.slice none 0 0,.slice none 0 0,.slice none 0 0,.slice none 0 0,.slice none 0 0,.slice none 0 0] 45):=by
  rw [hW0]
  have:=(MapKept.heap_alloc (w.alloc (.cells #[.slice p0 x0.length c0,.slice p1 x1.length c1,.slice p2 x2.length c2,.slice p3 x3.length c3,.slice p4 x4.length c4,.slice p5 x5.length c5,.slice p6 x6.length c6] 45)) (.cells #[.slice none 0 0,.slice none 0 0,.slice none 0 0,.slice none 0 0,.slice none 0 0,.slice none 0 0,.slice none 0 0] 45)).1
  simpa using this
 have HZ:Hid (∀ wx:World,Below W0.heap.size W0 wx→wx.cell? ⟨w.heap.size,0,none⟩=some (.slice p0 x0.length c0)∧wx.cell? ⟨w.heap.size,1,none⟩=some (.slice p1 x1.length c1)∧wx.cell? ⟨w.heap.size,2,none⟩=some (.slice p2 x2.length c2)∧wx.cell? ⟨w.heap.size,3,none⟩=some (.slice p3 x3.length c3)∧wx.cell? ⟨w.heap.size,4,none⟩=some (.slice p4 x4.length c4)∧wx.cell? ⟨w.heap.size,5,none⟩=some (.slice p5 x5.length c5)∧wx.cell? ⟨w.heap.size,6,none⟩=some (.slice p6 x6.length c6)):=fun wx hx=>by
  have o:=(hx.block _ (lh O0)).trans O0
  exact ⟨by rw [cell_of_block o]; rfl,by rw [cell_of_block o]; rfl,by rw [cell_of_block o]; rfl,by rw [cell_of_block o]; rfl,by rw [cell_of_block o]; rfl,by rw [cell_of_block o]; rfl,by rw [cell_of_block o]; rfl⟩
 have HK:Hid (∀ (wx:World) (u0 u1 u2 u3 u4 u5 u6:Value),Below W0.heap.size W0 wx→(((((((wx.setCell ⟨w.heap.size+1,0,none⟩ u0).setCell ⟨w.heap.size+1,1,none⟩ u1).setCell ⟨w.heap.size+1,2,none⟩ u2).setCell ⟨w.heap.size+1,3,none⟩ u3).setCell ⟨w.heap.size+1,4,none⟩ u4).setCell ⟨w.heap.size+1,5,none⟩ u5).setCell ⟨w.heap.size+1,6,none⟩ u6).cell? ⟨w.heap.size,0,none⟩=some (.slice p0 x0.length c0)∧(((((((wx.setCell ⟨w.heap.size+1,0,none⟩ u0).setCell ⟨w.heap.size+1,1,none⟩ u1).setCell ⟨w.heap.size+1,2,none⟩ u2).setCell ⟨w.heap.size+1,3,none⟩ u3).setCell ⟨w.heap.size+1,4,none⟩ u4).setCell ⟨w.heap.size+1,5,none⟩ u5).setCell ⟨w.heap.size+1,6,none⟩ u6).cell? ⟨w.heap.size,1,none⟩=some (.slice p1 x1.length c1)∧(((((((wx.setCell ⟨w.heap.size+1,0,none⟩ u0).setCell ⟨w.heap.size+1,1,none⟩ u1).setCell ⟨w.heap.size+1,2,none⟩ u2).setCell ⟨w.heap.size+1,3,none⟩ u3).setCell ⟨w.heap.size+1,4,none⟩ u4).setCell ⟨w.heap.size+1,5,none⟩ u5).setCell ⟨w.heap.size+1,6,none⟩ u6).cell? ⟨w.heap.size,2,none⟩=some (.slice p2 x2.length c2)∧(((((((wx.setCell ⟨w.heap.size+1,0,none⟩ u0).setCell ⟨w.heap.size+1,1,none⟩ u1).setCell ⟨w.heap.size+1,2,none⟩ u2).setCell ⟨w.heap.size+1,3,none⟩ u3).setCell ⟨w.heap.size+1,4,none⟩ u4).setCell ⟨w.heap.size+1,5,none⟩ u5).setCell ⟨w.heap.size+1,6,none⟩ u6).cell? ⟨w.heap.size,3,none⟩=some (.slice p3 x3.length c3)∧(((((((wx.setCell ⟨w.heap.size+1,0,none⟩ u0).setCell ⟨w.heap.size+1,1,none⟩ u1).setCell ⟨w.heap.size+1,2,none⟩ u2).setCell ⟨w.heap.size+1,3,none⟩ u3).setCell ⟨w.heap.size+1,4,none⟩ u4).setCell ⟨w.heap.size+1,5,none⟩ u5).setCell ⟨w.heap.size+1,6,none⟩ u6).cell? ⟨w.heap.size,4,none⟩=some (.slice p4 x4.length c4)∧(((((((wx.setCell ⟨w.heap.size+1,0,none⟩ u0).setCell ⟨w.heap.size+1,1,none⟩ u1).setCell ⟨w.heap.size+1,2,none⟩ u2).setCell ⟨w.heap.size+1,3,none⟩ u3).setCell ⟨w.heap.size+1,4,none⟩ u4).setCell ⟨w.heap.size+1,5,none⟩ u5).setCell ⟨w.heap.size+1,6,none⟩ u6).cell? ⟨w.heap.size,5,none⟩=some (.slice p5 x5.length c5)∧(((((((wx.setCell ⟨w.heap.size+1,0,none⟩ u0).setCell ⟨w.heap.size+1,1,none⟩ u1).setCell ⟨w.heap.size+1,2,none⟩ u2).setCell ⟨w.heap.size+1,3,none⟩ u3).setCell ⟨w.heap.size+1,4,none⟩ u4).setCell ⟨w.heap.size+1,5,none⟩ u5).setCell ⟨w.heap.size+1,6,none⟩ u6).cell? ⟨w.heap.size,6,none⟩=some (.slice p6 x6.length c6)):=fun wx u0 u1 u2 u3 u4 u5 u6 hx=>by
  have e1:∀ (j:Nat) (u:Value) (W:World),(W.setCell ⟨w.heap.size+1,j,none⟩ u).heap[w.heap.size]? = W.heap[w.heap.size]? := fun j u W=>Below.heap_setCell W _ u _ (by simp)
  have o:(((((((wx.setCell ⟨w.heap.size+1,0,none⟩ u0).setCell ⟨w.heap.size+1,1,none⟩ u1).setCell ⟨w.heap.size+1,2,none⟩ u2).setCell ⟨w.heap.size+1,3,none⟩ u3).setCell ⟨w.heap.size+1,4,none⟩ u4).setCell ⟨w.heap.size+1,5,none⟩ u5).setCell ⟨w.heap.size+1,6,none⟩ u6).heap[w.heap.size]? = some (.cells #[.slice p0 x0.length c0,.slice p1 x1.length c1,.slice p2 x2.length c2,.slice p3 x3.length c3,.slice p4 x4.length c4,.slice p5 x5.length c5,.slice p6 x6.length c6] 45):=by
   simp only [e1]
   exact (hx.block _ (lh O0)).trans O0
  exact ⟨by rw [cell_of_block o]; rfl,by rw [cell_of_block o]; rfl,by rw [cell_of_block o]; rfl,by rw [cell_of_block o]; rfl,by rw [cell_of_block o]; rfl,by rw [cell_of_block o]; rfl,by rw [cell_of_block o]; rfl⟩
 have HS:=(show Hid (_∧_∧_) from ⟨B,SZ,O1⟩)
 have HA:=(show Hid (_∧_∧_∧_∧_∧_∧_∧_) from ⟨a0,a1,a2,a3,a4,a5,a6,trivial⟩)
 have HW:=(show Hid (_∧True) from ⟨hW0,trivial⟩)
 obtain ⟨cc0,cc1,cc2,cc3,cc4,cc5,cc6⟩:=HZ.out W0 (Below.refl _ W0)
 clear B SZ O0 O1 hW0 h a0 a1 a2 a3 a4 a5 a6
 go_enter Tryz.func98,Tryz.ntmps98
 go_wp2_with fail
 rw [← HW.out.1]
 clear HW
 refine wp_region_held_drew (S:=fun w'=>w'.cell? ⟨w.heap.size,0,none⟩=some (.slice p0 x0.length c0)∧w'.cell? ⟨w.heap.size,1,none⟩=some (.slice p1 x1.length c1)∧w'.cell? ⟨w.heap.size,2,none⟩=some (.slice p2 x2.length c2)∧w'.cell? ⟨w.heap.size,3,none⟩=some (.slice p3 x3.length c3)∧w'.cell? ⟨w.heap.size,4,none⟩=some (.slice p4 x4.length c4)∧w'.cell? ⟨w.heap.size,5,none⟩=some (.slice p5 x5.length c5)∧w'.cell? ⟨w.heap.size,6,none⟩=some (.slice p6 x6.length c6)) (by kernel_rfl) (HZ.out W0 (Below.refl _ W0)) (fun hS => ?_)
 refine wpAnyH_take (i:=0) (v:=.pointer (some ⟨w.heap.size,0,none⟩)) rfl (by kernel_rfl) (by kernel_rfl) (by kernel_rfl) (fun _ _ _ h=>h) (Or.inl ⟨by rfl,?_⟩) hS ?_
 ·intro wq hSw
  obtain ⟨e0,e1,e2,e3,e4,e5,e6⟩:=hSw
  go_simp
 simp only [Act.put,ls]
 refine wpAnyH_take (i:=1) (v:=.agg #[.slice p0 x0.length c0,.slice p1 x1.length c1]) rfl (by kernel_rfl) (by kernel_rfl) (by kernel_rfl) (fun _ _ _ h=>h) (Or.inl ⟨by rfl,?_⟩) hS ?_
 ·intro wq hSw
  obtain ⟨e0,e1,e2,e3,e4,e5,e6⟩:=hSw
  go_simp
 simp only [Act.put,ls]
 refine wpAnyH_take (i:=3) (v:=.pointer (some ⟨w.heap.size,2,none⟩)) rfl (by kernel_rfl) (by kernel_rfl) (by kernel_rfl) (fun _ _ _ h=>h) (Or.inl ⟨by rfl,?_⟩) hS ?_
 ·intro wq hSw
  obtain ⟨e0,e1,e2,e3,e4,e5,e6⟩:=hSw
  go_simp
 simp only [Act.put,ls]
 refine wpAnyH_take (i:=4) (v:=.slice p2 x2.length c2) rfl (by kernel_rfl) (by kernel_rfl) (by kernel_rfl) (fun _ _ _ h=>h) (Or.inl ⟨by rfl,?_⟩) hS ?_
 ·intro wq hSw
  obtain ⟨e0,e1,e2,e3,e4,e5,e6⟩:=hSw
  go_simp
 simp only [Act.put,ls]
 refine wpAnyH_take (i:=6) (v:=.pointer (some ⟨w.heap.size,3,none⟩)) rfl (by kernel_rfl) (by kernel_rfl) (by kernel_rfl) (fun _ _ _ h=>h) (Or.inl ⟨by rfl,?_⟩) hS ?_
 ·intro wq hSw
  obtain ⟨e0,e1,e2,e3,e4,e5,e6⟩:=hSw
  go_simp
 simp only [Act.put,ls]
 refine wpAnyH_take (i:=7) (v:=.slice p3 x3.length c3) rfl (by kernel_rfl) (by kernel_rfl) (by kernel_rfl) (fun _ _ _ h=>h) (Or.inl ⟨by rfl,?_⟩) hS ?_
 ·intro wq hSw
  obtain ⟨e0,e1,e2,e3,e4,e5,e6⟩:=hSw
  go_simp
 simp only [Act.put,ls]
 refine wpAnyH_take (i:=9) (v:=.pointer (some ⟨w.heap.size,4,none⟩)) rfl (by kernel_rfl) (by kernel_rfl) (by kernel_rfl) (fun _ _ _ h=>h) (Or.inl ⟨by rfl,?_⟩) hS ?_
 ·intro wq hSw
  obtain ⟨e0,e1,e2,e3,e4,e5,e6⟩:=hSw
  go_simp
 simp only [Act.put,ls]
 refine wpAnyH_take (i:=10) (v:=.slice p4 x4.length c4) rfl (by kernel_rfl) (by kernel_rfl) (by kernel_rfl) (fun _ _ _ h=>h) (Or.inl ⟨by rfl,?_⟩) hS ?_
 ·intro wq hSw
  obtain ⟨e0,e1,e2,e3,e4,e5,e6⟩:=hSw
  go_simp
 simp only [Act.put,ls]
 refine wpAnyH_take (i:=12) (v:=.pointer (some ⟨w.heap.size,5,none⟩)) rfl (by kernel_rfl) (by kernel_rfl) (by kernel_rfl) (fun _ _ _ h=>h) (Or.inl ⟨by rfl,?_⟩) hS ?_
 ·intro wq hSw
  obtain ⟨e0,e1,e2,e3,e4,e5,e6⟩:=hSw
  go_simp
 simp only [Act.put,ls]
 refine wpAnyH_take (i:=13) (v:=.slice p5 x5.length c5) rfl (by kernel_rfl) (by kernel_rfl) (by kernel_rfl) (fun _ _ _ h=>h) (Or.inl ⟨by rfl,?_⟩) hS ?_
 ·intro wq hSw
  obtain ⟨e0,e1,e2,e3,e4,e5,e6⟩:=hSw
  go_simp
 simp only [Act.put,ls]
 refine wpAnyH_take (i:=15) (v:=.pointer (some ⟨w.heap.size,6,none⟩)) rfl (by kernel_rfl) (by kernel_rfl) (by kernel_rfl) (fun _ _ _ h=>h) (Or.inl ⟨by rfl,?_⟩) hS ?_
 ·intro wq hSw
  obtain ⟨e0,e1,e2,e3,e4,e5,e6⟩:=hSw
  go_simp
 simp only [Act.put,ls]
 refine wpAnyH_take (i:=16) (v:=.slice p6 x6.length c6) rfl (by kernel_rfl) (by kernel_rfl) (by kernel_rfl) (fun _ _ _ h=>h) (Or.inl ⟨by rfl,?_⟩) hS ?_
 ·intro wq hSw
  obtain ⟨e0,e1,e2,e3,e4,e5,e6⟩:=hSw
  go_simp
 simp only [Act.put,ls]
 refine wpAnyH_ready (rs:=[2]) (by kernel_rfl) (by simp) ?_
 refine AllReadyH.cons rfl (fun K hK => ?_) AllReadyH.nil
 refine step_call1 rfl 123 (.tmp 4) _ rfl (enters_of Tryz.func123 (by kernel_rfl) rfl) (.agg #[.slice p0 x0.length c0,.slice p1 x1.length c1]) (by simp [Act.eval]) (fun r w'=>∃ us:List Value,r = .agg us.toArray∧OFs w' us [.row x0,.row x1] (Btw W0.drew.heap.size w'.heap.size)∧Below W0.drew.heap.size W0.drew w') ((copyTable_dt [.slice p0 x0.length c0,.slice p1 x1.length c1] [.row x0,.row x1] S _ ⟨_,_,rfl,q0,q1⟩ ⟨HA.out.1.up HS.out.1.drew,HA.out.2.1.up HS.out.1.drew,trivial⟩ (by rw [show Dt.bR [.row x0,.row x1]=Dt.bS x0+Dt.bS x1 from (by simp [Dt.bR,Dt.bulk])]; omega)).mono (fun e w' ⟨us,he,h1,h2⟩=>⟨_,he,us,rfl,h1,h2⟩)) ?_
 rintro r w1 ⟨us,rfl,n0,b1⟩
 obtain ⟨v0,v1,rfl,k0,k1⟩:=fs2 n0.at
 obtain ⟨s0,t0,rfl⟩:=k0.form
 obtain ⟨s1,t1,rfl⟩:=k1.form
 clear k0 k1
 have H1:=(show Hid (_∧_∧_∧_∧_) from ⟨(Below.refl W0.heap.size W0).drew.trans (b1.mono (Below.refl W0.heap.size W0).drew.size),HS.out.1.drew.trans (b1.mono HS.out.1.drew.size),b1.size,n0,trivial⟩)
 clear b1 n0
 refine hK.out _ _ (HZ.out _ H1.out.1) (fun _ => ?_)
 clear hK K
 simp only [Act.put,ls]
 refine wpAnyH_ready (rs:=[5]) (by kernel_rfl) (by simp) ?_
 refine AllReadyH.cons rfl (fun K hK => ?_) AllReadyH.nil
 refine step_callB rfl 124 (.tmp 7) (.func 125) _ rfl (enters_of Tryz.func124 (by kernel_rfl) rfl) (.slice p2 x2.length c2) (.func (.func 125) #[] #[]) (by simp [Act.eval]) rfl (fun r w'=>Own w' r (.row x2) (Btw w1.heap.size w'.heap.size)∧Below w1.heap.size w1 w') ((copyEachCell_dt _ x2 S _ q2 (HA.out.2.2.1.up H1.out.2.1) (by omega)).mono (fun e w' ⟨u,he,h1,h3,h2⟩=>⟨u,he,h1,h2⟩)) ?_
 rintro r w2 ⟨n2,b1⟩
 obtain ⟨s2,t2,rfl⟩:=n2.form
 have H2:=(show Hid (_∧_∧_∧_∧_∧_∧_) from ⟨H1.out.1.trans (b1.mono H1.out.1.size),H1.out.2.1.trans (b1.mono H1.out.2.1.size),H1.out.2.2.1,b1.size,OFs.up (H1.out.2.2.2.1) b1,n2,trivial⟩)
 clear b1 n2
 refine hK.out _ _ (HZ.out _ H2.out.1) (fun _ => ?_)
 clear hK K
 simp only [Act.put,ls]
 refine wpAnyH_ready (rs:=[8]) (by kernel_rfl) (by simp) ?_
 refine AllReadyH.cons rfl (fun K hK => ?_) AllReadyH.nil
 refine step_callB rfl 126 (.tmp 10) (.func 127) _ rfl (enters_of Tryz.func126 (by kernel_rfl) rfl) (.slice p3 x3.length c3) (.func (.func 127) #[] #[]) (by simp [Act.eval]) rfl (fun r w'=>Own w' r (.row x3) (Btw w2.heap.size w'.heap.size)∧(∃ flat,w'.ownsRow w2.heap.size 145 5 r x3.length flat)∧Below w2.heap.size w2 w') ((copyEachThread_dt _ x3 S _ q3 (HA.out.2.2.2.1.up H2.out.2.1) (by omega)).mono (fun e w' ⟨u,he,h1,h3,h2⟩=>⟨u,he,h1,h3,h2⟩)) ?_
 rintro r w3 ⟨n3,ty,b1⟩
 obtain ⟨s3,t3,rfl⟩:=n3.form
 have HTY3:Hid (∃ flat,w3.ownsRow w2.heap.size 145 5 (.slice s3 x3.length t3) x3.length flat):=ty
 clear ty
 have H3:=(show Hid (_∧_∧_∧_∧_∧_∧_∧_∧_) from ⟨H2.out.1.trans (b1.mono H2.out.1.size),H2.out.2.1.trans (b1.mono H2.out.2.1.size),H2.out.2.2.1,H2.out.2.2.2.1,b1.size,OFs.up (H2.out.2.2.2.2.1) b1,Own.up (H2.out.2.2.2.2.2.1) b1,n3,trivial⟩)
 clear b1 n3
 refine hK.out _ _ (HZ.out _ H3.out.1) (fun _ => ?_)
 clear hK K
 simp only [Act.put,ls]
 refine wpAnyH_ready (rs:=[11]) (by kernel_rfl) (by simp) ?_
 refine AllReadyH.cons rfl (fun K hK => ?_) AllReadyH.nil
 refine step_call1 rfl 128 (.tmp 13) _ rfl (enters_of Tryz.func128 (by kernel_rfl) rfl) (.slice p4 x4.length c4) (by simp [Act.eval]) (fun r w'=>Own w' r (.row x4) (Btw w3.heap.size w'.heap.size)∧Below w3.heap.size w3 w') ((cloneIntO_dt _ x4 S _ q4 (HA.out.2.2.2.2.1.up H3.out.2.1) (by omega)).mono (fun e w' ⟨u,he,h1,h2⟩=>⟨u,he,h1,h2⟩)) ?_
 rintro r w4 ⟨n4,b1⟩
 obtain ⟨s4,t4,rfl⟩:=n4.form
 have HTY4:Hid (∃ flat,w4.ownsRow w2.heap.size 145 5 (.slice s3 x3.length t3) x3.length flat):=by
  obtain ⟨flat,hf⟩:=HTY3.out
  exact ⟨flat,own_moved hf (fun g hg=>b1.block g (own_lt hf g hg))⟩
 clear HTY3
 have H4:=(show Hid (_∧_∧_∧_∧_∧_∧_∧_∧_∧_∧_) from ⟨H3.out.1.trans (b1.mono H3.out.1.size),H3.out.2.1.trans (b1.mono H3.out.2.1.size),H3.out.2.2.1,H3.out.2.2.2.1,H3.out.2.2.2.2.1,b1.size,OFs.up (H3.out.2.2.2.2.2.1) b1,Own.up (H3.out.2.2.2.2.2.2.1) b1,Own.up (H3.out.2.2.2.2.2.2.2.1) b1,n4,trivial⟩)
 clear b1 n4
 refine hK.out _ _ (HZ.out _ H4.out.1) (fun _ => ?_)
 clear hK K
 simp only [Act.put,ls]
 refine wpAnyH_ready (rs:=[14]) (by kernel_rfl) (by simp) ?_
 refine AllReadyH.cons rfl (fun K hK => ?_) AllReadyH.nil
 refine step_call1 rfl 128 (.tmp 16) _ rfl (enters_of Tryz.func128 (by kernel_rfl) rfl) (.slice p5 x5.length c5) (by simp [Act.eval]) (fun r w'=>Own w' r (.row x5) (Btw w4.heap.size w'.heap.size)∧Below w4.heap.size w4 w') ((cloneIntO_dt _ x5 S _ q5 (HA.out.2.2.2.2.2.1.up H4.out.2.1) (by omega)).mono (fun e w' ⟨u,he,h1,h2⟩=>⟨u,he,h1,h2⟩)) ?_
 rintro r w5 ⟨n5,b1⟩
 obtain ⟨s5,t5,rfl⟩:=n5.form
 have HTY5:Hid (∃ flat,w5.ownsRow w2.heap.size 145 5 (.slice s3 x3.length t3) x3.length flat):=by
  obtain ⟨flat,hf⟩:=HTY4.out
  exact ⟨flat,own_moved hf (fun g hg=>b1.block g (own_lt hf g hg))⟩
 clear HTY4
 have H5:=(show Hid (_∧_∧_∧_∧_∧_∧_∧_∧_∧_∧_∧_∧_) from ⟨H4.out.1.trans (b1.mono H4.out.1.size),H4.out.2.1.trans (b1.mono H4.out.2.1.size),H4.out.2.2.1,H4.out.2.2.2.1,H4.out.2.2.2.2.1,H4.out.2.2.2.2.2.1,b1.size,OFs.up (H4.out.2.2.2.2.2.2.1) b1,Own.up (H4.out.2.2.2.2.2.2.2.1) b1,Own.up (H4.out.2.2.2.2.2.2.2.2.1) b1,Own.up (H4.out.2.2.2.2.2.2.2.2.2.1) b1,n5,trivial⟩)
 clear b1 n5
 refine hK.out _ _ (HZ.out _ H5.out.1) (fun _ => ?_)
 clear hK K
 simp only [Act.put,ls]
 refine wpAnyH_ready (rs:=[17]) (by kernel_rfl) (by simp) ?_
 refine AllReadyH.cons rfl (fun K hK => ?_) AllReadyH.nil
 refine step_callB rfl 129 (.tmp 19) (.func 130) _ rfl (enters_of Tryz.func129 (by kernel_rfl) rfl) (.slice p6 x6.length c6) (.func (.func 130) #[] #[]) (by simp [Act.eval]) rfl (fun r w'=>Own w' r (.row x6) (Btw w5.heap.size w'.heap.size)∧Below w5.heap.size w5 w') ((copyEachMsg_dt _ x6 S _ q6 (HA.out.2.2.2.2.2.2.1.up H5.out.2.1) (by omega)).mono (fun e w' ⟨u,he,h1,h3,h2⟩=>⟨u,he,h1,h2⟩)) ?_
 rintro r w6 ⟨n6,b1⟩
 obtain ⟨s6,t6,rfl⟩:=n6.form
 have HTY6:Hid (∃ flat,w6.ownsRow w2.heap.size 145 5 (.slice s3 x3.length t3) x3.length flat):=by
  obtain ⟨flat,hf⟩:=HTY5.out
  exact ⟨flat,own_moved hf (fun g hg=>b1.block g (own_lt hf g hg))⟩
 clear HTY5
 have H6:=(show Hid (_∧_∧_∧_∧_∧_∧_∧_∧_∧_∧_∧_∧_∧_∧_) from ⟨H5.out.1.trans (b1.mono H5.out.1.size),H5.out.2.1.trans (b1.mono H5.out.2.1.size),H5.out.2.2.1,H5.out.2.2.2.1,H5.out.2.2.2.2.1,H5.out.2.2.2.2.2.1,H5.out.2.2.2.2.2.2.1,b1.size,OFs.up (H5.out.2.2.2.2.2.2.2.1) b1,Own.up (H5.out.2.2.2.2.2.2.2.2.1) b1,Own.up (H5.out.2.2.2.2.2.2.2.2.2.1) b1,Own.up (H5.out.2.2.2.2.2.2.2.2.2.2.1) b1,Own.up (H5.out.2.2.2.2.2.2.2.2.2.2.2.1) b1,n6,trivial⟩)
 clear b1 n6
 refine hK.out _ _ (HZ.out _ H6.out.1) (fun _ => ?_)
 clear hK K
 simp only [Act.put,ls]
 refine wpAnyH_take (i:=18) (v:=.agg #[.slice s0 x0.length t0,.slice s1 x1.length t1,.slice s2 x2.length t2,.slice s3 x3.length t3,.slice s4 x4.length t4,.slice s5 x5.length t5,.slice s6 x6.length t6]) rfl (by kernel_rfl) (by kernel_rfl) (by kernel_rfl) (fun _ _ _ h=>h) (Or.inl ⟨by rfl,?_⟩) (HZ.out _ H6.out.1) ?_
 ·intro wq _
  exact ex_buildMachine _ _ (.tmp 5) (.tmp 8) (.tmp 11) (.tmp 14) (.tmp 17) (.tmp 20) _ _ _ _ _ _ _ _ _ _ _ _ _ _ _ _ _ _ _ _ _ wq rfl rfl rfl rfl rfl rfl rfl
 simp only [Act.put,ls]
 have o1:=(H6.out.1.block _ (lh HS.out.2.2)).trans HS.out.2.2
 have y0:w6.cell? ⟨w.heap.size+1,0,none⟩=some (.slice none 0 0):=(by rw [cell_of_block o1]; rfl)
 have f0:=ub o1 0
 have y1:w6.cell? ⟨w.heap.size+1,1,none⟩=some (.slice none 0 0):=(by rw [cell_of_block o1]; rfl)
 have f1:=ub o1 1
 have y2:w6.cell? ⟨w.heap.size+1,2,none⟩=some (.slice none 0 0):=(by rw [cell_of_block o1]; rfl)
 have f2:=ub o1 2
 have y3:w6.cell? ⟨w.heap.size+1,3,none⟩=some (.slice none 0 0):=(by rw [cell_of_block o1]; rfl)
 have f3:=ub o1 3
 have y4:w6.cell? ⟨w.heap.size+1,4,none⟩=some (.slice none 0 0):=(by rw [cell_of_block o1]; rfl)
 have f4:=ub o1 4
 have y5:w6.cell? ⟨w.heap.size+1,5,none⟩=some (.slice none 0 0):=(by rw [cell_of_block o1]; rfl)
 have f5:=ub o1 5
 have y6:w6.cell? ⟨w.heap.size+1,6,none⟩=some (.slice none 0 0):=(by rw [cell_of_block o1]; rfl)
 have f6:=ub o1 6
 clear o1
 refine wpAnyH_ready (rs:=[19]) (by kernel_rfl) (by simp) ?_
 refine AllReadyH.cons rfl (fun K hK => ?_) AllReadyH.nil
 go_simp
 refine hK.out _ _ (HK.out w6 _ _ _ _ _ _ _ H6.out.1) (fun _ => ?_)
 clear hK K
 refine wpAnyH_done (by kernel_rfl) ?_ _
 go_wp2
 refine bodyPost_ret (v:=.agg #[.slice s0 x0.length t0,.slice s1 x1.length t1,.slice s2 x2.length t2,.slice s3 x3.length t3,.slice s4 x4.length t4,.slice s5 x5.length t5,.slice s6 x6.length t6]) (by simp [results,Tryz.results98,go_sem,y0,y1,y2,y3,y4,y5,y6]) rfl ⟨_,rfl,?_,⟨_,rfl,?_⟩,?_⟩
 ·obtain ⟨-,-,z0,z1,z2,z3,z4,z5,n0,n2,n3,n4,n5,n6,-⟩:=H6.out
  rw [show W0.drew.heap.size=w.heap.size+2 from HS.out.2.1] at z0 n0
  have key:OFs w6 [.slice s0 x0.length t0,.slice s1 x1.length t1,.slice s2 x2.length t2,.slice s3 x3.length t3,.slice s4 x4.length t4,.slice s5 x5.length t5,.slice s6 x6.length t6] [.row x0,.row x1,.row x2,.row x3,.row x4,.row x5,.row x6] (Btw (w.heap.size+2) w6.heap.size):=(OFs.app n0 (OFs.cons n2 (OFs.cons n3 (OFs.cons n4 (OFs.cons n5 (OFs.cons n6 (show OFs _ [] [] _ from trivial) (by omega) (by omega)) (by omega) (by omega)) (by omega) (by omega)) (by omega) (by omega)) (by omega) (by omega)) (by omega) (by omega))
  refine (key.moved (fun b hb' _ => ?_)).mono (fun b hb'=>⟨by have:=hb'.1; omega,by have:=hb'.2; simpa using this⟩)
  have e1:∀ (j:Nat) (u:Value) (W:World),(W.setCell ⟨w.heap.size+1,j,none⟩ u).heap[b]? = W.heap[b]? := fun j u W=>Below.heap_setCell W _ u b (by have:=hb'.1; simp; omega)
  simp only [e1]
 ·obtain ⟨flat,hf⟩:=HTY6.out
  refine ⟨flat,own_mono (own_moved hf (fun g hg => ?_)) ?_⟩
  ·have hgb:=(own_type hf g hg).1
   have hz:=H6.out.2.2.1
   have hz':=H6.out.2.2.2.1
   rw [show W0.drew.heap.size=w.heap.size+2 from HS.out.2.1] at hz
   have e1:∀ (j:Nat) (u:Value) (W:World),(W.setCell ⟨w.heap.size+1,j,none⟩ u).heap[g]? = W.heap[g]? := fun j u W=>Below.heap_setCell W _ u g (by simp; omega)
   simp only [e1]
  ·have hz:=H6.out.2.2.1
   have hz':=H6.out.2.2.2.1
   rw [show W0.drew.heap.size=w.heap.size+2 from HS.out.2.1] at hz
   omega
 ·iterate 7 refine Below.setCell ?_ (by simp) _
  exact H6.out.2.1
theorem copyMachine_dt:ToC 98 MachineR:=by
 intro vs r S w hP h hb
 refine (copyMachineT_dt vs r S w hP h hb).mono ?_
 rintro e w' ⟨us,rfl,h1,_,h2⟩
 exact ⟨us,rfl,h1,h2⟩
end Go.Proofs.YtmmadoabejgffaaGreatDoor
