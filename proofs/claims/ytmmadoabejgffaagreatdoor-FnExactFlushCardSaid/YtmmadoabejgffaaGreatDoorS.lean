/-
  Proofs.
-/
import Derived.Test.YtmmadoabejgffaaGreatDoorA
import Derived.Test.YtmmadoabejgffaaGreatDoorE
import Derived.Test.YtmmadoabejgffaaGreatDoorCpMachine
import Derived.Test.YtmmadoabejgffaaGreatDoorLinkCopyP
import Derived.Deep.RegionHeld3
import Derived.Test.YtmmadoabejgffaaGreatDoorP
import Derived.Deep.CutBlock
namespace Go.Proofs.YtmmadoabejgffaaGreatDoor
open Go.RowKit Go.Joins
set_option maxRecDepth 100000
set_option maxHeartbeats 51200000
theorem copyPeer_any:PeC 49:=by
 rintro vs r S w ⟨x0,x1,x2,x3,x4,x5,x6,z7,z8,x9,x10,rfl,q0,q1,q2,q3,q4,q5,q6,q9,q10⟩ h hb
 obtain ⟨v0,v1,v2,v3,v4,v5,v6,v7,v8,v9,v10,rfl,a0,a1,a2,a3,a4,a5,a6,a7,a8,a9,a10⟩:=fs11 h
 obtain ⟨p0,c0,rfl⟩:=a0.form
 obtain ⟨p1,c1,rfl⟩:=a1.form
 obtain ⟨p2,c2,rfl⟩:=a2.form
 obtain ⟨p3,c3,rfl⟩:=a3.form
 obtain ⟨p4,c4,rfl⟩:=a4.form
 obtain ⟨p5,c5,rfl⟩:=a5.form
 obtain ⟨p6,c6,rfl⟩:=a6.form
 obtain ⟨rfl,ia7⟩:=a7.ofInt
 obtain ⟨rfl,ia8⟩:=a8.ofInt
 obtain ⟨p9,c9,rfl⟩:=a9.form
 obtain ⟨p10,c10,rfl⟩:=a10.form
 rw [show Dt.bR [.row x0,.row x1,.row x2,.row x3,.row x4,.row x5,.row x6,.int z7,.int z8,.row x9,.row x10]=Dt.bS x0+Dt.bS x1+Dt.bS x2+Dt.bS x3+Dt.bS x4+Dt.bS x5+Dt.bS x6+Dt.bS x9+Dt.bS x10 from by simp [Dt.bR,Dt.bulk]; try omega] at hb
 obtain ⟨W0,hW0⟩:∃ W0,W0=(w.alloc (.cells #[.slice p0 x0.length c0,.slice p1 x1.length c1,.slice p2 x2.length c2,.slice p3 x3.length c3,.slice p4 x4.length c4,.slice p5 x5.length c5,.slice p6 x6.length c6,.int .i64 z7,.int .i64 z8,.slice p9 x9.length c9,.slice p10 x10.length c10] 51)).alloc (.cells #[.slice none 0 0,.slice none 0 0,.slice none 0 0,.slice none 0 0,.slice none 0 0,.slice none 0 0,.slice none 0 0,.int .i64 0,.int .i64 0,.slice none 0 0,.slice none 0 0] 51):=⟨_,rfl⟩
 have B:Below w.heap.size w W0:=by rw [hW0]; exact ((Below.refl _ w).alloc (Nat.le_refl _) _).alloc (by simp) _
 have SZ:W0.heap.size=w.heap.size+2:=by rw [hW0]; simp
 have O0:W0.heap[w.heap.size]? = some (.cells #[.slice p0 x0.length c0,.slice p1 x1.length c1,.slice p2 x2.length c2,.slice p3 x3.length c3,.slice p4 x4.length c4,.slice p5 x5.length c5,.slice p6 x6.length c6,.int .i64 z7,.int .i64 z8,.slice p9 x9.length c9,.slice p10 x10.length c10] 51):=by rw [hW0]; exact (Below.heap_alloc _ _ _ (by simp)).trans (MapKept.heap_alloc w _).1
 have O1:W0.heap[w.heap.size+1]? = some (.cells #[.slice none 0 0,.slice none 0 0,.slice none 0 0,.slice none 0 0,.slice none 0 0,.slice none 0 0,.slice none 0 0,.int .i64 0,.int .i64 0,.slice none 0 0,.slice none 0 0] 51):=by
  rw [hW0]
  have:=(MapKept.heap_alloc (w.alloc (.cells #[.slice p0 x0.length c0,.slice p1 x1.length c1,.slice p2 x2.length c2,.slice p3 x3.length c3,.slice p4 x4.length c4,.slice p5 x5.length c5,.slice p6 x6.length c6,.int .i64 z7,.int .i64 z8,.slice p9 x9.length c9,.slice p10 x10.length c10] 51)) (.cells #[.slice none 0 0,.slice none 0 0,.slice none 0 0,.slice none 0 0,.slice none 0 0,.slice none 0 0,.slice none 0 0,.int .i64 0,.int .i64 0,.slice none 0 0,.slice none 0 0] 51)).1
  simpa using this
 have HZ:Hid (∀ wx:World,Below W0.heap.size W0 wx→wx.cell? ⟨w.heap.size,0,none⟩=some (.slice p0 x0.length c0)∧wx.cell? ⟨w.heap.size,1,none⟩=some (.slice p1 x1.length c1)∧wx.cell? ⟨w.heap.size,2,none⟩=some (.slice p2 x2.length c2)∧wx.cell? ⟨w.heap.size,3,none⟩=some (.slice p3 x3.length c3)∧wx.cell? ⟨w.heap.size,4,none⟩=some (.slice p4 x4.length c4)∧wx.cell? ⟨w.heap.size,5,none⟩=some (.slice p5 x5.length c5)∧wx.cell? ⟨w.heap.size,6,none⟩=some (.slice p6 x6.length c6)∧wx.cell? ⟨w.heap.size,7,none⟩=some (.int .i64 z7)∧wx.cell? ⟨w.heap.size,8,none⟩=some (.int .i64 z8)∧wx.cell? ⟨w.heap.size,9,none⟩=some (.slice p9 x9.length c9)∧wx.cell? ⟨w.heap.size,10,none⟩=some (.slice p10 x10.length c10)):=fun wx hx=>by
  have o:=(hx.block _ (lh O0)).trans O0
  exact ⟨by rw [cell_of_block o]; rfl,by rw [cell_of_block o]; rfl,by rw [cell_of_block o]; rfl,by rw [cell_of_block o]; rfl,by rw [cell_of_block o]; rfl,by rw [cell_of_block o]; rfl,by rw [cell_of_block o]; rfl,by rw [cell_of_block o]; rfl,by rw [cell_of_block o]; rfl,by rw [cell_of_block o]; rfl,by rw [cell_of_block o]; rfl⟩
 have HA:=(show Hid (_∧_) from ⟨(show FsAt W0 S [.slice p0 x0.length c0,.slice p1 x1.length c1,.slice p2 x2.length c2,.slice p3 x3.length c3,.slice p4 x4.length c4,.slice p5 x5.length c5,.slice p6 x6.length c6] [.row x0,.row x1,.row x2,.row x3,.row x4,.row x5,.row x6] from ⟨a0.up B,a1.up B,a2.up B,a3.up B,a4.up B,a5.up B,a6.up B,trivial⟩),(show LkAt W0 S (.agg #[.int .i64 z7,.int .i64 z8,.slice p9 x9.length c9,.slice p10 x10.length c10]) (lkOf z7 z8 x9 x10) from (lk_of_fs (vs:=[.int .i64 z7,.int .i64 z8,.slice p9 x9.length c9,.slice p10 x10.length c10]) ⟨a7,a8,a9,a10,trivial⟩ q9 q10).kept (fun b _ hlt=>B.block b hlt) B.size (fun _ h _=>h))⟩)
 have HS:=(show Hid (_∧_∧_∧_) from ⟨B,SZ,O0,O1⟩)
 have HW:=(show Hid (_∧True) from ⟨hW0,trivial⟩)
 have hsz:=SZ
 clear B SZ O0 O1 hW0 h a0 a1 a2 a3 a4 a5 a6 a7 a8 a9 a10
 go_enter Tryz.func49,Tryz.ntmps49
 go_wp2_with fail
 rw [← HW.out.1]
 clear HW
 refine wp_region_held_drew (S:=fun w'=>w'.cell? ⟨w.heap.size,0,none⟩=some (.slice p0 x0.length c0)∧w'.cell? ⟨w.heap.size,1,none⟩=some (.slice p1 x1.length c1)∧w'.cell? ⟨w.heap.size,2,none⟩=some (.slice p2 x2.length c2)∧w'.cell? ⟨w.heap.size,3,none⟩=some (.slice p3 x3.length c3)∧w'.cell? ⟨w.heap.size,4,none⟩=some (.slice p4 x4.length c4)∧w'.cell? ⟨w.heap.size,5,none⟩=some (.slice p5 x5.length c5)∧w'.cell? ⟨w.heap.size,6,none⟩=some (.slice p6 x6.length c6)∧w'.cell? ⟨w.heap.size,7,none⟩=some (.int .i64 z7)∧w'.cell? ⟨w.heap.size,8,none⟩=some (.int .i64 z8)∧w'.cell? ⟨w.heap.size,9,none⟩=some (.slice p9 x9.length c9)∧w'.cell? ⟨w.heap.size,10,none⟩=some (.slice p10 x10.length c10)) (by kernel_rfl) (HZ.out W0 (Below.refl _ W0)) (fun hS => ?_)
 refine wpAnyH_take (i:=0) (v:=.pointer (some ⟨w.heap.size,0,none⟩)) rfl (by kernel_rfl) (by kernel_rfl) (by kernel_rfl) (fun _ _ _ h=>h) (Or.inl ⟨by rfl,?_⟩) hS ?_
 ·intro wq hSw
  obtain ⟨e0,e1,e2,e3,e4,e5,e6,e7,e8,e9,e10⟩:=hSw
  go_simp
 simp only [Act.put,ls]
 refine wpAnyH_take (i:=1) (v:=.agg #[.slice p0 x0.length c0,.slice p1 x1.length c1,.slice p2 x2.length c2,.slice p3 x3.length c3,.slice p4 x4.length c4,.slice p5 x5.length c5,.slice p6 x6.length c6]) rfl (by kernel_rfl) (by kernel_rfl) (by kernel_rfl) (fun _ _ _ h=>h) (Or.inl ⟨by rfl,?_⟩) hS ?_
 ·intro wq hSw
  obtain ⟨e0,e1,e2,e3,e4,e5,e6,e7,e8,e9,e10⟩:=hSw
  go_simp
 simp only [Act.put,ls]
 refine wpAnyH_take (i:=3) (v:=.pointer (some ⟨w.heap.size,7,none⟩)) rfl (by kernel_rfl) (by kernel_rfl) (by kernel_rfl) (fun _ _ _ h=>h) (Or.inl ⟨by rfl,?_⟩) hS ?_
 ·intro wq hSw
  obtain ⟨e0,e1,e2,e3,e4,e5,e6,e7,e8,e9,e10⟩:=hSw
  go_simp
 simp only [Act.put,ls]
 refine wpAnyH_take (i:=4) (v:=.agg #[.int .i64 z7,.int .i64 z8,.slice p9 x9.length c9,.slice p10 x10.length c10]) rfl (by kernel_rfl) (by kernel_rfl) (by kernel_rfl) (fun _ _ _ h=>h) (Or.inl ⟨by rfl,?_⟩) hS ?_
 ·intro wq hSw
  obtain ⟨e0,e1,e2,e3,e4,e5,e6,e7,e8,e9,e10⟩:=hSw
  go_simp
 simp only [Act.put,ls]
 refine wpAnyH_ready (rs:=[2]) (by kernel_rfl) (by simp) ?_
 refine AllReadyH.cons rfl (fun K hK => ?_) AllReadyH.nil
 refine step_call1 rfl 98 (.tmp 4) _ rfl (enters_of Tryz.func98 (by kernel_rfl) rfl) (.agg #[.slice p0 x0.length c0,.slice p1 x1.length c1,.slice p2 x2.length c2,.slice p3 x3.length c3,.slice p4 x4.length c4,.slice p5 x5.length c5,.slice p6 x6.length c6]) (by simp [Act.eval]) (fun r w'=>∃ us:List Value,r = .agg us.toArray∧OFs w' us [.row x0,.row x1,.row x2,.row x3,.row x4,.row x5,.row x6] (Btw W0.heap.size w'.heap.size)∧Below W0.heap.size W0 w') ((copyMachine_dt [.slice p0 x0.length c0,.slice p1 x1.length c1,.slice p2 x2.length c2,.slice p3 x3.length c3,.slice p4 x4.length c4,.slice p5 x5.length c5,.slice p6 x6.length c6] [.row x0,.row x1,.row x2,.row x3,.row x4,.row x5,.row x6] S _ ⟨_,_,_,_,_,_,_,rfl,q0,q1,q2,q3,q4,q5,q6⟩ (FsAt.up HA.out.1 (Below.refl W0.heap.size W0).drew) (by simp [Dt.bR,Dt.bulk]; omega)).mono (fun e w' hh=>by obtain ⟨us,he,h1,h2⟩:=hh; exact ⟨_,he,us,rfl,h1,(Below.refl W0.heap.size W0).drew.trans h2⟩)) ?_
 rintro r w1 ⟨us,rfl,N,b1⟩
 obtain ⟨v0,v1,v2,v3,v4,v5,v6,rfl,k0,k1,k2,k3,k4,k5,k6⟩:=fs7 N.at
 obtain ⟨s0,t0,rfl⟩:=k0.form
 obtain ⟨s1,t1,rfl⟩:=k1.form
 obtain ⟨s2,t2,rfl⟩:=k2.form
 obtain ⟨s3,t3,rfl⟩:=k3.form
 obtain ⟨s4,t4,rfl⟩:=k4.form
 obtain ⟨s5,t5,rfl⟩:=k5.form
 obtain ⟨s6,t6,rfl⟩:=k6.form
 have H1:=(show Hid (_∧_) from ⟨N,b1⟩)
 clear N b1 k0 k1 k2 k3 k4 k5 k6
 refine hK.out _ _ (HZ.out _ H1.out.2) (fun _ => ?_)
 clear hK K
 simp only [Act.put,ls]
 refine wpAnyH_ready (rs:=[5]) (by kernel_rfl) (by simp) ?_
 refine AllReadyH.cons rfl (fun K hK => ?_) AllReadyH.nil
 refine step_call1 rfl 99 (.tmp 7) _ rfl (enters_of Tryz.func99 (by kernel_rfl) rfl) (.agg #[.int .i64 z7,.int .i64 z8,.slice p9 x9.length c9,.slice p10 x10.length c10]) (by simp [Act.eval]) (fun r w'=>∃ ov sv rs,r = .agg #[.int .i64 z7,.int .i64 z8,ov,sv]∧LkOwn w' w1.heap.size (.agg #[.int .i64 z7,.int .i64 z8,ov,sv]) (lkOf z7 z8 x9 x10) ov sv rs∧Below w1.heap.size w1 w') ((copyLink_any _ (lkOf z7 z8 x9 x10) S _ (HA.out.2.below H1.out.2) (by have:=lk_bulk q9 q10 z7 z8; omega)).mono (fun e w' ⟨v',ov,sv,rs,he,h1,h2⟩=>⟨_,he,ov,sv,rs,h1.val,h1.val ▸ h1,h2⟩)) ?_
 rintro r w2 ⟨ov,sv,rs,rfl,N2,b2⟩
 have e9:(lkOf z7 z8 x9 x10).out.length=x9.length:=List.length_map _
 have e10:(rs.map Prod.fst).length=x10.length:=by rw [N2.is]; exact List.length_map _
 have g9:=N2.out.at.form
 rw [e9] at g9
 obtain ⟨s9,t9,rfl⟩:=g9
 have g10:=N2.seen.at.form
 rw [e10] at g10
 obtain ⟨s10,t10,rfl⟩:=g10
 have B2:Below W0.heap.size W0 w2:=H1.out.2.trans (b2.mono H1.out.2.size)
 have H2:=(show Hid (_∧_∧_) from ⟨N2,OFs.up H1.out.1 b2,B2⟩)
 have hs1:W0.heap.size≤w1.heap.size:=H1.out.2.size
 have hs2:w1.heap.size≤w2.heap.size:=b2.size
 clear N2 b2 B2 e9 e10
 refine hK.out _ _ (HZ.out _ H2.out.2.2) (fun _ => ?_)
 clear hK K
 simp only [Act.put,ls]
 refine wpAnyH_take (i:=6) (v:=.agg #[.slice s0 x0.length t0,.slice s1 x1.length t1,.slice s2 x2.length t2,.slice s3 x3.length t3,.slice s4 x4.length t4,.slice s5 x5.length t5,.slice s6 x6.length t6,.int .i64 z7,.int .i64 z8,.slice s9 x9.length t9,.slice s10 x10.length t10]) rfl (by kernel_rfl) (by kernel_rfl) (by kernel_rfl) (fun _ _ _ h=>h) (Or.inl ⟨by rfl,fun wq _=>ex_buildPe _ _ (.tmp 5) (.tmp 8) _ _ _ _ _ _ _ _ _ _ _ _ _ _ _ _ _ _ _ _ _ _ _ _ _ _ _ _ _ wq rfl rfl rfl⟩) (HZ.out _ H2.out.2.2) ?_
 simp only [Act.put,ls]
 have OR:=(H2.out.2.2.block _ (lh HS.out.2.2.2)).trans HS.out.2.2.2
 have y0:=cb OR 0 (.slice none 0 0) rfl
 have f0:=ub OR 0
 have y1:=cb OR 1 (.slice none 0 0) rfl
 have f1:=ub OR 1
 have y2:=cb OR 2 (.slice none 0 0) rfl
 have f2:=ub OR 2
 have y3:=cb OR 3 (.slice none 0 0) rfl
 have f3:=ub OR 3
 have y4:=cb OR 4 (.slice none 0 0) rfl
 have f4:=ub OR 4
 have y5:=cb OR 5 (.slice none 0 0) rfl
 have f5:=ub OR 5
 have y6:=cb OR 6 (.slice none 0 0) rfl
 have f6:=ub OR 6
 have y7:=cb OR 7 (.int .i64 0) rfl
 have f7:=ub OR 7
 have y8:=cb OR 8 (.int .i64 0) rfl
 have f8:=ub OR 8
 have y9:=cb OR 9 (.slice none 0 0) rfl
 have f9:=ub OR 9
 have y10:=cb OR 10 (.slice none 0 0) rfl
 have f10:=ub OR 10
 obtain ⟨W3,hW3⟩:∃ W3,W3=(((((((((((w2.setCell ⟨w.heap.size+1,0,none⟩ (.slice s0 x0.length t0)).setCell ⟨w.heap.size+1,1,none⟩ (.slice s1 x1.length t1)).setCell ⟨w.heap.size+1,2,none⟩ (.slice s2 x2.length t2)).setCell ⟨w.heap.size+1,3,none⟩ (.slice s3 x3.length t3)).setCell ⟨w.heap.size+1,4,none⟩ (.slice s4 x4.length t4)).setCell ⟨w.heap.size+1,5,none⟩ (.slice s5 x5.length t5)).setCell ⟨w.heap.size+1,6,none⟩ (.slice s6 x6.length t6)).setCell ⟨w.heap.size+1,7,none⟩ (.int .i64 z7)).setCell ⟨w.heap.size+1,8,none⟩ (.int .i64 z8)).setCell ⟨w.heap.size+1,9,none⟩ (.slice s9 x9.length t9)).setCell ⟨w.heap.size+1,10,none⟩ (.slice s10 x10.length t10)):=⟨_,rfl⟩
 have OB:W3.heap[w.heap.size+1]? = some (.cells #[.slice s0 x0.length t0,.slice s1 x1.length t1,.slice s2 x2.length t2,.slice s3 x3.length t3,.slice s4 x4.length t4,.slice s5 x5.length t5,.slice s6 x6.length t6,.int .i64 z7,.int .i64 z8,.slice s9 x9.length t9,.slice s10 x10.length t10] 51):=by
  rw [hW3]
  have:=(block_setCell (i:=10) (block_setCell (i:=9) (block_setCell (i:=8) (block_setCell (i:=7) (block_setCell (i:=6) (block_setCell (i:=5) (block_setCell (i:=4) (block_setCell (i:=3) (block_setCell (i:=2) (block_setCell (i:=1) (block_setCell (i:=0) OR (.slice s0 x0.length t0)) (.slice s1 x1.length t1)) (.slice s2 x2.length t2)) (.slice s3 x3.length t3)) (.slice s4 x4.length t4)) (.slice s5 x5.length t5)) (.slice s6 x6.length t6)) (.int .i64 z7)) (.int .i64 z8)) (.slice s9 x9.length t9)) (.slice s10 x10.length t10))
  simpa only [List.setIfInBounds_toArray,List.set_cons_zero,List.set_cons_succ] using this
 have eW:∀ b,b≠w.heap.size+1→W3.heap[b]? = w2.heap[b]? := fun b hb=>by
  rw [hW3]
  simp only [Below.heap_setCell _ _ _ b (show b≠(⟨w.heap.size+1,_,none⟩:Addr).block from hb)]
 have B3:Below w.heap.size w W3:=by
  rw [hW3]
  iterate 11 refine Below.setCell ?_ (by simp) _
  exact HS.out.1.trans (H2.out.2.2.mono HS.out.1.size)
 have O3:W3.heap[w.heap.size]? = some (.cells #[.slice p0 x0.length c0,.slice p1 x1.length c1,.slice p2 x2.length c2,.slice p3 x3.length c3,.slice p4 x4.length c4,.slice p5 x5.length c5,.slice p6 x6.length c6,.int .i64 z7,.int .i64 z8,.slice p9 x9.length c9,.slice p10 x10.length c10] 51):=(eW _ (by omega)).trans ((H2.out.2.2.block _ (lh HS.out.2.2.1)).trans HS.out.2.2.1)
 have hS3:W3.cell? ⟨w.heap.size,0,none⟩=some (.slice p0 x0.length c0)∧W3.cell? ⟨w.heap.size,1,none⟩=some (.slice p1 x1.length c1)∧W3.cell? ⟨w.heap.size,2,none⟩=some (.slice p2 x2.length c2)∧W3.cell? ⟨w.heap.size,3,none⟩=some (.slice p3 x3.length c3)∧W3.cell? ⟨w.heap.size,4,none⟩=some (.slice p4 x4.length c4)∧W3.cell? ⟨w.heap.size,5,none⟩=some (.slice p5 x5.length c5)∧W3.cell? ⟨w.heap.size,6,none⟩=some (.slice p6 x6.length c6)∧W3.cell? ⟨w.heap.size,7,none⟩=some (.int .i64 z7)∧W3.cell? ⟨w.heap.size,8,none⟩=some (.int .i64 z8)∧W3.cell? ⟨w.heap.size,9,none⟩=some (.slice p9 x9.length c9)∧W3.cell? ⟨w.heap.size,10,none⟩=some (.slice p10 x10.length c10):=⟨by rw [cell_of_block O3]; rfl,by rw [cell_of_block O3]; rfl,by rw [cell_of_block O3]; rfl,by rw [cell_of_block O3]; rfl,by rw [cell_of_block O3]; rfl,by rw [cell_of_block O3]; rfl,by rw [cell_of_block O3]; rfl,by rw [cell_of_block O3]; rfl,by rw [cell_of_block O3]; rfl,by rw [cell_of_block O3]; rfl,by rw [cell_of_block O3]; rfl⟩
 have hs3:w1.heap.size≤W3.heap.size:=by rw [hW3]; simpa using hs2
 have HF:=(show Hid (_∧_∧_∧_) from ⟨OB,(OFs.moved H2.out.2.1 (fun b hb _=>eW b (by have:=hb.1; omega))),H2.out.1.moved (fun b hb=>eW b (by have:=(H2.out.1.own hb).1; omega)),B3⟩)
 have HS3:=(show Hid (_∧True) from ⟨hS3,trivial⟩)
 have HW3:=(show Hid (_∧True) from ⟨hW3,trivial⟩)
 clear OB eW B3 O3 hS3 hW3 OR
 refine wpAnyH_ready (rs:=[7]) (by kernel_rfl) (by simp) ?_
 refine AllReadyH.cons rfl (fun K hK => ?_) AllReadyH.nil
 go_simp
 rw [← HW3.out.1]
 refine hK.out _ _ HS3.out.1 (fun _ => ?_)
 clear hK K HW3 y0 f0 y1 f1 y2 f2 y3 f3 y4 f4 y5 f5 y6 f6 y7 f7 y8 f8 y9 f9 y10 f10
 refine wpAnyH_done (by kernel_rfl) ?_ _
 have D0:=cb HF.out.1 0 (.slice s0 x0.length t0) rfl
 have D1:=cb HF.out.1 1 (.slice s1 x1.length t1) rfl
 have D2:=cb HF.out.1 2 (.slice s2 x2.length t2) rfl
 have D3:=cb HF.out.1 3 (.slice s3 x3.length t3) rfl
 have D4:=cb HF.out.1 4 (.slice s4 x4.length t4) rfl
 have D5:=cb HF.out.1 5 (.slice s5 x5.length t5) rfl
 have D6:=cb HF.out.1 6 (.slice s6 x6.length t6) rfl
 have D7:=cb HF.out.1 7 (.int .i64 z7) rfl
 have D8:=cb HF.out.1 8 (.int .i64 z8) rfl
 have D9:=cb HF.out.1 9 (.slice s9 x9.length t9) rfl
 have D10:=cb HF.out.1 10 (.slice s10 x10.length t10) rfl
 go_wp2
 refine bodyPost_ret (v:=.agg #[.slice s0 x0.length t0,.slice s1 x1.length t1,.slice s2 x2.length t2,.slice s3 x3.length t3,.slice s4 x4.length t4,.slice s5 x5.length t5,.slice s6 x6.length t6,.int .i64 z7,.int .i64 z8,.slice s9 x9.length t9,.slice s10 x10.length t10]) (by simp [results,Tryz.results49,go_sem,D0,D1,D2,D3,D4,D5,D6,D7,D8,D9,D10]) rfl ⟨[.slice s0 x0.length t0,.slice s1 x1.length t1,.slice s2 x2.length t2,.slice s3 x3.length t3,.slice s4 x4.length t4,.slice s5 x5.length t5,.slice s6 x6.length t6],w1.heap.size,_,_,rs,rfl,by omega,hs3,?_,HF.out.2.2.1,HF.out.2.2.2⟩
 exact OFs.mono HF.out.2.1 (fun b hb=>⟨by have:=hb.1; omega,hb.2⟩)
theorem nodeOf_any (vs:List Value) (r:List Dt) (S:Nat→Prop) (w:World) (hP:PeerR r) (h:FsAt w S vs r) (hb:Dt.bR r≤1048576) :
  Calls Tryz.prog 20 #[.agg vs.toArray] w fun e w'=>∃ (mu:List Value) (m1 nb:Nat) (ov sv:Value) (rs:List (Se×Value)),e = .returned (.pointer (some ⟨nb,0,none⟩))∧w'.heap[nb]? = some (.cells (([.int .i32 0,.int .u32 0]:List Value) ++ mu ++ ([.int .i64 (peL r).id,.int .i64 (peL r).next,ov,sv]:List Value)).toArray 110)∧mu.length=7∧w.heap.size+2≤m1∧m1≤nb∧OFs w' mu (r.take 7) (Btw (w.heap.size+2) m1)∧LkOwn w' m1 (.agg #[.int .i64 (peL r).id,.int .i64 (peL r).next,ov,sv]) (peL r) ov sv rs∧Below w.heap.size w w':=by
 obtain ⟨x0,x1,x2,x3,x4,x5,x6,z7,z8,x9,x10,rfl,q0,q1,q2,q3,q4,q5,q6,q9,q10⟩:=hP
 obtain ⟨v0,v1,v2,v3,v4,v5,v6,v7,v8,v9,v10,rfl,a0,a1,a2,a3,a4,a5,a6,a7,a8,a9,a10⟩:=fs11 h
 obtain ⟨p0,c0,rfl⟩:=a0.form
 obtain ⟨p1,c1,rfl⟩:=a1.form
 obtain ⟨p2,c2,rfl⟩:=a2.form
 obtain ⟨p3,c3,rfl⟩:=a3.form
 obtain ⟨p4,c4,rfl⟩:=a4.form
 obtain ⟨p5,c5,rfl⟩:=a5.form
 obtain ⟨p6,c6,rfl⟩:=a6.form
 obtain ⟨rfl,ia7⟩:=a7.ofInt
 obtain ⟨rfl,ia8⟩:=a8.ofInt
 obtain ⟨p9,c9,rfl⟩:=a9.form
 obtain ⟨p10,c10,rfl⟩:=a10.form
 have hP:PeerR [.row x0,.row x1,.row x2,.row x3,.row x4,.row x5,.row x6,.int z7,.int z8,.row x9,.row x10]:=⟨_,_,_,_,_,_,_,_,_,_,_,rfl,q0,q1,q2,q3,q4,q5,q6,q9,q10⟩
 have b0:Below w.heap.size w (w.alloc (.cells #[.slice p0 x0.length c0,.slice p1 x1.length c1,.slice p2 x2.length c2,.slice p3 x3.length c3,.slice p4 x4.length c4,.slice p5 x5.length c5,.slice p6 x6.length c6,.int .i64 z7,.int .i64 z8,.slice p9 x9.length c9,.slice p10 x10.length c10] 51)):=(Below.refl _ w).alloc (Nat.le_refl _) _
 have O0:(w.alloc (.cells #[.slice p0 x0.length c0,.slice p1 x1.length c1,.slice p2 x2.length c2,.slice p3 x3.length c3,.slice p4 x4.length c4,.slice p5 x5.length c5,.slice p6 x6.length c6,.int .i64 z7,.int .i64 z8,.slice p9 x9.length c9,.slice p10 x10.length c10] 51)).heap[w.heap.size]? = some (.cells #[.slice p0 x0.length c0,.slice p1 x1.length c1,.slice p2 x2.length c2,.slice p3 x3.length c3,.slice p4 x4.length c4,.slice p5 x5.length c5,.slice p6 x6.length c6,.int .i64 z7,.int .i64 z8,.slice p9 x9.length c9,.slice p10 x10.length c10] 51):=(MapKept.heap_alloc w _).1
 have HA:=(show Hid (_∧_∧_∧_) from ⟨FsAt.up h b0,hP,hb,b0⟩)
 clear O0 b0 hP h hb a0 a1 a2 a3 a4 a5 a6 a7 a8 a9 a10 q0 q1 q2 q3 q4 q5 q6 q9 q10
 go_enter Tryz.func20,Tryz.ntmps20
 go_wp2_with fail
 have HC:Calls Tryz.prog 49 #[.agg #[.slice p0 x0.length c0,.slice p1 x1.length c1,.slice p2 x2.length c2,.slice p3 x3.length c3,.slice p4 x4.length c4,.slice p5 x5.length c5,.slice p6 x6.length c6,.int .i64 z7,.int .i64 z8,.slice p9 x9.length c9,.slice p10 x10.length c10]] (w.alloc (.cells #[.slice p0 x0.length c0,.slice p1 x1.length c1,.slice p2 x2.length c2,.slice p3 x3.length c3,.slice p4 x4.length c4,.slice p5 x5.length c5,.slice p6 x6.length c6,.int .i64 z7,.int .i64 z8,.slice p9 x9.length c9,.slice p10 x10.length c10] 51)) (fun e w'=>∃ (mu:List Value) (m1:Nat) (ov sv:Value) (rs:List (Se×Value)),e = .returned (.agg (mu ++ [.int .i64 z7,.int .i64 z8,ov,sv]).toArray)∧(w.alloc (.cells #[.slice p0 x0.length c0,.slice p1 x1.length c1,.slice p2 x2.length c2,.slice p3 x3.length c3,.slice p4 x4.length c4,.slice p5 x5.length c5,.slice p6 x6.length c6,.int .i64 z7,.int .i64 z8,.slice p9 x9.length c9,.slice p10 x10.length c10] 51)).heap.size+2≤m1∧m1≤w'.heap.size∧OFs w' mu [.row x0,.row x1,.row x2,.row x3,.row x4,.row x5,.row x6] (Btw ((w.alloc (.cells #[.slice p0 x0.length c0,.slice p1 x1.length c1,.slice p2 x2.length c2,.slice p3 x3.length c3,.slice p4 x4.length c4,.slice p5 x5.length c5,.slice p6 x6.length c6,.int .i64 z7,.int .i64 z8,.slice p9 x9.length c9,.slice p10 x10.length c10] 51)).heap.size+2) m1)∧LkOwn w' m1 (.agg #[.int .i64 z7,.int .i64 z8,ov,sv]) (lkOf z7 z8 x9 x10) ov sv rs∧Below (w.alloc (.cells #[.slice p0 x0.length c0,.slice p1 x1.length c1,.slice p2 x2.length c2,.slice p3 x3.length c3,.slice p4 x4.length c4,.slice p5 x5.length c5,.slice p6 x6.length c6,.int .i64 z7,.int .i64 z8,.slice p9 x9.length c9,.slice p10 x10.length c10] 51)).heap.size (w.alloc (.cells #[.slice p0 x0.length c0,.slice p1 x1.length c1,.slice p2 x2.length c2,.slice p3 x3.length c3,.slice p4 x4.length c4,.slice p5 x5.length c5,.slice p6 x6.length c6,.int .i64 z7,.int .i64 z8,.slice p9 x9.length c9,.slice p10 x10.length c10] 51)) w'):=copyPeer_any [.slice p0 x0.length c0,.slice p1 x1.length c1,.slice p2 x2.length c2,.slice p3 x3.length c3,.slice p4 x4.length c4,.slice p5 x5.length c5,.slice p6 x6.length c6,.int .i64 z7,.int .i64 z8,.slice p9 x9.length c9,.slice p10 x10.length c10] [.row x0,.row x1,.row x2,.row x3,.row x4,.row x5,.row x6,.int z7,.int z8,.row x9,.row x10] S _ HA.out.2.1 HA.out.1 HA.out.2.2.1
 refine HC.mono ?_
 clear HC
 rintro e w1 ⟨mu,m1,ov,sv,rs,rfl,hm1,hle1,N,L,b1⟩
 have hsA:(w.alloc (.cells #[.slice p0 x0.length c0,.slice p1 x1.length c1,.slice p2 x2.length c2,.slice p3 x3.length c3,.slice p4 x4.length c4,.slice p5 x5.length c5,.slice p6 x6.length c6,.int .i64 z7,.int .i64 z8,.slice p9 x9.length c9,.slice p10 x10.length c10] 51)).heap.size=w.heap.size+1:=by simp
 rw [hsA] at hm1 N
 obtain ⟨v0,v1,v2,v3,v4,v5,v6,rfl,k0,k1,k2,k3,k4,k5,k6⟩:=fs7 N.at
 obtain ⟨s0,t0,rfl⟩:=k0.form
 obtain ⟨s1,t1,rfl⟩:=k1.form
 obtain ⟨s2,t2,rfl⟩:=k2.form
 obtain ⟨s3,t3,rfl⟩:=k3.form
 obtain ⟨s4,t4,rfl⟩:=k4.form
 obtain ⟨s5,t5,rfl⟩:=k5.form
 obtain ⟨s6,t6,rfl⟩:=k6.form
 obtain ⟨oa,oc,rfl⟩:=L.out.at.form
 have g10:=L.seen.at.form
 rw [L.is] at g10
 obtain ⟨sa,sc,rfl⟩:=g10
 have b2:∀ o,Below w1.heap.size w1 (w1.alloc o):=fun o=>(Below.refl _ w1).alloc (Nat.le_refl _) _
 have H1:=(show Hid (_∧_∧_∧_∧_) from ⟨N,L,HA.out.2.2.2.trans (b1.mono HA.out.2.2.2.size),b2,hm1⟩)
 clear N L b1 b2 hm1 hsA k0 k1 k2 k3 k4 k5 k6
 go_wp2_with fail
 refine bodyPost_ret (v:=.pointer (some ⟨w1.heap.size,0,none⟩)) (by simp [results,Tryz.results20,go_sem]) rfl ⟨[.slice s0 x0.length t0,.slice s1 x1.length t1,.slice s2 x2.length t2,.slice s3 x3.length t3,.slice s4 x4.length t4,.slice s5 x5.length t5,.slice s6 x6.length t6],m1,w1.heap.size,_,_,rs,rfl,(MapKept.heap_alloc w1 _).1,rfl,by have:=H1.out.2.2.2.2; omega,hle1,(OFs.up H1.out.1 (H1.out.2.2.2.1 _)).mono (fun b hb=>⟨by have:=hb.1; omega,hb.2⟩),H1.out.2.1.below (H1.out.2.2.2.1 _),H1.out.2.2.1.alloc H1.out.2.2.1.size _⟩
end Go.Proofs.YtmmadoabejgffaaGreatDoor
