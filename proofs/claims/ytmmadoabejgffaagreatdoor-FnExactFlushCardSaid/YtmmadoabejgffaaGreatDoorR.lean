/-
  Proofs.
-/
import Derived.Test.YtmmadoabejgffaaGreatDoorA
import Derived.Test.YtmmadoabejgffaaGreatDoorQ
import Derived.Deep.RegionHeld3
namespace Go.Proofs.YtmmadoabejgffaaGreatDoor
open Go.RowKit Go.Joins
set_option maxRecDepth 100000
set_option maxHeartbeats 51200000
theorem copyCode_dt:ToC 157 CodeR:=by
 rintro vs r S w ⟨z0,z1,b2,x3,rfl,q3⟩ h hb
 obtain ⟨v0,v1,v2,v3,rfl,a0,a1,a2,a3⟩:=fs4 h
 obtain ⟨rfl,ia0⟩:=a0.ofInt
 obtain ⟨rfl,ia1⟩:=a1.ofInt
 obtain ⟨rfl,ia2⟩:=a2.ofStr
 obtain ⟨p3,c3,rfl⟩:=a3.form
 have hbk:Dt.bR [.int z0,.int z1,.str b2,.row x3]=b2.size+Dt.bS x3:=by simp [Dt.bR,Dt.bulk]; try omega
 rw [hbk] at hb
 clear hbk h
 have HI:=(show Hid (_∧_∧_∧_) from ⟨ia0,ia1,ia2,trivial⟩)
 have HA:=(show Hid (_∧_) from ⟨a3,trivial⟩)
 clear a0 a1 a2 a3 ia0 ia1 ia2
 obtain ⟨W0,hW0⟩:∃ W0,W0=(w.alloc (.cells #[.int .i64 z0,.int .i64 z1,.string b2,.slice p3 x3.length c3] 182)).alloc (.cells #[.int .i64 0,.int .i64 0,.string ⟨#[]⟩,.slice none 0 0] 182):=⟨_,rfl⟩
 have B:Below w.heap.size w W0:=by rw [hW0]; exact ((Below.refl _ w).alloc (Nat.le_refl _) _).alloc (by simp) _
 have SZ:W0.heap.size=w.heap.size+2:=by rw [hW0]; simp
 have O0:W0.heap[w.heap.size]? = some (.cells #[.int .i64 z0,.int .i64 z1,.string b2,.slice p3 x3.length c3] 182):=by rw [hW0]; exact (Below.heap_alloc _ _ _ (by simp)).trans (MapKept.heap_alloc w _).1
 have O1:W0.heap[w.heap.size+1]? = some (.cells #[.int .i64 0,.int .i64 0,.string ⟨#[]⟩,.slice none 0 0] 182):=by
  rw [hW0]
  have:=(MapKept.heap_alloc (w.alloc (.cells #[.int .i64 z0,.int .i64 z1,.string b2,.slice p3 x3.length c3] 182)) (.cells #[.int .i64 0,.int .i64 0,.string ⟨#[]⟩,.slice none 0 0] 182)).1
  simpa using this
 have HS:=(show Hid (_∧_∧_∧_∧_) from ⟨O0,O1,B,SZ,trivial⟩)
 have HW:=(show Hid (_∧True) from ⟨hW0,trivial⟩)
 clear O0 O1 B SZ hW0
 go_enter Tryz.func157,Tryz.ntmps157
 go_wp2_with fail
 rw [← HW.out.1]
 refine (strClone_any b2 _ (by omega)).mono ?_
 rintro e w1 ⟨rfl,bb⟩
 obtain ⟨O0,O1,B,SZ,-⟩:=HS.out
 have zw1:w.heap.size+2≤w1.heap.size:=by have:=bb.size; rw [SZ] at this; exact this
 have O0:=(bb.block _ (lh O0)).trans O0
 have O1:=(bb.block _ (lh O1)).trans O1
 have B:=B.trans (bb.mono B.size)
 have y0_0:=cb O0 0 (.int .i64 z0) rfl
 have y0_1:=cb O0 1 (.int .i64 z1) rfl
 have y0_2:=cb O0 2 (.string b2) rfl
 have f0_2:=ub O0 2
 have y0_3:=cb O0 3 (.slice p3 x3.length c3) rfl
 obtain ⟨W1,hW⟩:∃ W,W=(w1.setCell ⟨w.heap.size,2,none⟩ (.string b2)):=⟨_,rfl⟩
 have SZ':W1.heap.size=w1.heap.size:=by rw [hW]; simp
 have e2:∀ (b:Nat),b≠w.heap.size→W1.heap[b]? = w1.heap[b]? := by
  intro b hb'
  rw [hW]
  simp only [Below.heap_setCell _ _ _ b (show b≠(⟨w.heap.size,_,none⟩:Addr).block from hb')]
 have P1:=(e2 _ (by omega)).trans O1
 have P0:W1.heap[w.heap.size]? = some (.cells #[.int .i64 z0,.int .i64 z1,.string b2,.slice p3 x3.length c3] 182):=by
  rw [hW]
  have:=(block_setCell (i:=2) O0 (.string b2))
  simpa only [List.setIfInBounds_toArray,List.set_cons_zero,List.set_cons_succ] using this
 have PB:Below w.heap.size w W1:=by rw [hW]; exact (B.setCell (p:=⟨w.heap.size,2,none⟩) (Nat.le_refl _) (.string b2))
 have HS:=(show Hid (_∧_∧_∧_∧_) from ⟨P0,P1,PB,SZ',trivial⟩)
 have HW:=(show Hid (_∧True) from ⟨hW,trivial⟩)
 clear O0 O1 B SZ SZ' bb hW e2 P0 P1 PB
 go_wp2_with fail
 rw [← HW.out.1]
 refine (cloneIntO_dt _ x3 S _ q3 (HA.out.1.up HS.out.2.2.1) (by omega)).mono ?_
 rintro e w2 ⟨u,rfl,n3,bb⟩
 obtain ⟨s3,t3,rfl⟩:=n3.form
 obtain ⟨O0,O1,B,SZ,-⟩:=HS.out
 rw [SZ] at n3
 have zw2:w1.heap.size≤w2.heap.size:=by have:=bb.size; rw [SZ] at this; exact this
 have O0:=(bb.block _ (lh O0)).trans O0
 have O1:=(bb.block _ (lh O1)).trans O1
 have B:=B.trans (bb.mono B.size)
 have y0_0:=cb O0 0 (.int .i64 z0) rfl
 have y0_1:=cb O0 1 (.int .i64 z1) rfl
 have y0_2:=cb O0 2 (.string b2) rfl
 have y0_3:=cb O0 3 (.slice p3 x3.length c3) rfl
 have f0_3:=ub O0 3
 have y1_0:=cb O1 0 (.int .i64 0) rfl
 have f1_0:=ub O1 0
 have y1_1:=cb O1 1 (.int .i64 0) rfl
 have f1_1:=ub O1 1
 have y1_2:=cb O1 2 (.string ⟨#[]⟩) rfl
 have f1_2:=ub O1 2
 have y1_3:=cb O1 3 (.slice none 0 0) rfl
 have f1_3:=ub O1 3
 have HF:=(show Hid (_∧_∧_) from ⟨B,n3,trivial⟩)
 clear O0 O1 B SZ bb HS HW n3
 go_wp2
 refine bodyPost_ret (v:=.agg #[.int .i64 z0,.int .i64 z1,.string b2,.slice s3 x3.length t3]) (by simp [results,Tryz.results157,go_sem,y1_0,y1_1,y1_2,y1_3]) rfl ⟨_,rfl,?_,?_⟩
 ·obtain ⟨-,n3,-⟩:=HF.out
  have key:OFs w2 [.int .i64 z0,.int .i64 z1,.string b2,.slice s3 x3.length t3] [.int z0,.int z1,.str b2,.row x3] (Btw (w.heap.size+2) w2.heap.size):=(OFs.int HI.out.1 (OFs.int HI.out.2.1 (OFs.str HI.out.2.2.1 (OFs.cons (Own.mono n3 (fun b hb=>⟨by have:=hb.1; omega,hb.2⟩)) (show OFs _ [] [] _ from trivial) (by omega) (by omega)))))
  refine (key.moved (fun b hb' _ => ?_)).mono (fun b hb'=>⟨by have:=hb'.1; omega,by have:=hb'.2; simpa using this⟩)
  have e1:∀ (j:Nat) (u:Value) (W:World),(W.setCell ⟨w.heap.size+1,j,none⟩ u).heap[b]? = W.heap[b]? := fun j u W=>Below.heap_setCell W _ u b (by have:=hb'.1; simp; omega)
  have e2:∀ (j:Nat) (u:Value) (W:World),(W.setCell ⟨w.heap.size,j,none⟩ u).heap[b]? = W.heap[b]? := fun j u W=>Below.heap_setCell W _ u b (by have:=hb'.1; simp; omega)
  simp only [e1,e2]
 ·iterate 5 refine Below.setCell ?_ (by simp; try omega) _
  exact HF.out.1
theorem copyEachCode_dt:CpS 156 157 182 4 CodeR:=by
 intro v xs S w hP h hb
 have hlen:=bulkS_len xs
 have hBA:=@bulkS_at xs
 have hc:=cloneCode_dt v xs S w hP h (by omega)
 have HP:=(show Hid (_∧_) from ⟨hP,hP.len CodeR.len⟩)
 obtain ⟨a,cap,rfl⟩:=h.form
 have HC:=(show Hid (_∧True) from ⟨hc,trivial⟩)
 clear hc h hP
 go_enter Tryz.func156,Tryz.ntmps156
 go_wp2_with fail
 refine HC.out.1.mono ?_
 rintro e w1 ⟨u,rfl,hcl,b1⟩
 clear HC
 rcases hcl with ⟨rfl,rfl⟩ | ⟨g,cap1,cur,rfl,hg0,hg,hl,hm,hs,hraw⟩
 ·go_wp2
  refine wp_loop_rounds 1 ?_
  rw [rounds_succ]
  go_wp2
  go_ret
  exact ⟨_,rfl,.nil _,⟨[],rfl,.inl ⟨rfl,rfl⟩⟩,b1⟩
 ·have H1:=(show Hid (_∧_) from ⟨RowC.start hg hs hraw,b1⟩)
  clear hg hs hraw b1
  go_wp2
  go_loopw [12] (fun i wr=>∃ k:Nat,k≤xs.length∧i = .int .i64 k∧Hid (RowC w wr S 182 g 4 cap1 k xs)∧Below w.heap.size w wr) (fun i _=>xs.length - (intOf i).toNat)
  case atStart=>exact ⟨0,Nat.zero_le _,rfl,H1.out.1,H1.out.2⟩
  case round =>
   clear H1
   obtain ⟨k,hk,rfl,HR,hbw⟩:=hrel
   by_cases hkl:k<xs.length
   ·have he:=List.getElem?_eq_getElem hkl
    have hbk:=hBA he
    generalize xs[k]=r at *
    obtain ⟨z0,z1,b2,x3,rfl,q3⟩:=HP.out.1 k r he
    obtain ⟨cur',vs',Y',hgk,hsk,hck,hrk,hYk,hdk⟩:=HR.out
    obtain ⟨r0,cc0,a0⟩:=hrk k 0 _ _ (Nat.le_refl _) he rfl
    obtain ⟨rfl,ir0⟩:=a0.ofInt
    have c0:wr.cell? ⟨g,k * 4,none⟩=some (.int .i64 z0):=by rw [cell_of_block hgk]; exact cc0
    obtain ⟨r1,cc1,a1⟩:=hrk k 1 _ _ (Nat.le_refl _) he rfl
    obtain ⟨rfl,ir1⟩:=a1.ofInt
    have c1:wr.cell? ⟨g,k * 4+1,none⟩=some (.int .i64 z1):=by rw [cell_of_block hgk]; exact cc1
    obtain ⟨r2,cc2,a2⟩:=hrk k 2 _ _ (Nat.le_refl _) he rfl
    obtain ⟨rfl,ir2⟩:=a2.ofStr
    have c2:wr.cell? ⟨g,k * 4+2,none⟩=some (.string b2):=by rw [cell_of_block hgk]; exact cc2
    obtain ⟨r3,cc3,a3⟩:=hrk k 3 _ _ (Nat.le_refl _) he rfl
    obtain ⟨p3,d3,rfl⟩:=a3.form
    have c3:wr.cell? ⟨g,k * 4+3,none⟩=some (.slice p3 x3.length d3):=by rw [cell_of_block hgk]; exact cc3
    have hgl:=lh hgk
    have HX:=(show Hid (_∧_∧_∧_∧_) from ⟨(show FsAt wr S [.int .i64 z0,.int .i64 z1,.string b2,.slice p3 x3.length d3] [.int z0,.int z1,.str b2,.row x3] from ⟨a0.up hbw,a1.up hbw,a2.up hbw,a3.up hbw,trivial⟩),HP.out.1 k _ he,he,hgk,hbw⟩)
    have BA:Below wr.heap.size wr (wr.alloc (.cells #[.int .i64 z0,.int .i64 z1,.string b2,.slice p3 x3.length d3] 182)):=(Below.refl _ wr).alloc (Nat.le_refl _) _
    have hsA:(wr.alloc (.cells #[.int .i64 z0,.int .i64 z1,.string b2,.slice p3 x3.length d3] 182)).heap.size=wr.heap.size+1:=by simp
    have HB:=(show Hid (_∧_) from ⟨BA,hsA⟩)
    have hlt':((k:Nat):Int)<((xs.length:Nat):Int):=by omega
    clear he hBA hgk hsk hck hrk hYk hdk BA hsA cc0 a0 cc1 a1 cc2 a2 cc3 a3 ir0 ir1 ir2
    go_wp2_with fail
    refine (copyCode_dt [.int .i64 z0,.int .i64 z1,.string b2,.slice p3 x3.length d3] [.int z0,.int z1,.str b2,.row x3] S _ HX.out.2.1 (HX.out.1.up HB.out.1) (by omega)).mono ?_
    rintro e w3 ⟨us,rfl,o3,b3⟩
    obtain ⟨v0,v1,v2,v3,rfl,k0,k1,k2,k3⟩:=fs4 o3.at
    obtain ⟨rfl,-⟩:=k0.ofInt
    obtain ⟨rfl,-⟩:=k1.ofInt
    obtain ⟨rfl,-⟩:=k2.ofStr
    obtain ⟨s3,t3,rfl⟩:=k3.form
    have bA:Below wr.heap.size wr w3:=HB.out.1.trans (b3.mono HB.out.1.size)
    have o3':=o3.mono (X':=Btw wr.heap.size w3.heap.size) (fun b hb=>⟨Nat.le_trans HB.out.1.size hb.1,hb.2⟩)
    have HN:=(show Hid (_∧_) from ⟨RowC.next HR.out hbw.size hl bA HX.out.2.2.1 HP.out.2 o3',hbw.trans (bA.mono hbw.size)⟩)
    have hg3:=(bA.block _ hgl).trans HX.out.2.2.2.1
    have y0:w3.cell? ⟨g,k * 4,none⟩=some (.int .i64 z0):=(bA.cell (p:=⟨g,k * 4,none⟩) hgl).trans c0
    have f0:w3.frozen? ⟨g,k * 4,none⟩=false:=unfrozen_of_block hg3 _
    have y1:w3.cell? ⟨g,k * 4+1,none⟩=some (.int .i64 z1):=(bA.cell (p:=⟨g,k * 4+1,none⟩) hgl).trans c1
    have f1:w3.frozen? ⟨g,k * 4+1,none⟩=false:=unfrozen_of_block hg3 _
    have y2:w3.cell? ⟨g,k * 4+2,none⟩=some (.string b2):=(bA.cell (p:=⟨g,k * 4+2,none⟩) hgl).trans c2
    have f2:w3.frozen? ⟨g,k * 4+2,none⟩=false:=unfrozen_of_block hg3 _
    have y3:w3.cell? ⟨g,k * 4+3,none⟩=some (.slice p3 x3.length d3):=(bA.cell (p:=⟨g,k * 4+3,none⟩) hgl).trans c3
    have f3:w3.frozen? ⟨g,k * 4+3,none⟩=false:=unfrozen_of_block hg3 _
    clear hbw HX HR HB bA o3 o3' b3 hg3 k0 k1 k2 k3 c0 c1 c2 c3
    go_wp2
    refine ⟨⟨k+1,by omega,by go_num,HN.out.1,((((HN.out.2.setCell (p:=⟨g,k * 4,none⟩) hg0 _).setCell (p:=⟨g,k * 4+1,none⟩) hg0 _).setCell (p:=⟨g,k * 4+2,none⟩) hg0 _).setCell (p:=⟨g,k * 4+3,none⟩) hg0 _)⟩,by simp [intOf]; omega⟩
   ·obtain rfl:k=xs.length:=by omega
    have HF:=(show Hid (_∧_) from ⟨RowC.done HR.out HP.out.2 hl hm hg0,RowC.typed HR.out hl hm hg0⟩)
    clear HR
    go_wp2
    go_ret
    exact ⟨_,rfl,HF.out.1,HF.out.2,hbw⟩
theorem run_buildTable (a0 a1:Option Addr) (l0 c0 l1 c1:Nat) (w:World):(Instr.build 40 #[(0,.slice a0 l0 c0),(1,.slice a1 l1 c1)]).run Tryz.prog w = .ok (.agg #[.slice a0 l0 c0,.slice a1 l1 c1]) w:=by kernel_rfl
theorem copyTable_dt:ToC 123 TableR:=by
 rintro vs r S w ⟨x0,x1,rfl,q0,q1⟩ h hb
 obtain ⟨v0,v1,rfl,a0,a1⟩:=fs2 h
 obtain ⟨p0,c0,rfl⟩:=a0.form
 obtain ⟨p1,c1,rfl⟩:=a1.form
 rw [show Dt.bR [.row x0,.row x1]=Dt.bS x0+Dt.bS x1 from by simp [Dt.bR,Dt.bulk]; try omega] at hb
 obtain ⟨W0,hW0⟩:∃ W0,W0=(w.alloc (.cells #[.slice p0 x0.length c0,.slice p1 x1.length c1] 40)).alloc (.cells #[.slice none 0 0,.slice none 0 0] 40):=⟨_,rfl⟩
 have B:Below w.heap.size w W0:=by rw [hW0]; exact ((Below.refl _ w).alloc (Nat.le_refl _) _).alloc (by simp) _
 have SZ:W0.heap.size=w.heap.size+2:=by rw [hW0]; simp
 have O0:W0.heap[w.heap.size]? = some (.cells #[.slice p0 x0.length c0,.slice p1 x1.length c1] 40):=by rw [hW0]; exact (Below.heap_alloc _ _ _ (by simp)).trans (MapKept.heap_alloc w _).1
 have O1:W0.heap[w.heap.size+1]? = some (.cells #[.slice none 0 0,.slice none 0 0] 40):=by
  rw [hW0]
  have:=(MapKept.heap_alloc (w.alloc (.cells #[.slice p0 x0.length c0,.slice p1 x1.length c1] 40)) (.cells #[.slice none 0 0,.slice none 0 0] 40)).1
  simpa using this
 have HZ:Hid (∀ wx:World,Below W0.heap.size W0 wx→wx.cell? ⟨w.heap.size,0,none⟩=some (.slice p0 x0.length c0)∧wx.cell? ⟨w.heap.size,1,none⟩=some (.slice p1 x1.length c1)):=fun wx hx=>by
  have o:=(hx.block _ (lh O0)).trans O0
  exact ⟨by rw [cell_of_block o]; rfl,by rw [cell_of_block o]; rfl⟩
 have HK:Hid (∀ (wx:World) (u0 u1:Value),Below W0.heap.size W0 wx→((wx.setCell ⟨w.heap.size+1,0,none⟩ u0).setCell ⟨w.heap.size+1,1,none⟩ u1).cell? ⟨w.heap.size,0,none⟩=some (.slice p0 x0.length c0)∧((wx.setCell ⟨w.heap.size+1,0,none⟩ u0).setCell ⟨w.heap.size+1,1,none⟩ u1).cell? ⟨w.heap.size,1,none⟩=some (.slice p1 x1.length c1)):=fun wx u0 u1 hx=>by
  have e1:∀ (j:Nat) (u:Value) (W:World),(W.setCell ⟨w.heap.size+1,j,none⟩ u).heap[w.heap.size]? = W.heap[w.heap.size]? := fun j u W=>Below.heap_setCell W _ u _ (by simp)
  have o:((wx.setCell ⟨w.heap.size+1,0,none⟩ u0).setCell ⟨w.heap.size+1,1,none⟩ u1).heap[w.heap.size]? = some (.cells #[.slice p0 x0.length c0,.slice p1 x1.length c1] 40):=by
   simp only [e1]
   exact (hx.block _ (lh O0)).trans O0
  exact ⟨by rw [cell_of_block o]; rfl,by rw [cell_of_block o]; rfl⟩
 have HS:=(show Hid (_∧_∧_) from ⟨B,SZ,O1⟩)
 have HA:=(show Hid (_∧_∧_) from ⟨a0,a1,trivial⟩)
 have HW:=(show Hid (_∧True) from ⟨hW0,trivial⟩)
 obtain ⟨cc0,cc1⟩:=HZ.out W0 (Below.refl _ W0)
 clear B SZ O0 O1 hW0 h a0 a1
 have hbd:=run_buildTable
 go_enter Tryz.func123,Tryz.ntmps123
 go_wp2_with fail
 rw [← HW.out.1]
 clear HW
 go_region_held3 (fun w'=>w'.cell? ⟨w.heap.size,0,none⟩=some (.slice p0 x0.length c0)∧w'.cell? ⟨w.heap.size,1,none⟩=some (.slice p1 x1.length c1))
  (first | with_reducible exact HZ.out _ H2.out.1 | with_reducible exact HZ.out _ H1.out.1 | with_reducible exact HZ.out _ (Below.refl W0.heap.size W0).drew | with_reducible exact HZ.out _ (Below.refl _ W0) | with_reducible exact HK.out w2 _ _ H2.out.1)
  (first
   | (go_at_call 128; refine (cloneIntO_dt _ x1 S _ q1 (HA.out.2.1.up H1.out.2.1) (by omega)).mono ?_; rintro e w2 ⟨u,rfl,n1,b1⟩; obtain ⟨s1,t1,rfl⟩:=n1.form; have H2:=(show Hid (_∧_∧_∧_∧_∧_∧_) from ⟨H1.out.1.trans (b1.mono H1.out.1.size),H1.out.2.1.trans (b1.mono H1.out.2.1.size),H1.out.2.2.1,b1.size,Own.up (H1.out.2.2.2.1) b1,n1,trivial⟩); have o1:=(H2.out.1.block _ (lh HS.out.2.2)).trans HS.out.2.2; have y0:w2.cell? ⟨w.heap.size+1,0,none⟩=some (.slice none 0 0):=(by rw [cell_of_block o1]; rfl); have f0:w2.frozen? ⟨w.heap.size+1,0,none⟩=false:=unfrozen_of_block o1 0; have y1:w2.cell? ⟨w.heap.size+1,1,none⟩=some (.slice none 0 0):=(by rw [cell_of_block o1]; rfl); have f1:w2.frozen? ⟨w.heap.size+1,1,none⟩=false:=unfrozen_of_block o1 1; clear o1; clear b1 n1)
   | (go_at_call 156; refine (copyEachCode_dt _ x0 S _ q0 (HA.out.1.up HS.out.1.drew) (by omega)).mono ?_; rintro e w1 ⟨u,rfl,n0,-,b1⟩; obtain ⟨s0,t0,rfl⟩:=n0.form; have H1:=(show Hid (_∧_∧_∧_∧_) from ⟨(Below.refl W0.heap.size W0).drew.trans (b1.mono (Below.refl W0.heap.size W0).drew.size),HS.out.1.drew.trans (b1.mono HS.out.1.drew.size),b1.size,n0,trivial⟩); clear b1 n0))
 all_goals
  go_wp2
  refine bodyPost_ret (v:=.agg #[.slice s0 x0.length t0,.slice s1 x1.length t1]) (by simp [results,Tryz.results123,go_sem,y0,y1]) rfl ⟨_,rfl,?_,?_⟩
  ·obtain ⟨-,-,z0,z1,n0,n1,-⟩:=H2.out
   rw [show W0.drew.heap.size=w.heap.size+2 from HS.out.2.1] at z0 n0
   have key:OFs w2 [.slice s0 x0.length t0,.slice s1 x1.length t1] [.row x0,.row x1] (Btw (w.heap.size+2) w2.heap.size):=(OFs.cons n0 (OFs.cons n1 (show OFs _ [] [] _ from trivial) (by omega) (by omega)) (by omega) (by omega))
   refine (key.moved (fun b hb' _ => ?_)).mono (fun b hb'=>⟨by have:=hb'.1; omega,by have:=hb'.2; simpa using this⟩)
   have e1:∀ (j:Nat) (u:Value) (W:World),(W.setCell ⟨w.heap.size+1,j,none⟩ u).heap[b]? = W.heap[b]? := fun j u W=>Below.heap_setCell W _ u b (by have:=hb'.1; simp; omega)
   simp only [e1]
  ·iterate 2 refine Below.setCell ?_ (by simp) _
   exact H2.out.2.1
theorem withKids_dt (z0 z1 z2:Int) (kv kv':Value) (a a':Option Addr) (l c l' c':Nat) (hk:kv = .slice a l c) (hk':kv' = .slice a' l' c') (w:World) :
    Calls Tryz.prog 159 #[.agg #[.int .i64 z0,.int .i64 z1,.int .i64 z2,kv],kv'] w fun e w'=>e = .returned (.agg #[.int .i64 z0,.int .i64 z1,.int .i64 z2,kv'])∧Below w.heap.size w w':=by
  subst hk hk'
  go_enter Tryz.func159,Tryz.ntmps159
  go_wp2
  refine bodyPost_ret (v:=.agg #[.int .i64 z0,.int .i64 z1,.int .i64 z2,.slice a' l' c']) (by simp [results,Tryz.results159,go_sem]) rfl ⟨rfl,?_⟩
  first
    | exact ((Below.refl _ w).alloc (Nat.le_refl _) _).alloc (by simp) _
    | (repeat (first | refine Below.setCell ?_ (by simp) _ | refine Below.alloc ?_ (by simp) _)
       exact Below.refl _ w)
theorem copyCell_dt:ToC 125 CellR:=by
  rintro vs r S w ⟨z0,z1,z2,x3,rfl,q3⟩ h hb
  obtain ⟨v0,v1,v2,v3,rfl,a0,a1,a2,a3⟩:=fs4 h
  obtain ⟨rfl,ia0⟩:=a0.ofInt
  obtain ⟨rfl,ia1⟩:=a1.ofInt
  obtain ⟨rfl,ia2⟩:=a2.ofInt
  obtain ⟨p3,c3,rfl⟩:=a3.form
  rw [show Dt.bR [.int z0,.int z1,.int z2,.row x3]=Dt.bS x3 from by simp [Dt.bR,Dt.bulk]] at hb
  obtain ⟨W0,hW0⟩:∃ W0,W0=(w.alloc (.cells #[.int .i64 z0,.int .i64 z1,.int .i64 z2,.slice p3 x3.length c3] 65)).alloc (.cells #[.int .i64 0,.int .i64 0,.int .i64 0,.slice none 0 0] 65):=⟨_,rfl⟩
  have B:Below w.heap.size w W0:=by rw [hW0]; exact ((Below.refl _ w).alloc (Nat.le_refl _) _).alloc (by simp) _
  have SZ:W0.heap.size=w.heap.size+2:=by rw [hW0]; simp
  have O0:W0.heap[w.heap.size]? = some (.cells #[.int .i64 z0,.int .i64 z1,.int .i64 z2,.slice p3 x3.length c3] 65):=by rw [hW0]; exact (Below.heap_alloc _ _ _ (by simp)).trans (MapKept.heap_alloc w _).1
  have O1:W0.heap[w.heap.size+1]? = some (.cells #[.int .i64 0,.int .i64 0,.int .i64 0,.slice none 0 0] 65):=by
    rw [hW0]
    have:=(MapKept.heap_alloc (w.alloc (.cells #[.int .i64 z0,.int .i64 z1,.int .i64 z2,.slice p3 x3.length c3] 65)) (.cells #[.int .i64 0,.int .i64 0,.int .i64 0,.slice none 0 0] 65)).1
    simpa using this
  have HZ:Hid (∀ wx:World,Below W0.heap.size W0 wx→wx.cell? ⟨w.heap.size,0,none⟩=some (.int .i64 z0)∧wx.cell? ⟨w.heap.size,1,none⟩=some (.int .i64 z1)∧wx.cell? ⟨w.heap.size,2,none⟩=some (.int .i64 z2)∧wx.cell? ⟨w.heap.size,3,none⟩=some (.slice p3 x3.length c3)):=fun wx hx=>by
    have o:=(hx.block _ (lh O0)).trans O0
    exact ⟨by rw [cell_of_block o]; rfl,by rw [cell_of_block o]; rfl,by rw [cell_of_block o]; rfl,by rw [cell_of_block o]; rfl⟩
  have HK:Hid (∀ (wx:World) (u0 u1 u2 u3:Value),Below W0.heap.size W0 wx→((((wx.setCell ⟨w.heap.size+1,0,none⟩ u0).setCell ⟨w.heap.size+1,1,none⟩ u1).setCell ⟨w.heap.size+1,2,none⟩ u2).setCell ⟨w.heap.size+1,3,none⟩ u3).cell? ⟨w.heap.size,0,none⟩=some (.int .i64 z0)∧((((wx.setCell ⟨w.heap.size+1,0,none⟩ u0).setCell ⟨w.heap.size+1,1,none⟩ u1).setCell ⟨w.heap.size+1,2,none⟩ u2).setCell ⟨w.heap.size+1,3,none⟩ u3).cell? ⟨w.heap.size,1,none⟩=some (.int .i64 z1)∧((((wx.setCell ⟨w.heap.size+1,0,none⟩ u0).setCell ⟨w.heap.size+1,1,none⟩ u1).setCell ⟨w.heap.size+1,2,none⟩ u2).setCell ⟨w.heap.size+1,3,none⟩ u3).cell? ⟨w.heap.size,2,none⟩=some (.int .i64 z2)∧((((wx.setCell ⟨w.heap.size+1,0,none⟩ u0).setCell ⟨w.heap.size+1,1,none⟩ u1).setCell ⟨w.heap.size+1,2,none⟩ u2).setCell ⟨w.heap.size+1,3,none⟩ u3).cell? ⟨w.heap.size,3,none⟩=some (.slice p3 x3.length c3)):=fun wx u0 u1 u2 u3 hx=>by
    have e1:∀ (j:Nat) (u:Value) (W:World),(W.setCell ⟨w.heap.size+1,j,none⟩ u).heap[w.heap.size]? = W.heap[w.heap.size]? := fun j u W=>Below.heap_setCell W _ u _ (by simp)
    have o:((((wx.setCell ⟨w.heap.size+1,0,none⟩ u0).setCell ⟨w.heap.size+1,1,none⟩ u1).setCell ⟨w.heap.size+1,2,none⟩ u2).setCell ⟨w.heap.size+1,3,none⟩ u3).heap[w.heap.size]? = some (.cells #[.int .i64 z0,.int .i64 z1,.int .i64 z2,.slice p3 x3.length c3] 65):=by
      rw [e1,e1,e1,e1]
      exact (hx.block _ (lh O0)).trans O0
    exact ⟨by rw [cell_of_block o]; rfl,by rw [cell_of_block o]; rfl,by rw [cell_of_block o]; rfl,by rw [cell_of_block o]; rfl⟩
  have HS:=(show Hid (_∧_∧_∧_) from ⟨B,SZ,O1,a3.up B⟩)
  have HI:=(show Hid (_∧_∧_) from ⟨ia0,ia1,ia2⟩)
  have HW:=(show Hid (_∧True) from ⟨hW0,trivial⟩)
  have hc:=HZ.out W0 (Below.refl _ W0)
  obtain ⟨cc0,cc1,cc2,cc3⟩:=hc
  clear B SZ O0 O1 a0 a1 a2 a3 ia0 ia1 ia2 hW0 h
  go_enter Tryz.func125,Tryz.ntmps125
  go_wp2_with fail
  rw [← HW.out.1]
  clear HW
  go_region_held3 (fun w'=>w'.cell? ⟨w.heap.size,0,none⟩=some (.int .i64 z0)∧w'.cell? ⟨w.heap.size,1,none⟩=some (.int .i64 z1)∧w'.cell? ⟨w.heap.size,2,none⟩=some (.int .i64 z2)∧w'.cell? ⟨w.heap.size,3,none⟩=some (.slice p3 x3.length c3))
    (first | exact HZ.out _ H2.out.1 | exact HZ.out _ H1.out.1 | exact HZ.out _ (Below.refl _ W0).drew | exact HZ.out _ (Below.refl _ W0) | exact HK.out w2 _ _ _ _ H2.out.1)
    (first
      | (go_at_call 128; refine (cloneIntO_dt _ x3 S _ q3 (HS.out.2.2.2.up (Below.refl _ W0).drew) hb).mono ?_; rintro e w1 ⟨u,rfl,n3,b1⟩; obtain ⟨s3,t3,rfl⟩:=n3.form; have H1:=(show Hid (_∧_) from ⟨(Below.refl _ W0).drew.trans b1,n3⟩); clear b1 n3)
      | (go_at_call 159; refine (withKids_dt z0 z1 z2 _ _ _ _ _ _ _ _ rfl rfl _).mono ?_; rintro e w2 ⟨rfl,b2⟩; have HX:Hid (w1.heap.size≤w2.heap.size):=b2.size; have H2:=(show Hid (_∧_) from ⟨H1.out.1.trans (b2.mono H1.out.1.size),H1.out.2.up b2⟩); have o1:=(H2.out.1.block _ (lh HS.out.2.2.1)).trans HS.out.2.2.1; have y0:w2.cell? ⟨w.heap.size+1,0,none⟩=some (.int .i64 0):=(by rw [cell_of_block o1]; rfl); have y1:w2.cell? ⟨w.heap.size+1,1,none⟩=some (.int .i64 0):=(by rw [cell_of_block o1]; rfl); have y2:w2.cell? ⟨w.heap.size+1,2,none⟩=some (.int .i64 0):=(by rw [cell_of_block o1]; rfl); have y3:w2.cell? ⟨w.heap.size+1,3,none⟩=some (.slice none 0 0):=(by rw [cell_of_block o1]; rfl); have f0:w2.frozen? ⟨w.heap.size+1,0,none⟩=false:=unfrozen_of_block o1 0; have f1:w2.frozen? ⟨w.heap.size+1,1,none⟩=false:=unfrozen_of_block o1 1; have f2:w2.frozen? ⟨w.heap.size+1,2,none⟩=false:=unfrozen_of_block o1 2; have f3:w2.frozen? ⟨w.heap.size+1,3,none⟩=false:=unfrozen_of_block o1 3; clear b2 o1))
  all_goals
    go_wp2
    refine bodyPost_ret (v:=.agg #[.int .i64 z0,.int .i64 z1,.int .i64 z2,.slice s3 x3.length t3]) (by simp [results,Tryz.results125,go_sem,y0,y1,y2,y3]) rfl ⟨_,rfl,?_,?_⟩
    · have n3:=H2.out.2
      rw [show W0.drew.heap.size=w.heap.size+2 from HS.out.2.1] at n3
      have key:OFs w2 [.int .i64 z0,.int .i64 z1,.int .i64 z2,.slice s3 x3.length t3] [.int z0,.int z1,.int z2,.row x3] (Btw (w.heap.size+2) w2.heap.size) :=
        OFs.int HI.out.1 (OFs.int HI.out.2.1 (OFs.int HI.out.2.2 ⟨_,fun _=>False,fun b hb'=>⟨hb'.1,Nat.lt_of_lt_of_le hb'.2 HX.out⟩,fun _ hf=>hf.elim,fun _ _ hf=>hf,n3,trivial⟩))
      refine (key.moved (fun b hb' _ => ?_)).mono (fun b hb'=>⟨by have:=hb'.1; omega,by have:=hb'.2; simpa using this⟩)
      have e1:∀ (j:Nat) (u:Value) (W:World),(W.setCell ⟨w.heap.size+1,j,none⟩ u).heap[b]? = W.heap[b]? := fun j u W=>Below.heap_setCell W _ u b (by have:=hb'.1; simp; omega)
      simp only [e1]
    · iterate 4 refine Below.setCell ?_ (by simp) _
      exact HS.out.1.trans (H2.out.1.mono HS.out.1.size)
theorem copyEachCell_dt:CpS 124 125 65 4 CellR:=by
 intro v xs S w hP h hb
 have hlen:=bulkS_len xs
 have hBA:=@bulkS_at xs
 have hc:=cloneCell_dt v xs S w hP h (by omega)
 have HP:=(show Hid (_∧_) from ⟨hP,hP.len CellR.len⟩)
 obtain ⟨a,cap,rfl⟩:=h.form
 have HC:=(show Hid (_∧True) from ⟨hc,trivial⟩)
 clear hc h hP
 go_enter Tryz.func124,Tryz.ntmps124
 go_wp2_with fail
 refine HC.out.1.mono ?_
 rintro e w1 ⟨u,rfl,hcl,b1⟩
 clear HC
 rcases hcl with ⟨rfl,rfl⟩ | ⟨g,cap1,cur,rfl,hg0,hg,hl,hm,hs,hraw⟩
 ·go_wp2
  refine wp_loop_rounds 1 ?_
  rw [rounds_succ]
  go_wp2
  go_ret
  exact ⟨_,rfl,.nil _,⟨[],rfl,.inl ⟨rfl,rfl⟩⟩,b1⟩
 ·have H1:=(show Hid (_∧_) from ⟨RowC.start hg hs hraw,b1⟩)
  clear hg hs hraw b1
  go_wp2
  go_loopw [12] (fun i wr=>∃ k:Nat,k≤xs.length∧i = .int .i64 k∧Hid (RowC w wr S 65 g 4 cap1 k xs)∧Below w.heap.size w wr) (fun i _=>xs.length - (intOf i).toNat)
  case atStart=>exact ⟨0,Nat.zero_le _,rfl,H1.out.1,H1.out.2⟩
  case round =>
   clear H1
   obtain ⟨k,hk,rfl,HR,hbw⟩:=hrel
   by_cases hkl:k<xs.length
   ·have he:=List.getElem?_eq_getElem hkl
    have hbk:=hBA he
    generalize xs[k]=r at *
    obtain ⟨z0,z1,z2,x3,rfl,q3⟩:=HP.out.1 k r he
    obtain ⟨cur',vs',Y',hgk,hsk,hck,hrk,hYk,hdk⟩:=HR.out
    obtain ⟨r0,cc0,a0⟩:=hrk k 0 _ _ (Nat.le_refl _) he rfl
    obtain ⟨rfl,ir0⟩:=a0.ofInt
    have c0:wr.cell? ⟨g,k * 4,none⟩=some (.int .i64 z0):=by rw [cell_of_block hgk]; exact cc0
    obtain ⟨r1,cc1,a1⟩:=hrk k 1 _ _ (Nat.le_refl _) he rfl
    obtain ⟨rfl,ir1⟩:=a1.ofInt
    have c1:wr.cell? ⟨g,k * 4+1,none⟩=some (.int .i64 z1):=by rw [cell_of_block hgk]; exact cc1
    obtain ⟨r2,cc2,a2⟩:=hrk k 2 _ _ (Nat.le_refl _) he rfl
    obtain ⟨rfl,ir2⟩:=a2.ofInt
    have c2:wr.cell? ⟨g,k * 4+2,none⟩=some (.int .i64 z2):=by rw [cell_of_block hgk]; exact cc2
    obtain ⟨r3,cc3,a3⟩:=hrk k 3 _ _ (Nat.le_refl _) he rfl
    obtain ⟨p3,d3,rfl⟩:=a3.form
    have c3:wr.cell? ⟨g,k * 4+3,none⟩=some (.slice p3 x3.length d3):=by rw [cell_of_block hgk]; exact cc3
    have hgl:=lh hgk
    have HX:=(show Hid (_∧_∧_∧_∧_) from ⟨(show FsAt wr S [.int .i64 z0,.int .i64 z1,.int .i64 z2,.slice p3 x3.length d3] [.int z0,.int z1,.int z2,.row x3] from ⟨a0.up hbw,a1.up hbw,a2.up hbw,a3.up hbw,trivial⟩),HP.out.1 k _ he,he,hgk,hbw⟩)
    have BA:Below wr.heap.size wr (wr.alloc (.cells #[.int .i64 z0,.int .i64 z1,.int .i64 z2,.slice p3 x3.length d3] 65)):=(Below.refl _ wr).alloc (Nat.le_refl _) _
    have hsA:(wr.alloc (.cells #[.int .i64 z0,.int .i64 z1,.int .i64 z2,.slice p3 x3.length d3] 65)).heap.size=wr.heap.size+1:=by simp
    have HB:=(show Hid (_∧_) from ⟨BA,hsA⟩)
    have hlt':((k:Nat):Int)<((xs.length:Nat):Int):=by omega
    clear he hBA hgk hsk hck hrk hYk hdk BA hsA cc0 a0 cc1 a1 cc2 a2 cc3 a3 ir0 ir1 ir2
    go_wp2_with fail
    refine (copyCell_dt [.int .i64 z0,.int .i64 z1,.int .i64 z2,.slice p3 x3.length d3] [.int z0,.int z1,.int z2,.row x3] S _ HX.out.2.1 (HX.out.1.up HB.out.1) (by omega)).mono ?_
    rintro e w3 ⟨us,rfl,o3,b3⟩
    obtain ⟨v0,v1,v2,v3,rfl,k0,k1,k2,k3⟩:=fs4 o3.at
    obtain ⟨rfl,-⟩:=k0.ofInt
    obtain ⟨rfl,-⟩:=k1.ofInt
    obtain ⟨rfl,-⟩:=k2.ofInt
    obtain ⟨s3,t3,rfl⟩:=k3.form
    have bA:Below wr.heap.size wr w3:=HB.out.1.trans (b3.mono HB.out.1.size)
    have o3':=o3.mono (X':=Btw wr.heap.size w3.heap.size) (fun b hb=>⟨Nat.le_trans HB.out.1.size hb.1,hb.2⟩)
    have HN:=(show Hid (_∧_) from ⟨RowC.next HR.out hbw.size hl bA HX.out.2.2.1 HP.out.2 o3',hbw.trans (bA.mono hbw.size)⟩)
    have hg3:=(bA.block _ hgl).trans HX.out.2.2.2.1
    have y0:w3.cell? ⟨g,k * 4,none⟩=some (.int .i64 z0):=(bA.cell (p:=⟨g,k * 4,none⟩) hgl).trans c0
    have f0:w3.frozen? ⟨g,k * 4,none⟩=false:=unfrozen_of_block hg3 _
    have y1:w3.cell? ⟨g,k * 4+1,none⟩=some (.int .i64 z1):=(bA.cell (p:=⟨g,k * 4+1,none⟩) hgl).trans c1
    have f1:w3.frozen? ⟨g,k * 4+1,none⟩=false:=unfrozen_of_block hg3 _
    have y2:w3.cell? ⟨g,k * 4+2,none⟩=some (.int .i64 z2):=(bA.cell (p:=⟨g,k * 4+2,none⟩) hgl).trans c2
    have f2:w3.frozen? ⟨g,k * 4+2,none⟩=false:=unfrozen_of_block hg3 _
    have y3:w3.cell? ⟨g,k * 4+3,none⟩=some (.slice p3 x3.length d3):=(bA.cell (p:=⟨g,k * 4+3,none⟩) hgl).trans c3
    have f3:w3.frozen? ⟨g,k * 4+3,none⟩=false:=unfrozen_of_block hg3 _
    clear hbw HX HR HB bA o3 o3' b3 hg3 k0 k1 k2 k3 c0 c1 c2 c3
    go_wp2
    refine ⟨⟨k+1,by omega,by go_num,HN.out.1,((((HN.out.2.setCell (p:=⟨g,k * 4,none⟩) hg0 _).setCell (p:=⟨g,k * 4+1,none⟩) hg0 _).setCell (p:=⟨g,k * 4+2,none⟩) hg0 _).setCell (p:=⟨g,k * 4+3,none⟩) hg0 _)⟩,by simp [intOf]; omega⟩
   ·obtain rfl:k=xs.length:=by omega
    have HF:=(show Hid (_∧_) from ⟨RowC.done HR.out HP.out.2 hl hm hg0,RowC.typed HR.out hl hm hg0⟩)
    clear HR
    go_wp2
    go_ret
    exact ⟨_,rfl,HF.out.1,HF.out.2,hbw⟩
theorem copyFrame_dt:ToC 162 FrameR:=by
 rintro vs r S w ⟨z0,z1,z2,x3,rfl,q3⟩ h hb
 obtain ⟨v0,v1,v2,v3,rfl,a0,a1,a2,a3⟩:=fs4 h
 obtain ⟨rfl,ia0⟩:=a0.ofInt
 obtain ⟨rfl,ia1⟩:=a1.ofInt
 obtain ⟨rfl,ia2⟩:=a2.ofInt
 obtain ⟨p3,c3,rfl⟩:=a3.form
 have hbk:Dt.bR [.int z0,.int z1,.int z2,.row x3]=Dt.bS x3:=by simp [Dt.bR,Dt.bulk]; try omega
 rw [hbk] at hb
 clear hbk h
 have HI:=(show Hid (_∧_∧_∧_) from ⟨ia0,ia1,ia2,trivial⟩)
 have HA:=(show Hid (_∧_) from ⟨a3,trivial⟩)
 clear a0 a1 a2 a3 ia0 ia1 ia2
 obtain ⟨W0,hW0⟩:∃ W0,W0=(w.alloc (.cells #[.int .i64 z0,.int .i64 z1,.int .i64 z2,.slice p3 x3.length c3] 184)).alloc (.cells #[.int .i64 0,.int .i64 0,.int .i64 0,.slice none 0 0] 184):=⟨_,rfl⟩
 have B:Below w.heap.size w W0:=by rw [hW0]; exact ((Below.refl _ w).alloc (Nat.le_refl _) _).alloc (by simp) _
 have SZ:W0.heap.size=w.heap.size+2:=by rw [hW0]; simp
 have O0:W0.heap[w.heap.size]? = some (.cells #[.int .i64 z0,.int .i64 z1,.int .i64 z2,.slice p3 x3.length c3] 184):=by rw [hW0]; exact (Below.heap_alloc _ _ _ (by simp)).trans (MapKept.heap_alloc w _).1
 have O1:W0.heap[w.heap.size+1]? = some (.cells #[.int .i64 0,.int .i64 0,.int .i64 0,.slice none 0 0] 184):=by
  rw [hW0]
  have:=(MapKept.heap_alloc (w.alloc (.cells #[.int .i64 z0,.int .i64 z1,.int .i64 z2,.slice p3 x3.length c3] 184)) (.cells #[.int .i64 0,.int .i64 0,.int .i64 0,.slice none 0 0] 184)).1
  simpa using this
 have HS:=(show Hid (_∧_∧_∧_∧_) from ⟨O0,O1,B,SZ,trivial⟩)
 have HW:=(show Hid (_∧True) from ⟨hW0,trivial⟩)
 clear O0 O1 B SZ hW0
 go_enter Tryz.func162,Tryz.ntmps162
 go_wp2_with fail
 rw [← HW.out.1]
 refine (cloneIntO_dt _ x3 S _ q3 (HA.out.1.up HS.out.2.2.1) (by omega)).mono ?_
 rintro e w1 ⟨u,rfl,n3,bb⟩
 obtain ⟨s3,t3,rfl⟩:=n3.form
 obtain ⟨O0,O1,B,SZ,-⟩:=HS.out
 rw [SZ] at n3
 have zw1:w.heap.size+2≤w1.heap.size:=by have:=bb.size; rw [SZ] at this; exact this
 have O0:=(bb.block _ (lh O0)).trans O0
 have O1:=(bb.block _ (lh O1)).trans O1
 have B:=B.trans (bb.mono B.size)
 have y0_0:=cb O0 0 (.int .i64 z0) rfl
 have y0_1:=cb O0 1 (.int .i64 z1) rfl
 have y0_2:=cb O0 2 (.int .i64 z2) rfl
 have y0_3:=cb O0 3 (.slice p3 x3.length c3) rfl
 have f0_3:=ub O0 3
 have y1_0:=cb O1 0 (.int .i64 0) rfl
 have f1_0:=ub O1 0
 have y1_1:=cb O1 1 (.int .i64 0) rfl
 have f1_1:=ub O1 1
 have y1_2:=cb O1 2 (.int .i64 0) rfl
 have f1_2:=ub O1 2
 have y1_3:=cb O1 3 (.slice none 0 0) rfl
 have f1_3:=ub O1 3
 have HF:=(show Hid (_∧_∧_) from ⟨B,n3,trivial⟩)
 clear O0 O1 B SZ bb HS HW n3
 go_wp2
 refine bodyPost_ret (v:=.agg #[.int .i64 z0,.int .i64 z1,.int .i64 z2,.slice s3 x3.length t3]) (by simp [results,Tryz.results162,go_sem,y1_0,y1_1,y1_2,y1_3]) rfl ⟨_,rfl,?_,?_⟩
 ·obtain ⟨-,n3,-⟩:=HF.out
  have key:OFs w1 [.int .i64 z0,.int .i64 z1,.int .i64 z2,.slice s3 x3.length t3] [.int z0,.int z1,.int z2,.row x3] (Btw (w.heap.size+2) w1.heap.size):=(OFs.int HI.out.1 (OFs.int HI.out.2.1 (OFs.int HI.out.2.2.1 (OFs.cons n3 (show OFs _ [] [] _ from trivial) (by omega) (by omega)))))
  refine (key.moved (fun b hb' _ => ?_)).mono (fun b hb'=>⟨by have:=hb'.1; omega,by have:=hb'.2; simpa using this⟩)
  have e1:∀ (j:Nat) (u:Value) (W:World),(W.setCell ⟨w.heap.size+1,j,none⟩ u).heap[b]? = W.heap[b]? := fun j u W=>Below.heap_setCell W _ u b (by have:=hb'.1; simp; omega)
  have e2:∀ (j:Nat) (u:Value) (W:World),(W.setCell ⟨w.heap.size,j,none⟩ u).heap[b]? = W.heap[b]? := fun j u W=>Below.heap_setCell W _ u b (by have:=hb'.1; simp; omega)
  simp only [e1,e2]
 ·iterate 5 refine Below.setCell ?_ (by simp; try omega) _
  exact HF.out.1
theorem copyEachFrame_dt:CpS 161 162 184 4 FrameR:=by
 intro v xs S w hP h hb
 have hlen:=bulkS_len xs
 have hBA:=@bulkS_at xs
 have hc:=cloneFrame_dt v xs S w hP h (by omega)
 have HP:=(show Hid (_∧_) from ⟨hP,hP.len FrameR.len⟩)
 obtain ⟨a,cap,rfl⟩:=h.form
 have HC:=(show Hid (_∧True) from ⟨hc,trivial⟩)
 clear hc h hP
 go_enter Tryz.func161,Tryz.ntmps161
 go_wp2_with fail
 refine HC.out.1.mono ?_
 rintro e w1 ⟨u,rfl,hcl,b1⟩
 clear HC
 rcases hcl with ⟨rfl,rfl⟩ | ⟨g,cap1,cur,rfl,hg0,hg,hl,hm,hs,hraw⟩
 ·go_wp2
  refine wp_loop_rounds 1 ?_
  rw [rounds_succ]
  go_wp2
  go_ret
  exact ⟨_,rfl,.nil _,⟨[],rfl,.inl ⟨rfl,rfl⟩⟩,b1⟩
 ·have H1:=(show Hid (_∧_) from ⟨RowC.start hg hs hraw,b1⟩)
  clear hg hs hraw b1
  go_wp2
  go_loopw [12] (fun i wr=>∃ k:Nat,k≤xs.length∧i = .int .i64 k∧Hid (RowC w wr S 184 g 4 cap1 k xs)∧Below w.heap.size w wr) (fun i _=>xs.length - (intOf i).toNat)
  case atStart=>exact ⟨0,Nat.zero_le _,rfl,H1.out.1,H1.out.2⟩
  case round =>
   clear H1
   obtain ⟨k,hk,rfl,HR,hbw⟩:=hrel
   by_cases hkl:k<xs.length
   ·have he:=List.getElem?_eq_getElem hkl
    have hbk:=hBA he
    generalize xs[k]=r at *
    obtain ⟨z0,z1,z2,x3,rfl,q3⟩:=HP.out.1 k r he
    obtain ⟨cur',vs',Y',hgk,hsk,hck,hrk,hYk,hdk⟩:=HR.out
    obtain ⟨r0,cc0,a0⟩:=hrk k 0 _ _ (Nat.le_refl _) he rfl
    obtain ⟨rfl,ir0⟩:=a0.ofInt
    have c0:wr.cell? ⟨g,k * 4,none⟩=some (.int .i64 z0):=by rw [cell_of_block hgk]; exact cc0
    obtain ⟨r1,cc1,a1⟩:=hrk k 1 _ _ (Nat.le_refl _) he rfl
    obtain ⟨rfl,ir1⟩:=a1.ofInt
    have c1:wr.cell? ⟨g,k * 4+1,none⟩=some (.int .i64 z1):=by rw [cell_of_block hgk]; exact cc1
    obtain ⟨r2,cc2,a2⟩:=hrk k 2 _ _ (Nat.le_refl _) he rfl
    obtain ⟨rfl,ir2⟩:=a2.ofInt
    have c2:wr.cell? ⟨g,k * 4+2,none⟩=some (.int .i64 z2):=by rw [cell_of_block hgk]; exact cc2
    obtain ⟨r3,cc3,a3⟩:=hrk k 3 _ _ (Nat.le_refl _) he rfl
    obtain ⟨p3,d3,rfl⟩:=a3.form
    have c3:wr.cell? ⟨g,k * 4+3,none⟩=some (.slice p3 x3.length d3):=by rw [cell_of_block hgk]; exact cc3
    have hgl:=lh hgk
    have HX:=(show Hid (_∧_∧_∧_∧_) from ⟨(show FsAt wr S [.int .i64 z0,.int .i64 z1,.int .i64 z2,.slice p3 x3.length d3] [.int z0,.int z1,.int z2,.row x3] from ⟨a0.up hbw,a1.up hbw,a2.up hbw,a3.up hbw,trivial⟩),HP.out.1 k _ he,he,hgk,hbw⟩)
    have BA:Below wr.heap.size wr (wr.alloc (.cells #[.int .i64 z0,.int .i64 z1,.int .i64 z2,.slice p3 x3.length d3] 184)):=(Below.refl _ wr).alloc (Nat.le_refl _) _
    have hsA:(wr.alloc (.cells #[.int .i64 z0,.int .i64 z1,.int .i64 z2,.slice p3 x3.length d3] 184)).heap.size=wr.heap.size+1:=by simp
    have HB:=(show Hid (_∧_) from ⟨BA,hsA⟩)
    have hlt':((k:Nat):Int)<((xs.length:Nat):Int):=by omega
    clear he hBA hgk hsk hck hrk hYk hdk BA hsA cc0 a0 cc1 a1 cc2 a2 cc3 a3 ir0 ir1 ir2
    go_wp2_with fail
    refine (copyFrame_dt [.int .i64 z0,.int .i64 z1,.int .i64 z2,.slice p3 x3.length d3] [.int z0,.int z1,.int z2,.row x3] S _ HX.out.2.1 (HX.out.1.up HB.out.1) (by omega)).mono ?_
    rintro e w3 ⟨us,rfl,o3,b3⟩
    obtain ⟨v0,v1,v2,v3,rfl,k0,k1,k2,k3⟩:=fs4 o3.at
    obtain ⟨rfl,-⟩:=k0.ofInt
    obtain ⟨rfl,-⟩:=k1.ofInt
    obtain ⟨rfl,-⟩:=k2.ofInt
    obtain ⟨s3,t3,rfl⟩:=k3.form
    have bA:Below wr.heap.size wr w3:=HB.out.1.trans (b3.mono HB.out.1.size)
    have o3':=o3.mono (X':=Btw wr.heap.size w3.heap.size) (fun b hb=>⟨Nat.le_trans HB.out.1.size hb.1,hb.2⟩)
    have HN:=(show Hid (_∧_) from ⟨RowC.next HR.out hbw.size hl bA HX.out.2.2.1 HP.out.2 o3',hbw.trans (bA.mono hbw.size)⟩)
    have hg3:=(bA.block _ hgl).trans HX.out.2.2.2.1
    have y0:w3.cell? ⟨g,k * 4,none⟩=some (.int .i64 z0):=(bA.cell (p:=⟨g,k * 4,none⟩) hgl).trans c0
    have f0:w3.frozen? ⟨g,k * 4,none⟩=false:=unfrozen_of_block hg3 _
    have y1:w3.cell? ⟨g,k * 4+1,none⟩=some (.int .i64 z1):=(bA.cell (p:=⟨g,k * 4+1,none⟩) hgl).trans c1
    have f1:w3.frozen? ⟨g,k * 4+1,none⟩=false:=unfrozen_of_block hg3 _
    have y2:w3.cell? ⟨g,k * 4+2,none⟩=some (.int .i64 z2):=(bA.cell (p:=⟨g,k * 4+2,none⟩) hgl).trans c2
    have f2:w3.frozen? ⟨g,k * 4+2,none⟩=false:=unfrozen_of_block hg3 _
    have y3:w3.cell? ⟨g,k * 4+3,none⟩=some (.slice p3 x3.length d3):=(bA.cell (p:=⟨g,k * 4+3,none⟩) hgl).trans c3
    have f3:w3.frozen? ⟨g,k * 4+3,none⟩=false:=unfrozen_of_block hg3 _
    clear hbw HX HR HB bA o3 o3' b3 hg3 k0 k1 k2 k3 c0 c1 c2 c3
    go_wp2
    refine ⟨⟨k+1,by omega,by go_num,HN.out.1,((((HN.out.2.setCell (p:=⟨g,k * 4,none⟩) hg0 _).setCell (p:=⟨g,k * 4+1,none⟩) hg0 _).setCell (p:=⟨g,k * 4+2,none⟩) hg0 _).setCell (p:=⟨g,k * 4+3,none⟩) hg0 _)⟩,by simp [intOf]; omega⟩
   ·obtain rfl:k=xs.length:=by omega
    have HF:=(show Hid (_∧_) from ⟨RowC.done HR.out HP.out.2 hl hm hg0,RowC.typed HR.out hl hm hg0⟩)
    clear HR
    go_wp2
    go_ret
    exact ⟨_,rfl,HF.out.1,HF.out.2,hbw⟩
theorem copyThread_dt:ToC 127 ThreadR:=by
 rintro vs r S w ⟨z0,z1,x2,x3,b4,rfl,q2,q3⟩ h hb
 obtain ⟨v0,v1,v2,v3,v4,rfl,a0,a1,a2,a3,a4⟩:=fs5 h
 obtain ⟨rfl,ia0⟩:=a0.ofInt
 obtain ⟨rfl,ia1⟩:=a1.ofInt
 obtain ⟨p2,c2,rfl⟩:=a2.form
 obtain ⟨p3,c3,rfl⟩:=a3.form
 obtain ⟨rfl,ia4⟩:=a4.ofStr
 have hbk:Dt.bR [.int z0,.int z1,.row x2,.row x3,.str b4]=Dt.bS x2+Dt.bS x3+b4.size:=by simp [Dt.bR,Dt.bulk]; try omega
 rw [hbk] at hb
 clear hbk h
 have HI:=(show Hid (_∧_∧_∧_) from ⟨ia0,ia1,ia4,trivial⟩)
 have HA:=(show Hid (_∧_∧_) from ⟨a2,a3,trivial⟩)
 clear a0 a1 a2 a3 a4 ia0 ia1 ia4
 obtain ⟨W0,hW0⟩:∃ W0,W0=(w.alloc (.cells #[.int .i64 z0,.int .i64 z1,.slice p2 x2.length c2,.slice p3 x3.length c3,.string b4] 145)).alloc (.cells #[.int .i64 0,.int .i64 0,.slice none 0 0,.slice none 0 0,.string ⟨#[]⟩] 145):=⟨_,rfl⟩
 have B:Below w.heap.size w W0:=by rw [hW0]; exact ((Below.refl _ w).alloc (Nat.le_refl _) _).alloc (by simp) _
 have SZ:W0.heap.size=w.heap.size+2:=by rw [hW0]; simp
 have O0:W0.heap[w.heap.size]? = some (.cells #[.int .i64 z0,.int .i64 z1,.slice p2 x2.length c2,.slice p3 x3.length c3,.string b4] 145):=by rw [hW0]; exact (Below.heap_alloc _ _ _ (by simp)).trans (MapKept.heap_alloc w _).1
 have O1:W0.heap[w.heap.size+1]? = some (.cells #[.int .i64 0,.int .i64 0,.slice none 0 0,.slice none 0 0,.string ⟨#[]⟩] 145):=by
  rw [hW0]
  have:=(MapKept.heap_alloc (w.alloc (.cells #[.int .i64 z0,.int .i64 z1,.slice p2 x2.length c2,.slice p3 x3.length c3,.string b4] 145)) (.cells #[.int .i64 0,.int .i64 0,.slice none 0 0,.slice none 0 0,.string ⟨#[]⟩] 145)).1
  simpa using this
 have HS:=(show Hid (_∧_∧_∧_∧_) from ⟨O0,O1,B,SZ,trivial⟩)
 have HW:=(show Hid (_∧True) from ⟨hW0,trivial⟩)
 clear O0 O1 B SZ hW0
 go_enter Tryz.func127,Tryz.ntmps127
 go_wp2_with fail
 rw [← HW.out.1]
 refine (cloneIntO_dt _ x2 S _ q2 (HA.out.1.up HS.out.2.2.1) (by omega)).mono ?_
 rintro e w1 ⟨u,rfl,n2,bb⟩
 obtain ⟨s2,t2,rfl⟩:=n2.form
 obtain ⟨O0,O1,B,SZ,-⟩:=HS.out
 rw [SZ] at n2
 have zw1:w.heap.size+2≤w1.heap.size:=by have:=bb.size; rw [SZ] at this; exact this
 have O0:=(bb.block _ (lh O0)).trans O0
 have O1:=(bb.block _ (lh O1)).trans O1
 have B:=B.trans (bb.mono B.size)
 have y0_0:=cb O0 0 (.int .i64 z0) rfl
 have y0_1:=cb O0 1 (.int .i64 z1) rfl
 have y0_2:=cb O0 2 (.slice p2 x2.length c2) rfl
 have f0_2:=ub O0 2
 have y0_3:=cb O0 3 (.slice p3 x3.length c3) rfl
 have y0_4:=cb O0 4 (.string b4) rfl
 obtain ⟨W1,hW⟩:∃ W,W=(w1.setCell ⟨w.heap.size,2,none⟩ (.slice s2 x2.length t2)):=⟨_,rfl⟩
 have SZ':W1.heap.size=w1.heap.size:=by rw [hW]; simp
 have e2:∀ (b:Nat),b≠w.heap.size→W1.heap[b]? = w1.heap[b]? := by
  intro b hb'
  rw [hW]
  simp only [Below.heap_setCell _ _ _ b (show b≠(⟨w.heap.size,_,none⟩:Addr).block from hb')]
 have P1:=(e2 _ (by omega)).trans O1
 have P0:W1.heap[w.heap.size]? = some (.cells #[.int .i64 z0,.int .i64 z1,.slice s2 x2.length t2,.slice p3 x3.length c3,.string b4] 145):=by
  rw [hW]
  have:=(block_setCell (i:=2) O0 (.slice s2 x2.length t2))
  simpa only [List.setIfInBounds_toArray,List.set_cons_zero,List.set_cons_succ] using this
 have PB:Below w.heap.size w W1:=by rw [hW]; exact (B.setCell (p:=⟨w.heap.size,2,none⟩) (Nat.le_refl _) (.slice s2 x2.length t2))
 have Pn2:=Own.moved n2 (w':=W1) (fun b hb' _=>e2 b (by have:=hb'.1; omega))
 have HS:=(show Hid (_∧_∧_∧_∧_∧_) from ⟨P0,P1,PB,SZ',Pn2,trivial⟩)
 have HW:=(show Hid (_∧True) from ⟨hW,trivial⟩)
 clear O0 O1 B SZ SZ' bb hW e2 P0 P1 PB n2 Pn2
 go_wp2_with fail
 rw [← HW.out.1]
 refine (copyEachFrame_dt _ x3 S _ q3 (HA.out.2.1.up HS.out.2.2.1) (by omega)).mono ?_
 rintro e w2 ⟨u,rfl,n3,-,bb⟩
 obtain ⟨s3,t3,rfl⟩:=n3.form
 obtain ⟨O0,O1,B,SZ,n2,-⟩:=HS.out
 rw [SZ] at n3
 have zw2:w1.heap.size≤w2.heap.size:=by have:=bb.size; rw [SZ] at this; exact this
 have O0:=(bb.block _ (lh O0)).trans O0
 have O1:=(bb.block _ (lh O1)).trans O1
 have B:=B.trans (bb.mono B.size)
 have n2:=Own.up n2 bb
 have y0_0:=cb O0 0 (.int .i64 z0) rfl
 have y0_1:=cb O0 1 (.int .i64 z1) rfl
 have y0_2:=cb O0 2 (.slice s2 x2.length t2) rfl
 have y0_3:=cb O0 3 (.slice p3 x3.length c3) rfl
 have f0_3:=ub O0 3
 have y0_4:=cb O0 4 (.string b4) rfl
 obtain ⟨W2,hW⟩:∃ W,W=(w2.setCell ⟨w.heap.size,3,none⟩ (.slice s3 x3.length t3)):=⟨_,rfl⟩
 have SZ':W2.heap.size=w2.heap.size:=by rw [hW]; simp
 have e2:∀ (b:Nat),b≠w.heap.size→W2.heap[b]? = w2.heap[b]? := by
  intro b hb'
  rw [hW]
  simp only [Below.heap_setCell _ _ _ b (show b≠(⟨w.heap.size,_,none⟩:Addr).block from hb')]
 have P1:=(e2 _ (by omega)).trans O1
 have P0:W2.heap[w.heap.size]? = some (.cells #[.int .i64 z0,.int .i64 z1,.slice s2 x2.length t2,.slice s3 x3.length t3,.string b4] 145):=by
  rw [hW]
  have:=(block_setCell (i:=3) O0 (.slice s3 x3.length t3))
  simpa only [List.setIfInBounds_toArray,List.set_cons_zero,List.set_cons_succ] using this
 have PB:Below w.heap.size w W2:=by rw [hW]; exact (B.setCell (p:=⟨w.heap.size,3,none⟩) (Nat.le_refl _) (.slice s3 x3.length t3))
 have Pn2:=Own.moved n2 (w':=W2) (fun b hb' _=>e2 b (by have:=hb'.1; omega))
 have Pn3:=Own.moved n3 (w':=W2) (fun b hb' _=>e2 b (by have:=hb'.1; omega))
 have HS:=(show Hid (_∧_∧_∧_∧_∧_∧_) from ⟨P0,P1,PB,SZ',Pn2,Pn3,trivial⟩)
 have HW:=(show Hid (_∧True) from ⟨hW,trivial⟩)
 clear O0 O1 B SZ SZ' bb hW e2 P0 P1 PB n2 n3 Pn2 Pn3
 go_wp2_with fail
 rw [← HW.out.1]
 refine (strClone_any b4 _ (by omega)).mono ?_
 rintro e w3 ⟨rfl,bb⟩
 obtain ⟨O0,O1,B,SZ,n2,n3,-⟩:=HS.out
 have zw3:w2.heap.size≤w3.heap.size:=by have:=bb.size; rw [SZ] at this; exact this
 have O0:=(bb.block _ (lh O0)).trans O0
 have O1:=(bb.block _ (lh O1)).trans O1
 have B:=B.trans (bb.mono B.size)
 have n2:=Own.up n2 bb
 have n3:=Own.up n3 bb
 have y0_0:=cb O0 0 (.int .i64 z0) rfl
 have y0_1:=cb O0 1 (.int .i64 z1) rfl
 have y0_2:=cb O0 2 (.slice s2 x2.length t2) rfl
 have y0_3:=cb O0 3 (.slice s3 x3.length t3) rfl
 have y0_4:=cb O0 4 (.string b4) rfl
 have f0_4:=ub O0 4
 have y1_0:=cb O1 0 (.int .i64 0) rfl
 have f1_0:=ub O1 0
 have y1_1:=cb O1 1 (.int .i64 0) rfl
 have f1_1:=ub O1 1
 have y1_2:=cb O1 2 (.slice none 0 0) rfl
 have f1_2:=ub O1 2
 have y1_3:=cb O1 3 (.slice none 0 0) rfl
 have f1_3:=ub O1 3
 have y1_4:=cb O1 4 (.string ⟨#[]⟩) rfl
 have f1_4:=ub O1 4
 have HF:=(show Hid (_∧_∧_∧_) from ⟨B,n2,n3,trivial⟩)
 clear O0 O1 B SZ bb HS HW n2 n3
 go_wp2
 refine bodyPost_ret (v:=.agg #[.int .i64 z0,.int .i64 z1,.slice s2 x2.length t2,.slice s3 x3.length t3,.string b4]) (by simp [results,Tryz.results127,go_sem,y1_0,y1_1,y1_2,y1_3,y1_4]) rfl ⟨_,rfl,?_,?_⟩
 ·obtain ⟨-,n2,n3,-⟩:=HF.out
  have key:OFs w3 [.int .i64 z0,.int .i64 z1,.slice s2 x2.length t2,.slice s3 x3.length t3,.string b4] [.int z0,.int z1,.row x2,.row x3,.str b4] (Btw (w.heap.size+2) w3.heap.size):=(OFs.int HI.out.1 (OFs.int HI.out.2.1 (OFs.cons n2 (OFs.cons n3 (OFs.str HI.out.2.2.1 (show OFs _ [] [] _ from trivial)) (by omega) (by omega)) (by omega) (by omega))))
  refine (key.moved (fun b hb' _ => ?_)).mono (fun b hb'=>⟨by have:=hb'.1; omega,by have:=hb'.2; simpa using this⟩)
  have e1:∀ (j:Nat) (u:Value) (W:World),(W.setCell ⟨w.heap.size+1,j,none⟩ u).heap[b]? = W.heap[b]? := fun j u W=>Below.heap_setCell W _ u b (by have:=hb'.1; simp; omega)
  have e2:∀ (j:Nat) (u:Value) (W:World),(W.setCell ⟨w.heap.size,j,none⟩ u).heap[b]? = W.heap[b]? := fun j u W=>Below.heap_setCell W _ u b (by have:=hb'.1; simp; omega)
  simp only [e1,e2]
 ·iterate 6 refine Below.setCell ?_ (by simp; try omega) _
  exact HF.out.1
theorem copyEachThread_dt:CpS 126 127 145 5 ThreadR:=by
 intro v xs S w hP h hb
 have hlen:=bulkS_len xs
 have hBA:=@bulkS_at xs
 have hc:=cloneThread_dt v xs S w hP h (by omega)
 have HP:=(show Hid (_∧_) from ⟨hP,hP.len ThreadR.len⟩)
 obtain ⟨a,cap,rfl⟩:=h.form
 have HC:=(show Hid (_∧True) from ⟨hc,trivial⟩)
 clear hc h hP
 go_enter Tryz.func126,Tryz.ntmps126
 go_wp2_with fail
 refine HC.out.1.mono ?_
 rintro e w1 ⟨u,rfl,hcl,b1⟩
 clear HC
 rcases hcl with ⟨rfl,rfl⟩ | ⟨g,cap1,cur,rfl,hg0,hg,hl,hm,hs,hraw⟩
 ·go_wp2
  refine wp_loop_rounds 1 ?_
  rw [rounds_succ]
  go_wp2
  go_ret
  exact ⟨_,rfl,.nil _,⟨[],rfl,.inl ⟨rfl,rfl⟩⟩,b1⟩
 ·have H1:=(show Hid (_∧_) from ⟨RowC.start hg hs hraw,b1⟩)
  clear hg hs hraw b1
  go_wp2
  go_loopw [12] (fun i wr=>∃ k:Nat,k≤xs.length∧i = .int .i64 k∧Hid (RowC w wr S 145 g 5 cap1 k xs)∧Below w.heap.size w wr) (fun i _=>xs.length - (intOf i).toNat)
  case atStart=>exact ⟨0,Nat.zero_le _,rfl,H1.out.1,H1.out.2⟩
  case round =>
   clear H1
   obtain ⟨k,hk,rfl,HR,hbw⟩:=hrel
   by_cases hkl:k<xs.length
   ·have he:=List.getElem?_eq_getElem hkl
    have hbk:=hBA he
    generalize xs[k]=r at *
    obtain ⟨z0,z1,x2,x3,b4,rfl,q2,q3⟩:=HP.out.1 k r he
    obtain ⟨cur',vs',Y',hgk,hsk,hck,hrk,hYk,hdk⟩:=HR.out
    obtain ⟨r0,cc0,a0⟩:=hrk k 0 _ _ (Nat.le_refl _) he rfl
    obtain ⟨rfl,ir0⟩:=a0.ofInt
    have c0:wr.cell? ⟨g,k * 5,none⟩=some (.int .i64 z0):=by rw [cell_of_block hgk]; exact cc0
    obtain ⟨r1,cc1,a1⟩:=hrk k 1 _ _ (Nat.le_refl _) he rfl
    obtain ⟨rfl,ir1⟩:=a1.ofInt
    have c1:wr.cell? ⟨g,k * 5+1,none⟩=some (.int .i64 z1):=by rw [cell_of_block hgk]; exact cc1
    obtain ⟨r2,cc2,a2⟩:=hrk k 2 _ _ (Nat.le_refl _) he rfl
    obtain ⟨p2,d2,rfl⟩:=a2.form
    have c2:wr.cell? ⟨g,k * 5+2,none⟩=some (.slice p2 x2.length d2):=by rw [cell_of_block hgk]; exact cc2
    obtain ⟨r3,cc3,a3⟩:=hrk k 3 _ _ (Nat.le_refl _) he rfl
    obtain ⟨p3,d3,rfl⟩:=a3.form
    have c3:wr.cell? ⟨g,k * 5+3,none⟩=some (.slice p3 x3.length d3):=by rw [cell_of_block hgk]; exact cc3
    obtain ⟨r4,cc4,a4⟩:=hrk k 4 _ _ (Nat.le_refl _) he rfl
    obtain ⟨rfl,ir4⟩:=a4.ofStr
    have c4:wr.cell? ⟨g,k * 5+4,none⟩=some (.string b4):=by rw [cell_of_block hgk]; exact cc4
    have hgl:=lh hgk
    have HX:=(show Hid (_∧_∧_∧_∧_) from ⟨(show FsAt wr S [.int .i64 z0,.int .i64 z1,.slice p2 x2.length d2,.slice p3 x3.length d3,.string b4] [.int z0,.int z1,.row x2,.row x3,.str b4] from ⟨a0.up hbw,a1.up hbw,a2.up hbw,a3.up hbw,a4.up hbw,trivial⟩),HP.out.1 k _ he,he,hgk,hbw⟩)
    have BA:Below wr.heap.size wr (wr.alloc (.cells #[.int .i64 z0,.int .i64 z1,.slice p2 x2.length d2,.slice p3 x3.length d3,.string b4] 145)):=(Below.refl _ wr).alloc (Nat.le_refl _) _
    have hsA:(wr.alloc (.cells #[.int .i64 z0,.int .i64 z1,.slice p2 x2.length d2,.slice p3 x3.length d3,.string b4] 145)).heap.size=wr.heap.size+1:=by simp
    have HB:=(show Hid (_∧_) from ⟨BA,hsA⟩)
    have hlt':((k:Nat):Int)<((xs.length:Nat):Int):=by omega
    clear he hBA hgk hsk hck hrk hYk hdk BA hsA cc0 a0 cc1 a1 cc2 a2 cc3 a3 cc4 a4 ir0 ir1 ir4
    go_wp2_with fail
    refine (copyThread_dt [.int .i64 z0,.int .i64 z1,.slice p2 x2.length d2,.slice p3 x3.length d3,.string b4] [.int z0,.int z1,.row x2,.row x3,.str b4] S _ HX.out.2.1 (HX.out.1.up HB.out.1) (by omega)).mono ?_
    rintro e w3 ⟨us,rfl,o3,b3⟩
    obtain ⟨v0,v1,v2,v3,v4,rfl,k0,k1,k2,k3,k4⟩:=fs5 o3.at
    obtain ⟨rfl,-⟩:=k0.ofInt
    obtain ⟨rfl,-⟩:=k1.ofInt
    obtain ⟨s2,t2,rfl⟩:=k2.form
    obtain ⟨s3,t3,rfl⟩:=k3.form
    obtain ⟨rfl,-⟩:=k4.ofStr
    have bA:Below wr.heap.size wr w3:=HB.out.1.trans (b3.mono HB.out.1.size)
    have o3':=o3.mono (X':=Btw wr.heap.size w3.heap.size) (fun b hb=>⟨Nat.le_trans HB.out.1.size hb.1,hb.2⟩)
    have HN:=(show Hid (_∧_) from ⟨RowC.next HR.out hbw.size hl bA HX.out.2.2.1 HP.out.2 o3',hbw.trans (bA.mono hbw.size)⟩)
    have hg3:=(bA.block _ hgl).trans HX.out.2.2.2.1
    have y0:w3.cell? ⟨g,k * 5,none⟩=some (.int .i64 z0):=(bA.cell (p:=⟨g,k * 5,none⟩) hgl).trans c0
    have f0:w3.frozen? ⟨g,k * 5,none⟩=false:=unfrozen_of_block hg3 _
    have y1:w3.cell? ⟨g,k * 5+1,none⟩=some (.int .i64 z1):=(bA.cell (p:=⟨g,k * 5+1,none⟩) hgl).trans c1
    have f1:w3.frozen? ⟨g,k * 5+1,none⟩=false:=unfrozen_of_block hg3 _
    have y2:w3.cell? ⟨g,k * 5+2,none⟩=some (.slice p2 x2.length d2):=(bA.cell (p:=⟨g,k * 5+2,none⟩) hgl).trans c2
    have f2:w3.frozen? ⟨g,k * 5+2,none⟩=false:=unfrozen_of_block hg3 _
    have y3:w3.cell? ⟨g,k * 5+3,none⟩=some (.slice p3 x3.length d3):=(bA.cell (p:=⟨g,k * 5+3,none⟩) hgl).trans c3
    have f3:w3.frozen? ⟨g,k * 5+3,none⟩=false:=unfrozen_of_block hg3 _
    have y4:w3.cell? ⟨g,k * 5+4,none⟩=some (.string b4):=(bA.cell (p:=⟨g,k * 5+4,none⟩) hgl).trans c4
    have f4:w3.frozen? ⟨g,k * 5+4,none⟩=false:=unfrozen_of_block hg3 _
    clear hbw HX HR HB bA o3 o3' b3 hg3 k0 k1 k2 k3 k4 c0 c1 c2 c3 c4
    go_wp2
    refine ⟨⟨k+1,by omega,by go_num,HN.out.1,(((((HN.out.2.setCell (p:=⟨g,k * 5,none⟩) hg0 _).setCell (p:=⟨g,k * 5+1,none⟩) hg0 _).setCell (p:=⟨g,k * 5+2,none⟩) hg0 _).setCell (p:=⟨g,k * 5+3,none⟩) hg0 _).setCell (p:=⟨g,k * 5+4,none⟩) hg0 _)⟩,by simp [intOf]; omega⟩
   ·obtain rfl:k=xs.length:=by omega
    have HF:=(show Hid (_∧_) from ⟨RowC.done HR.out HP.out.2 hl hm hg0,RowC.typed HR.out hl hm hg0⟩)
    clear HR
    go_wp2
    go_ret
    exact ⟨_,rfl,HF.out.1,HF.out.2,hbw⟩
theorem copyMsg_dt:ToC 130 MsgR:=by
 rintro vs r S w ⟨z0,z1,z2,z3,z4,z5,z6,z7,x8,rfl,q8⟩ h hb
 obtain ⟨v0,v1,v2,v3,v4,v5,v6,v7,v8,rfl,a0,a1,a2,a3,a4,a5,a6,a7,a8⟩:=fs9 h
 obtain ⟨rfl,ia0⟩:=a0.ofInt
 obtain ⟨rfl,ia1⟩:=a1.ofInt
 obtain ⟨rfl,ia2⟩:=a2.ofInt
 obtain ⟨rfl,ia3⟩:=a3.ofInt
 obtain ⟨rfl,ia4⟩:=a4.ofInt
 obtain ⟨rfl,ia5⟩:=a5.ofInt
 obtain ⟨rfl,ia6⟩:=a6.ofInt
 obtain ⟨rfl,ia7⟩:=a7.ofInt
 obtain ⟨p8,c8,rfl⟩:=a8.form
 have hbk:Dt.bR [.int z0,.int z1,.int z2,.int z3,.int z4,.int z5,.int z6,.int z7,.row x8]=Dt.bS x8:=by simp [Dt.bR,Dt.bulk]; try omega
 rw [hbk] at hb
 clear hbk h
 have HI:=(show Hid (_∧_∧_∧_∧_∧_∧_∧_∧_) from ⟨ia0,ia1,ia2,ia3,ia4,ia5,ia6,ia7,trivial⟩)
 have HA:=(show Hid (_∧_) from ⟨a8,trivial⟩)
 clear a0 a1 a2 a3 a4 a5 a6 a7 a8 ia0 ia1 ia2 ia3 ia4 ia5 ia6 ia7
 obtain ⟨W0,hW0⟩:∃ W0,W0=(w.alloc (.cells #[.int .i64 z0,.int .i64 z1,.int .i64 z2,.int .i64 z3,.int .i64 z4,.int .i64 z5,.int .i64 z6,.int .i64 z7,.slice p8 x8.length c8] 67)).alloc (.cells #[.int .i64 0,.int .i64 0,.int .i64 0,.int .i64 0,.int .i64 0,.int .i64 0,.int .i64 0,.int .i64 0,.slice none 0 0] 67):=⟨_,rfl⟩
 have B:Below w.heap.size w W0:=by rw [hW0]; exact ((Below.refl _ w).alloc (Nat.le_refl _) _).alloc (by simp) _
 have SZ:W0.heap.size=w.heap.size+2:=by rw [hW0]; simp
 have O0:W0.heap[w.heap.size]? = some (.cells #[.int .i64 z0,.int .i64 z1,.int .i64 z2,.int .i64 z3,.int .i64 z4,.int .i64 z5,.int .i64 z6,.int .i64 z7,.slice p8 x8.length c8] 67):=by rw [hW0]; exact (Below.heap_alloc _ _ _ (by simp)).trans (MapKept.heap_alloc w _).1
 have O1:W0.heap[w.heap.size+1]? = some (.cells #[.int .i64 0,.int .i64 0,.int .i64 0,.int .i64 0,.int .i64 0,.int .i64 0,.int .i64 0,.int .i64 0,.slice none 0 0] 67):=by
  rw [hW0]
  have:=(MapKept.heap_alloc (w.alloc (.cells #[.int .i64 z0,.int .i64 z1,.int .i64 z2,.int .i64 z3,.int .i64 z4,.int .i64 z5,.int .i64 z6,.int .i64 z7,.slice p8 x8.length c8] 67)) (.cells #[.int .i64 0,.int .i64 0,.int .i64 0,.int .i64 0,.int .i64 0,.int .i64 0,.int .i64 0,.int .i64 0,.slice none 0 0] 67)).1
  simpa using this
 have HS:=(show Hid (_∧_∧_∧_∧_) from ⟨O0,O1,B,SZ,trivial⟩)
 have HW:=(show Hid (_∧True) from ⟨hW0,trivial⟩)
 clear O0 O1 B SZ hW0
 go_enter Tryz.func130,Tryz.ntmps130
 go_wp2_with fail
 rw [← HW.out.1]
 refine (copyCell_dt [.int .i64 z5,.int .i64 z6,.int .i64 z7,.slice p8 x8.length c8] [.int z5,.int z6,.int z7,.row x8] S _ ⟨_,_,_,_,rfl,q8⟩ ⟨(FAt.int _ HI.out.2.2.2.2.2.1),(FAt.int _ HI.out.2.2.2.2.2.2.1),(FAt.int _ HI.out.2.2.2.2.2.2.2.1),HA.out.1.up HS.out.2.2.1,trivial⟩ (by rw [show Dt.bR [.int z5,.int z6,.int z7,.row x8]=Dt.bS x8 from by simp [Dt.bR,Dt.bulk]; try omega]; omega)).mono ?_
 rintro e w1 ⟨u,rfl,n5,bb⟩
 obtain ⟨v5,v6,v7,v8,rfl,k5,k6,k7,k8⟩:=fs4 n5.at
 obtain ⟨rfl,-⟩:=k5.ofInt
 obtain ⟨rfl,-⟩:=k6.ofInt
 obtain ⟨rfl,-⟩:=k7.ofInt
 obtain ⟨s8,t8,rfl⟩:=k8.form
 clear k5 k6 k7 k8
 obtain ⟨O0,O1,B,SZ,-⟩:=HS.out
 rw [SZ] at n5
 have zw1:w.heap.size+2≤w1.heap.size:=by have:=bb.size; rw [SZ] at this; exact this
 have O0:=(bb.block _ (lh O0)).trans O0
 have O1:=(bb.block _ (lh O1)).trans O1
 have B:=B.trans (bb.mono B.size)
 have y0_0:=cb O0 0 (.int .i64 z0) rfl
 have y0_1:=cb O0 1 (.int .i64 z1) rfl
 have y0_2:=cb O0 2 (.int .i64 z2) rfl
 have y0_3:=cb O0 3 (.int .i64 z3) rfl
 have y0_4:=cb O0 4 (.int .i64 z4) rfl
 have y0_5:=cb O0 5 (.int .i64 z5) rfl
 have f0_5:=ub O0 5
 have y0_6:=cb O0 6 (.int .i64 z6) rfl
 have f0_6:=ub O0 6
 have y0_7:=cb O0 7 (.int .i64 z7) rfl
 have f0_7:=ub O0 7
 have y0_8:=cb O0 8 (.slice p8 x8.length c8) rfl
 have f0_8:=ub O0 8
 have y1_0:=cb O1 0 (.int .i64 0) rfl
 have f1_0:=ub O1 0
 have y1_1:=cb O1 1 (.int .i64 0) rfl
 have f1_1:=ub O1 1
 have y1_2:=cb O1 2 (.int .i64 0) rfl
 have f1_2:=ub O1 2
 have y1_3:=cb O1 3 (.int .i64 0) rfl
 have f1_3:=ub O1 3
 have y1_4:=cb O1 4 (.int .i64 0) rfl
 have f1_4:=ub O1 4
 have y1_5:=cb O1 5 (.int .i64 0) rfl
 have f1_5:=ub O1 5
 have y1_6:=cb O1 6 (.int .i64 0) rfl
 have f1_6:=ub O1 6
 have y1_7:=cb O1 7 (.int .i64 0) rfl
 have f1_7:=ub O1 7
 have y1_8:=cb O1 8 (.slice none 0 0) rfl
 have f1_8:=ub O1 8
 have HF:=(show Hid (_∧_∧_) from ⟨B,n5,trivial⟩)
 clear O0 O1 B SZ bb HS HW n5
 go_wp2
 refine bodyPost_ret (v:=.agg #[.int .i64 z0,.int .i64 z1,.int .i64 z2,.int .i64 z3,.int .i64 z4,.int .i64 z5,.int .i64 z6,.int .i64 z7,.slice s8 x8.length t8]) (by simp [results,Tryz.results130,go_sem,y1_0,y1_1,y1_2,y1_3,y1_4,y1_5,y1_6,y1_7,y1_8]) rfl ⟨_,rfl,?_,?_⟩
 ·obtain ⟨-,n5,-⟩:=HF.out
  have key:OFs w1 [.int .i64 z0,.int .i64 z1,.int .i64 z2,.int .i64 z3,.int .i64 z4,.int .i64 z5,.int .i64 z6,.int .i64 z7,.slice s8 x8.length t8] [.int z0,.int z1,.int z2,.int z3,.int z4,.int z5,.int z6,.int z7,.row x8] (Btw (w.heap.size+2) w1.heap.size):=(OFs.int HI.out.1 (OFs.int HI.out.2.1 (OFs.int HI.out.2.2.1 (OFs.int HI.out.2.2.2.1 (OFs.int HI.out.2.2.2.2.1 (OFs.app n5 (show OFs _ [] [] _ from trivial) (by omega) (by omega)))))))
  refine (key.moved (fun b hb' _ => ?_)).mono (fun b hb'=>⟨by have:=hb'.1; omega,by have:=hb'.2; simpa using this⟩)
  have e1:∀ (j:Nat) (u:Value) (W:World),(W.setCell ⟨w.heap.size+1,j,none⟩ u).heap[b]? = W.heap[b]? := fun j u W=>Below.heap_setCell W _ u b (by have:=hb'.1; simp; omega)
  have e2:∀ (j:Nat) (u:Value) (W:World),(W.setCell ⟨w.heap.size,j,none⟩ u).heap[b]? = W.heap[b]? := fun j u W=>Below.heap_setCell W _ u b (by have:=hb'.1; simp; omega)
  simp only [e1,e2]
 ·iterate 13 refine Below.setCell ?_ (by simp; try omega) _
  exact HF.out.1
theorem copyEachMsg_dt:CpS 129 130 67 9 MsgR:=by
 intro v xs S w hP h hb
 have hlen:=bulkS_len xs
 have hBA:=@bulkS_at xs
 have hc:=cloneMsg_dt v xs S w hP h (by omega)
 have HP:=(show Hid (_∧_) from ⟨hP,hP.len MsgR.len⟩)
 obtain ⟨a,cap,rfl⟩:=h.form
 have HC:=(show Hid (_∧True) from ⟨hc,trivial⟩)
 clear hc h hP
 go_enter Tryz.func129,Tryz.ntmps129
 go_wp2_with fail
 refine HC.out.1.mono ?_
 rintro e w1 ⟨u,rfl,hcl,b1⟩
 clear HC
 rcases hcl with ⟨rfl,rfl⟩ | ⟨g,cap1,cur,rfl,hg0,hg,hl,hm,hs,hraw⟩
 ·go_wp2
  refine wp_loop_rounds 1 ?_
  rw [rounds_succ]
  go_wp2
  go_ret
  exact ⟨_,rfl,.nil _,⟨[],rfl,.inl ⟨rfl,rfl⟩⟩,b1⟩
 ·have H1:=(show Hid (_∧_) from ⟨RowC.start hg hs hraw,b1⟩)
  clear hg hs hraw b1
  go_wp2
  go_loopw [12] (fun i wr=>∃ k:Nat,k≤xs.length∧i = .int .i64 k∧Hid (RowC w wr S 67 g 9 cap1 k xs)∧Below w.heap.size w wr) (fun i _=>xs.length - (intOf i).toNat)
  case atStart=>exact ⟨0,Nat.zero_le _,rfl,H1.out.1,H1.out.2⟩
  case round =>
   clear H1
   obtain ⟨k,hk,rfl,HR,hbw⟩:=hrel
   by_cases hkl:k<xs.length
   ·have he:=List.getElem?_eq_getElem hkl
    have hbk:=hBA he
    generalize xs[k]=r at *
    obtain ⟨z0,z1,z2,z3,z4,z5,z6,z7,x8,rfl,q8⟩:=HP.out.1 k r he
    obtain ⟨cur',vs',Y',hgk,hsk,hck,hrk,hYk,hdk⟩:=HR.out
    obtain ⟨r0,cc0,a0⟩:=hrk k 0 _ _ (Nat.le_refl _) he rfl
    obtain ⟨rfl,ir0⟩:=a0.ofInt
    have c0:wr.cell? ⟨g,k * 9,none⟩=some (.int .i64 z0):=by rw [cell_of_block hgk]; exact cc0
    obtain ⟨r1,cc1,a1⟩:=hrk k 1 _ _ (Nat.le_refl _) he rfl
    obtain ⟨rfl,ir1⟩:=a1.ofInt
    have c1:wr.cell? ⟨g,k * 9+1,none⟩=some (.int .i64 z1):=by rw [cell_of_block hgk]; exact cc1
    obtain ⟨r2,cc2,a2⟩:=hrk k 2 _ _ (Nat.le_refl _) he rfl
    obtain ⟨rfl,ir2⟩:=a2.ofInt
    have c2:wr.cell? ⟨g,k * 9+2,none⟩=some (.int .i64 z2):=by rw [cell_of_block hgk]; exact cc2
    obtain ⟨r3,cc3,a3⟩:=hrk k 3 _ _ (Nat.le_refl _) he rfl
    obtain ⟨rfl,ir3⟩:=a3.ofInt
    have c3:wr.cell? ⟨g,k * 9+3,none⟩=some (.int .i64 z3):=by rw [cell_of_block hgk]; exact cc3
    obtain ⟨r4,cc4,a4⟩:=hrk k 4 _ _ (Nat.le_refl _) he rfl
    obtain ⟨rfl,ir4⟩:=a4.ofInt
    have c4:wr.cell? ⟨g,k * 9+4,none⟩=some (.int .i64 z4):=by rw [cell_of_block hgk]; exact cc4
    obtain ⟨r5,cc5,a5⟩:=hrk k 5 _ _ (Nat.le_refl _) he rfl
    obtain ⟨rfl,ir5⟩:=a5.ofInt
    have c5:wr.cell? ⟨g,k * 9+5,none⟩=some (.int .i64 z5):=by rw [cell_of_block hgk]; exact cc5
    obtain ⟨r6,cc6,a6⟩:=hrk k 6 _ _ (Nat.le_refl _) he rfl
    obtain ⟨rfl,ir6⟩:=a6.ofInt
    have c6:wr.cell? ⟨g,k * 9+6,none⟩=some (.int .i64 z6):=by rw [cell_of_block hgk]; exact cc6
    obtain ⟨r7,cc7,a7⟩:=hrk k 7 _ _ (Nat.le_refl _) he rfl
    obtain ⟨rfl,ir7⟩:=a7.ofInt
    have c7:wr.cell? ⟨g,k * 9+7,none⟩=some (.int .i64 z7):=by rw [cell_of_block hgk]; exact cc7
    obtain ⟨r8,cc8,a8⟩:=hrk k 8 _ _ (Nat.le_refl _) he rfl
    obtain ⟨p8,d8,rfl⟩:=a8.form
    have c8:wr.cell? ⟨g,k * 9+8,none⟩=some (.slice p8 x8.length d8):=by rw [cell_of_block hgk]; exact cc8
    have hgl:=lh hgk
    have HX:=(show Hid (_∧_∧_∧_∧_) from ⟨(show FsAt wr S [.int .i64 z0,.int .i64 z1,.int .i64 z2,.int .i64 z3,.int .i64 z4,.int .i64 z5,.int .i64 z6,.int .i64 z7,.slice p8 x8.length d8] [.int z0,.int z1,.int z2,.int z3,.int z4,.int z5,.int z6,.int z7,.row x8] from ⟨a0.up hbw,a1.up hbw,a2.up hbw,a3.up hbw,a4.up hbw,a5.up hbw,a6.up hbw,a7.up hbw,a8.up hbw,trivial⟩),HP.out.1 k _ he,he,hgk,hbw⟩)
    have BA:Below wr.heap.size wr (wr.alloc (.cells #[.int .i64 z0,.int .i64 z1,.int .i64 z2,.int .i64 z3,.int .i64 z4,.int .i64 z5,.int .i64 z6,.int .i64 z7,.slice p8 x8.length d8] 67)):=(Below.refl _ wr).alloc (Nat.le_refl _) _
    have hsA:(wr.alloc (.cells #[.int .i64 z0,.int .i64 z1,.int .i64 z2,.int .i64 z3,.int .i64 z4,.int .i64 z5,.int .i64 z6,.int .i64 z7,.slice p8 x8.length d8] 67)).heap.size=wr.heap.size+1:=by simp
    have HB:=(show Hid (_∧_) from ⟨BA,hsA⟩)
    have hlt':((k:Nat):Int)<((xs.length:Nat):Int):=by omega
    clear he hBA hgk hsk hck hrk hYk hdk BA hsA cc0 a0 cc1 a1 cc2 a2 cc3 a3 cc4 a4 cc5 a5 cc6 a6 cc7 a7 cc8 a8 ir0 ir1 ir2 ir3 ir4 ir5 ir6 ir7
    go_wp2_with fail
    refine (copyMsg_dt [.int .i64 z0,.int .i64 z1,.int .i64 z2,.int .i64 z3,.int .i64 z4,.int .i64 z5,.int .i64 z6,.int .i64 z7,.slice p8 x8.length d8] [.int z0,.int z1,.int z2,.int z3,.int z4,.int z5,.int z6,.int z7,.row x8] S _ HX.out.2.1 (HX.out.1.up HB.out.1) (by omega)).mono ?_
    rintro e w3 ⟨us,rfl,o3,b3⟩
    obtain ⟨v0,v1,v2,v3,v4,v5,v6,v7,v8,rfl,k0,k1,k2,k3,k4,k5,k6,k7,k8⟩:=fs9 o3.at
    obtain ⟨rfl,-⟩:=k0.ofInt
    obtain ⟨rfl,-⟩:=k1.ofInt
    obtain ⟨rfl,-⟩:=k2.ofInt
    obtain ⟨rfl,-⟩:=k3.ofInt
    obtain ⟨rfl,-⟩:=k4.ofInt
    obtain ⟨rfl,-⟩:=k5.ofInt
    obtain ⟨rfl,-⟩:=k6.ofInt
    obtain ⟨rfl,-⟩:=k7.ofInt
    obtain ⟨s8,t8,rfl⟩:=k8.form
    have bA:Below wr.heap.size wr w3:=HB.out.1.trans (b3.mono HB.out.1.size)
    have o3':=o3.mono (X':=Btw wr.heap.size w3.heap.size) (fun b hb=>⟨Nat.le_trans HB.out.1.size hb.1,hb.2⟩)
    have HN:=(show Hid (_∧_) from ⟨RowC.next HR.out hbw.size hl bA HX.out.2.2.1 HP.out.2 o3',hbw.trans (bA.mono hbw.size)⟩)
    have hg3:=(bA.block _ hgl).trans HX.out.2.2.2.1
    have y0:w3.cell? ⟨g,k * 9,none⟩=some (.int .i64 z0):=(bA.cell (p:=⟨g,k * 9,none⟩) hgl).trans c0
    have f0:w3.frozen? ⟨g,k * 9,none⟩=false:=unfrozen_of_block hg3 _
    have y1:w3.cell? ⟨g,k * 9+1,none⟩=some (.int .i64 z1):=(bA.cell (p:=⟨g,k * 9+1,none⟩) hgl).trans c1
    have f1:w3.frozen? ⟨g,k * 9+1,none⟩=false:=unfrozen_of_block hg3 _
    have y2:w3.cell? ⟨g,k * 9+2,none⟩=some (.int .i64 z2):=(bA.cell (p:=⟨g,k * 9+2,none⟩) hgl).trans c2
    have f2:w3.frozen? ⟨g,k * 9+2,none⟩=false:=unfrozen_of_block hg3 _
    have y3:w3.cell? ⟨g,k * 9+3,none⟩=some (.int .i64 z3):=(bA.cell (p:=⟨g,k * 9+3,none⟩) hgl).trans c3
    have f3:w3.frozen? ⟨g,k * 9+3,none⟩=false:=unfrozen_of_block hg3 _
    have y4:w3.cell? ⟨g,k * 9+4,none⟩=some (.int .i64 z4):=(bA.cell (p:=⟨g,k * 9+4,none⟩) hgl).trans c4
    have f4:w3.frozen? ⟨g,k * 9+4,none⟩=false:=unfrozen_of_block hg3 _
    have y5:w3.cell? ⟨g,k * 9+5,none⟩=some (.int .i64 z5):=(bA.cell (p:=⟨g,k * 9+5,none⟩) hgl).trans c5
    have f5:w3.frozen? ⟨g,k * 9+5,none⟩=false:=unfrozen_of_block hg3 _
    have y6:w3.cell? ⟨g,k * 9+6,none⟩=some (.int .i64 z6):=(bA.cell (p:=⟨g,k * 9+6,none⟩) hgl).trans c6
    have f6:w3.frozen? ⟨g,k * 9+6,none⟩=false:=unfrozen_of_block hg3 _
    have y7:w3.cell? ⟨g,k * 9+7,none⟩=some (.int .i64 z7):=(bA.cell (p:=⟨g,k * 9+7,none⟩) hgl).trans c7
    have f7:w3.frozen? ⟨g,k * 9+7,none⟩=false:=unfrozen_of_block hg3 _
    have y8:w3.cell? ⟨g,k * 9+8,none⟩=some (.slice p8 x8.length d8):=(bA.cell (p:=⟨g,k * 9+8,none⟩) hgl).trans c8
    have f8:w3.frozen? ⟨g,k * 9+8,none⟩=false:=unfrozen_of_block hg3 _
    clear hbw HX HR HB bA o3 o3' b3 hg3 k0 k1 k2 k3 k4 k5 k6 k7 k8 c0 c1 c2 c3 c4 c5 c6 c7 c8
    go_wp2
    refine ⟨⟨k+1,by omega,by go_num,HN.out.1,(((((((((HN.out.2.setCell (p:=⟨g,k * 9,none⟩) hg0 _).setCell (p:=⟨g,k * 9+1,none⟩) hg0 _).setCell (p:=⟨g,k * 9+2,none⟩) hg0 _).setCell (p:=⟨g,k * 9+3,none⟩) hg0 _).setCell (p:=⟨g,k * 9+4,none⟩) hg0 _).setCell (p:=⟨g,k * 9+5,none⟩) hg0 _).setCell (p:=⟨g,k * 9+6,none⟩) hg0 _).setCell (p:=⟨g,k * 9+7,none⟩) hg0 _).setCell (p:=⟨g,k * 9+8,none⟩) hg0 _)⟩,by simp [intOf]; omega⟩
   ·obtain rfl:k=xs.length:=by omega
    have HF:=(show Hid (_∧_) from ⟨RowC.done HR.out HP.out.2 hl hm hg0,RowC.typed HR.out hl hm hg0⟩)
    clear HR
    go_wp2
    go_ret
    exact ⟨_,rfl,HF.out.1,HF.out.2,hbw⟩
end Go.Proofs.YtmmadoabejgffaaGreatDoor
