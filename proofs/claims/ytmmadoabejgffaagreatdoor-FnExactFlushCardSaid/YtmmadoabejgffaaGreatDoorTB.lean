/-
  Proofs.
-/
import Derived.Test.YtmmadoabejgffaaGreatDoorA
import Derived.Test.YtmmadoabejgffaaGreatDoorB
import Derived.Test.YtmmadoabejgffaaGreatDoorTA
namespace Go.Proofs.YtmmadoabejgffaaGreatDoor
open Go.RowKit Go.Joins
set_option maxRecDepth 100000
set_option maxHeartbeats 51200000
theorem toFrame_dt:ToC 155 FrameR:=by
 rintro vs r S w ⟨z0,z1,z2,x3,rfl,q3⟩ h hb
 obtain ⟨v0,v1,v2,v3,rfl,a0,a1,a2,a3⟩:=fs4 h
 obtain ⟨rfl,ia0⟩:=a0.ofInt
 obtain ⟨rfl,ia1⟩:=a1.ofInt
 obtain ⟨rfl,ia2⟩:=a2.ofInt
 obtain ⟨p3,c3,rfl⟩:=a3.form
 have hbk:Dt.bR [.int z0,.int z1,.int z2,.row x3]=Dt.bS x3:=by simp [Dt.bR,Dt.bulk]; try omega
 rw [hbk] at hb
 clear hbk h
 have HI:=(show Hid (_∧_∧_∧_) from ⟨ia0,ia1,ia2,trivial⟩)
 have HA:=(show Hid (_∧_) from ⟨a3,trivial⟩)
 clear a0 a1 a2 a3 ia0 ia1 ia2
 obtain ⟨W0,hW0⟩:∃ W0,W0=((w.alloc (.cells #[.int .i64 z0,.int .i64 z1,.int .i64 z2,.slice p3 x3.length c3] 216)).alloc (.cells #[.int .i64 0,.int .i64 0,.int .i64 0,.slice none 0 0] 184)).alloc (.cells #[.int .i64 z0,.int .i64 z1,.int .i64 z2,.slice none 0 0] 184):=⟨_,rfl⟩
 have B:Below w.heap.size w W0:=by rw [hW0]; exact (((Below.refl _ w).alloc (Nat.le_refl _) _).alloc (by simp) _).alloc (by simp; omega) _
 have SZ:W0.heap.size=w.heap.size+3:=by rw [hW0]; simp
 have O0:W0.heap[w.heap.size]? = some (.cells #[.int .i64 z0,.int .i64 z1,.int .i64 z2,.slice p3 x3.length c3] 216):=by rw [hW0]; exact (Below.heap_alloc _ _ _ (by simp; omega)).trans ((Below.heap_alloc _ _ _ (by simp)).trans (MapKept.heap_alloc w _).1)
 have O1:W0.heap[w.heap.size+1]? = some (.cells #[.int .i64 0,.int .i64 0,.int .i64 0,.slice none 0 0] 184):=by
  rw [hW0]
  have:=(MapKept.heap_alloc (w.alloc (.cells #[.int .i64 z0,.int .i64 z1,.int .i64 z2,.slice p3 x3.length c3] 216)) (.cells #[.int .i64 0,.int .i64 0,.int .i64 0,.slice none 0 0] 184)).1
  exact (Below.heap_alloc _ _ _ (by simp)).trans (by simpa using this)
 have O2:W0.heap[w.heap.size+1+1]? = some (.cells #[.int .i64 z0,.int .i64 z1,.int .i64 z2,.slice none 0 0] 184):=by
  rw [hW0]
  have:=(MapKept.heap_alloc ((w.alloc (.cells #[.int .i64 z0,.int .i64 z1,.int .i64 z2,.slice p3 x3.length c3] 216)).alloc (.cells #[.int .i64 0,.int .i64 0,.int .i64 0,.slice none 0 0] 184)) (.cells #[.int .i64 z0,.int .i64 z1,.int .i64 z2,.slice none 0 0] 184)).1
  simpa using this
 have HS:=(show Hid (_∧_∧_∧_∧_∧_) from ⟨O0,O1,O2,B,SZ,trivial⟩)
 have HW:=(show Hid (_∧True) from ⟨hW0,trivial⟩)
 clear O0 O1 O2 B SZ hW0
 go_enter Tryz.func155,Tryz.ntmps155
 go_wp2_with fail
 rw [← HW.out.1]
 refine (toIntS_dt _ x3 S _ q3 (HA.out.1.up HS.out.2.2.2.1) (by omega)).mono ?_
 rintro e w1 ⟨u,rfl,n3,bb⟩
 obtain ⟨s3,t3,rfl⟩:=n3.form
 obtain ⟨O0,O1,O2,B,SZ,-⟩:=HS.out
 rw [SZ] at n3
 have zw1:w.heap.size+3≤w1.heap.size:=by have:=bb.size; rw [SZ] at this; exact this
 have O0:=(bb.block _ (lh O0)).trans O0
 have O1:=(bb.block _ (lh O1)).trans O1
 have O2:=(bb.block _ (lh O2)).trans O2
 have B:=B.trans (bb.mono B.size)
 have y2_0:=cb O2 0 (.int .i64 z0) rfl
 have y2_1:=cb O2 1 (.int .i64 z1) rfl
 have y2_2:=cb O2 2 (.int .i64 z2) rfl
 have y2_3:=cb O2 3 (.slice none 0 0) rfl
 have f2_3:=ub O2 3
 have y1_0:=cb O1 0 (.int .i64 0) rfl
 have f1_0:=ub O1 0
 have y1_1:=cb O1 1 (.int .i64 0) rfl
 have f1_1:=ub O1 1
 have y1_2:=cb O1 2 (.int .i64 0) rfl
 have f1_2:=ub O1 2
 have y1_3:=cb O1 3 (.slice none 0 0) rfl
 have f1_3:=ub O1 3
 have HF:=(show Hid (_∧_∧_) from ⟨B,n3,trivial⟩)
 clear O0 O1 O2 B SZ bb HS HW n3
 go_wp2
 refine bodyPost_ret (v:=.agg #[.int .i64 z0,.int .i64 z1,.int .i64 z2,.slice s3 x3.length t3]) (by simp [results,Tryz.results155,go_sem,y1_0,y1_1,y1_2,y1_3]) rfl ⟨_,rfl,?_,?_⟩
 ·obtain ⟨-,n3,-⟩:=HF.out
  have key:OFs w1 [.int .i64 z0,.int .i64 z1,.int .i64 z2,.slice s3 x3.length t3] [.int z0,.int z1,.int z2,.row x3] (Btw (w.heap.size+3) w1.heap.size):=(OFs.int HI.out.1 (OFs.int HI.out.2.1 (OFs.int HI.out.2.2.1 (OFs.cons n3 (show OFs _ [] [] _ from trivial) (by omega) (by omega)))))
  refine (key.moved (fun b hb' _ => ?_)).mono (fun b hb'=>⟨by have:=hb'.1; omega,by have:=hb'.2; simpa using this⟩)
  have e1:∀ (j:Nat) (u:Value) (W:World),(W.setCell ⟨w.heap.size+1,j,none⟩ u).heap[b]? = W.heap[b]? := fun j u W=>Below.heap_setCell W _ u b (by have:=hb'.1; simp; omega)
  have e2:∀ (j:Nat) (u:Value) (W:World),(W.setCell ⟨w.heap.size+1+1,j,none⟩ u).heap[b]? = W.heap[b]? := fun j u W=>Below.heap_setCell W _ u b (by have:=hb'.1; simp; omega)
  simp only [e1,e2]
 ·iterate 5 refine Below.setCell ?_ (by simp; try omega) _
  exact HF.out.1
theorem infoDFrame:(Tryz.prog.info? 184).map (fun i=>(i.zero,i.size,i.bytes))=some (some (.agg #[.int .i64 0,.int .i64 0,.int .i64 0,.slice none 0 0]),4,48):=by kernel_rfl
theorem makeDFrame (n:Nat) (hn:n≤1048576) (w:World):(Instr.makeSlice 143 (.int .i64 (n:Int)) (.int .i64 (n:Int))).run Tryz.prog w = .ok (.slice (some ⟨w.heap.size,0,none⟩) n n) (w.alloc (.cells (madeCells #[.int .i64 0,.int .i64 0,.int .i64 0,.slice none 0 0] (n * 4)) 184)):=by
 obtain ⟨i0,hi,hz0,hz1,hz2⟩:=info_parts infoDFrame
 have h:=run_make (P:=Tryz.prog) w 143 184 i0 _ Tryz.underlying143 hi hz0 .i64 .i64 (n:Int) (n:Int) (by omega) (by omega) (by rw [hz2]; omega) (by omega)
 rw [h,hz1]
 rfl
theorem toFrameS_dt:ToS 122 FrameR:=by
 intro v xs S w hP h hb
 have hlen:=bulkS_len xs
 have hBA:=@bulkS_at xs
 have hN:=(show Hid (_∧_) from ⟨hP.len FrameR.len,trivial⟩)
 have HC:=(show Hid (_∧_) from ⟨h,hP⟩)
 obtain ⟨a,cap,rfl⟩:=h.form
 have hmk:=makeDFrame xs.length (by omega)
 clear h hP
 have R0:Hid (RowTo (w.alloc (.cells (madeCells #[.int .i64 0,.int .i64 0,.int .i64 0,.slice none 0 0] (xs.length * 4)) 184)) 184 w.heap.size 4 0 xs):=RowTo.start (MapKept.heap_alloc w _).1 (by rw [size_madeCells])
 have B0:Below w.heap.size w (w.alloc (.cells (madeCells #[.int .i64 0,.int .i64 0,.int .i64 0,.slice none 0 0] (xs.length * 4)) 184)):=(Below.refl _ w).alloc (Nat.le_refl _) _
 generalize madeCells #[.int .i64 0,.int .i64 0,.int .i64 0,.slice none 0 0] (xs.length * 4)=c0 at *
 go_enter Tryz.func122,Tryz.ntmps122
 go_wp2
 clear hmk
 go_loopw [4] (fun i wr=>∃ k:Nat,k≤xs.length∧i = .int .i64 k∧Hid (RowTo wr 184 w.heap.size 4 k xs)∧Below w.heap.size w wr) (fun i _=>xs.length - (intOf i).toNat)
 case atStart=>exact ⟨0,Nat.zero_le _,rfl,R0,B0⟩
 case round =>
  clear R0 B0
  obtain ⟨k,hk,rfl,HR,hbw⟩:=hrel
  by_cases hkl:k<xs.length
  ·have he:=List.getElem?_eq_getElem hkl
   have hbk:=hBA he
   generalize xs[k]=r at *
   obtain ⟨z0,z1,z2,x3,rfl,q3⟩:=HC.out.2 k r he
   obtain ⟨b,off,rfl,-,hlb,us,hhus⟩:=HC.out.1.at he
   have c0:w.cell? ⟨b,off+k * 4,none⟩=some (us 0):=(hhus 0 _ rfl).1
   have a0:=(hhus 0 _ rfl).2
   have c1:w.cell? ⟨b,off+k * 4+1,none⟩=some (us 1):=(hhus 1 _ rfl).1
   have a1:=(hhus 1 _ rfl).2
   have c2:w.cell? ⟨b,off+k * 4+2,none⟩=some (us 2):=(hhus 2 _ rfl).1
   have a2:=(hhus 2 _ rfl).2
   have c3:w.cell? ⟨b,off+k * 4+3,none⟩=some (us 3):=(hhus 3 _ rfl).1
   have a3:=(hhus 3 _ rfl).2
   clear hhus
   obtain ⟨a0e,a0r⟩:=a0.ofInt
   rw [a0e] at c0 a0
   clear a0e
   obtain ⟨a1e,a1r⟩:=a1.ofInt
   rw [a1e] at c1 a1
   clear a1e
   obtain ⟨a2e,a2r⟩:=a2.ofInt
   rw [a2e] at c2 a2
   clear a2e
   obtain ⟨p3,d3,a3e⟩:=a3.form
   rw [a3e] at c3 a3
   clear a3e
   rw [← hbw.cell (by exact hlb)] at c0 c1 c2 c3
   have HX:Hid (FsAt wr S [.int .i64 z0,.int .i64 z1,.int .i64 z2,.slice p3 x3.length d3] [.int z0,.int z1,.int z2,.row x3]):=⟨a0.up hbw,a1.up hbw,a2.up hbw,a3.up hbw,trivial⟩
   have HQ:Hid (FrameR [.int z0,.int z1,.int z2,.row x3]):=HC.out.2 k _ he
   have HH:=(show Hid (_∧True) from ⟨he,trivial⟩)
   clear he HC hBA a0 a1 a2 a3 q3
   have hlt':((k:Nat):Int)<((xs.length:Nat):Int):=by omega
   go_wp2_with fail
   refine (toFrame_dt [.int .i64 z0,.int .i64 z1,.int .i64 z2,.slice p3 x3.length d3] [.int z0,.int z1,.int z2,.row x3] S _ HQ.out HX.out (by omega)).mono ?_
   rintro e w1 ⟨us,rfl,o1,b1⟩
   obtain ⟨v0,v1,v2,v3,rfl,k0,k1,k2,k3⟩:=fs4 o1.at
   obtain ⟨rfl,-⟩:=k0.ofInt
   obtain ⟨rfl,-⟩:=k1.ofInt
   obtain ⟨rfl,-⟩:=k2.ofInt
   obtain ⟨s3,t3,rfl⟩:=k3.form
   clear k0 k1 k2 k3
   have HN:=(show Hid (_∧_) from ⟨RowTo.next HR.out b1 HH.out.1 hN.out.1 o1,trivial⟩)
   obtain ⟨cur,-,-,hg,hs,-⟩:=HR.out
   have hg1:w1.heap[w.heap.size]? = some (.cells cur 184 (0,0)):=(b1.block _ (lh hg)).trans hg
   have B1:Below w.heap.size w w1:=hbw.trans (b1.mono hbw.size)
   have g0:w1.cell? ⟨w.heap.size,k * 4,none⟩=some (cur[k * 4]'(by omega)):=by rw [cell_of_block hg1]; exact Array.getElem?_eq_getElem _
   generalize cur[k * 4]'(by omega)=y0 at g0
   have f0:w1.frozen? ⟨w.heap.size,k * 4,none⟩=false:=unfrozen_of_block hg1 _
   have g1:w1.cell? ⟨w.heap.size,k * 4+1,none⟩=some (cur[k * 4+1]'(by omega)):=by rw [cell_of_block hg1]; exact Array.getElem?_eq_getElem _
   generalize cur[k * 4+1]'(by omega)=y1 at g1
   have f1:w1.frozen? ⟨w.heap.size,k * 4+1,none⟩=false:=unfrozen_of_block hg1 _
   have g2:w1.cell? ⟨w.heap.size,k * 4+2,none⟩=some (cur[k * 4+2]'(by omega)):=by rw [cell_of_block hg1]; exact Array.getElem?_eq_getElem _
   generalize cur[k * 4+2]'(by omega)=y2 at g2
   have f2:w1.frozen? ⟨w.heap.size,k * 4+2,none⟩=false:=unfrozen_of_block hg1 _
   have g3:w1.cell? ⟨w.heap.size,k * 4+3,none⟩=some (cur[k * 4+3]'(by omega)):=by rw [cell_of_block hg1]; exact Array.getElem?_eq_getElem _
   generalize cur[k * 4+3]'(by omega)=y3 at g3
   have f3:w1.frozen? ⟨w.heap.size,k * 4+3,none⟩=false:=unfrozen_of_block hg1 _
   clear hg hg1 hs o1 b1 HX HQ HH HR hN c0 c1 c2 c3
   go_wp2
   refine ⟨⟨k+1,by omega,by go_num,HN.out.1,?_⟩,by simp [intOf]; omega⟩
   exact ((((B1.setCell (p:=⟨w.heap.size,k * 4,none⟩) (Nat.le_refl _) _).setCell (p:=⟨w.heap.size,k * 4+1,none⟩) (Nat.le_refl _) _).setCell (p:=⟨w.heap.size,k * 4+2,none⟩) (Nat.le_refl _) _).setCell (p:=⟨w.heap.size,k * 4+3,none⟩) (Nat.le_refl _) _)
  ·obtain rfl:k=xs.length:=by omega
   have HF:=(show Hid (_∧_) from ⟨RowTo.done HR.out hN.out.1 (by unfold maxLen; omega) rfl,trivial⟩)
   clear HR HC
   go_wp2
   go_ret
   exact ⟨_,rfl,HF.out.1,hbw⟩
theorem toThread_dt:ToC 94 ThreadR:=by
 rintro vs r S w ⟨z0,z1,x2,x3,b4,rfl,q2,q3⟩ h hb
 obtain ⟨v0,v1,v2,v3,v4,rfl,a0,a1,a2,a3,a4⟩:=fs5 h
 obtain ⟨rfl,ia0⟩:=a0.ofInt
 obtain ⟨rfl,ia1⟩:=a1.ofInt
 obtain ⟨p2,c2,rfl⟩:=a2.form
 obtain ⟨p3,c3,rfl⟩:=a3.form
 obtain ⟨rfl,ia4⟩:=a4.ofStr
 have hbk:Dt.bR [.int z0,.int z1,.row x2,.row x3,.str b4]=Dt.bS x2+Dt.bS x3+b4.size:=by simp [Dt.bR,Dt.bulk]; try omega
 rw [hbk] at hb
 clear hbk h
 have HI:=(show Hid (_∧_∧_∧_) from ⟨ia0,ia1,ia4,trivial⟩)
 have HA:=(show Hid (_∧_∧_) from ⟨a2,a3,trivial⟩)
 clear a0 a1 a2 a3 a4 ia0 ia1 ia4
 obtain ⟨W0,hW0⟩:∃ W0,W0=((w.alloc (.cells #[.int .i64 z0,.int .i64 z1,.slice p2 x2.length c2,.slice p3 x3.length c3,.string b4] 131)).alloc (.cells #[.int .i64 0,.int .i64 0,.slice none 0 0,.slice none 0 0,.string ⟨#[]⟩] 145)).alloc (.cells #[.int .i64 z0,.int .i64 z1,.slice none 0 0,.slice none 0 0,.string ⟨#[]⟩] 145):=⟨_,rfl⟩
 have B:Below w.heap.size w W0:=by rw [hW0]; exact (((Below.refl _ w).alloc (Nat.le_refl _) _).alloc (by simp) _).alloc (by simp; omega) _
 have SZ:W0.heap.size=w.heap.size+3:=by rw [hW0]; simp
 have O0:W0.heap[w.heap.size]? = some (.cells #[.int .i64 z0,.int .i64 z1,.slice p2 x2.length c2,.slice p3 x3.length c3,.string b4] 131):=by rw [hW0]; exact (Below.heap_alloc _ _ _ (by simp; omega)).trans ((Below.heap_alloc _ _ _ (by simp)).trans (MapKept.heap_alloc w _).1)
 have O1:W0.heap[w.heap.size+1]? = some (.cells #[.int .i64 0,.int .i64 0,.slice none 0 0,.slice none 0 0,.string ⟨#[]⟩] 145):=by
  rw [hW0]
  have:=(MapKept.heap_alloc (w.alloc (.cells #[.int .i64 z0,.int .i64 z1,.slice p2 x2.length c2,.slice p3 x3.length c3,.string b4] 131)) (.cells #[.int .i64 0,.int .i64 0,.slice none 0 0,.slice none 0 0,.string ⟨#[]⟩] 145)).1
  exact (Below.heap_alloc _ _ _ (by simp)).trans (by simpa using this)
 have O2:W0.heap[w.heap.size+1+1]? = some (.cells #[.int .i64 z0,.int .i64 z1,.slice none 0 0,.slice none 0 0,.string ⟨#[]⟩] 145):=by
  rw [hW0]
  have:=(MapKept.heap_alloc ((w.alloc (.cells #[.int .i64 z0,.int .i64 z1,.slice p2 x2.length c2,.slice p3 x3.length c3,.string b4] 131)).alloc (.cells #[.int .i64 0,.int .i64 0,.slice none 0 0,.slice none 0 0,.string ⟨#[]⟩] 145)) (.cells #[.int .i64 z0,.int .i64 z1,.slice none 0 0,.slice none 0 0,.string ⟨#[]⟩] 145)).1
  simpa using this
 have HS:=(show Hid (_∧_∧_∧_∧_∧_) from ⟨O0,O1,O2,B,SZ,trivial⟩)
 have HW:=(show Hid (_∧True) from ⟨hW0,trivial⟩)
 clear O0 O1 O2 B SZ hW0
 go_enter Tryz.func94,Tryz.ntmps94
 go_wp2_with fail
 rw [← HW.out.1]
 refine (toIntS_dt _ x2 S _ q2 (HA.out.1.up HS.out.2.2.2.1) (by omega)).mono ?_
 rintro e w1 ⟨u,rfl,n2,bb⟩
 obtain ⟨s2,t2,rfl⟩:=n2.form
 obtain ⟨O0,O1,O2,B,SZ,-⟩:=HS.out
 rw [SZ] at n2
 have zw1:w.heap.size+3≤w1.heap.size:=by have:=bb.size; rw [SZ] at this; exact this
 have O0:=(bb.block _ (lh O0)).trans O0
 have O1:=(bb.block _ (lh O1)).trans O1
 have O2:=(bb.block _ (lh O2)).trans O2
 have B:=B.trans (bb.mono B.size)
 have y0_3:=cb O0 3 (.slice p3 x3.length c3) rfl
 have y0_4:=cb O0 4 (.string b4) rfl
 have y2_2:=cb O2 2 (.slice none 0 0) rfl
 have f2_2:=ub O2 2
 obtain ⟨W1,hW⟩:∃ W,W=(w1.setCell ⟨w.heap.size+1+1,2,none⟩ (.slice s2 x2.length t2)):=⟨_,rfl⟩
 have SZ':W1.heap.size=w1.heap.size:=by rw [hW]; simp
 have e2:∀ (b:Nat),b≠w.heap.size+1+1→W1.heap[b]? = w1.heap[b]? := by
  intro b hb'
  rw [hW]
  simp only [Below.heap_setCell _ _ _ b (show b≠(⟨w.heap.size+1+1,_,none⟩:Addr).block from hb')]
 have P0:=(e2 _ (by omega)).trans O0
 have P1:=(e2 _ (by omega)).trans O1
 have P2:W1.heap[w.heap.size+1+1]? = some (.cells #[.int .i64 z0,.int .i64 z1,.slice s2 x2.length t2,.slice none 0 0,.string ⟨#[]⟩] 145):=by
  rw [hW]
  have:=(block_setCell (i:=2) O2 (.slice s2 x2.length t2))
  simpa only [List.setIfInBounds_toArray,List.set_cons_zero,List.set_cons_succ] using this
 have PB:Below w.heap.size w W1:=by rw [hW]; exact (B.setCell (p:=⟨w.heap.size+1+1,2,none⟩) (by simp; omega) (.slice s2 x2.length t2))
 have Pn2:=Own.moved n2 (w':=W1) (fun b hb' _=>e2 b (by have:=hb'.1; omega))
 have HS:=(show Hid (_∧_∧_∧_∧_∧_∧_) from ⟨P0,P1,P2,PB,SZ',Pn2,trivial⟩)
 have HW:=(show Hid (_∧True) from ⟨hW,trivial⟩)
 clear O0 O1 O2 B SZ SZ' bb hW e2 P0 P1 P2 PB n2 Pn2
 go_wp2_with fail
 rw [← HW.out.1]
 refine (toFrameS_dt _ x3 S _ q3 (HA.out.2.1.up HS.out.2.2.2.1) (by omega)).mono ?_
 rintro e w2 ⟨u,rfl,n3,bb⟩
 obtain ⟨s3,t3,rfl⟩:=n3.form
 obtain ⟨O0,O1,O2,B,SZ,n2,-⟩:=HS.out
 rw [SZ] at n3
 have zw2:w1.heap.size≤w2.heap.size:=by have:=bb.size; rw [SZ] at this; exact this
 have O0:=(bb.block _ (lh O0)).trans O0
 have O1:=(bb.block _ (lh O1)).trans O1
 have O2:=(bb.block _ (lh O2)).trans O2
 have B:=B.trans (bb.mono B.size)
 have n2:=Own.up n2 bb
 have y0_4:=cb O0 4 (.string b4) rfl
 have y2_0:=cb O2 0 (.int .i64 z0) rfl
 have y2_1:=cb O2 1 (.int .i64 z1) rfl
 have y2_2:=cb O2 2 (.slice s2 x2.length t2) rfl
 have y2_3:=cb O2 3 (.slice none 0 0) rfl
 have f2_3:=ub O2 3
 have y2_4:=cb O2 4 (.string ⟨#[]⟩) rfl
 have f2_4:=ub O2 4
 have y1_0:=cb O1 0 (.int .i64 0) rfl
 have f1_0:=ub O1 0
 have y1_1:=cb O1 1 (.int .i64 0) rfl
 have f1_1:=ub O1 1
 have y1_2:=cb O1 2 (.slice none 0 0) rfl
 have f1_2:=ub O1 2
 have y1_3:=cb O1 3 (.slice none 0 0) rfl
 have f1_3:=ub O1 3
 have y1_4:=cb O1 4 (.string ⟨#[]⟩) rfl
 have f1_4:=ub O1 4
 have HF:=(show Hid (_∧_∧_∧_) from ⟨B,n2,n3,trivial⟩)
 clear O0 O1 O2 B SZ bb HS HW n2 n3
 go_wp2
 refine bodyPost_ret (v:=.agg #[.int .i64 z0,.int .i64 z1,.slice s2 x2.length t2,.slice s3 x3.length t3,.string b4]) (by simp [results,Tryz.results94,go_sem,y1_0,y1_1,y1_2,y1_3,y1_4]) rfl ⟨_,rfl,?_,?_⟩
 ·obtain ⟨-,n2,n3,-⟩:=HF.out
  have key:OFs w2 [.int .i64 z0,.int .i64 z1,.slice s2 x2.length t2,.slice s3 x3.length t3,.string b4] [.int z0,.int z1,.row x2,.row x3,.str b4] (Btw (w.heap.size+3) w2.heap.size):=(OFs.int HI.out.1 (OFs.int HI.out.2.1 (OFs.cons n2 (OFs.cons n3 (OFs.str HI.out.2.2.1 (show OFs _ [] [] _ from trivial)) (by omega) (by omega)) (by omega) (by omega))))
  refine (key.moved (fun b hb' _ => ?_)).mono (fun b hb'=>⟨by have:=hb'.1; omega,by have:=hb'.2; simpa using this⟩)
  have e1:∀ (j:Nat) (u:Value) (W:World),(W.setCell ⟨w.heap.size+1,j,none⟩ u).heap[b]? = W.heap[b]? := fun j u W=>Below.heap_setCell W _ u b (by have:=hb'.1; simp; omega)
  have e2:∀ (j:Nat) (u:Value) (W:World),(W.setCell ⟨w.heap.size+1+1,j,none⟩ u).heap[b]? = W.heap[b]? := fun j u W=>Below.heap_setCell W _ u b (by have:=hb'.1; simp; omega)
  simp only [e1,e2]
 ·iterate 7 refine Below.setCell ?_ (by simp; try omega) _
  exact HF.out.1
theorem infoDThread:(Tryz.prog.info? 145).map (fun i=>(i.zero,i.size,i.bytes))=some (some (.agg #[.int .i64 0,.int .i64 0,.slice none 0 0,.slice none 0 0,.string ⟨#[]⟩]),5,80):=by kernel_rfl
theorem makeDThread (n:Nat) (hn:n≤1048576) (w:World):(Instr.makeSlice 42 (.int .i64 (n:Int)) (.int .i64 (n:Int))).run Tryz.prog w = .ok (.slice (some ⟨w.heap.size,0,none⟩) n n) (w.alloc (.cells (madeCells #[.int .i64 0,.int .i64 0,.slice none 0 0,.slice none 0 0,.string ⟨#[]⟩] (n * 5)) 145)):=by
 obtain ⟨i0,hi,hz0,hz1,hz2⟩:=info_parts infoDThread
 have h:=run_make (P:=Tryz.prog) w 42 145 i0 _ Tryz.underlying42 hi hz0 .i64 .i64 (n:Int) (n:Int) (by omega) (by omega) (by rw [hz2]; omega) (by omega)
 rw [h,hz1]
 rfl
theorem toThreadS_dt:ToS 44 ThreadR:=by
 intro v xs S w hP h hb
 have hlen:=bulkS_len xs
 have hBA:=@bulkS_at xs
 have hN:=(show Hid (_∧_) from ⟨hP.len ThreadR.len,trivial⟩)
 have HC:=(show Hid (_∧_) from ⟨h,hP⟩)
 obtain ⟨a,cap,rfl⟩:=h.form
 have hmk:=makeDThread xs.length (by omega)
 clear h hP
 have R0:Hid (RowTo (w.alloc (.cells (madeCells #[.int .i64 0,.int .i64 0,.slice none 0 0,.slice none 0 0,.string ⟨#[]⟩] (xs.length * 5)) 145)) 145 w.heap.size 5 0 xs):=RowTo.start (MapKept.heap_alloc w _).1 (by rw [size_madeCells])
 have B0:Below w.heap.size w (w.alloc (.cells (madeCells #[.int .i64 0,.int .i64 0,.slice none 0 0,.slice none 0 0,.string ⟨#[]⟩] (xs.length * 5)) 145)):=(Below.refl _ w).alloc (Nat.le_refl _) _
 generalize madeCells #[.int .i64 0,.int .i64 0,.slice none 0 0,.slice none 0 0,.string ⟨#[]⟩] (xs.length * 5)=c0 at *
 go_enter Tryz.func44,Tryz.ntmps44
 go_wp2
 clear hmk
 go_loopw [4] (fun i wr=>∃ k:Nat,k≤xs.length∧i = .int .i64 k∧Hid (RowTo wr 145 w.heap.size 5 k xs)∧Below w.heap.size w wr) (fun i _=>xs.length - (intOf i).toNat)
 case atStart=>exact ⟨0,Nat.zero_le _,rfl,R0,B0⟩
 case round =>
  clear R0 B0
  obtain ⟨k,hk,rfl,HR,hbw⟩:=hrel
  by_cases hkl:k<xs.length
  ·have he:=List.getElem?_eq_getElem hkl
   have hbk:=hBA he
   generalize xs[k]=r at *
   obtain ⟨z0,z1,x2,x3,b4,rfl,q2,q3⟩:=HC.out.2 k r he
   obtain ⟨b,off,rfl,-,hlb,us,hhus⟩:=HC.out.1.at he
   have c0:w.cell? ⟨b,off+k * 5,none⟩=some (us 0):=(hhus 0 _ rfl).1
   have a0:=(hhus 0 _ rfl).2
   have c1:w.cell? ⟨b,off+k * 5+1,none⟩=some (us 1):=(hhus 1 _ rfl).1
   have a1:=(hhus 1 _ rfl).2
   have c2:w.cell? ⟨b,off+k * 5+2,none⟩=some (us 2):=(hhus 2 _ rfl).1
   have a2:=(hhus 2 _ rfl).2
   have c3:w.cell? ⟨b,off+k * 5+3,none⟩=some (us 3):=(hhus 3 _ rfl).1
   have a3:=(hhus 3 _ rfl).2
   have c4:w.cell? ⟨b,off+k * 5+4,none⟩=some (us 4):=(hhus 4 _ rfl).1
   have a4:=(hhus 4 _ rfl).2
   clear hhus
   obtain ⟨a0e,a0r⟩:=a0.ofInt
   rw [a0e] at c0 a0
   clear a0e
   obtain ⟨a1e,a1r⟩:=a1.ofInt
   rw [a1e] at c1 a1
   clear a1e
   obtain ⟨p2,d2,a2e⟩:=a2.form
   rw [a2e] at c2 a2
   clear a2e
   obtain ⟨p3,d3,a3e⟩:=a3.form
   rw [a3e] at c3 a3
   clear a3e
   obtain ⟨a4e,a4r⟩:=a4.ofStr
   rw [a4e] at c4 a4
   clear a4e
   rw [← hbw.cell (by exact hlb)] at c0 c1 c2 c3 c4
   have HX:Hid (FsAt wr S [.int .i64 z0,.int .i64 z1,.slice p2 x2.length d2,.slice p3 x3.length d3,.string b4] [.int z0,.int z1,.row x2,.row x3,.str b4]):=⟨a0.up hbw,a1.up hbw,a2.up hbw,a3.up hbw,a4.up hbw,trivial⟩
   have HQ:Hid (ThreadR [.int z0,.int z1,.row x2,.row x3,.str b4]):=HC.out.2 k _ he
   have HH:=(show Hid (_∧True) from ⟨he,trivial⟩)
   clear he HC hBA a0 a1 a2 a3 a4 q2 q3
   have hlt':((k:Nat):Int)<((xs.length:Nat):Int):=by omega
   go_wp2_with fail
   refine (toThread_dt [.int .i64 z0,.int .i64 z1,.slice p2 x2.length d2,.slice p3 x3.length d3,.string b4] [.int z0,.int z1,.row x2,.row x3,.str b4] S _ HQ.out HX.out (by omega)).mono ?_
   rintro e w1 ⟨us,rfl,o1,b1⟩
   obtain ⟨v0,v1,v2,v3,v4,rfl,k0,k1,k2,k3,k4⟩:=fs5 o1.at
   obtain ⟨rfl,-⟩:=k0.ofInt
   obtain ⟨rfl,-⟩:=k1.ofInt
   obtain ⟨s2,t2,rfl⟩:=k2.form
   obtain ⟨s3,t3,rfl⟩:=k3.form
   obtain ⟨rfl,-⟩:=k4.ofStr
   clear k0 k1 k2 k3 k4
   have HN:=(show Hid (_∧_) from ⟨RowTo.next HR.out b1 HH.out.1 hN.out.1 o1,trivial⟩)
   obtain ⟨cur,-,-,hg,hs,-⟩:=HR.out
   have hg1:w1.heap[w.heap.size]? = some (.cells cur 145 (0,0)):=(b1.block _ (lh hg)).trans hg
   have B1:Below w.heap.size w w1:=hbw.trans (b1.mono hbw.size)
   have g0:w1.cell? ⟨w.heap.size,k * 5,none⟩=some (cur[k * 5]'(by omega)):=by rw [cell_of_block hg1]; exact Array.getElem?_eq_getElem _
   generalize cur[k * 5]'(by omega)=y0 at g0
   have f0:w1.frozen? ⟨w.heap.size,k * 5,none⟩=false:=unfrozen_of_block hg1 _
   have g1:w1.cell? ⟨w.heap.size,k * 5+1,none⟩=some (cur[k * 5+1]'(by omega)):=by rw [cell_of_block hg1]; exact Array.getElem?_eq_getElem _
   generalize cur[k * 5+1]'(by omega)=y1 at g1
   have f1:w1.frozen? ⟨w.heap.size,k * 5+1,none⟩=false:=unfrozen_of_block hg1 _
   have g2:w1.cell? ⟨w.heap.size,k * 5+2,none⟩=some (cur[k * 5+2]'(by omega)):=by rw [cell_of_block hg1]; exact Array.getElem?_eq_getElem _
   generalize cur[k * 5+2]'(by omega)=y2 at g2
   have f2:w1.frozen? ⟨w.heap.size,k * 5+2,none⟩=false:=unfrozen_of_block hg1 _
   have g3:w1.cell? ⟨w.heap.size,k * 5+3,none⟩=some (cur[k * 5+3]'(by omega)):=by rw [cell_of_block hg1]; exact Array.getElem?_eq_getElem _
   generalize cur[k * 5+3]'(by omega)=y3 at g3
   have f3:w1.frozen? ⟨w.heap.size,k * 5+3,none⟩=false:=unfrozen_of_block hg1 _
   have g4:w1.cell? ⟨w.heap.size,k * 5+4,none⟩=some (cur[k * 5+4]'(by omega)):=by rw [cell_of_block hg1]; exact Array.getElem?_eq_getElem _
   generalize cur[k * 5+4]'(by omega)=y4 at g4
   have f4:w1.frozen? ⟨w.heap.size,k * 5+4,none⟩=false:=unfrozen_of_block hg1 _
   clear hg hg1 hs o1 b1 HX HQ HH HR hN c0 c1 c2 c3 c4
   go_wp2
   refine ⟨⟨k+1,by omega,by go_num,HN.out.1,?_⟩,by simp [intOf]; omega⟩
   exact (((((B1.setCell (p:=⟨w.heap.size,k * 5,none⟩) (Nat.le_refl _) _).setCell (p:=⟨w.heap.size,k * 5+1,none⟩) (Nat.le_refl _) _).setCell (p:=⟨w.heap.size,k * 5+2,none⟩) (Nat.le_refl _) _).setCell (p:=⟨w.heap.size,k * 5+3,none⟩) (Nat.le_refl _) _).setCell (p:=⟨w.heap.size,k * 5+4,none⟩) (Nat.le_refl _) _)
  ·obtain rfl:k=xs.length:=by omega
   have HF:=(show Hid (_∧_) from ⟨RowTo.done HR.out hN.out.1 (by unfold maxLen; omega) rfl,trivial⟩)
   clear HR HC
   go_wp2
   go_ret
   exact ⟨_,rfl,HF.out.1,hbw⟩
theorem toMsg_dt:ToC 95 MsgR:=by
 rintro vs r S w ⟨z0,z1,z2,z3,z4,z5,z6,z7,x8,rfl,q8⟩ h hb
 obtain ⟨v0,v1,v2,v3,v4,v5,v6,v7,v8,rfl,a0,a1,a2,a3,a4,a5,a6,a7,a8⟩:=fs9 h
 obtain ⟨rfl,ia0⟩:=a0.ofInt
 obtain ⟨rfl,ia1⟩:=a1.ofInt
 obtain ⟨rfl,ia2⟩:=a2.ofInt
 obtain ⟨rfl,ia3⟩:=a3.ofInt
 obtain ⟨rfl,ia4⟩:=a4.ofInt
 obtain ⟨rfl,ia5⟩:=a5.ofInt
 obtain ⟨rfl,ia6⟩:=a6.ofInt
 obtain ⟨rfl,ia7⟩:=a7.ofInt
 obtain ⟨p8,c8,rfl⟩:=a8.form
 have hbk:Dt.bR [.int z0,.int z1,.int z2,.int z3,.int z4,.int z5,.int z6,.int z7,.row x8]=Dt.bS x8:=by simp [Dt.bR,Dt.bulk]; try omega
 rw [hbk] at hb
 clear hbk h
 have HI:=(show Hid (_∧_∧_∧_∧_∧_∧_∧_∧_) from ⟨ia0,ia1,ia2,ia3,ia4,ia5,ia6,ia7,trivial⟩)
 have HA:=(show Hid (_∧_) from ⟨a8,trivial⟩)
 clear a0 a1 a2 a3 a4 a5 a6 a7 a8 ia0 ia1 ia2 ia3 ia4 ia5 ia6 ia7
 obtain ⟨W0,hW0⟩:∃ W0,W0=((w.alloc (.cells #[.int .i64 z0,.int .i64 z1,.int .i64 z2,.int .i64 z3,.int .i64 z4,.int .i64 z5,.int .i64 z6,.int .i64 z7,.slice p8 x8.length c8] 134)).alloc (.cells #[.int .i64 0,.int .i64 0,.int .i64 0,.int .i64 0,.int .i64 0,.int .i64 0,.int .i64 0,.int .i64 0,.slice none 0 0] 67)).alloc (.cells #[.int .i64 z0,.int .i64 z1,.int .i64 z2,.int .i64 z3,.int .i64 z4,.int .i64 0,.int .i64 0,.int .i64 0,.slice none 0 0] 67):=⟨_,rfl⟩
 have B:Below w.heap.size w W0:=by rw [hW0]; exact (((Below.refl _ w).alloc (Nat.le_refl _) _).alloc (by simp) _).alloc (by simp; omega) _
 have SZ:W0.heap.size=w.heap.size+3:=by rw [hW0]; simp
 have O0:W0.heap[w.heap.size]? = some (.cells #[.int .i64 z0,.int .i64 z1,.int .i64 z2,.int .i64 z3,.int .i64 z4,.int .i64 z5,.int .i64 z6,.int .i64 z7,.slice p8 x8.length c8] 134):=by rw [hW0]; exact (Below.heap_alloc _ _ _ (by simp; omega)).trans ((Below.heap_alloc _ _ _ (by simp)).trans (MapKept.heap_alloc w _).1)
 have O1:W0.heap[w.heap.size+1]? = some (.cells #[.int .i64 0,.int .i64 0,.int .i64 0,.int .i64 0,.int .i64 0,.int .i64 0,.int .i64 0,.int .i64 0,.slice none 0 0] 67):=by
  rw [hW0]
  have:=(MapKept.heap_alloc (w.alloc (.cells #[.int .i64 z0,.int .i64 z1,.int .i64 z2,.int .i64 z3,.int .i64 z4,.int .i64 z5,.int .i64 z6,.int .i64 z7,.slice p8 x8.length c8] 134)) (.cells #[.int .i64 0,.int .i64 0,.int .i64 0,.int .i64 0,.int .i64 0,.int .i64 0,.int .i64 0,.int .i64 0,.slice none 0 0] 67)).1
  exact (Below.heap_alloc _ _ _ (by simp)).trans (by simpa using this)
 have O2:W0.heap[w.heap.size+1+1]? = some (.cells #[.int .i64 z0,.int .i64 z1,.int .i64 z2,.int .i64 z3,.int .i64 z4,.int .i64 0,.int .i64 0,.int .i64 0,.slice none 0 0] 67):=by
  rw [hW0]
  have:=(MapKept.heap_alloc ((w.alloc (.cells #[.int .i64 z0,.int .i64 z1,.int .i64 z2,.int .i64 z3,.int .i64 z4,.int .i64 z5,.int .i64 z6,.int .i64 z7,.slice p8 x8.length c8] 134)).alloc (.cells #[.int .i64 0,.int .i64 0,.int .i64 0,.int .i64 0,.int .i64 0,.int .i64 0,.int .i64 0,.int .i64 0,.slice none 0 0] 67)) (.cells #[.int .i64 z0,.int .i64 z1,.int .i64 z2,.int .i64 z3,.int .i64 z4,.int .i64 0,.int .i64 0,.int .i64 0,.slice none 0 0] 67)).1
  simpa using this
 have HS:=(show Hid (_∧_∧_∧_∧_∧_) from ⟨O0,O1,O2,B,SZ,trivial⟩)
 have HW:=(show Hid (_∧True) from ⟨hW0,trivial⟩)
 clear O0 O1 O2 B SZ hW0
 go_enter Tryz.func95,Tryz.ntmps95
 go_wp2_with fail
 rw [← HW.out.1]
 refine (toCell_dt [.int .i64 z5,.int .i64 z6,.int .i64 z7,.slice p8 x8.length c8] [.int z5,.int z6,.int z7,.row x8] S _ ⟨_,_,_,_,rfl,q8⟩ ⟨(FAt.int _ HI.out.2.2.2.2.2.1),(FAt.int _ HI.out.2.2.2.2.2.2.1),(FAt.int _ HI.out.2.2.2.2.2.2.2.1),HA.out.1.up HS.out.2.2.2.1,trivial⟩ (by rw [show Dt.bR [.int z5,.int z6,.int z7,.row x8]=Dt.bS x8 from by simp [Dt.bR,Dt.bulk]; try omega]; omega)).mono ?_
 rintro e w1 ⟨u,rfl,n5,bb⟩
 obtain ⟨v5,v6,v7,v8,rfl,k5,k6,k7,k8⟩:=fs4 n5.at
 obtain ⟨rfl,-⟩:=k5.ofInt
 obtain ⟨rfl,-⟩:=k6.ofInt
 obtain ⟨rfl,-⟩:=k7.ofInt
 obtain ⟨s8,t8,rfl⟩:=k8.form
 clear k5 k6 k7 k8
 obtain ⟨O0,O1,O2,B,SZ,-⟩:=HS.out
 rw [SZ] at n5
 have zw1:w.heap.size+3≤w1.heap.size:=by have:=bb.size; rw [SZ] at this; exact this
 have O0:=(bb.block _ (lh O0)).trans O0
 have O1:=(bb.block _ (lh O1)).trans O1
 have O2:=(bb.block _ (lh O2)).trans O2
 have B:=B.trans (bb.mono B.size)
 have y2_0:=cb O2 0 (.int .i64 z0) rfl
 have y2_1:=cb O2 1 (.int .i64 z1) rfl
 have y2_2:=cb O2 2 (.int .i64 z2) rfl
 have y2_3:=cb O2 3 (.int .i64 z3) rfl
 have y2_4:=cb O2 4 (.int .i64 z4) rfl
 have y2_5:=cb O2 5 (.int .i64 0) rfl
 have f2_5:=ub O2 5
 have y2_6:=cb O2 6 (.int .i64 0) rfl
 have f2_6:=ub O2 6
 have y2_7:=cb O2 7 (.int .i64 0) rfl
 have f2_7:=ub O2 7
 have y2_8:=cb O2 8 (.slice none 0 0) rfl
 have f2_8:=ub O2 8
 have y1_0:=cb O1 0 (.int .i64 0) rfl
 have f1_0:=ub O1 0
 have y1_1:=cb O1 1 (.int .i64 0) rfl
 have f1_1:=ub O1 1
 have y1_2:=cb O1 2 (.int .i64 0) rfl
 have f1_2:=ub O1 2
 have y1_3:=cb O1 3 (.int .i64 0) rfl
 have f1_3:=ub O1 3
 have y1_4:=cb O1 4 (.int .i64 0) rfl
 have f1_4:=ub O1 4
 have y1_5:=cb O1 5 (.int .i64 0) rfl
 have f1_5:=ub O1 5
 have y1_6:=cb O1 6 (.int .i64 0) rfl
 have f1_6:=ub O1 6
 have y1_7:=cb O1 7 (.int .i64 0) rfl
 have f1_7:=ub O1 7
 have y1_8:=cb O1 8 (.slice none 0 0) rfl
 have f1_8:=ub O1 8
 have HF:=(show Hid (_∧_∧_) from ⟨B,n5,trivial⟩)
 clear O0 O1 O2 B SZ bb HS HW n5
 go_wp2
 refine bodyPost_ret (v:=.agg #[.int .i64 z0,.int .i64 z1,.int .i64 z2,.int .i64 z3,.int .i64 z4,.int .i64 z5,.int .i64 z6,.int .i64 z7,.slice s8 x8.length t8]) (by simp [results,Tryz.results95,go_sem,y1_0,y1_1,y1_2,y1_3,y1_4,y1_5,y1_6,y1_7,y1_8]) rfl ⟨_,rfl,?_,?_⟩
 ·obtain ⟨-,n5,-⟩:=HF.out
  have key:OFs w1 [.int .i64 z0,.int .i64 z1,.int .i64 z2,.int .i64 z3,.int .i64 z4,.int .i64 z5,.int .i64 z6,.int .i64 z7,.slice s8 x8.length t8] [.int z0,.int z1,.int z2,.int z3,.int z4,.int z5,.int z6,.int z7,.row x8] (Btw (w.heap.size+3) w1.heap.size):=(OFs.int HI.out.1 (OFs.int HI.out.2.1 (OFs.int HI.out.2.2.1 (OFs.int HI.out.2.2.2.1 (OFs.int HI.out.2.2.2.2.1 (OFs.app n5 (show OFs _ [] [] _ from trivial) (by omega) (by omega)))))))
  refine (key.moved (fun b hb' _ => ?_)).mono (fun b hb'=>⟨by have:=hb'.1; omega,by have:=hb'.2; simpa using this⟩)
  have e1:∀ (j:Nat) (u:Value) (W:World),(W.setCell ⟨w.heap.size+1,j,none⟩ u).heap[b]? = W.heap[b]? := fun j u W=>Below.heap_setCell W _ u b (by have:=hb'.1; simp; omega)
  have e2:∀ (j:Nat) (u:Value) (W:World),(W.setCell ⟨w.heap.size+1+1,j,none⟩ u).heap[b]? = W.heap[b]? := fun j u W=>Below.heap_setCell W _ u b (by have:=hb'.1; simp; omega)
  simp only [e1,e2]
 ·iterate 13 refine Below.setCell ?_ (by simp; try omega) _
  exact HF.out.1
theorem infoDMsg:(Tryz.prog.info? 67).map (fun i=>(i.zero,i.size,i.bytes))=some (some (.agg #[.int .i64 0,.int .i64 0,.int .i64 0,.int .i64 0,.int .i64 0,.int .i64 0,.int .i64 0,.int .i64 0,.slice none 0 0]),9,88):=by kernel_rfl
theorem makeDMsg (n:Nat) (hn:n≤1048576) (w:World):(Instr.makeSlice 43 (.int .i64 (n:Int)) (.int .i64 (n:Int))).run Tryz.prog w = .ok (.slice (some ⟨w.heap.size,0,none⟩) n n) (w.alloc (.cells (madeCells #[.int .i64 0,.int .i64 0,.int .i64 0,.int .i64 0,.int .i64 0,.int .i64 0,.int .i64 0,.int .i64 0,.slice none 0 0] (n * 9)) 67)):=by
 obtain ⟨i0,hi,hz0,hz1,hz2⟩:=info_parts infoDMsg
 have h:=run_make (P:=Tryz.prog) w 43 67 i0 _ Tryz.underlying43 hi hz0 .i64 .i64 (n:Int) (n:Int) (by omega) (by omega) (by rw [hz2]; omega) (by omega)
 rw [h,hz1]
 rfl
theorem toMsgS_dt:ToS 46 MsgR:=by
 intro v xs S w hP h hb
 have hlen:=bulkS_len xs
 have hBA:=@bulkS_at xs
 have hN:=(show Hid (_∧_) from ⟨hP.len MsgR.len,trivial⟩)
 have HC:=(show Hid (_∧_) from ⟨h,hP⟩)
 obtain ⟨a,cap,rfl⟩:=h.form
 have hmk:=makeDMsg xs.length (by omega)
 clear h hP
 have R0:Hid (RowTo (w.alloc (.cells (madeCells #[.int .i64 0,.int .i64 0,.int .i64 0,.int .i64 0,.int .i64 0,.int .i64 0,.int .i64 0,.int .i64 0,.slice none 0 0] (xs.length * 9)) 67)) 67 w.heap.size 9 0 xs):=RowTo.start (MapKept.heap_alloc w _).1 (by rw [size_madeCells])
 have B0:Below w.heap.size w (w.alloc (.cells (madeCells #[.int .i64 0,.int .i64 0,.int .i64 0,.int .i64 0,.int .i64 0,.int .i64 0,.int .i64 0,.int .i64 0,.slice none 0 0] (xs.length * 9)) 67)):=(Below.refl _ w).alloc (Nat.le_refl _) _
 generalize madeCells #[.int .i64 0,.int .i64 0,.int .i64 0,.int .i64 0,.int .i64 0,.int .i64 0,.int .i64 0,.int .i64 0,.slice none 0 0] (xs.length * 9)=c0 at *
 go_enter Tryz.func46,Tryz.ntmps46
 go_wp2
 clear hmk
 go_loopw [4] (fun i wr=>∃ k:Nat,k≤xs.length∧i = .int .i64 k∧Hid (RowTo wr 67 w.heap.size 9 k xs)∧Below w.heap.size w wr) (fun i _=>xs.length - (intOf i).toNat)
 case atStart=>exact ⟨0,Nat.zero_le _,rfl,R0,B0⟩
 case round =>
  clear R0 B0
  obtain ⟨k,hk,rfl,HR,hbw⟩:=hrel
  by_cases hkl:k<xs.length
  ·have he:=List.getElem?_eq_getElem hkl
   have hbk:=hBA he
   generalize xs[k]=r at *
   obtain ⟨z0,z1,z2,z3,z4,z5,z6,z7,x8,rfl,q8⟩:=HC.out.2 k r he
   obtain ⟨b,off,rfl,-,hlb,us,hhus⟩:=HC.out.1.at he
   have c0:w.cell? ⟨b,off+k * 9,none⟩=some (us 0):=(hhus 0 _ rfl).1
   have a0:=(hhus 0 _ rfl).2
   have c1:w.cell? ⟨b,off+k * 9+1,none⟩=some (us 1):=(hhus 1 _ rfl).1
   have a1:=(hhus 1 _ rfl).2
   have c2:w.cell? ⟨b,off+k * 9+2,none⟩=some (us 2):=(hhus 2 _ rfl).1
   have a2:=(hhus 2 _ rfl).2
   have c3:w.cell? ⟨b,off+k * 9+3,none⟩=some (us 3):=(hhus 3 _ rfl).1
   have a3:=(hhus 3 _ rfl).2
   have c4:w.cell? ⟨b,off+k * 9+4,none⟩=some (us 4):=(hhus 4 _ rfl).1
   have a4:=(hhus 4 _ rfl).2
   have c5:w.cell? ⟨b,off+k * 9+5,none⟩=some (us 5):=(hhus 5 _ rfl).1
   have a5:=(hhus 5 _ rfl).2
   have c6:w.cell? ⟨b,off+k * 9+6,none⟩=some (us 6):=(hhus 6 _ rfl).1
   have a6:=(hhus 6 _ rfl).2
   have c7:w.cell? ⟨b,off+k * 9+7,none⟩=some (us 7):=(hhus 7 _ rfl).1
   have a7:=(hhus 7 _ rfl).2
   have c8:w.cell? ⟨b,off+k * 9+8,none⟩=some (us 8):=(hhus 8 _ rfl).1
   have a8:=(hhus 8 _ rfl).2
   clear hhus
   obtain ⟨a0e,a0r⟩:=a0.ofInt
   rw [a0e] at c0 a0
   clear a0e
   obtain ⟨a1e,a1r⟩:=a1.ofInt
   rw [a1e] at c1 a1
   clear a1e
   obtain ⟨a2e,a2r⟩:=a2.ofInt
   rw [a2e] at c2 a2
   clear a2e
   obtain ⟨a3e,a3r⟩:=a3.ofInt
   rw [a3e] at c3 a3
   clear a3e
   obtain ⟨a4e,a4r⟩:=a4.ofInt
   rw [a4e] at c4 a4
   clear a4e
   obtain ⟨a5e,a5r⟩:=a5.ofInt
   rw [a5e] at c5 a5
   clear a5e
   obtain ⟨a6e,a6r⟩:=a6.ofInt
   rw [a6e] at c6 a6
   clear a6e
   obtain ⟨a7e,a7r⟩:=a7.ofInt
   rw [a7e] at c7 a7
   clear a7e
   obtain ⟨p8,d8,a8e⟩:=a8.form
   rw [a8e] at c8 a8
   clear a8e
   rw [← hbw.cell (by exact hlb)] at c0 c1 c2 c3 c4 c5 c6 c7 c8
   have HX:Hid (FsAt wr S [.int .i64 z0,.int .i64 z1,.int .i64 z2,.int .i64 z3,.int .i64 z4,.int .i64 z5,.int .i64 z6,.int .i64 z7,.slice p8 x8.length d8] [.int z0,.int z1,.int z2,.int z3,.int z4,.int z5,.int z6,.int z7,.row x8]):=⟨a0.up hbw,a1.up hbw,a2.up hbw,a3.up hbw,a4.up hbw,a5.up hbw,a6.up hbw,a7.up hbw,a8.up hbw,trivial⟩
   have HQ:Hid (MsgR [.int z0,.int z1,.int z2,.int z3,.int z4,.int z5,.int z6,.int z7,.row x8]):=HC.out.2 k _ he
   have HH:=(show Hid (_∧True) from ⟨he,trivial⟩)
   clear he HC hBA a0 a1 a2 a3 a4 a5 a6 a7 a8 q8
   have hlt':((k:Nat):Int)<((xs.length:Nat):Int):=by omega
   go_wp2_with fail
   refine (toMsg_dt [.int .i64 z0,.int .i64 z1,.int .i64 z2,.int .i64 z3,.int .i64 z4,.int .i64 z5,.int .i64 z6,.int .i64 z7,.slice p8 x8.length d8] [.int z0,.int z1,.int z2,.int z3,.int z4,.int z5,.int z6,.int z7,.row x8] S _ HQ.out HX.out (by omega)).mono ?_
   rintro e w1 ⟨us,rfl,o1,b1⟩
   obtain ⟨v0,v1,v2,v3,v4,v5,v6,v7,v8,rfl,k0,k1,k2,k3,k4,k5,k6,k7,k8⟩:=fs9 o1.at
   obtain ⟨rfl,-⟩:=k0.ofInt
   obtain ⟨rfl,-⟩:=k1.ofInt
   obtain ⟨rfl,-⟩:=k2.ofInt
   obtain ⟨rfl,-⟩:=k3.ofInt
   obtain ⟨rfl,-⟩:=k4.ofInt
   obtain ⟨rfl,-⟩:=k5.ofInt
   obtain ⟨rfl,-⟩:=k6.ofInt
   obtain ⟨rfl,-⟩:=k7.ofInt
   obtain ⟨s8,t8,rfl⟩:=k8.form
   clear k0 k1 k2 k3 k4 k5 k6 k7 k8
   have HN:=(show Hid (_∧_) from ⟨RowTo.next HR.out b1 HH.out.1 hN.out.1 o1,trivial⟩)
   obtain ⟨cur,-,-,hg,hs,-⟩:=HR.out
   have hg1:w1.heap[w.heap.size]? = some (.cells cur 67 (0,0)):=(b1.block _ (lh hg)).trans hg
   have B1:Below w.heap.size w w1:=hbw.trans (b1.mono hbw.size)
   have g0:w1.cell? ⟨w.heap.size,k * 9,none⟩=some (cur[k * 9]'(by omega)):=by rw [cell_of_block hg1]; exact Array.getElem?_eq_getElem _
   generalize cur[k * 9]'(by omega)=y0 at g0
   have f0:w1.frozen? ⟨w.heap.size,k * 9,none⟩=false:=unfrozen_of_block hg1 _
   have g1:w1.cell? ⟨w.heap.size,k * 9+1,none⟩=some (cur[k * 9+1]'(by omega)):=by rw [cell_of_block hg1]; exact Array.getElem?_eq_getElem _
   generalize cur[k * 9+1]'(by omega)=y1 at g1
   have f1:w1.frozen? ⟨w.heap.size,k * 9+1,none⟩=false:=unfrozen_of_block hg1 _
   have g2:w1.cell? ⟨w.heap.size,k * 9+2,none⟩=some (cur[k * 9+2]'(by omega)):=by rw [cell_of_block hg1]; exact Array.getElem?_eq_getElem _
   generalize cur[k * 9+2]'(by omega)=y2 at g2
   have f2:w1.frozen? ⟨w.heap.size,k * 9+2,none⟩=false:=unfrozen_of_block hg1 _
   have g3:w1.cell? ⟨w.heap.size,k * 9+3,none⟩=some (cur[k * 9+3]'(by omega)):=by rw [cell_of_block hg1]; exact Array.getElem?_eq_getElem _
   generalize cur[k * 9+3]'(by omega)=y3 at g3
   have f3:w1.frozen? ⟨w.heap.size,k * 9+3,none⟩=false:=unfrozen_of_block hg1 _
   have g4:w1.cell? ⟨w.heap.size,k * 9+4,none⟩=some (cur[k * 9+4]'(by omega)):=by rw [cell_of_block hg1]; exact Array.getElem?_eq_getElem _
   generalize cur[k * 9+4]'(by omega)=y4 at g4
   have f4:w1.frozen? ⟨w.heap.size,k * 9+4,none⟩=false:=unfrozen_of_block hg1 _
   have g5:w1.cell? ⟨w.heap.size,k * 9+5,none⟩=some (cur[k * 9+5]'(by omega)):=by rw [cell_of_block hg1]; exact Array.getElem?_eq_getElem _
   generalize cur[k * 9+5]'(by omega)=y5 at g5
   have f5:w1.frozen? ⟨w.heap.size,k * 9+5,none⟩=false:=unfrozen_of_block hg1 _
   have g6:w1.cell? ⟨w.heap.size,k * 9+6,none⟩=some (cur[k * 9+6]'(by omega)):=by rw [cell_of_block hg1]; exact Array.getElem?_eq_getElem _
   generalize cur[k * 9+6]'(by omega)=y6 at g6
   have f6:w1.frozen? ⟨w.heap.size,k * 9+6,none⟩=false:=unfrozen_of_block hg1 _
   have g7:w1.cell? ⟨w.heap.size,k * 9+7,none⟩=some (cur[k * 9+7]'(by omega)):=by rw [cell_of_block hg1]; exact Array.getElem?_eq_getElem _
   generalize cur[k * 9+7]'(by omega)=y7 at g7
   have f7:w1.frozen? ⟨w.heap.size,k * 9+7,none⟩=false:=unfrozen_of_block hg1 _
   have g8:w1.cell? ⟨w.heap.size,k * 9+8,none⟩=some (cur[k * 9+8]'(by omega)):=by rw [cell_of_block hg1]; exact Array.getElem?_eq_getElem _
   generalize cur[k * 9+8]'(by omega)=y8 at g8
   have f8:w1.frozen? ⟨w.heap.size,k * 9+8,none⟩=false:=unfrozen_of_block hg1 _
   clear hg hg1 hs o1 b1 HX HQ HH HR hN c0 c1 c2 c3 c4 c5 c6 c7 c8
   go_wp2
   refine ⟨⟨k+1,by omega,by go_num,HN.out.1,?_⟩,by simp [intOf]; omega⟩
   exact (((((((((B1.setCell (p:=⟨w.heap.size,k * 9,none⟩) (Nat.le_refl _) _).setCell (p:=⟨w.heap.size,k * 9+1,none⟩) (Nat.le_refl _) _).setCell (p:=⟨w.heap.size,k * 9+2,none⟩) (Nat.le_refl _) _).setCell (p:=⟨w.heap.size,k * 9+3,none⟩) (Nat.le_refl _) _).setCell (p:=⟨w.heap.size,k * 9+4,none⟩) (Nat.le_refl _) _).setCell (p:=⟨w.heap.size,k * 9+5,none⟩) (Nat.le_refl _) _).setCell (p:=⟨w.heap.size,k * 9+6,none⟩) (Nat.le_refl _) _).setCell (p:=⟨w.heap.size,k * 9+7,none⟩) (Nat.le_refl _) _).setCell (p:=⟨w.heap.size,k * 9+8,none⟩) (Nat.le_refl _) _)
  ·obtain rfl:k=xs.length:=by omega
   have HF:=(show Hid (_∧_) from ⟨RowTo.done HR.out hN.out.1 (by unfold maxLen; omega) rfl,trivial⟩)
   clear HR HC
   go_wp2
   go_ret
   exact ⟨_,rfl,HF.out.1,hbw⟩
end Go.Proofs.YtmmadoabejgffaaGreatDoor
