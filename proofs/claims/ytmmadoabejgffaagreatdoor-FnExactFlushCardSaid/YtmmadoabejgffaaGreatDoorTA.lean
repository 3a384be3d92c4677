/-
  Proofs.
-/
import Derived.Test.YtmmadoabejgffaaGreatDoorB
import Derived.Test.YtmmadoabejgffaaGreatDoorA
namespace Go.Proofs.YtmmadoabejgffaaGreatDoor
open Go.RowKit Go.Joins
set_option maxRecDepth 100000
set_option maxHeartbeats 51200000
theorem infoDInt:(Tryz.prog.info? 3).map (fun i=>(i.zero,i.size,i.bytes))=some (some (.int .i64 0),1,8):=by kernel_rfl
theorem makeDInt (n:Nat) (hn:n≤1048576) (w:World):(Instr.makeSlice 23 (.int .i64 (n:Int)) (.int .i64 (n:Int))).run Tryz.prog w = .ok (.slice (some ⟨w.heap.size,0,none⟩) n n) (w.alloc (.cells (madeCells #[.int .i64 0] n) 3)):=by
 obtain ⟨i0,hi,hz0,hz1,hz2⟩:=info_parts infoDInt
 have h:=run_make (P:=Tryz.prog) w 23 3 i0 _ Tryz.underlying23 hi hz0 .i64 .i64 (n:Int) (n:Int) (by omega) (by omega) (by rw [hz2]; omega) (by omega)
 rw [h,hz1]
 simp [Value.cells]
theorem toIntS_dt:ToS 45 IntR:=by
 intro v xs S w hP h hb
 have hlen:=bulkS_len xs
 have hBA:=@bulkS_at xs
 have hN:=(show Hid (_∧_) from ⟨hP.len IntR.len,trivial⟩)
 have HC:=(show Hid (_∧_) from ⟨h,hP⟩)
 obtain ⟨a,cap,rfl⟩:=h.form
 have hmk:=makeDInt xs.length (by omega)
 clear h hP
 have R0:Hid (RowTo (w.alloc (.cells (madeCells #[.int .i64 0] xs.length) 3)) 3 w.heap.size 1 0 xs):=RowTo.start (MapKept.heap_alloc w _).1 (by rw [size_madeCells]; simp)
 have B0:Below w.heap.size w (w.alloc (.cells (madeCells #[.int .i64 0] xs.length) 3)):=(Below.refl _ w).alloc (Nat.le_refl _) _
 generalize madeCells #[.int .i64 0] xs.length=c0 at *
 go_enter Tryz.func45,Tryz.ntmps45
 go_wp2
 clear hmk
 go_loopw [4] (fun i wr=>∃ k:Nat,k≤xs.length∧i = .int .i64 k∧Hid (RowTo wr 3 w.heap.size 1 k xs)∧Below w.heap.size w wr) (fun i _=>xs.length - (intOf i).toNat)
 case atStart=>exact ⟨0,Nat.zero_le _,rfl,R0,B0⟩
 case round =>
  clear R0 B0
  obtain ⟨k,hk,rfl,HR,hbw⟩:=hrel
  by_cases hkl:k<xs.length
  ·have he:=List.getElem?_eq_getElem hkl
   have hbk:=hBA he
   generalize xs[k]=r at *
   obtain ⟨z0,rfl⟩:=HC.out.2 k r he
   obtain ⟨b,off,rfl,-,hlb,us,hhus⟩:=HC.out.1.at he
   have c0:w.cell? ⟨b,off+k,none⟩=some (us 0):=by have:=(hhus 0 _ rfl).1; simpa using this
   have a0:=(hhus 0 _ rfl).2
   clear hhus
   obtain ⟨a0e,a0r⟩:=a0.ofInt
   rw [a0e] at c0 a0
   clear a0e
   rw [← hbw.cell (by exact hlb)] at c0
   have HN0:RowTo (wr.setCell ⟨w.heap.size,k,none⟩ (.int .i64 z0)) 3 w.heap.size 1 (k+1) xs:=by
    have:=RowTo.next (us:=[.int .i64 z0]) HR.out (Below.refl _ wr) he hN.out.1 (OFs.int a0r (show OFs _ [] [] _ from trivial))
    simpa [setN] using this
   have HN:=(show Hid (_∧True) from ⟨HN0,trivial⟩)
   clear HN0
   obtain ⟨cur,-,-,hg,hs,-⟩:=HR.out
   have d0':wr.cell? ⟨w.heap.size,k,none⟩=some (cur[k]'(by omega)):=by rw [cell_of_block hg]; exact Array.getElem?_eq_getElem _
   generalize cur[k]'(by omega)=y0 at d0'
   have f0:wr.frozen? ⟨w.heap.size,k,none⟩=false:=unfrozen_of_block hg _
   clear he HC hg hs HR a0 a0r hN
   have hlt':((k:Nat):Int)<((xs.length:Nat):Int):=by omega
   go_wp2
   exact ⟨⟨k+1,by omega,by go_num,HN.out.1,hbw.setCell (p:=⟨w.heap.size,k,none⟩) (Nat.le_refl _) _⟩,by simp [intOf]; omega⟩
  ·obtain rfl:k=xs.length:=by omega
   have HF:=(show Hid (_∧_) from ⟨RowTo.done HR.out hN.out.1 (by unfold maxLen; omega) rfl,trivial⟩)
   clear HR HC
   go_wp2
   go_ret
   exact ⟨_,rfl,HF.out.1,hbw⟩
theorem toCode_dt:ToC 121 CodeR:=by
 rintro vs r S w ⟨z0,z1,b2,x3,rfl,q3⟩ h hb
 obtain ⟨v0,v1,v2,v3,rfl,a0,a1,a2,a3⟩:=fs4 h
 obtain ⟨rfl,ia0⟩:=a0.ofInt
 obtain ⟨rfl,ia1⟩:=a1.ofInt
 obtain ⟨rfl,ia2⟩:=a2.ofStr
 obtain ⟨p3,c3,rfl⟩:=a3.form
 have hbk:Dt.bR [.int z0,.int z1,.str b2,.row x3]=b2.size+Dt.bS x3:=by simp [Dt.bR,Dt.bulk]; try omega
 rw [hbk] at hb
 clear hbk h
 have HI:=(show Hid (_∧_∧_∧_) from ⟨ia0,ia1,ia2,trivial⟩)
 have HA:=(show Hid (_∧_) from ⟨a3,trivial⟩)
 clear a0 a1 a2 a3 ia0 ia1 ia2
 obtain ⟨W0,hW0⟩:∃ W0,W0=((w.alloc (.cells #[.int .i64 z0,.int .i64 z1,.string b2,.slice p3 x3.length c3] 180)).alloc (.cells #[.int .i64 0,.int .i64 0,.string ⟨#[]⟩,.slice none 0 0] 182)).alloc (.cells #[.int .i64 z0,.int .i64 z1,.string b2,.slice none 0 0] 182):=⟨_,rfl⟩
 have B:Below w.heap.size w W0:=by rw [hW0]; exact (((Below.refl _ w).alloc (Nat.le_refl _) _).alloc (by simp) _).alloc (by simp; omega) _
 have SZ:W0.heap.size=w.heap.size+3:=by rw [hW0]; simp
 have O0:W0.heap[w.heap.size]? = some (.cells #[.int .i64 z0,.int .i64 z1,.string b2,.slice p3 x3.length c3] 180):=by rw [hW0]; exact (Below.heap_alloc _ _ _ (by simp; omega)).trans ((Below.heap_alloc _ _ _ (by simp)).trans (MapKept.heap_alloc w _).1)
 have O1:W0.heap[w.heap.size+1]? = some (.cells #[.int .i64 0,.int .i64 0,.string ⟨#[]⟩,.slice none 0 0] 182):=by
  rw [hW0]
  have:=(MapKept.heap_alloc (w.alloc (.cells #[.int .i64 z0,.int .i64 z1,.string b2,.slice p3 x3.length c3] 180)) (.cells #[.int .i64 0,.int .i64 0,.string ⟨#[]⟩,.slice none 0 0] 182)).1
  exact (Below.heap_alloc _ _ _ (by simp)).trans (by simpa using this)
 have O2:W0.heap[w.heap.size+1+1]? = some (.cells #[.int .i64 z0,.int .i64 z1,.string b2,.slice none 0 0] 182):=by
  rw [hW0]
  have:=(MapKept.heap_alloc ((w.alloc (.cells #[.int .i64 z0,.int .i64 z1,.string b2,.slice p3 x3.length c3] 180)).alloc (.cells #[.int .i64 0,.int .i64 0,.string ⟨#[]⟩,.slice none 0 0] 182)) (.cells #[.int .i64 z0,.int .i64 z1,.string b2,.slice none 0 0] 182)).1
  simpa using this
 have HS:=(show Hid (_∧_∧_∧_∧_∧_) from ⟨O0,O1,O2,B,SZ,trivial⟩)
 have HW:=(show Hid (_∧True) from ⟨hW0,trivial⟩)
 clear O0 O1 O2 B SZ hW0
 go_enter Tryz.func121,Tryz.ntmps121
 go_wp2_with fail
 rw [← HW.out.1]
 refine (toIntS_dt _ x3 S _ q3 (HA.out.1.up HS.out.2.2.2.1) (by omega)).mono ?_
 rintro e w1 ⟨u,rfl,n3,bb⟩
 obtain ⟨s3,t3,rfl⟩:=n3.form
 obtain ⟨O0,O1,O2,B,SZ,-⟩:=HS.out
 rw [SZ] at n3
 have zw1:w.heap.size+3≤w1.heap.size:=by have:=bb.size; rw [SZ] at this; exact this
 have O0:=(bb.block _ (lh O0)).trans O0
 have O1:=(bb.block _ (lh O1)).trans O1
 have O2:=(bb.block _ (lh O2)).trans O2
 have B:=B.trans (bb.mono B.size)
 have y2_0:=cb O2 0 (.int .i64 z0) rfl
 have y2_1:=cb O2 1 (.int .i64 z1) rfl
 have y2_2:=cb O2 2 (.string b2) rfl
 have y2_3:=cb O2 3 (.slice none 0 0) rfl
 have f2_3:=ub O2 3
 have y1_0:=cb O1 0 (.int .i64 0) rfl
 have f1_0:=ub O1 0
 have y1_1:=cb O1 1 (.int .i64 0) rfl
 have f1_1:=ub O1 1
 have y1_2:=cb O1 2 (.string ⟨#[]⟩) rfl
 have f1_2:=ub O1 2
 have y1_3:=cb O1 3 (.slice none 0 0) rfl
 have f1_3:=ub O1 3
 have HF:=(show Hid (_∧_∧_) from ⟨B,n3,trivial⟩)
 clear O0 O1 O2 B SZ bb HS HW n3
 go_wp2
 refine bodyPost_ret (v:=.agg #[.int .i64 z0,.int .i64 z1,.string b2,.slice s3 x3.length t3]) (by simp [results,Tryz.results121,go_sem,y1_0,y1_1,y1_2,y1_3]) rfl ⟨_,rfl,?_,?_⟩
 ·obtain ⟨-,n3,-⟩:=HF.out
  have key:OFs w1 [.int .i64 z0,.int .i64 z1,.string b2,.slice s3 x3.length t3] [.int z0,.int z1,.str b2,.row x3] (Btw (w.heap.size+3) w1.heap.size):=(OFs.int HI.out.1 (OFs.int HI.out.2.1 (OFs.str HI.out.2.2.1 (OFs.cons n3 (show OFs _ [] [] _ from trivial) (by omega) (by omega)))))
  refine (key.moved (fun b hb' _ => ?_)).mono (fun b hb'=>⟨by have:=hb'.1; omega,by have:=hb'.2; simpa using this⟩)
  have e1:∀ (j:Nat) (u:Value) (W:World),(W.setCell ⟨w.heap.size+1,j,none⟩ u).heap[b]? = W.heap[b]? := fun j u W=>Below.heap_setCell W _ u b (by have:=hb'.1; simp; omega)
  have e2:∀ (j:Nat) (u:Value) (W:World),(W.setCell ⟨w.heap.size+1+1,j,none⟩ u).heap[b]? = W.heap[b]? := fun j u W=>Below.heap_setCell W _ u b (by have:=hb'.1; simp; omega)
  simp only [e1,e2]
 ·iterate 5 refine Below.setCell ?_ (by simp; try omega) _
  exact HF.out.1
theorem infoDCode:(Tryz.prog.info? 182).map (fun i=>(i.zero,i.size,i.bytes))=some (some (.agg #[.int .i64 0,.int .i64 0,.string ⟨#[]⟩,.slice none 0 0]),4,56):=by kernel_rfl
theorem makeDCode (n:Nat) (hn:n≤1048576) (w:World):(Instr.makeSlice 38 (.int .i64 (n:Int)) (.int .i64 (n:Int))).run Tryz.prog w = .ok (.slice (some ⟨w.heap.size,0,none⟩) n n) (w.alloc (.cells (madeCells #[.int .i64 0,.int .i64 0,.string ⟨#[]⟩,.slice none 0 0] (n * 4)) 182)):=by
 obtain ⟨i0,hi,hz0,hz1,hz2⟩:=info_parts infoDCode
 have h:=run_make (P:=Tryz.prog) w 38 182 i0 _ Tryz.underlying38 hi hz0 .i64 .i64 (n:Int) (n:Int) (by omega) (by omega) (by rw [hz2]; omega) (by omega)
 rw [h,hz1]
 rfl
theorem toCodeS_dt:ToS 92 CodeR:=by
 intro v xs S w hP h hb
 have hlen:=bulkS_len xs
 have hBA:=@bulkS_at xs
 have hN:=(show Hid (_∧_) from ⟨hP.len CodeR.len,trivial⟩)
 have HC:=(show Hid (_∧_) from ⟨h,hP⟩)
 obtain ⟨a,cap,rfl⟩:=h.form
 have hmk:=makeDCode xs.length (by omega)
 clear h hP
 have R0:Hid (RowTo (w.alloc (.cells (madeCells #[.int .i64 0,.int .i64 0,.string ⟨#[]⟩,.slice none 0 0] (xs.length * 4)) 182)) 182 w.heap.size 4 0 xs):=RowTo.start (MapKept.heap_alloc w _).1 (by rw [size_madeCells])
 have B0:Below w.heap.size w (w.alloc (.cells (madeCells #[.int .i64 0,.int .i64 0,.string ⟨#[]⟩,.slice none 0 0] (xs.length * 4)) 182)):=(Below.refl _ w).alloc (Nat.le_refl _) _
 generalize madeCells #[.int .i64 0,.int .i64 0,.string ⟨#[]⟩,.slice none 0 0] (xs.length * 4)=c0 at *
 go_enter Tryz.func92,Tryz.ntmps92
 go_wp2
 clear hmk
 go_loopw [4] (fun i wr=>∃ k:Nat,k≤xs.length∧i = .int .i64 k∧Hid (RowTo wr 182 w.heap.size 4 k xs)∧Below w.heap.size w wr) (fun i _=>xs.length - (intOf i).toNat)
 case atStart=>exact ⟨0,Nat.zero_le _,rfl,R0,B0⟩
 case round =>
  clear R0 B0
  obtain ⟨k,hk,rfl,HR,hbw⟩:=hrel
  by_cases hkl:k<xs.length
  ·have he:=List.getElem?_eq_getElem hkl
   have hbk:=hBA he
   generalize xs[k]=r at *
   obtain ⟨z0,z1,b2,x3,rfl,q3⟩:=HC.out.2 k r he
   obtain ⟨b,off,rfl,-,hlb,us,hhus⟩:=HC.out.1.at he
   have c0:w.cell? ⟨b,off+k * 4,none⟩=some (us 0):=(hhus 0 _ rfl).1
   have a0:=(hhus 0 _ rfl).2
   have c1:w.cell? ⟨b,off+k * 4+1,none⟩=some (us 1):=(hhus 1 _ rfl).1
   have a1:=(hhus 1 _ rfl).2
   have c2:w.cell? ⟨b,off+k * 4+2,none⟩=some (us 2):=(hhus 2 _ rfl).1
   have a2:=(hhus 2 _ rfl).2
   have c3:w.cell? ⟨b,off+k * 4+3,none⟩=some (us 3):=(hhus 3 _ rfl).1
   have a3:=(hhus 3 _ rfl).2
   clear hhus
   obtain ⟨a0e,a0r⟩:=a0.ofInt
   rw [a0e] at c0 a0
   clear a0e
   obtain ⟨a1e,a1r⟩:=a1.ofInt
   rw [a1e] at c1 a1
   clear a1e
   obtain ⟨a2e,a2r⟩:=a2.ofStr
   rw [a2e] at c2 a2
   clear a2e
   obtain ⟨p3,d3,a3e⟩:=a3.form
   rw [a3e] at c3 a3
   clear a3e
   rw [← hbw.cell (by exact hlb)] at c0 c1 c2 c3
   have HX:Hid (FsAt wr S [.int .i64 z0,.int .i64 z1,.string b2,.slice p3 x3.length d3] [.int z0,.int z1,.str b2,.row x3]):=⟨a0.up hbw,a1.up hbw,a2.up hbw,a3.up hbw,trivial⟩
   have HQ:Hid (CodeR [.int z0,.int z1,.str b2,.row x3]):=HC.out.2 k _ he
   have HH:=(show Hid (_∧True) from ⟨he,trivial⟩)
   clear he HC hBA a0 a1 a2 a3 q3
   have hlt':((k:Nat):Int)<((xs.length:Nat):Int):=by omega
   go_wp2_with fail
   refine (toCode_dt [.int .i64 z0,.int .i64 z1,.string b2,.slice p3 x3.length d3] [.int z0,.int z1,.str b2,.row x3] S _ HQ.out HX.out (by omega)).mono ?_
   rintro e w1 ⟨us,rfl,o1,b1⟩
   obtain ⟨v0,v1,v2,v3,rfl,k0,k1,k2,k3⟩:=fs4 o1.at
   obtain ⟨rfl,-⟩:=k0.ofInt
   obtain ⟨rfl,-⟩:=k1.ofInt
   obtain ⟨rfl,-⟩:=k2.ofStr
   obtain ⟨s3,t3,rfl⟩:=k3.form
   clear k0 k1 k2 k3
   have HN:=(show Hid (_∧_) from ⟨RowTo.next HR.out b1 HH.out.1 hN.out.1 o1,trivial⟩)
   obtain ⟨cur,-,-,hg,hs,-⟩:=HR.out
   have hg1:w1.heap[w.heap.size]? = some (.cells cur 182 (0,0)):=(b1.block _ (lh hg)).trans hg
   have B1:Below w.heap.size w w1:=hbw.trans (b1.mono hbw.size)
   have g0:w1.cell? ⟨w.heap.size,k * 4,none⟩=some (cur[k * 4]'(by omega)):=by rw [cell_of_block hg1]; exact Array.getElem?_eq_getElem _
   generalize cur[k * 4]'(by omega)=y0 at g0
   have f0:w1.frozen? ⟨w.heap.size,k * 4,none⟩=false:=unfrozen_of_block hg1 _
   have g1:w1.cell? ⟨w.heap.size,k * 4+1,none⟩=some (cur[k * 4+1]'(by omega)):=by rw [cell_of_block hg1]; exact Array.getElem?_eq_getElem _
   generalize cur[k * 4+1]'(by omega)=y1 at g1
   have f1:w1.frozen? ⟨w.heap.size,k * 4+1,none⟩=false:=unfrozen_of_block hg1 _
   have g2:w1.cell? ⟨w.heap.size,k * 4+2,none⟩=some (cur[k * 4+2]'(by omega)):=by rw [cell_of_block hg1]; exact Array.getElem?_eq_getElem _
   generalize cur[k * 4+2]'(by omega)=y2 at g2
   have f2:w1.frozen? ⟨w.heap.size,k * 4+2,none⟩=false:=unfrozen_of_block hg1 _
   have g3:w1.cell? ⟨w.heap.size,k * 4+3,none⟩=some (cur[k * 4+3]'(by omega)):=by rw [cell_of_block hg1]; exact Array.getElem?_eq_getElem _
   generalize cur[k * 4+3]'(by omega)=y3 at g3
   have f3:w1.frozen? ⟨w.heap.size,k * 4+3,none⟩=false:=unfrozen_of_block hg1 _
   clear hg hg1 hs o1 b1 HX HQ HH HR hN c0 c1 c2 c3
   go_wp2
   refine ⟨⟨k+1,by omega,by go_num,HN.out.1,?_⟩,by simp [intOf]; omega⟩
   exact ((((B1.setCell (p:=⟨w.heap.size,k * 4,none⟩) (Nat.le_refl _) _).setCell (p:=⟨w.heap.size,k * 4+1,none⟩) (Nat.le_refl _) _).setCell (p:=⟨w.heap.size,k * 4+2,none⟩) (Nat.le_refl _) _).setCell (p:=⟨w.heap.size,k * 4+3,none⟩) (Nat.le_refl _) _)
  ·obtain rfl:k=xs.length:=by omega
   have HF:=(show Hid (_∧_) from ⟨RowTo.done HR.out hN.out.1 (by unfold maxLen; omega) rfl,trivial⟩)
   clear HR HC
   go_wp2
   go_ret
   exact ⟨_,rfl,HF.out.1,hbw⟩
theorem toTable_dt:ToC 42 TableR:=by
 rintro vs r S w ⟨x0,x1,rfl,q0,q1⟩ h hb
 obtain ⟨v0,v1,rfl,a0,a1⟩:=fs2 h
 obtain ⟨p0,c0,rfl⟩:=a0.form
 obtain ⟨p1,c1,rfl⟩:=a1.form
 have hbk:Dt.bR [.row x0,.row x1]=Dt.bS x0+Dt.bS x1:=by simp [Dt.bR,Dt.bulk]; try omega
 rw [hbk] at hb
 clear hbk h
 have HA:=(show Hid (_∧_∧_) from ⟨a0,a1,trivial⟩)
 clear a0 a1
 obtain ⟨W0,hW0⟩:∃ W0,W0=((w.alloc (.cells #[.slice p0 x0.length c0,.slice p1 x1.length c1] 25)).alloc (.cells #[.slice none 0 0,.slice none 0 0] 40)).alloc (.cells #[.slice none 0 0,.slice none 0 0] 40):=⟨_,rfl⟩
 have B:Below w.heap.size w W0:=by rw [hW0]; exact (((Below.refl _ w).alloc (Nat.le_refl _) _).alloc (by simp) _).alloc (by simp; omega) _
 have SZ:W0.heap.size=w.heap.size+3:=by rw [hW0]; simp
 have O0:W0.heap[w.heap.size]? = some (.cells #[.slice p0 x0.length c0,.slice p1 x1.length c1] 25):=by rw [hW0]; exact (Below.heap_alloc _ _ _ (by simp; omega)).trans ((Below.heap_alloc _ _ _ (by simp)).trans (MapKept.heap_alloc w _).1)
 have O1:W0.heap[w.heap.size+1]? = some (.cells #[.slice none 0 0,.slice none 0 0] 40):=by
  rw [hW0]
  have:=(MapKept.heap_alloc (w.alloc (.cells #[.slice p0 x0.length c0,.slice p1 x1.length c1] 25)) (.cells #[.slice none 0 0,.slice none 0 0] 40)).1
  exact (Below.heap_alloc _ _ _ (by simp)).trans (by simpa using this)
 have O2:W0.heap[w.heap.size+1+1]? = some (.cells #[.slice none 0 0,.slice none 0 0] 40):=by
  rw [hW0]
  have:=(MapKept.heap_alloc ((w.alloc (.cells #[.slice p0 x0.length c0,.slice p1 x1.length c1] 25)).alloc (.cells #[.slice none 0 0,.slice none 0 0] 40)) (.cells #[.slice none 0 0,.slice none 0 0] 40)).1
  simpa using this
 have HS:=(show Hid (_∧_∧_∧_∧_∧_) from ⟨O0,O1,O2,B,SZ,trivial⟩)
 have HW:=(show Hid (_∧True) from ⟨hW0,trivial⟩)
 clear O0 O1 O2 B SZ hW0
 go_enter Tryz.func42,Tryz.ntmps42
 go_wp2_with fail
 rw [← HW.out.1]
 refine (toCodeS_dt _ x0 S _ q0 (HA.out.1.up HS.out.2.2.2.1) (by omega)).mono ?_
 rintro e w1 ⟨u,rfl,n0,bb⟩
 obtain ⟨s0,t0,rfl⟩:=n0.form
 obtain ⟨O0,O1,O2,B,SZ,-⟩:=HS.out
 rw [SZ] at n0
 have zw1:w.heap.size+3≤w1.heap.size:=by have:=bb.size; rw [SZ] at this; exact this
 have O0:=(bb.block _ (lh O0)).trans O0
 have O1:=(bb.block _ (lh O1)).trans O1
 have O2:=(bb.block _ (lh O2)).trans O2
 have B:=B.trans (bb.mono B.size)
 have y0_1:=cb O0 1 (.slice p1 x1.length c1) rfl
 have y2_0:=cb O2 0 (.slice none 0 0) rfl
 have f2_0:=ub O2 0
 obtain ⟨W1,hW⟩:∃ W,W=(w1.setCell ⟨w.heap.size+1+1,0,none⟩ (.slice s0 x0.length t0)):=⟨_,rfl⟩
 have SZ':W1.heap.size=w1.heap.size:=by rw [hW]; simp
 have e2:∀ (b:Nat),b≠w.heap.size+1+1→W1.heap[b]? = w1.heap[b]? := by
  intro b hb'
  rw [hW]
  simp only [Below.heap_setCell _ _ _ b (show b≠(⟨w.heap.size+1+1,_,none⟩:Addr).block from hb')]
 have P0:=(e2 _ (by omega)).trans O0
 have P1:=(e2 _ (by omega)).trans O1
 have P2:W1.heap[w.heap.size+1+1]? = some (.cells #[.slice s0 x0.length t0,.slice none 0 0] 40):=by
  rw [hW]
  have:=(block_setCell (i:=0) O2 (.slice s0 x0.length t0))
  simpa only [List.setIfInBounds_toArray,List.set_cons_zero,List.set_cons_succ] using this
 have PB:Below w.heap.size w W1:=by rw [hW]; exact (B.setCell (p:=⟨w.heap.size+1+1,0,none⟩) (by simp; omega) (.slice s0 x0.length t0))
 have Pn0:=Own.moved n0 (w':=W1) (fun b hb' _=>e2 b (by have:=hb'.1; omega))
 have HS:=(show Hid (_∧_∧_∧_∧_∧_∧_) from ⟨P0,P1,P2,PB,SZ',Pn0,trivial⟩)
 have HW:=(show Hid (_∧True) from ⟨hW,trivial⟩)
 clear O0 O1 O2 B SZ SZ' bb hW e2 P0 P1 P2 PB n0 Pn0
 go_wp2_with fail
 rw [← HW.out.1]
 refine (toIntS_dt _ x1 S _ q1 (HA.out.2.1.up HS.out.2.2.2.1) (by omega)).mono ?_
 rintro e w2 ⟨u,rfl,n1,bb⟩
 obtain ⟨s1,t1,rfl⟩:=n1.form
 obtain ⟨O0,O1,O2,B,SZ,n0,-⟩:=HS.out
 rw [SZ] at n1
 have zw2:w1.heap.size≤w2.heap.size:=by have:=bb.size; rw [SZ] at this; exact this
 have O0:=(bb.block _ (lh O0)).trans O0
 have O1:=(bb.block _ (lh O1)).trans O1
 have O2:=(bb.block _ (lh O2)).trans O2
 have B:=B.trans (bb.mono B.size)
 have n0:=Own.up n0 bb
 have y2_0:=cb O2 0 (.slice s0 x0.length t0) rfl
 have y2_1:=cb O2 1 (.slice none 0 0) rfl
 have f2_1:=ub O2 1
 have y1_0:=cb O1 0 (.slice none 0 0) rfl
 have f1_0:=ub O1 0
 have y1_1:=cb O1 1 (.slice none 0 0) rfl
 have f1_1:=ub O1 1
 have HF:=(show Hid (_∧_∧_∧_) from ⟨B,n0,n1,trivial⟩)
 clear O0 O1 O2 B SZ bb HS HW n0 n1
 go_wp2
 refine bodyPost_ret (v:=.agg #[.slice s0 x0.length t0,.slice s1 x1.length t1]) (by simp [results,Tryz.results42,go_sem,y1_0,y1_1]) rfl ⟨_,rfl,?_,?_⟩
 ·obtain ⟨-,n0,n1,-⟩:=HF.out
  have key:OFs w2 [.slice s0 x0.length t0,.slice s1 x1.length t1] [.row x0,.row x1] (Btw (w.heap.size+3) w2.heap.size):=(OFs.cons n0 (OFs.cons n1 (show OFs _ [] [] _ from trivial) (by omega) (by omega)) (by omega) (by omega))
  refine (key.moved (fun b hb' _ => ?_)).mono (fun b hb'=>⟨by have:=hb'.1; omega,by have:=hb'.2; simpa using this⟩)
  have e1:∀ (j:Nat) (u:Value) (W:World),(W.setCell ⟨w.heap.size+1,j,none⟩ u).heap[b]? = W.heap[b]? := fun j u W=>Below.heap_setCell W _ u b (by have:=hb'.1; simp; omega)
  have e2:∀ (j:Nat) (u:Value) (W:World),(W.setCell ⟨w.heap.size+1+1,j,none⟩ u).heap[b]? = W.heap[b]? := fun j u W=>Below.heap_setCell W _ u b (by have:=hb'.1; simp; omega)
  simp only [e1,e2]
 ·iterate 3 refine Below.setCell ?_ (by simp; try omega) _
  exact HF.out.1
theorem toCell_dt:ToC 93 CellR:=by
 rintro vs r S w ⟨z0,z1,z2,x3,rfl,q3⟩ h hb
 obtain ⟨v0,v1,v2,v3,rfl,a0,a1,a2,a3⟩:=fs4 h
 obtain ⟨rfl,ia0⟩:=a0.ofInt
 obtain ⟨rfl,ia1⟩:=a1.ofInt
 obtain ⟨rfl,ia2⟩:=a2.ofInt
 obtain ⟨p3,c3,rfl⟩:=a3.form
 have hbk:Dt.bR [.int z0,.int z1,.int z2,.row x3]=Dt.bS x3:=by simp [Dt.bR,Dt.bulk]; try omega
 rw [hbk] at hb
 clear hbk h
 have HI:=(show Hid (_∧_∧_∧_) from ⟨ia0,ia1,ia2,trivial⟩)
 have HA:=(show Hid (_∧_) from ⟨a3,trivial⟩)
 clear a0 a1 a2 a3 ia0 ia1 ia2
 obtain ⟨W0,hW0⟩:∃ W0,W0=((w.alloc (.cells #[.int .i64 z0,.int .i64 z1,.int .i64 z2,.slice p3 x3.length c3] 127)).alloc (.cells #[.int .i64 0,.int .i64 0,.int .i64 0,.slice none 0 0] 65)).alloc (.cells #[.int .i64 z0,.int .i64 z1,.int .i64 z2,.slice none 0 0] 65):=⟨_,rfl⟩
 have B:Below w.heap.size w W0:=by rw [hW0]; exact (((Below.refl _ w).alloc (Nat.le_refl _) _).alloc (by simp) _).alloc (by simp; omega) _
 have SZ:W0.heap.size=w.heap.size+3:=by rw [hW0]; simp
 have O0:W0.heap[w.heap.size]? = some (.cells #[.int .i64 z0,.int .i64 z1,.int .i64 z2,.slice p3 x3.length c3] 127):=by rw [hW0]; exact (Below.heap_alloc _ _ _ (by simp; omega)).trans ((Below.heap_alloc _ _ _ (by simp)).trans (MapKept.heap_alloc w _).1)
 have O1:W0.heap[w.heap.size+1]? = some (.cells #[.int .i64 0,.int .i64 0,.int .i64 0,.slice none 0 0] 65):=by
  rw [hW0]
  have:=(MapKept.heap_alloc (w.alloc (.cells #[.int .i64 z0,.int .i64 z1,.int .i64 z2,.slice p3 x3.length c3] 127)) (.cells #[.int .i64 0,.int .i64 0,.int .i64 0,.slice none 0 0] 65)).1
  exact (Below.heap_alloc _ _ _ (by simp)).trans (by simpa using this)
 have O2:W0.heap[w.heap.size+1+1]? = some (.cells #[.int .i64 z0,.int .i64 z1,.int .i64 z2,.slice none 0 0] 65):=by
  rw [hW0]
  have:=(MapKept.heap_alloc ((w.alloc (.cells #[.int .i64 z0,.int .i64 z1,.int .i64 z2,.slice p3 x3.length c3] 127)).alloc (.cells #[.int .i64 0,.int .i64 0,.int .i64 0,.slice none 0 0] 65)) (.cells #[.int .i64 z0,.int .i64 z1,.int .i64 z2,.slice none 0 0] 65)).1
  simpa using this
 have HS:=(show Hid (_∧_∧_∧_∧_∧_) from ⟨O0,O1,O2,B,SZ,trivial⟩)
 have HW:=(show Hid (_∧True) from ⟨hW0,trivial⟩)
 clear O0 O1 O2 B SZ hW0
 go_enter Tryz.func93,Tryz.ntmps93
 go_wp2_with fail
 rw [← HW.out.1]
 refine (toIntS_dt _ x3 S _ q3 (HA.out.1.up HS.out.2.2.2.1) (by omega)).mono ?_
 rintro e w1 ⟨u,rfl,n3,bb⟩
 obtain ⟨s3,t3,rfl⟩:=n3.form
 obtain ⟨O0,O1,O2,B,SZ,-⟩:=HS.out
 rw [SZ] at n3
 have zw1:w.heap.size+3≤w1.heap.size:=by have:=bb.size; rw [SZ] at this; exact this
 have O0:=(bb.block _ (lh O0)).trans O0
 have O1:=(bb.block _ (lh O1)).trans O1
 have O2:=(bb.block _ (lh O2)).trans O2
 have B:=B.trans (bb.mono B.size)
 have y2_0:=cb O2 0 (.int .i64 z0) rfl
 have y2_1:=cb O2 1 (.int .i64 z1) rfl
 have y2_2:=cb O2 2 (.int .i64 z2) rfl
 have y2_3:=cb O2 3 (.slice none 0 0) rfl
 have f2_3:=ub O2 3
 have y1_0:=cb O1 0 (.int .i64 0) rfl
 have f1_0:=ub O1 0
 have y1_1:=cb O1 1 (.int .i64 0) rfl
 have f1_1:=ub O1 1
 have y1_2:=cb O1 2 (.int .i64 0) rfl
 have f1_2:=ub O1 2
 have y1_3:=cb O1 3 (.slice none 0 0) rfl
 have f1_3:=ub O1 3
 have HF:=(show Hid (_∧_∧_) from ⟨B,n3,trivial⟩)
 clear O0 O1 O2 B SZ bb HS HW n3
 go_wp2
 refine bodyPost_ret (v:=.agg #[.int .i64 z0,.int .i64 z1,.int .i64 z2,.slice s3 x3.length t3]) (by simp [results,Tryz.results93,go_sem,y1_0,y1_1,y1_2,y1_3]) rfl ⟨_,rfl,?_,?_⟩
 ·obtain ⟨-,n3,-⟩:=HF.out
  have key:OFs w1 [.int .i64 z0,.int .i64 z1,.int .i64 z2,.slice s3 x3.length t3] [.int z0,.int z1,.int z2,.row x3] (Btw (w.heap.size+3) w1.heap.size):=(OFs.int HI.out.1 (OFs.int HI.out.2.1 (OFs.int HI.out.2.2.1 (OFs.cons n3 (show OFs _ [] [] _ from trivial) (by omega) (by omega)))))
  refine (key.moved (fun b hb' _ => ?_)).mono (fun b hb'=>⟨by have:=hb'.1; omega,by have:=hb'.2; simpa using this⟩)
  have e1:∀ (j:Nat) (u:Value) (W:World),(W.setCell ⟨w.heap.size+1,j,none⟩ u).heap[b]? = W.heap[b]? := fun j u W=>Below.heap_setCell W _ u b (by have:=hb'.1; simp; omega)
  have e2:∀ (j:Nat) (u:Value) (W:World),(W.setCell ⟨w.heap.size+1+1,j,none⟩ u).heap[b]? = W.heap[b]? := fun j u W=>Below.heap_setCell W _ u b (by have:=hb'.1; simp; omega)
  simp only [e1,e2]
 ·iterate 5 refine Below.setCell ?_ (by simp; try omega) _
  exact HF.out.1
theorem infoDCell:(Tryz.prog.info? 65).map (fun i=>(i.zero,i.size,i.bytes))=some (some (.agg #[.int .i64 0,.int .i64 0,.int .i64 0,.slice none 0 0]),4,48):=by kernel_rfl
theorem makeDCell (n:Nat) (hn:n≤1048576) (w:World):(Instr.makeSlice 41 (.int .i64 (n:Int)) (.int .i64 (n:Int))).run Tryz.prog w = .ok (.slice (some ⟨w.heap.size,0,none⟩) n n) (w.alloc (.cells (madeCells #[.int .i64 0,.int .i64 0,.int .i64 0,.slice none 0 0] (n * 4)) 65)):=by
 obtain ⟨i0,hi,hz0,hz1,hz2⟩:=info_parts infoDCell
 have h:=run_make (P:=Tryz.prog) w 41 65 i0 _ Tryz.underlying41 hi hz0 .i64 .i64 (n:Int) (n:Int) (by omega) (by omega) (by rw [hz2]; omega) (by omega)
 rw [h,hz1]
 rfl
theorem toCellS_dt:ToS 43 CellR:=by
 intro v xs S w hP h hb
 have hlen:=bulkS_len xs
 have hBA:=@bulkS_at xs
 have hN:=(show Hid (_∧_) from ⟨hP.len CellR.len,trivial⟩)
 have HC:=(show Hid (_∧_) from ⟨h,hP⟩)
 obtain ⟨a,cap,rfl⟩:=h.form
 have hmk:=makeDCell xs.length (by omega)
 clear h hP
 have R0:Hid (RowTo (w.alloc (.cells (madeCells #[.int .i64 0,.int .i64 0,.int .i64 0,.slice none 0 0] (xs.length * 4)) 65)) 65 w.heap.size 4 0 xs):=RowTo.start (MapKept.heap_alloc w _).1 (by rw [size_madeCells])
 have B0:Below w.heap.size w (w.alloc (.cells (madeCells #[.int .i64 0,.int .i64 0,.int .i64 0,.slice none 0 0] (xs.length * 4)) 65)):=(Below.refl _ w).alloc (Nat.le_refl _) _
 generalize madeCells #[.int .i64 0,.int .i64 0,.int .i64 0,.slice none 0 0] (xs.length * 4)=c0 at *
 go_enter Tryz.func43,Tryz.ntmps43
 go_wp2
 clear hmk
 go_loopw [4] (fun i wr=>∃ k:Nat,k≤xs.length∧i = .int .i64 k∧Hid (RowTo wr 65 w.heap.size 4 k xs)∧Below w.heap.size w wr) (fun i _=>xs.length - (intOf i).toNat)
 case atStart=>exact ⟨0,Nat.zero_le _,rfl,R0,B0⟩
 case round =>
  clear R0 B0
  obtain ⟨k,hk,rfl,HR,hbw⟩:=hrel
  by_cases hkl:k<xs.length
  ·have he:=List.getElem?_eq_getElem hkl
   have hbk:=hBA he
   generalize xs[k]=r at *
   obtain ⟨z0,z1,z2,x3,rfl,q3⟩:=HC.out.2 k r he
   obtain ⟨b,off,rfl,-,hlb,us,hhus⟩:=HC.out.1.at he
   have c0:w.cell? ⟨b,off+k * 4,none⟩=some (us 0):=(hhus 0 _ rfl).1
   have a0:=(hhus 0 _ rfl).2
   have c1:w.cell? ⟨b,off+k * 4+1,none⟩=some (us 1):=(hhus 1 _ rfl).1
   have a1:=(hhus 1 _ rfl).2
   have c2:w.cell? ⟨b,off+k * 4+2,none⟩=some (us 2):=(hhus 2 _ rfl).1
   have a2:=(hhus 2 _ rfl).2
   have c3:w.cell? ⟨b,off+k * 4+3,none⟩=some (us 3):=(hhus 3 _ rfl).1
   have a3:=(hhus 3 _ rfl).2
   clear hhus
   obtain ⟨a0e,a0r⟩:=a0.ofInt
   rw [a0e] at c0 a0
   clear a0e
   obtain ⟨a1e,a1r⟩:=a1.ofInt
   rw [a1e] at c1 a1
   clear a1e
   obtain ⟨a2e,a2r⟩:=a2.ofInt
   rw [a2e] at c2 a2
   clear a2e
   obtain ⟨p3,d3,a3e⟩:=a3.form
   rw [a3e] at c3 a3
   clear a3e
   rw [← hbw.cell (by exact hlb)] at c0 c1 c2 c3
   have HX:Hid (FsAt wr S [.int .i64 z0,.int .i64 z1,.int .i64 z2,.slice p3 x3.length d3] [.int z0,.int z1,.int z2,.row x3]):=⟨a0.up hbw,a1.up hbw,a2.up hbw,a3.up hbw,trivial⟩
   have HQ:Hid (CellR [.int z0,.int z1,.int z2,.row x3]):=HC.out.2 k _ he
   have HH:=(show Hid (_∧True) from ⟨he,trivial⟩)
   clear he HC hBA a0 a1 a2 a3 q3
   have hlt':((k:Nat):Int)<((xs.length:Nat):Int):=by omega
   go_wp2_with fail
   refine (toCell_dt [.int .i64 z0,.int .i64 z1,.int .i64 z2,.slice p3 x3.length d3] [.int z0,.int z1,.int z2,.row x3] S _ HQ.out HX.out (by omega)).mono ?_
   rintro e w1 ⟨us,rfl,o1,b1⟩
   obtain ⟨v0,v1,v2,v3,rfl,k0,k1,k2,k3⟩:=fs4 o1.at
   obtain ⟨rfl,-⟩:=k0.ofInt
   obtain ⟨rfl,-⟩:=k1.ofInt
   obtain ⟨rfl,-⟩:=k2.ofInt
   obtain ⟨s3,t3,rfl⟩:=k3.form
   clear k0 k1 k2 k3
   have HN:=(show Hid (_∧_) from ⟨RowTo.next HR.out b1 HH.out.1 hN.out.1 o1,trivial⟩)
   obtain ⟨cur,-,-,hg,hs,-⟩:=HR.out
   have hg1:w1.heap[w.heap.size]? = some (.cells cur 65 (0,0)):=(b1.block _ (lh hg)).trans hg
   have B1:Below w.heap.size w w1:=hbw.trans (b1.mono hbw.size)
   have g0:w1.cell? ⟨w.heap.size,k * 4,none⟩=some (cur[k * 4]'(by omega)):=by rw [cell_of_block hg1]; exact Array.getElem?_eq_getElem _
   generalize cur[k * 4]'(by omega)=y0 at g0
   have f0:w1.frozen? ⟨w.heap.size,k * 4,none⟩=false:=unfrozen_of_block hg1 _
   have g1:w1.cell? ⟨w.heap.size,k * 4+1,none⟩=some (cur[k * 4+1]'(by omega)):=by rw [cell_of_block hg1]; exact Array.getElem?_eq_getElem _
   generalize cur[k * 4+1]'(by omega)=y1 at g1
   have f1:w1.frozen? ⟨w.heap.size,k * 4+1,none⟩=false:=unfrozen_of_block hg1 _
   have g2:w1.cell? ⟨w.heap.size,k * 4+2,none⟩=some (cur[k * 4+2]'(by omega)):=by rw [cell_of_block hg1]; exact Array.getElem?_eq_getElem _
   generalize cur[k * 4+2]'(by omega)=y2 at g2
   have f2:w1.frozen? ⟨w.heap.size,k * 4+2,none⟩=false:=unfrozen_of_block hg1 _
   have g3:w1.cell? ⟨w.heap.size,k * 4+3,none⟩=some (cur[k * 4+3]'(by omega)):=by rw [cell_of_block hg1]; exact Array.getElem?_eq_getElem _
   generalize cur[k * 4+3]'(by omega)=y3 at g3
   have f3:w1.frozen? ⟨w.heap.size,k * 4+3,none⟩=false:=unfrozen_of_block hg1 _
   clear hg hg1 hs o1 b1 HX HQ HH HR hN c0 c1 c2 c3
   go_wp2
   refine ⟨⟨k+1,by omega,by go_num,HN.out.1,?_⟩,by simp [intOf]; omega⟩
   exact ((((B1.setCell (p:=⟨w.heap.size,k * 4,none⟩) (Nat.le_refl _) _).setCell (p:=⟨w.heap.size,k * 4+1,none⟩) (Nat.le_refl _) _).setCell (p:=⟨w.heap.size,k * 4+2,none⟩) (Nat.le_refl _) _).setCell (p:=⟨w.heap.size,k * 4+3,none⟩) (Nat.le_refl _) _)
  ·obtain rfl:k=xs.length:=by omega
   have HF:=(show Hid (_∧_) from ⟨RowTo.done HR.out hN.out.1 (by unfold maxLen; omega) rfl,trivial⟩)
   clear HR HC
   go_wp2
   go_ret
   exact ⟨_,rfl,HF.out.1,hbw⟩
end Go.Proofs.YtmmadoabejgffaaGreatDoor
