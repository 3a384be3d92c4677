/-
  Proofs.
-/
import Derived.Test.YtmmadoabejgffaaGreatDoorB
import Derived.Test.YtmmadoabejgffaaGreatDoorA
namespace Go.Proofs.YtmmadoabejgffaaGreatDoor
open Go.RowKit Go.Joins
set_option maxRecDepth 100000
set_option maxHeartbeats 51200000
theorem szIntS_dt:SzS 32 IntR:=by
 intro v xs S w left hP h h0 h1
 have hb:Dt.bS xs=xs.length:=by
  have hz:∀ ys:List (List Dt),AllR IntR ys→Dt.bS ys=ys.length:=by
   intro ys
   induction ys with
   | nil=>intro _; simp [Dt.bS]
   | cons r t ih =>
    intro hr
    obtain ⟨z,rfl⟩:=hr 0 r rfl
    rw [Dt.bS,ih (fun i r' h'=>hr (i+1) r' (by simpa using h'))]
    simp [Dt.bR,Dt.bulk]
    omega
  exact hz xs hP
 have hl:=h.len
 unfold maxLen at hl
 obtain ⟨a,cap,rfl⟩:=h.form
 rw [hb]
 clear h hP hb
 by_cases hlt:left - (xs.length:Int)<0
 ·go_enter Tryz.func32,Tryz.ntmps32
  go_wp2
  go_ret
  exact ⟨int_ret (by unfold szR; rw [if_neg (by omega)]),Below.refl _ w⟩
 ·go_enter Tryz.func32,Tryz.ntmps32
  go_wp2
  go_ret
  exact ⟨int_ret (by unfold szR; rw [if_pos (by omega)]),Below.refl _ w⟩
theorem szCode_dt:SzC 115 CodeR:=by
 rintro vs r S w left ⟨z0,z1,b2,x3,rfl,q3⟩ h h0 h1
 obtain ⟨v0,v1,v2,v3,rfl,a0,a1,a2,a3⟩:=fs4 h
 obtain ⟨rfl,ia0⟩:=a0.ofInt
 obtain ⟨rfl,ia1⟩:=a1.ofInt
 obtain ⟨rfl,ia2⟩:=a2.ofStr
 obtain ⟨p3,c3,rfl⟩:=a3.form
 have hbk:Dt.bR [.int z0,.int z1,.str b2,.row x3]=b2.size+Dt.bS x3:=by simp [Dt.bR,Dt.bulk]; try omega
 rw [hbk]
 clear hbk h
 clear ia0 a0
 clear ia1 a1
 unfold maxLen at ia2
 have O0:(w.alloc (.cells #[.int .i64 z0,.int .i64 z1,.string b2,.slice p3 x3.length c3] 180)).heap[w.heap.size]? = some (.cells #[.int .i64 z0,.int .i64 z1,.string b2,.slice p3 x3.length c3] 180):=(MapKept.heap_alloc w _).1
 have B0:Below w.heap.size w (w.alloc (.cells #[.int .i64 z0,.int .i64 z1,.string b2,.slice p3 x3.length c3] 180)):=(Below.refl _ w).alloc (Nat.le_refl _) _
 have HS:=(show Hid (_∧_∧_∧_) from ⟨O0,B0,a3.up B0,trivial⟩)
 clear O0 B0 a3 a2
 go_enter Tryz.func115,Tryz.ntmps115
 by_cases hl2:left - (b2.size:Int)<0
 ·go_wp2
  go_ret
  exact ⟨int_ret (by unfold szR; rw [if_neg (by omega)]),HS.out.2.1⟩
 ·have hg2:0≤left - (b2.size:Int):=by omega
  go_wp2_with fail
  refine (szIntS_dt _ x3 S _ _ q3 HS.out.2.2.1 (by omega) (by omega)).mono ?_
  rintro e w1 ⟨rfl,bb1⟩
  have OO:=(bb1.block _ (lh HS.out.1)).trans HS.out.1
  have HS1:=(show Hid (_∧_∧_) from ⟨OO,HS.out.2.1.trans (bb1.mono HS.out.2.1.size),trivial⟩)
  clear OO bb1 HS
  by_cases hl3:(left - (b2.size:Int))<((Dt.bS x3:Nat):Int)
  ·rw [show szR (left - (b2.size:Int)) (Dt.bS x3) = -1 from by unfold szR; rw [if_neg (by omega)]]
   go_wp2
   go_ret
   exact ⟨int_ret (by unfold szR; rw [if_neg (by omega)]),HS1.out.2.1⟩
  ·obtain ⟨l1,hk1⟩:∃ l1:Int,l1=(left - (b2.size:Int)) - ((Dt.bS x3:Nat):Int):=⟨_,rfl⟩
   rw [show szR (left - (b2.size:Int)) (Dt.bS x3)=l1 from by unfold szR; rw [if_pos (by omega)]; omega]
   have hp1:0≤l1∧l1≤1048576:=by omega
   have hq1:¬ l1<0:=by omega
   have HK1:Hid (l1=(left - (b2.size:Int)) - ((Dt.bS x3:Nat):Int)):=hk1
   clear hk1 hl3
   go_wp2
   go_ret
   exact ⟨int_ret (by have eHK1:=HK1.out; unfold szR; rw [if_pos (by omega)]; try omega),HS1.out.2.1⟩
theorem szCodeS_dt:SzS 74 CodeR:=by
 intro v xs S w left hP h h0 h1
 rw [bulkS_eq]
 have hL:=preD_le xs
 have hl:=h.len
 unfold maxLen at hl
 have HC:=(show Hid (_∧_) from ⟨h,hP⟩)
 obtain ⟨a,cap,rfl⟩:=h.form
 clear h hP
 by_cases hlt:left - (xs.length:Int)<0
 ·go_enter Tryz.func74,Tryz.ntmps74
  go_wp2
  go_ret
  exact ⟨int_ret (by unfold szR; rw [if_neg (by omega)]),Below.refl _ w⟩
 ·go_enter Tryz.func74,Tryz.ntmps74
  go_wp2
  go_loopw [1,5] (fun lv i wr=>∃ k:Nat,k≤xs.length∧i = .int .i64 k∧(preD xs k:Int)≤left - (xs.length:Int)∧lv = .int .i64 (left - (xs.length:Int) - preD xs k)∧Below w.heap.size w wr) (fun _ i _=>xs.length - (intOf i).toNat)
  case atStart=>exact ⟨0,Nat.zero_le _,rfl,by simp [preD]; omega,by simp [preD],Below.refl _ _⟩
  case round =>
   obtain ⟨k,hk,rfl,hle,rfl,hbw⟩:=hrel
   by_cases hkl:k<xs.length
   ·have he:=List.getElem?_eq_getElem hkl
    have hps:=preD_succ he
    have hpk:=hL (k+1)
    generalize xs[k]=r at *
    obtain ⟨z0,z1,b2,x3,rfl,q3⟩:=HC.out.2 k r he
    obtain ⟨b,off,rfl,-,hlb,us,hhus⟩:=HC.out.1.at he
    have c0:w.cell? ⟨b,off+k * 4,none⟩=some (us 0):=(hhus 0 _ rfl).1
    have a0:=(hhus 0 _ rfl).2
    have c1:w.cell? ⟨b,off+k * 4+1,none⟩=some (us 1):=(hhus 1 _ rfl).1
    have a1:=(hhus 1 _ rfl).2
    have c2:w.cell? ⟨b,off+k * 4+2,none⟩=some (us 2):=(hhus 2 _ rfl).1
    have a2:=(hhus 2 _ rfl).2
    have c3:w.cell? ⟨b,off+k * 4+3,none⟩=some (us 3):=(hhus 3 _ rfl).1
    have a3:=(hhus 3 _ rfl).2
    clear hhus
    obtain ⟨a0e,a0r⟩:=a0.ofInt
    rw [a0e] at c0 a0
    clear a0e
    obtain ⟨a1e,a1r⟩:=a1.ofInt
    rw [a1e] at c1 a1
    clear a1e
    obtain ⟨a2e,a2r⟩:=a2.ofStr
    rw [a2e] at c2 a2
    clear a2e
    obtain ⟨p3,d3,a3e⟩:=a3.form
    rw [a3e] at c3 a3
    clear a3e
    rw [← hbw.cell (by exact hlb)] at c0 c1 c2 c3
    have HX:Hid (FsAt wr S [.int .i64 z0,.int .i64 z1,.string b2,.slice p3 x3.length d3] [.int z0,.int z1,.str b2,.row x3]):=⟨a0.up hbw,a1.up hbw,a2.up hbw,a3.up hbw,trivial⟩
    have HQ:Hid (CodeR [.int z0,.int z1,.str b2,.row x3]):=HC.out.2 k _ he
    clear he HC a0 a1 a2 a3 q3
    obtain ⟨m,hm⟩:∃ m,m=Dt.bR [.int z0,.int z1,.str b2,.row x3]:=⟨_,rfl⟩
    rw [← hm] at hps
    have hlt':((k:Nat):Int)<((xs.length:Nat):Int):=by omega
    have HM:Hid (m=Dt.bR [.int z0,.int z1,.str b2,.row x3]):=hm
    clear hm
    go_wp2_with fail
    refine (szCode_dt [.int .i64 z0,.int .i64 z1,.string b2,.slice p3 x3.length d3] [.int z0,.int z1,.str b2,.row x3] S _ _ HQ.out HX.out (by omega) (by omega)).mono ?_
    rintro e w1 ⟨rfl,b1⟩
    have b2:Below w.heap.size w w1:=hbw.trans (b1.mono hbw.size)
    clear b1 HX HQ c0 c1 c2 c3
    rw [← HM.out]
    by_cases hok:(m:Int)≤left - (xs.length:Int) - preD xs k
    ·have hr:szR (left - (xs.length:Int) - preD xs k) m=left - (xs.length:Int) - preD xs (k+1):=by unfold szR; rw [if_pos hok]; omega
     rw [hr]
     have hr0:¬ left - (xs.length:Int) - preD xs (k+1)<0:=by omega
     clear hr HM
     go_wp2
     refine ⟨⟨k+1,by omega,by go_num,by omega,int_val (by omega),b2⟩,by simp [intOf]; omega⟩
    ·have hr:szR (left - (xs.length:Int) - preD xs k) m = -1:=by unfold szR; rw [if_neg hok]
     rw [hr]
     clear hr HM
     go_wp2
     go_ret
     exact ⟨int_ret (by unfold szR; rw [if_neg (by omega)]),b2⟩
   ·obtain rfl:k=xs.length:=by omega
    clear HC
    go_wp2
    go_ret
    exact ⟨int_ret (by unfold szR; rw [if_pos (by omega)]; omega),hbw⟩
theorem szTable_dt:SzC 29 TableR:=by
 rintro vs r S w left ⟨x0,x1,rfl,q0,q1⟩ h h0 h1
 obtain ⟨v0,v1,rfl,a0,a1⟩:=fs2 h
 obtain ⟨p0,c0,rfl⟩:=a0.form
 obtain ⟨p1,c1,rfl⟩:=a1.form
 have hbk:Dt.bR [.row x0,.row x1]=Dt.bS x0+Dt.bS x1:=by simp [Dt.bR,Dt.bulk]; try omega
 rw [hbk]
 clear hbk h
 have O0:(w.alloc (.cells #[.slice p0 x0.length c0,.slice p1 x1.length c1] 25)).heap[w.heap.size]? = some (.cells #[.slice p0 x0.length c0,.slice p1 x1.length c1] 25):=(MapKept.heap_alloc w _).1
 have B0:Below w.heap.size w (w.alloc (.cells #[.slice p0 x0.length c0,.slice p1 x1.length c1] 25)):=(Below.refl _ w).alloc (Nat.le_refl _) _
 have HS:=(show Hid (_∧_∧_∧_∧_) from ⟨O0,B0,a0.up B0,a1.up B0,trivial⟩)
 clear O0 B0 a0 a1
 go_enter Tryz.func29,Tryz.ntmps29
 go_wp2_with fail
 refine (szCodeS_dt _ x0 S _ _ q0 HS.out.2.2.1 (by omega) (by omega)).mono ?_
 rintro e w1 ⟨rfl,bb1⟩
 have OO:=(bb1.block _ (lh HS.out.1)).trans HS.out.1
 have y1_1:=cb OO 1 (.slice p1 x1.length c1) rfl
 have HS1:=(show Hid (_∧_∧_∧_) from ⟨OO,HS.out.2.1.trans (bb1.mono HS.out.2.1.size),(HS.out.2.2.2.1).up bb1,trivial⟩)
 clear OO bb1 HS
 by_cases hl0:left<((Dt.bS x0:Nat):Int)
 ·rw [show szR left (Dt.bS x0) = -1 from by unfold szR; rw [if_neg (by omega)]]
  go_wp2
  go_ret
  exact ⟨int_ret (by unfold szR; rw [if_neg (by omega)]),HS1.out.2.1⟩
 ·obtain ⟨l1,hk1⟩:∃ l1:Int,l1=left - ((Dt.bS x0:Nat):Int):=⟨_,rfl⟩
  rw [show szR left (Dt.bS x0)=l1 from by unfold szR; rw [if_pos (by omega)]; omega]
  have hp1:0≤l1∧l1≤1048576:=by omega
  have hq1:¬ l1<0:=by omega
  have HK1:Hid (l1=left - ((Dt.bS x0:Nat):Int)):=hk1
  clear hk1 hl0
  go_wp2_with fail
  refine (szIntS_dt _ x1 S _ _ q1 HS1.out.2.2.1 (by omega) (by omega)).mono ?_
  rintro e w2 ⟨rfl,bb2⟩
  have OO:=(bb2.block _ (lh HS1.out.1)).trans HS1.out.1
  have HS2:=(show Hid (_∧_∧_) from ⟨OO,HS1.out.2.1.trans (bb2.mono HS1.out.2.1.size),trivial⟩)
  clear OO bb2 HS1 y1_1
  by_cases hl1:l1<((Dt.bS x1:Nat):Int)
  ·rw [show szR l1 (Dt.bS x1) = -1 from by unfold szR; rw [if_neg (by omega)]]
   go_wp2
   go_ret
   exact ⟨int_ret (by have eHK1:=HK1.out; unfold szR; rw [if_neg (by omega)]),HS2.out.2.1⟩
  ·obtain ⟨l2,hk2⟩:∃ l2:Int,l2=l1 - ((Dt.bS x1:Nat):Int):=⟨_,rfl⟩
   rw [show szR l1 (Dt.bS x1)=l2 from by unfold szR; rw [if_pos (by omega)]; omega]
   have hp2:0≤l2∧l2≤1048576:=by omega
   have hq2:¬ l2<0:=by omega
   have HK2:Hid (l2=l1 - ((Dt.bS x1:Nat):Int)):=hk2
   clear hk2 hl1
   go_wp2
   go_ret
   exact ⟨int_ret (by have eHK1:=HK1.out; have eHK2:=HK2.out; unfold szR; rw [if_pos (by omega)]; try omega),HS2.out.2.1⟩
theorem szCell_dt:SzC 75 CellR:=by
 rintro vs r S w left ⟨z0,z1,z2,x3,rfl,q3⟩ h h0 h1
 obtain ⟨v0,v1,v2,v3,rfl,a0,a1,a2,a3⟩:=fs4 h
 obtain ⟨rfl,ia0⟩:=a0.ofInt
 obtain ⟨rfl,ia1⟩:=a1.ofInt
 obtain ⟨rfl,ia2⟩:=a2.ofInt
 obtain ⟨p3,c3,rfl⟩:=a3.form
 have hbk:Dt.bR [.int z0,.int z1,.int z2,.row x3]=Dt.bS x3:=by simp [Dt.bR,Dt.bulk]; try omega
 rw [hbk]
 clear hbk h
 clear ia0 a0
 clear ia1 a1
 clear ia2 a2
 have O0:(w.alloc (.cells #[.int .i64 z0,.int .i64 z1,.int .i64 z2,.slice p3 x3.length c3] 127)).heap[w.heap.size]? = some (.cells #[.int .i64 z0,.int .i64 z1,.int .i64 z2,.slice p3 x3.length c3] 127):=(MapKept.heap_alloc w _).1
 have B0:Below w.heap.size w (w.alloc (.cells #[.int .i64 z0,.int .i64 z1,.int .i64 z2,.slice p3 x3.length c3] 127)):=(Below.refl _ w).alloc (Nat.le_refl _) _
 have HS:=(show Hid (_∧_∧_∧_) from ⟨O0,B0,a3.up B0,trivial⟩)
 clear O0 B0 a3
 go_enter Tryz.func75,Tryz.ntmps75
 go_wp2_with fail
 refine (szIntS_dt _ x3 S _ _ q3 HS.out.2.2.1 (by omega) (by omega)).mono ?_
 rintro e w1 ⟨rfl,bb1⟩
 have OO:=(bb1.block _ (lh HS.out.1)).trans HS.out.1
 have HS1:=(show Hid (_∧_∧_) from ⟨OO,HS.out.2.1.trans (bb1.mono HS.out.2.1.size),trivial⟩)
 clear OO bb1 HS
 by_cases hl3:left<((Dt.bS x3:Nat):Int)
 ·rw [show szR left (Dt.bS x3) = -1 from by unfold szR; rw [if_neg (by omega)]]
  go_wp2
  go_ret
  exact ⟨int_ret (by unfold szR; rw [if_neg (by omega)]),HS1.out.2.1⟩
 ·obtain ⟨l1,hk1⟩:∃ l1:Int,l1=left - ((Dt.bS x3:Nat):Int):=⟨_,rfl⟩
  rw [show szR left (Dt.bS x3)=l1 from by unfold szR; rw [if_pos (by omega)]; omega]
  have hp1:0≤l1∧l1≤1048576:=by omega
  have hq1:¬ l1<0:=by omega
  have HK1:Hid (l1=left - ((Dt.bS x3:Nat):Int)):=hk1
  clear hk1 hl3
  go_wp2
  go_ret
  exact ⟨int_ret (by have eHK1:=HK1.out; unfold szR; rw [if_pos (by omega)]; try omega),HS1.out.2.1⟩
theorem szCellS_dt:SzS 30 CellR:=by
 intro v xs S w left hP h h0 h1
 rw [bulkS_eq]
 have hL:=preD_le xs
 have hl:=h.len
 unfold maxLen at hl
 have HC:=(show Hid (_∧_) from ⟨h,hP⟩)
 obtain ⟨a,cap,rfl⟩:=h.form
 clear h hP
 by_cases hlt:left - (xs.length:Int)<0
 ·go_enter Tryz.func30,Tryz.ntmps30
  go_wp2
  go_ret
  exact ⟨int_ret (by unfold szR; rw [if_neg (by omega)]),Below.refl _ w⟩
 ·go_enter Tryz.func30,Tryz.ntmps30
  go_wp2
  go_loopw [1,5] (fun lv i wr=>∃ k:Nat,k≤xs.length∧i = .int .i64 k∧(preD xs k:Int)≤left - (xs.length:Int)∧lv = .int .i64 (left - (xs.length:Int) - preD xs k)∧Below w.heap.size w wr) (fun _ i _=>xs.length - (intOf i).toNat)
  case atStart=>exact ⟨0,Nat.zero_le _,rfl,by simp [preD]; omega,by simp [preD],Below.refl _ _⟩
  case round =>
   obtain ⟨k,hk,rfl,hle,rfl,hbw⟩:=hrel
   by_cases hkl:k<xs.length
   ·have he:=List.getElem?_eq_getElem hkl
    have hps:=preD_succ he
    have hpk:=hL (k+1)
    generalize xs[k]=r at *
    obtain ⟨z0,z1,z2,x3,rfl,q3⟩:=HC.out.2 k r he
    obtain ⟨b,off,rfl,-,hlb,us,hhus⟩:=HC.out.1.at he
    have c0:w.cell? ⟨b,off+k * 4,none⟩=some (us 0):=(hhus 0 _ rfl).1
    have a0:=(hhus 0 _ rfl).2
    have c1:w.cell? ⟨b,off+k * 4+1,none⟩=some (us 1):=(hhus 1 _ rfl).1
    have a1:=(hhus 1 _ rfl).2
    have c2:w.cell? ⟨b,off+k * 4+2,none⟩=some (us 2):=(hhus 2 _ rfl).1
    have a2:=(hhus 2 _ rfl).2
    have c3:w.cell? ⟨b,off+k * 4+3,none⟩=some (us 3):=(hhus 3 _ rfl).1
    have a3:=(hhus 3 _ rfl).2
    clear hhus
    obtain ⟨a0e,a0r⟩:=a0.ofInt
    rw [a0e] at c0 a0
    clear a0e
    obtain ⟨a1e,a1r⟩:=a1.ofInt
    rw [a1e] at c1 a1
    clear a1e
    obtain ⟨a2e,a2r⟩:=a2.ofInt
    rw [a2e] at c2 a2
    clear a2e
    obtain ⟨p3,d3,a3e⟩:=a3.form
    rw [a3e] at c3 a3
    clear a3e
    rw [← hbw.cell (by exact hlb)] at c0 c1 c2 c3
    have HX:Hid (FsAt wr S [.int .i64 z0,.int .i64 z1,.int .i64 z2,.slice p3 x3.length d3] [.int z0,.int z1,.int z2,.row x3]):=⟨a0.up hbw,a1.up hbw,a2.up hbw,a3.up hbw,trivial⟩
    have HQ:Hid (CellR [.int z0,.int z1,.int z2,.row x3]):=HC.out.2 k _ he
    clear he HC a0 a1 a2 a3 q3
    obtain ⟨m,hm⟩:∃ m,m=Dt.bR [.int z0,.int z1,.int z2,.row x3]:=⟨_,rfl⟩
    rw [← hm] at hps
    have hlt':((k:Nat):Int)<((xs.length:Nat):Int):=by omega
    have HM:Hid (m=Dt.bR [.int z0,.int z1,.int z2,.row x3]):=hm
    clear hm
    go_wp2_with fail
    refine (szCell_dt [.int .i64 z0,.int .i64 z1,.int .i64 z2,.slice p3 x3.length d3] [.int z0,.int z1,.int z2,.row x3] S _ _ HQ.out HX.out (by omega) (by omega)).mono ?_
    rintro e w1 ⟨rfl,b1⟩
    have b2:Below w.heap.size w w1:=hbw.trans (b1.mono hbw.size)
    clear b1 HX HQ c0 c1 c2 c3
    rw [← HM.out]
    by_cases hok:(m:Int)≤left - (xs.length:Int) - preD xs k
    ·have hr:szR (left - (xs.length:Int) - preD xs k) m=left - (xs.length:Int) - preD xs (k+1):=by unfold szR; rw [if_pos hok]; omega
     rw [hr]
     have hr0:¬ left - (xs.length:Int) - preD xs (k+1)<0:=by omega
     clear hr HM
     go_wp2
     refine ⟨⟨k+1,by omega,by go_num,by omega,int_val (by omega),b2⟩,by simp [intOf]; omega⟩
    ·have hr:szR (left - (xs.length:Int) - preD xs k) m = -1:=by unfold szR; rw [if_neg hok]
     rw [hr]
     clear hr HM
     go_wp2
     go_ret
     exact ⟨int_ret (by unfold szR; rw [if_neg (by omega)]),b2⟩
   ·obtain rfl:k=xs.length:=by omega
    clear HC
    go_wp2
    go_ret
    exact ⟨int_ret (by unfold szR; rw [if_pos (by omega)]; omega),hbw⟩
theorem szFrame_dt:SzC 153 FrameR:=by
 rintro vs r S w left ⟨z0,z1,z2,x3,rfl,q3⟩ h h0 h1
 obtain ⟨v0,v1,v2,v3,rfl,a0,a1,a2,a3⟩:=fs4 h
 obtain ⟨rfl,ia0⟩:=a0.ofInt
 obtain ⟨rfl,ia1⟩:=a1.ofInt
 obtain ⟨rfl,ia2⟩:=a2.ofInt
 obtain ⟨p3,c3,rfl⟩:=a3.form
 have hbk:Dt.bR [.int z0,.int z1,.int z2,.row x3]=Dt.bS x3:=by simp [Dt.bR,Dt.bulk]; try omega
 rw [hbk]
 clear hbk h
 clear ia0 a0
 clear ia1 a1
 clear ia2 a2
 have O0:(w.alloc (.cells #[.int .i64 z0,.int .i64 z1,.int .i64 z2,.slice p3 x3.length c3] 216)).heap[w.heap.size]? = some (.cells #[.int .i64 z0,.int .i64 z1,.int .i64 z2,.slice p3 x3.length c3] 216):=(MapKept.heap_alloc w _).1
 have B0:Below w.heap.size w (w.alloc (.cells #[.int .i64 z0,.int .i64 z1,.int .i64 z2,.slice p3 x3.length c3] 216)):=(Below.refl _ w).alloc (Nat.le_refl _) _
 have HS:=(show Hid (_∧_∧_∧_) from ⟨O0,B0,a3.up B0,trivial⟩)
 clear O0 B0 a3
 go_enter Tryz.func153,Tryz.ntmps153
 go_wp2_with fail
 refine (szIntS_dt _ x3 S _ _ q3 HS.out.2.2.1 (by omega) (by omega)).mono ?_
 rintro e w1 ⟨rfl,bb1⟩
 have OO:=(bb1.block _ (lh HS.out.1)).trans HS.out.1
 have HS1:=(show Hid (_∧_∧_) from ⟨OO,HS.out.2.1.trans (bb1.mono HS.out.2.1.size),trivial⟩)
 clear OO bb1 HS
 by_cases hl3:left<((Dt.bS x3:Nat):Int)
 ·rw [show szR left (Dt.bS x3) = -1 from by unfold szR; rw [if_neg (by omega)]]
  go_wp2
  go_ret
  exact ⟨int_ret (by unfold szR; rw [if_neg (by omega)]),HS1.out.2.1⟩
 ·obtain ⟨l1,hk1⟩:∃ l1:Int,l1=left - ((Dt.bS x3:Nat):Int):=⟨_,rfl⟩
  rw [show szR left (Dt.bS x3)=l1 from by unfold szR; rw [if_pos (by omega)]; omega]
  have hp1:0≤l1∧l1≤1048576:=by omega
  have hq1:¬ l1<0:=by omega
  have HK1:Hid (l1=left - ((Dt.bS x3:Nat):Int)):=hk1
  clear hk1 hl3
  go_wp2
  go_ret
  exact ⟨int_ret (by have eHK1:=HK1.out; unfold szR; rw [if_pos (by omega)]; try omega),HS1.out.2.1⟩
theorem szFrameS_dt:SzS 116 FrameR:=by
 intro v xs S w left hP h h0 h1
 rw [bulkS_eq]
 have hL:=preD_le xs
 have hl:=h.len
 unfold maxLen at hl
 have HC:=(show Hid (_∧_) from ⟨h,hP⟩)
 obtain ⟨a,cap,rfl⟩:=h.form
 clear h hP
 by_cases hlt:left - (xs.length:Int)<0
 ·go_enter Tryz.func116,Tryz.ntmps116
  go_wp2
  go_ret
  exact ⟨int_ret (by unfold szR; rw [if_neg (by omega)]),Below.refl _ w⟩
 ·go_enter Tryz.func116,Tryz.ntmps116
  go_wp2
  go_loopw [1,5] (fun lv i wr=>∃ k:Nat,k≤xs.length∧i = .int .i64 k∧(preD xs k:Int)≤left - (xs.length:Int)∧lv = .int .i64 (left - (xs.length:Int) - preD xs k)∧Below w.heap.size w wr) (fun _ i _=>xs.length - (intOf i).toNat)
  case atStart=>exact ⟨0,Nat.zero_le _,rfl,by simp [preD]; omega,by simp [preD],Below.refl _ _⟩
  case round =>
   obtain ⟨k,hk,rfl,hle,rfl,hbw⟩:=hrel
   by_cases hkl:k<xs.length
   ·have he:=List.getElem?_eq_getElem hkl
    have hps:=preD_succ he
    have hpk:=hL (k+1)
    generalize xs[k]=r at *
    obtain ⟨z0,z1,z2,x3,rfl,q3⟩:=HC.out.2 k r he
    obtain ⟨b,off,rfl,-,hlb,us,hhus⟩:=HC.out.1.at he
    have c0:w.cell? ⟨b,off+k * 4,none⟩=some (us 0):=(hhus 0 _ rfl).1
    have a0:=(hhus 0 _ rfl).2
    have c1:w.cell? ⟨b,off+k * 4+1,none⟩=some (us 1):=(hhus 1 _ rfl).1
    have a1:=(hhus 1 _ rfl).2
    have c2:w.cell? ⟨b,off+k * 4+2,none⟩=some (us 2):=(hhus 2 _ rfl).1
    have a2:=(hhus 2 _ rfl).2
    have c3:w.cell? ⟨b,off+k * 4+3,none⟩=some (us 3):=(hhus 3 _ rfl).1
    have a3:=(hhus 3 _ rfl).2
    clear hhus
    obtain ⟨a0e,a0r⟩:=a0.ofInt
    rw [a0e] at c0 a0
    clear a0e
    obtain ⟨a1e,a1r⟩:=a1.ofInt
    rw [a1e] at c1 a1
    clear a1e
    obtain ⟨a2e,a2r⟩:=a2.ofInt
    rw [a2e] at c2 a2
    clear a2e
    obtain ⟨p3,d3,a3e⟩:=a3.form
    rw [a3e] at c3 a3
    clear a3e
    rw [← hbw.cell (by exact hlb)] at c0 c1 c2 c3
    have HX:Hid (FsAt wr S [.int .i64 z0,.int .i64 z1,.int .i64 z2,.slice p3 x3.length d3] [.int z0,.int z1,.int z2,.row x3]):=⟨a0.up hbw,a1.up hbw,a2.up hbw,a3.up hbw,trivial⟩
    have HQ:Hid (FrameR [.int z0,.int z1,.int z2,.row x3]):=HC.out.2 k _ he
    clear he HC a0 a1 a2 a3 q3
    obtain ⟨m,hm⟩:∃ m,m=Dt.bR [.int z0,.int z1,.int z2,.row x3]:=⟨_,rfl⟩
    rw [← hm] at hps
    have hlt':((k:Nat):Int)<((xs.length:Nat):Int):=by omega
    have HM:Hid (m=Dt.bR [.int z0,.int z1,.int z2,.row x3]):=hm
    clear hm
    go_wp2_with fail
    refine (szFrame_dt [.int .i64 z0,.int .i64 z1,.int .i64 z2,.slice p3 x3.length d3] [.int z0,.int z1,.int z2,.row x3] S _ _ HQ.out HX.out (by omega) (by omega)).mono ?_
    rintro e w1 ⟨rfl,b1⟩
    have b2:Below w.heap.size w w1:=hbw.trans (b1.mono hbw.size)
    clear b1 HX HQ c0 c1 c2 c3
    rw [← HM.out]
    by_cases hok:(m:Int)≤left - (xs.length:Int) - preD xs k
    ·have hr:szR (left - (xs.length:Int) - preD xs k) m=left - (xs.length:Int) - preD xs (k+1):=by unfold szR; rw [if_pos hok]; omega
     rw [hr]
     have hr0:¬ left - (xs.length:Int) - preD xs (k+1)<0:=by omega
     clear hr HM
     go_wp2
     refine ⟨⟨k+1,by omega,by go_num,by omega,int_val (by omega),b2⟩,by simp [intOf]; omega⟩
    ·have hr:szR (left - (xs.length:Int) - preD xs k) m = -1:=by unfold szR; rw [if_neg hok]
     rw [hr]
     clear hr HM
     go_wp2
     go_ret
     exact ⟨int_ret (by unfold szR; rw [if_neg (by omega)]),b2⟩
   ·obtain rfl:k=xs.length:=by omega
    clear HC
    go_wp2
    go_ret
    exact ⟨int_ret (by unfold szR; rw [if_pos (by omega)]; omega),hbw⟩
theorem szThread_dt:SzC 76 ThreadR:=by
 rintro vs r S w left ⟨z0,z1,x2,x3,b4,rfl,q2,q3⟩ h h0 h1
 obtain ⟨v0,v1,v2,v3,v4,rfl,a0,a1,a2,a3,a4⟩:=fs5 h
 obtain ⟨rfl,ia0⟩:=a0.ofInt
 obtain ⟨rfl,ia1⟩:=a1.ofInt
 obtain ⟨p2,c2,rfl⟩:=a2.form
 obtain ⟨p3,c3,rfl⟩:=a3.form
 obtain ⟨rfl,ia4⟩:=a4.ofStr
 have hbk:Dt.bR [.int z0,.int z1,.row x2,.row x3,.str b4]=Dt.bS x2+Dt.bS x3+b4.size:=by simp [Dt.bR,Dt.bulk]; try omega
 rw [hbk]
 clear hbk h
 clear ia0 a0
 clear ia1 a1
 unfold maxLen at ia4
 have O0:(w.alloc (.cells #[.int .i64 z0,.int .i64 z1,.slice p2 x2.length c2,.slice p3 x3.length c3,.string b4] 131)).heap[w.heap.size]? = some (.cells #[.int .i64 z0,.int .i64 z1,.slice p2 x2.length c2,.slice p3 x3.length c3,.string b4] 131):=(MapKept.heap_alloc w _).1
 have B0:Below w.heap.size w (w.alloc (.cells #[.int .i64 z0,.int .i64 z1,.slice p2 x2.length c2,.slice p3 x3.length c3,.string b4] 131)):=(Below.refl _ w).alloc (Nat.le_refl _) _
 have HS:=(show Hid (_∧_∧_∧_∧_) from ⟨O0,B0,a2.up B0,a3.up B0,trivial⟩)
 clear O0 B0 a2 a3 a4
 go_enter Tryz.func76,Tryz.ntmps76
 go_wp2_with fail
 refine (szIntS_dt _ x2 S _ _ q2 HS.out.2.2.1 (by omega) (by omega)).mono ?_
 rintro e w1 ⟨rfl,bb1⟩
 have OO:=(bb1.block _ (lh HS.out.1)).trans HS.out.1
 have y1_3:=cb OO 3 (.slice p3 x3.length c3) rfl
 have y1_4:=cb OO 4 (.string b4) rfl
 have HS1:=(show Hid (_∧_∧_∧_) from ⟨OO,HS.out.2.1.trans (bb1.mono HS.out.2.1.size),(HS.out.2.2.2.1).up bb1,trivial⟩)
 clear OO bb1 HS
 by_cases hl2:left<((Dt.bS x2:Nat):Int)
 ·rw [show szR left (Dt.bS x2) = -1 from by unfold szR; rw [if_neg (by omega)]]
  go_wp2
  go_ret
  exact ⟨int_ret (by unfold szR; rw [if_neg (by omega)]),HS1.out.2.1⟩
 ·obtain ⟨l1,hk1⟩:∃ l1:Int,l1=left - ((Dt.bS x2:Nat):Int):=⟨_,rfl⟩
  rw [show szR left (Dt.bS x2)=l1 from by unfold szR; rw [if_pos (by omega)]; omega]
  have hp1:0≤l1∧l1≤1048576:=by omega
  have hq1:¬ l1<0:=by omega
  have HK1:Hid (l1=left - ((Dt.bS x2:Nat):Int)):=hk1
  clear hk1 hl2
  go_wp2_with fail
  refine (szFrameS_dt _ x3 S _ _ q3 HS1.out.2.2.1 (by omega) (by omega)).mono ?_
  rintro e w2 ⟨rfl,bb2⟩
  have OO:=(bb2.block _ (lh HS1.out.1)).trans HS1.out.1
  have y2_4:=cb OO 4 (.string b4) rfl
  have HS2:=(show Hid (_∧_∧_) from ⟨OO,HS1.out.2.1.trans (bb2.mono HS1.out.2.1.size),trivial⟩)
  clear OO bb2 HS1 y1_3 y1_4
  by_cases hl3:l1<((Dt.bS x3:Nat):Int)
  ·rw [show szR l1 (Dt.bS x3) = -1 from by unfold szR; rw [if_neg (by omega)]]
   go_wp2
   go_ret
   exact ⟨int_ret (by have eHK1:=HK1.out; unfold szR; rw [if_neg (by omega)]),HS2.out.2.1⟩
  ·obtain ⟨l2,hk2⟩:∃ l2:Int,l2=l1 - ((Dt.bS x3:Nat):Int):=⟨_,rfl⟩
   rw [show szR l1 (Dt.bS x3)=l2 from by unfold szR; rw [if_pos (by omega)]; omega]
   have hp2:0≤l2∧l2≤1048576:=by omega
   have hq2:¬ l2<0:=by omega
   have HK2:Hid (l2=l1 - ((Dt.bS x3:Nat):Int)):=hk2
   clear hk2 hl3
   by_cases hl4:l2 - (b4.size:Int)<0
   ·go_wp2
    go_ret
    exact ⟨int_ret (by have eHK1:=HK1.out; have eHK2:=HK2.out; unfold szR; rw [if_neg (by omega)]),HS2.out.2.1⟩
   ·have hg4:0≤l2 - (b4.size:Int):=by omega
    go_wp2
    go_ret
    exact ⟨int_ret (by have eHK1:=HK1.out; have eHK2:=HK2.out; unfold szR; rw [if_pos (by omega)]; try omega),HS2.out.2.1⟩
theorem szThreadS_dt:SzS 31 ThreadR:=by
 intro v xs S w left hP h h0 h1
 rw [bulkS_eq]
 have hL:=preD_le xs
 have hl:=h.len
 unfold maxLen at hl
 have HC:=(show Hid (_∧_) from ⟨h,hP⟩)
 obtain ⟨a,cap,rfl⟩:=h.form
 clear h hP
 by_cases hlt:left - (xs.length:Int)<0
 ·go_enter Tryz.func31,Tryz.ntmps31
  go_wp2
  go_ret
  exact ⟨int_ret (by unfold szR; rw [if_neg (by omega)]),Below.refl _ w⟩
 ·go_enter Tryz.func31,Tryz.ntmps31
  go_wp2
  go_loopw [1,5] (fun lv i wr=>∃ k:Nat,k≤xs.length∧i = .int .i64 k∧(preD xs k:Int)≤left - (xs.length:Int)∧lv = .int .i64 (left - (xs.length:Int) - preD xs k)∧Below w.heap.size w wr) (fun _ i _=>xs.length - (intOf i).toNat)
  case atStart=>exact ⟨0,Nat.zero_le _,rfl,by simp [preD]; omega,by simp [preD],Below.refl _ _⟩
  case round =>
   obtain ⟨k,hk,rfl,hle,rfl,hbw⟩:=hrel
   by_cases hkl:k<xs.length
   ·have he:=List.getElem?_eq_getElem hkl
    have hps:=preD_succ he
    have hpk:=hL (k+1)
    generalize xs[k]=r at *
    obtain ⟨z0,z1,x2,x3,b4,rfl,q2,q3⟩:=HC.out.2 k r he
    obtain ⟨b,off,rfl,-,hlb,us,hhus⟩:=HC.out.1.at he
    have c0:w.cell? ⟨b,off+k * 5,none⟩=some (us 0):=(hhus 0 _ rfl).1
    have a0:=(hhus 0 _ rfl).2
    have c1:w.cell? ⟨b,off+k * 5+1,none⟩=some (us 1):=(hhus 1 _ rfl).1
    have a1:=(hhus 1 _ rfl).2
    have c2:w.cell? ⟨b,off+k * 5+2,none⟩=some (us 2):=(hhus 2 _ rfl).1
    have a2:=(hhus 2 _ rfl).2
    have c3:w.cell? ⟨b,off+k * 5+3,none⟩=some (us 3):=(hhus 3 _ rfl).1
    have a3:=(hhus 3 _ rfl).2
    have c4:w.cell? ⟨b,off+k * 5+4,none⟩=some (us 4):=(hhus 4 _ rfl).1
    have a4:=(hhus 4 _ rfl).2
    clear hhus
    obtain ⟨a0e,a0r⟩:=a0.ofInt
    rw [a0e] at c0 a0
    clear a0e
    obtain ⟨a1e,a1r⟩:=a1.ofInt
    rw [a1e] at c1 a1
    clear a1e
    obtain ⟨p2,d2,a2e⟩:=a2.form
    rw [a2e] at c2 a2
    clear a2e
    obtain ⟨p3,d3,a3e⟩:=a3.form
    rw [a3e] at c3 a3
    clear a3e
    obtain ⟨a4e,a4r⟩:=a4.ofStr
    rw [a4e] at c4 a4
    clear a4e
    rw [← hbw.cell (by exact hlb)] at c0 c1 c2 c3 c4
    have HX:Hid (FsAt wr S [.int .i64 z0,.int .i64 z1,.slice p2 x2.length d2,.slice p3 x3.length d3,.string b4] [.int z0,.int z1,.row x2,.row x3,.str b4]):=⟨a0.up hbw,a1.up hbw,a2.up hbw,a3.up hbw,a4.up hbw,trivial⟩
    have HQ:Hid (ThreadR [.int z0,.int z1,.row x2,.row x3,.str b4]):=HC.out.2 k _ he
    clear he HC a0 a1 a2 a3 a4 q2 q3
    obtain ⟨m,hm⟩:∃ m,m=Dt.bR [.int z0,.int z1,.row x2,.row x3,.str b4]:=⟨_,rfl⟩
    rw [← hm] at hps
    have hlt':((k:Nat):Int)<((xs.length:Nat):Int):=by omega
    have HM:Hid (m=Dt.bR [.int z0,.int z1,.row x2,.row x3,.str b4]):=hm
    clear hm
    go_wp2_with fail
    refine (szThread_dt [.int .i64 z0,.int .i64 z1,.slice p2 x2.length d2,.slice p3 x3.length d3,.string b4] [.int z0,.int z1,.row x2,.row x3,.str b4] S _ _ HQ.out HX.out (by omega) (by omega)).mono ?_
    rintro e w1 ⟨rfl,b1⟩
    have b2:Below w.heap.size w w1:=hbw.trans (b1.mono hbw.size)
    clear b1 HX HQ c0 c1 c2 c3 c4
    rw [← HM.out]
    by_cases hok:(m:Int)≤left - (xs.length:Int) - preD xs k
    ·have hr:szR (left - (xs.length:Int) - preD xs k) m=left - (xs.length:Int) - preD xs (k+1):=by unfold szR; rw [if_pos hok]; omega
     rw [hr]
     have hr0:¬ left - (xs.length:Int) - preD xs (k+1)<0:=by omega
     clear hr HM
     go_wp2
     refine ⟨⟨k+1,by omega,by go_num,by omega,int_val (by omega),b2⟩,by simp [intOf]; omega⟩
    ·have hr:szR (left - (xs.length:Int) - preD xs k) m = -1:=by unfold szR; rw [if_neg hok]
     rw [hr]
     clear hr HM
     go_wp2
     go_ret
     exact ⟨int_ret (by unfold szR; rw [if_neg (by omega)]),b2⟩
   ·obtain rfl:k=xs.length:=by omega
    clear HC
    go_wp2
    go_ret
    exact ⟨int_ret (by unfold szR; rw [if_pos (by omega)]; omega),hbw⟩
theorem szMsg_dt:SzC 77 MsgR:=by
 rintro vs r S w left ⟨z0,z1,z2,z3,z4,z5,z6,z7,x8,rfl,q8⟩ h h0 h1
 obtain ⟨v0,v1,v2,v3,v4,v5,v6,v7,v8,rfl,a0,a1,a2,a3,a4,a5,a6,a7,a8⟩:=fs9 h
 obtain ⟨rfl,ia0⟩:=a0.ofInt
 obtain ⟨rfl,ia1⟩:=a1.ofInt
 obtain ⟨rfl,ia2⟩:=a2.ofInt
 obtain ⟨rfl,ia3⟩:=a3.ofInt
 obtain ⟨rfl,ia4⟩:=a4.ofInt
 obtain ⟨rfl,ia5⟩:=a5.ofInt
 obtain ⟨rfl,ia6⟩:=a6.ofInt
 obtain ⟨rfl,ia7⟩:=a7.ofInt
 obtain ⟨p8,c8,rfl⟩:=a8.form
 have hbk:Dt.bR [.int z0,.int z1,.int z2,.int z3,.int z4,.int z5,.int z6,.int z7,.row x8]=Dt.bS x8:=by simp [Dt.bR,Dt.bulk]; try omega
 rw [hbk]
 clear hbk h
 clear ia0 a0
 clear ia1 a1
 clear ia2 a2
 clear ia3 a3
 clear ia4 a4
 have O0:(w.alloc (.cells #[.int .i64 z0,.int .i64 z1,.int .i64 z2,.int .i64 z3,.int .i64 z4,.int .i64 z5,.int .i64 z6,.int .i64 z7,.slice p8 x8.length c8] 134)).heap[w.heap.size]? = some (.cells #[.int .i64 z0,.int .i64 z1,.int .i64 z2,.int .i64 z3,.int .i64 z4,.int .i64 z5,.int .i64 z6,.int .i64 z7,.slice p8 x8.length c8] 134):=(MapKept.heap_alloc w _).1
 have B0:Below w.heap.size w (w.alloc (.cells #[.int .i64 z0,.int .i64 z1,.int .i64 z2,.int .i64 z3,.int .i64 z4,.int .i64 z5,.int .i64 z6,.int .i64 z7,.slice p8 x8.length c8] 134)):=(Below.refl _ w).alloc (Nat.le_refl _) _
 have HS:=(show Hid (_∧_∧_∧_) from ⟨O0,B0,a8.up B0,trivial⟩)
 clear O0 B0 a8
 go_enter Tryz.func77,Tryz.ntmps77
 go_wp2_with fail
 refine (szCell_dt [.int .i64 z5,.int .i64 z6,.int .i64 z7,.slice p8 x8.length c8] [.int z5,.int z6,.int z7,.row x8] S _ _ ⟨_,_,_,_,rfl,q8⟩ ⟨(FAt.int _ ‹_›),(FAt.int _ ‹_›),(FAt.int _ ‹_›),HS.out.2.2.1,trivial⟩ (by omega) (by omega)).mono ?_
 rintro e w1 ⟨rfl,bb1⟩
 rw [show Dt.bR [.int z5,.int z6,.int z7,.row x8]=Dt.bS x8 from by simp [Dt.bR,Dt.bulk]; try omega]
 have OO:=(bb1.block _ (lh HS.out.1)).trans HS.out.1
 have HS1:=(show Hid (_∧_∧_) from ⟨OO,HS.out.2.1.trans (bb1.mono HS.out.2.1.size),trivial⟩)
 clear OO bb1 HS
 by_cases hl5:left<(((Dt.bS x8):Nat):Int)
 ·rw [show szR left ((Dt.bS x8)) = -1 from by unfold szR; rw [if_neg (by omega)]]
  go_wp2
  go_ret
  exact ⟨int_ret (by unfold szR; rw [if_neg (by omega)]),HS1.out.2.1⟩
 ·obtain ⟨l1,hk1⟩:∃ l1:Int,l1=left - (((Dt.bS x8):Nat):Int):=⟨_,rfl⟩
  rw [show szR left ((Dt.bS x8))=l1 from by unfold szR; rw [if_pos (by omega)]; omega]
  have hp1:0≤l1∧l1≤1048576:=by omega
  have hq1:¬ l1<0:=by omega
  have HK1:Hid (l1=left - (((Dt.bS x8):Nat):Int)):=hk1
  clear hk1 hl5
  go_wp2
  go_ret
  exact ⟨int_ret (by have eHK1:=HK1.out; unfold szR; rw [if_pos (by omega)]; try omega),HS1.out.2.1⟩
theorem szMsgS_dt:SzS 33 MsgR:=by
 intro v xs S w left hP h h0 h1
 rw [bulkS_eq]
 have hL:=preD_le xs
 have hl:=h.len
 unfold maxLen at hl
 have HC:=(show Hid (_∧_) from ⟨h,hP⟩)
 obtain ⟨a,cap,rfl⟩:=h.form
 clear h hP
 by_cases hlt:left - (xs.length:Int)<0
 ·go_enter Tryz.func33,Tryz.ntmps33
  go_wp2
  go_ret
  exact ⟨int_ret (by unfold szR; rw [if_neg (by omega)]),Below.refl _ w⟩
 ·go_enter Tryz.func33,Tryz.ntmps33
  go_wp2
  go_loopw [1,5] (fun lv i wr=>∃ k:Nat,k≤xs.length∧i = .int .i64 k∧(preD xs k:Int)≤left - (xs.length:Int)∧lv = .int .i64 (left - (xs.length:Int) - preD xs k)∧Below w.heap.size w wr) (fun _ i _=>xs.length - (intOf i).toNat)
  case atStart=>exact ⟨0,Nat.zero_le _,rfl,by simp [preD]; omega,by simp [preD],Below.refl _ _⟩
  case round =>
   obtain ⟨k,hk,rfl,hle,rfl,hbw⟩:=hrel
   by_cases hkl:k<xs.length
   ·have he:=List.getElem?_eq_getElem hkl
    have hps:=preD_succ he
    have hpk:=hL (k+1)
    generalize xs[k]=r at *
    obtain ⟨z0,z1,z2,z3,z4,z5,z6,z7,x8,rfl,q8⟩:=HC.out.2 k r he
    obtain ⟨b,off,rfl,-,hlb,us,hhus⟩:=HC.out.1.at he
    have c0:w.cell? ⟨b,off+k * 9,none⟩=some (us 0):=(hhus 0 _ rfl).1
    have a0:=(hhus 0 _ rfl).2
    have c1:w.cell? ⟨b,off+k * 9+1,none⟩=some (us 1):=(hhus 1 _ rfl).1
    have a1:=(hhus 1 _ rfl).2
    have c2:w.cell? ⟨b,off+k * 9+2,none⟩=some (us 2):=(hhus 2 _ rfl).1
    have a2:=(hhus 2 _ rfl).2
    have c3:w.cell? ⟨b,off+k * 9+3,none⟩=some (us 3):=(hhus 3 _ rfl).1
    have a3:=(hhus 3 _ rfl).2
    have c4:w.cell? ⟨b,off+k * 9+4,none⟩=some (us 4):=(hhus 4 _ rfl).1
    have a4:=(hhus 4 _ rfl).2
    have c5:w.cell? ⟨b,off+k * 9+5,none⟩=some (us 5):=(hhus 5 _ rfl).1
    have a5:=(hhus 5 _ rfl).2
    have c6:w.cell? ⟨b,off+k * 9+6,none⟩=some (us 6):=(hhus 6 _ rfl).1
    have a6:=(hhus 6 _ rfl).2
    have c7:w.cell? ⟨b,off+k * 9+7,none⟩=some (us 7):=(hhus 7 _ rfl).1
    have a7:=(hhus 7 _ rfl).2
    have c8:w.cell? ⟨b,off+k * 9+8,none⟩=some (us 8):=(hhus 8 _ rfl).1
    have a8:=(hhus 8 _ rfl).2
    clear hhus
    obtain ⟨a0e,a0r⟩:=a0.ofInt
    rw [a0e] at c0 a0
    clear a0e
    obtain ⟨a1e,a1r⟩:=a1.ofInt
    rw [a1e] at c1 a1
    clear a1e
    obtain ⟨a2e,a2r⟩:=a2.ofInt
    rw [a2e] at c2 a2
    clear a2e
    obtain ⟨a3e,a3r⟩:=a3.ofInt
    rw [a3e] at c3 a3
    clear a3e
    obtain ⟨a4e,a4r⟩:=a4.ofInt
    rw [a4e] at c4 a4
    clear a4e
    obtain ⟨a5e,a5r⟩:=a5.ofInt
    rw [a5e] at c5 a5
    clear a5e
    obtain ⟨a6e,a6r⟩:=a6.ofInt
    rw [a6e] at c6 a6
    clear a6e
    obtain ⟨a7e,a7r⟩:=a7.ofInt
    rw [a7e] at c7 a7
    clear a7e
    obtain ⟨p8,d8,a8e⟩:=a8.form
    rw [a8e] at c8 a8
    clear a8e
    rw [← hbw.cell (by exact hlb)] at c0 c1 c2 c3 c4 c5 c6 c7 c8
    have HX:Hid (FsAt wr S [.int .i64 z0,.int .i64 z1,.int .i64 z2,.int .i64 z3,.int .i64 z4,.int .i64 z5,.int .i64 z6,.int .i64 z7,.slice p8 x8.length d8] [.int z0,.int z1,.int z2,.int z3,.int z4,.int z5,.int z6,.int z7,.row x8]):=⟨a0.up hbw,a1.up hbw,a2.up hbw,a3.up hbw,a4.up hbw,a5.up hbw,a6.up hbw,a7.up hbw,a8.up hbw,trivial⟩
    have HQ:Hid (MsgR [.int z0,.int z1,.int z2,.int z3,.int z4,.int z5,.int z6,.int z7,.row x8]):=HC.out.2 k _ he
    clear he HC a0 a1 a2 a3 a4 a5 a6 a7 a8 q8
    obtain ⟨m,hm⟩:∃ m,m=Dt.bR [.int z0,.int z1,.int z2,.int z3,.int z4,.int z5,.int z6,.int z7,.row x8]:=⟨_,rfl⟩
    rw [← hm] at hps
    have hlt':((k:Nat):Int)<((xs.length:Nat):Int):=by omega
    have HM:Hid (m=Dt.bR [.int z0,.int z1,.int z2,.int z3,.int z4,.int z5,.int z6,.int z7,.row x8]):=hm
    clear hm
    go_wp2_with fail
    refine (szMsg_dt [.int .i64 z0,.int .i64 z1,.int .i64 z2,.int .i64 z3,.int .i64 z4,.int .i64 z5,.int .i64 z6,.int .i64 z7,.slice p8 x8.length d8] [.int z0,.int z1,.int z2,.int z3,.int z4,.int z5,.int z6,.int z7,.row x8] S _ _ HQ.out HX.out (by omega) (by omega)).mono ?_
    rintro e w1 ⟨rfl,b1⟩
    have b2:Below w.heap.size w w1:=hbw.trans (b1.mono hbw.size)
    clear b1 HX HQ c0 c1 c2 c3 c4 c5 c6 c7 c8
    rw [← HM.out]
    by_cases hok:(m:Int)≤left - (xs.length:Int) - preD xs k
    ·have hr:szR (left - (xs.length:Int) - preD xs k) m=left - (xs.length:Int) - preD xs (k+1):=by unfold szR; rw [if_pos hok]; omega
     rw [hr]
     have hr0:¬ left - (xs.length:Int) - preD xs (k+1)<0:=by omega
     clear hr HM
     go_wp2
     refine ⟨⟨k+1,by omega,by go_num,by omega,int_val (by omega),b2⟩,by simp [intOf]; omega⟩
    ·have hr:szR (left - (xs.length:Int) - preD xs k) m = -1:=by unfold szR; rw [if_neg hok]
     rw [hr]
     clear hr HM
     go_wp2
     go_ret
     exact ⟨int_ret (by unfold szR; rw [if_neg (by omega)]),b2⟩
   ·obtain rfl:k=xs.length:=by omega
    clear HC
    go_wp2
    go_ret
    exact ⟨int_ret (by unfold szR; rw [if_pos (by omega)]; omega),hbw⟩
theorem szMachine_dt:SzC 14 MachineR:=by
 rintro vs r S w left ⟨x0,x1,x2,x3,x4,x5,x6,rfl,q0,q1,q2,q3,q4,q5,q6⟩ h h0 h1
 obtain ⟨v0,v1,v2,v3,v4,v5,v6,rfl,a0,a1,a2,a3,a4,a5,a6⟩:=fs7 h
 obtain ⟨p0,c0,rfl⟩:=a0.form
 obtain ⟨p1,c1,rfl⟩:=a1.form
 obtain ⟨p2,c2,rfl⟩:=a2.form
 obtain ⟨p3,c3,rfl⟩:=a3.form
 obtain ⟨p4,c4,rfl⟩:=a4.form
 obtain ⟨p5,c5,rfl⟩:=a5.form
 obtain ⟨p6,c6,rfl⟩:=a6.form
 have hbk:Dt.bR [.row x0,.row x1,.row x2,.row x3,.row x4,.row x5,.row x6]=Dt.bS x0+Dt.bS x1+Dt.bS x2+Dt.bS x3+Dt.bS x4+Dt.bS x5+Dt.bS x6:=by simp [Dt.bR,Dt.bulk]; try omega
 rw [hbk]
 clear hbk h
 have O0:(w.alloc (.cells #[.slice p0 x0.length c0,.slice p1 x1.length c1,.slice p2 x2.length c2,.slice p3 x3.length c3,.slice p4 x4.length c4,.slice p5 x5.length c5,.slice p6 x6.length c6] 30)).heap[w.heap.size]? = some (.cells #[.slice p0 x0.length c0,.slice p1 x1.length c1,.slice p2 x2.length c2,.slice p3 x3.length c3,.slice p4 x4.length c4,.slice p5 x5.length c5,.slice p6 x6.length c6] 30):=(MapKept.heap_alloc w _).1
 have B0:Below w.heap.size w (w.alloc (.cells #[.slice p0 x0.length c0,.slice p1 x1.length c1,.slice p2 x2.length c2,.slice p3 x3.length c3,.slice p4 x4.length c4,.slice p5 x5.length c5,.slice p6 x6.length c6] 30)):=(Below.refl _ w).alloc (Nat.le_refl _) _
 have HS:=(show Hid (_∧_∧_∧_∧_∧_∧_∧_∧_∧_) from ⟨O0,B0,a0.up B0,a1.up B0,a2.up B0,a3.up B0,a4.up B0,a5.up B0,a6.up B0,trivial⟩)
 clear O0 B0 a0 a1 a2 a3 a4 a5 a6
 go_enter Tryz.func14,Tryz.ntmps14
 go_wp2_with fail
 refine (szTable_dt [.slice p0 x0.length c0,.slice p1 x1.length c1] [.row x0,.row x1] S _ _ ⟨_,_,rfl,q0,q1⟩ ⟨HS.out.2.2.1,HS.out.2.2.2.1,trivial⟩ (by omega) (by omega)).mono ?_
 rintro e w1 ⟨rfl,bb1⟩
 rw [show Dt.bR [.row x0,.row x1]=Dt.bS x0+Dt.bS x1 from by simp [Dt.bR,Dt.bulk]; try omega]
 have OO:=(bb1.block _ (lh HS.out.1)).trans HS.out.1
 have y1_2:=cb OO 2 (.slice p2 x2.length c2) rfl
 have y1_3:=cb OO 3 (.slice p3 x3.length c3) rfl
 have y1_4:=cb OO 4 (.slice p4 x4.length c4) rfl
 have y1_5:=cb OO 5 (.slice p5 x5.length c5) rfl
 have y1_6:=cb OO 6 (.slice p6 x6.length c6) rfl
 have HS1:=(show Hid (_∧_∧_∧_∧_∧_∧_∧_) from ⟨OO,HS.out.2.1.trans (bb1.mono HS.out.2.1.size),(HS.out.2.2.2.2.1).up bb1,(HS.out.2.2.2.2.2.1).up bb1,(HS.out.2.2.2.2.2.2.1).up bb1,(HS.out.2.2.2.2.2.2.2.1).up bb1,(HS.out.2.2.2.2.2.2.2.2.1).up bb1,trivial⟩)
 clear OO bb1 HS
 by_cases hl0:left<(((Dt.bS x0+Dt.bS x1):Nat):Int)
 ·rw [show szR left ((Dt.bS x0+Dt.bS x1)) = -1 from by unfold szR; rw [if_neg (by omega)]]
  go_wp2
  go_ret
  exact ⟨int_ret (by unfold szR; rw [if_neg (by omega)]),HS1.out.2.1⟩
 ·obtain ⟨l1,hk1⟩:∃ l1:Int,l1=left - (((Dt.bS x0+Dt.bS x1):Nat):Int):=⟨_,rfl⟩
  rw [show szR left ((Dt.bS x0+Dt.bS x1))=l1 from by unfold szR; rw [if_pos (by omega)]; omega]
  have hp1:0≤l1∧l1≤1048576:=by omega
  have hq1:¬ l1<0:=by omega
  have HK1:Hid (l1=left - (((Dt.bS x0+Dt.bS x1):Nat):Int)):=hk1
  clear hk1 hl0
  go_wp2_with fail
  refine (szCellS_dt _ x2 S _ _ q2 HS1.out.2.2.1 (by omega) (by omega)).mono ?_
  rintro e w2 ⟨rfl,bb2⟩
  have OO:=(bb2.block _ (lh HS1.out.1)).trans HS1.out.1
  have y2_3:=cb OO 3 (.slice p3 x3.length c3) rfl
  have y2_4:=cb OO 4 (.slice p4 x4.length c4) rfl
  have y2_5:=cb OO 5 (.slice p5 x5.length c5) rfl
  have y2_6:=cb OO 6 (.slice p6 x6.length c6) rfl
  have HS2:=(show Hid (_∧_∧_∧_∧_∧_∧_) from ⟨OO,HS1.out.2.1.trans (bb2.mono HS1.out.2.1.size),(HS1.out.2.2.2.1).up bb2,(HS1.out.2.2.2.2.1).up bb2,(HS1.out.2.2.2.2.2.1).up bb2,(HS1.out.2.2.2.2.2.2.1).up bb2,trivial⟩)
  clear OO bb2 HS1 y1_2 y1_3 y1_4 y1_5 y1_6
  by_cases hl2:l1<((Dt.bS x2:Nat):Int)
  ·rw [show szR l1 (Dt.bS x2) = -1 from by unfold szR; rw [if_neg (by omega)]]
   go_wp2
   go_ret
   exact ⟨int_ret (by have eHK1:=HK1.out; unfold szR; rw [if_neg (by omega)]),HS2.out.2.1⟩
  ·obtain ⟨l2,hk2⟩:∃ l2:Int,l2=l1 - ((Dt.bS x2:Nat):Int):=⟨_,rfl⟩
   rw [show szR l1 (Dt.bS x2)=l2 from by unfold szR; rw [if_pos (by omega)]; omega]
   have hp2:0≤l2∧l2≤1048576:=by omega
   have hq2:¬ l2<0:=by omega
   have HK2:Hid (l2=l1 - ((Dt.bS x2:Nat):Int)):=hk2
   clear hk2 hl2
   go_wp2_with fail
   refine (szThreadS_dt _ x3 S _ _ q3 HS2.out.2.2.1 (by omega) (by omega)).mono ?_
   rintro e w3 ⟨rfl,bb3⟩
   have OO:=(bb3.block _ (lh HS2.out.1)).trans HS2.out.1
   have y3_4:=cb OO 4 (.slice p4 x4.length c4) rfl
   have y3_5:=cb OO 5 (.slice p5 x5.length c5) rfl
   have y3_6:=cb OO 6 (.slice p6 x6.length c6) rfl
   have HS3:=(show Hid (_∧_∧_∧_∧_∧_) from ⟨OO,HS2.out.2.1.trans (bb3.mono HS2.out.2.1.size),(HS2.out.2.2.2.1).up bb3,(HS2.out.2.2.2.2.1).up bb3,(HS2.out.2.2.2.2.2.1).up bb3,trivial⟩)
   clear OO bb3 HS2 y2_3 y2_4 y2_5 y2_6
   by_cases hl3:l2<((Dt.bS x3:Nat):Int)
   ·rw [show szR l2 (Dt.bS x3) = -1 from by unfold szR; rw [if_neg (by omega)]]
    go_wp2
    go_ret
    exact ⟨int_ret (by have eHK1:=HK1.out; have eHK2:=HK2.out; unfold szR; rw [if_neg (by omega)]),HS3.out.2.1⟩
   ·obtain ⟨l3,hk3⟩:∃ l3:Int,l3=l2 - ((Dt.bS x3:Nat):Int):=⟨_,rfl⟩
    rw [show szR l2 (Dt.bS x3)=l3 from by unfold szR; rw [if_pos (by omega)]; omega]
    have hp3:0≤l3∧l3≤1048576:=by omega
    have hq3:¬ l3<0:=by omega
    have HK3:Hid (l3=l2 - ((Dt.bS x3:Nat):Int)):=hk3
    clear hk3 hl3
    go_wp2_with fail
    refine (szIntS_dt _ x4 S _ _ q4 HS3.out.2.2.1 (by omega) (by omega)).mono ?_
    rintro e w4 ⟨rfl,bb4⟩
    have OO:=(bb4.block _ (lh HS3.out.1)).trans HS3.out.1
    have y4_5:=cb OO 5 (.slice p5 x5.length c5) rfl
    have y4_6:=cb OO 6 (.slice p6 x6.length c6) rfl
    have HS4:=(show Hid (_∧_∧_∧_∧_) from ⟨OO,HS3.out.2.1.trans (bb4.mono HS3.out.2.1.size),(HS3.out.2.2.2.1).up bb4,(HS3.out.2.2.2.2.1).up bb4,trivial⟩)
    clear OO bb4 HS3 y3_4 y3_5 y3_6
    by_cases hl4:l3<((Dt.bS x4:Nat):Int)
    ·rw [show szR l3 (Dt.bS x4) = -1 from by unfold szR; rw [if_neg (by omega)]]
     go_wp2
     go_ret
     exact ⟨int_ret (by have eHK1:=HK1.out; have eHK2:=HK2.out; have eHK3:=HK3.out; unfold szR; rw [if_neg (by omega)]),HS4.out.2.1⟩
    ·obtain ⟨l4,hk4⟩:∃ l4:Int,l4=l3 - ((Dt.bS x4:Nat):Int):=⟨_,rfl⟩
     rw [show szR l3 (Dt.bS x4)=l4 from by unfold szR; rw [if_pos (by omega)]; omega]
     have hp4:0≤l4∧l4≤1048576:=by omega
     have hq4:¬ l4<0:=by omega
     have HK4:Hid (l4=l3 - ((Dt.bS x4:Nat):Int)):=hk4
     clear hk4 hl4
     go_wp2_with fail
     refine (szIntS_dt _ x5 S _ _ q5 HS4.out.2.2.1 (by omega) (by omega)).mono ?_
     rintro e w5 ⟨rfl,bb5⟩
     have OO:=(bb5.block _ (lh HS4.out.1)).trans HS4.out.1
     have y5_6:=cb OO 6 (.slice p6 x6.length c6) rfl
     have HS5:=(show Hid (_∧_∧_∧_) from ⟨OO,HS4.out.2.1.trans (bb5.mono HS4.out.2.1.size),(HS4.out.2.2.2.1).up bb5,trivial⟩)
     clear OO bb5 HS4 y4_5 y4_6
     by_cases hl5:l4<((Dt.bS x5:Nat):Int)
     ·rw [show szR l4 (Dt.bS x5) = -1 from by unfold szR; rw [if_neg (by omega)]]
      go_wp2
      go_ret
      exact ⟨int_ret (by have eHK1:=HK1.out; have eHK2:=HK2.out; have eHK3:=HK3.out; have eHK4:=HK4.out; unfold szR; rw [if_neg (by omega)]),HS5.out.2.1⟩
     ·obtain ⟨l5,hk5⟩:∃ l5:Int,l5=l4 - ((Dt.bS x5:Nat):Int):=⟨_,rfl⟩
      rw [show szR l4 (Dt.bS x5)=l5 from by unfold szR; rw [if_pos (by omega)]; omega]
      have hp5:0≤l5∧l5≤1048576:=by omega
      have hq5:¬ l5<0:=by omega
      have HK5:Hid (l5=l4 - ((Dt.bS x5:Nat):Int)):=hk5
      clear hk5 hl5
      go_wp2_with fail
      refine (szMsgS_dt _ x6 S _ _ q6 HS5.out.2.2.1 (by omega) (by omega)).mono ?_
      rintro e w6 ⟨rfl,bb6⟩
      have OO:=(bb6.block _ (lh HS5.out.1)).trans HS5.out.1
      have HS6:=(show Hid (_∧_∧_) from ⟨OO,HS5.out.2.1.trans (bb6.mono HS5.out.2.1.size),trivial⟩)
      clear OO bb6 HS5 y5_6
      by_cases hl6:l5<((Dt.bS x6:Nat):Int)
      ·rw [show szR l5 (Dt.bS x6) = -1 from by unfold szR; rw [if_neg (by omega)]]
       go_wp2
       go_ret
       exact ⟨int_ret (by have eHK1:=HK1.out; have eHK2:=HK2.out; have eHK3:=HK3.out; have eHK4:=HK4.out; have eHK5:=HK5.out; unfold szR; rw [if_neg (by omega)]),HS6.out.2.1⟩
      ·obtain ⟨l6,hk6⟩:∃ l6:Int,l6=l5 - ((Dt.bS x6:Nat):Int):=⟨_,rfl⟩
       rw [show szR l5 (Dt.bS x6)=l6 from by unfold szR; rw [if_pos (by omega)]; omega]
       have hp6:0≤l6∧l6≤1048576:=by omega
       have hq6:¬ l6<0:=by omega
       have HK6:Hid (l6=l5 - ((Dt.bS x6:Nat):Int)):=hk6
       clear hk6 hl6
       go_wp2
       go_ret
       exact ⟨int_ret (by have eHK1:=HK1.out; have eHK2:=HK2.out; have eHK3:=HK3.out; have eHK4:=HK4.out; have eHK5:=HK5.out; have eHK6:=HK6.out; unfold szR; rw [if_pos (by omega)]; try omega),HS6.out.2.1⟩
theorem szSent_dt:SzC 78 SentR:=by
 rintro vs r S w left ⟨z0,z1,b2,rfl⟩ h h0 h1
 obtain ⟨v0,v1,v2,rfl,a0,a1,a2⟩:=fs3 h
 obtain ⟨rfl,ia0⟩:=a0.ofInt
 obtain ⟨rfl,ia1⟩:=a1.ofInt
 obtain ⟨rfl,ia2⟩:=a2.ofStr
 have hbk:Dt.bR [.int z0,.int z1,.str b2]=b2.size:=by simp [Dt.bR,Dt.bulk]; try omega
 rw [hbk]
 clear hbk h
 clear ia0 a0
 clear ia1 a1
 unfold maxLen at ia2
 have O0:(w.alloc (.cells #[.int .i64 z0,.int .i64 z1,.string b2] 136)).heap[w.heap.size]? = some (.cells #[.int .i64 z0,.int .i64 z1,.string b2] 136):=(MapKept.heap_alloc w _).1
 have B0:Below w.heap.size w (w.alloc (.cells #[.int .i64 z0,.int .i64 z1,.string b2] 136)):=(Below.refl _ w).alloc (Nat.le_refl _) _
 have HS:=(show Hid (_∧_∧_) from ⟨O0,B0,trivial⟩)
 clear O0 B0 a2
 go_enter Tryz.func78,Tryz.ntmps78
 by_cases hl2:left - (b2.size:Int)<0
 ·go_wp2
  go_ret
  exact ⟨int_ret (by unfold szR; rw [if_neg (by omega)]),HS.out.2.1⟩
 ·have hg2:0≤left - (b2.size:Int):=by omega
  go_wp2
  go_ret
  exact ⟨int_ret (by unfold szR; rw [if_pos (by omega)]; try omega),HS.out.2.1⟩
theorem szSentS_dt:SzS 34 SentR:=by
 intro v xs S w left hP h h0 h1
 rw [bulkS_eq]
 have hL:=preD_le xs
 have hl:=h.len
 unfold maxLen at hl
 have HC:=(show Hid (_∧_) from ⟨h,hP⟩)
 obtain ⟨a,cap,rfl⟩:=h.form
 clear h hP
 by_cases hlt:left - (xs.length:Int)<0
 ·go_enter Tryz.func34,Tryz.ntmps34
  go_wp2
  go_ret
  exact ⟨int_ret (by unfold szR; rw [if_neg (by omega)]),Below.refl _ w⟩
 ·go_enter Tryz.func34,Tryz.ntmps34
  go_wp2
  go_loopw [1,5] (fun lv i wr=>∃ k:Nat,k≤xs.length∧i = .int .i64 k∧(preD xs k:Int)≤left - (xs.length:Int)∧lv = .int .i64 (left - (xs.length:Int) - preD xs k)∧Below w.heap.size w wr) (fun _ i _=>xs.length - (intOf i).toNat)
  case atStart=>exact ⟨0,Nat.zero_le _,rfl,by simp [preD]; omega,by simp [preD],Below.refl _ _⟩
  case round =>
   obtain ⟨k,hk,rfl,hle,rfl,hbw⟩:=hrel
   by_cases hkl:k<xs.length
   ·have he:=List.getElem?_eq_getElem hkl
    have hps:=preD_succ he
    have hpk:=hL (k+1)
    generalize xs[k]=r at *
    obtain ⟨z0,z1,b2,rfl⟩:=HC.out.2 k r he
    obtain ⟨b,off,rfl,-,hlb,us,hhus⟩:=HC.out.1.at he
    have c0:w.cell? ⟨b,off+k * 3,none⟩=some (us 0):=(hhus 0 _ rfl).1
    have a0:=(hhus 0 _ rfl).2
    have c1:w.cell? ⟨b,off+k * 3+1,none⟩=some (us 1):=(hhus 1 _ rfl).1
    have a1:=(hhus 1 _ rfl).2
    have c2:w.cell? ⟨b,off+k * 3+2,none⟩=some (us 2):=(hhus 2 _ rfl).1
    have a2:=(hhus 2 _ rfl).2
    clear hhus
    obtain ⟨a0e,a0r⟩:=a0.ofInt
    rw [a0e] at c0 a0
    clear a0e
    obtain ⟨a1e,a1r⟩:=a1.ofInt
    rw [a1e] at c1 a1
    clear a1e
    obtain ⟨a2e,a2r⟩:=a2.ofStr
    rw [a2e] at c2 a2
    clear a2e
    rw [← hbw.cell (by exact hlb)] at c0 c1 c2
    have HX:Hid (FsAt wr S [.int .i64 z0,.int .i64 z1,.string b2] [.int z0,.int z1,.str b2]):=⟨a0.up hbw,a1.up hbw,a2.up hbw,trivial⟩
    have HQ:Hid (SentR [.int z0,.int z1,.str b2]):=HC.out.2 k _ he
    clear he HC a0 a1 a2
    obtain ⟨m,hm⟩:∃ m,m=Dt.bR [.int z0,.int z1,.str b2]:=⟨_,rfl⟩
    rw [← hm] at hps
    have hlt':((k:Nat):Int)<((xs.length:Nat):Int):=by omega
    have HM:Hid (m=Dt.bR [.int z0,.int z1,.str b2]):=hm
    clear hm
    go_wp2_with fail
    refine (szSent_dt [.int .i64 z0,.int .i64 z1,.string b2] [.int z0,.int z1,.str b2] S _ _ HQ.out HX.out (by omega) (by omega)).mono ?_
    rintro e w1 ⟨rfl,b1⟩
    have b2:Below w.heap.size w w1:=hbw.trans (b1.mono hbw.size)
    clear b1 HX HQ c0 c1 c2
    rw [← HM.out]
    by_cases hok:(m:Int)≤left - (xs.length:Int) - preD xs k
    ·have hr:szR (left - (xs.length:Int) - preD xs k) m=left - (xs.length:Int) - preD xs (k+1):=by unfold szR; rw [if_pos hok]; omega
     rw [hr]
     have hr0:¬ left - (xs.length:Int) - preD xs (k+1)<0:=by omega
     clear hr HM
     go_wp2
     refine ⟨⟨k+1,by omega,by go_num,by omega,int_val (by omega),b2⟩,by simp [intOf]; omega⟩
    ·have hr:szR (left - (xs.length:Int) - preD xs k) m = -1:=by unfold szR; rw [if_neg hok]
     rw [hr]
     clear hr HM
     go_wp2
     go_ret
     exact ⟨int_ret (by unfold szR; rw [if_neg (by omega)]),b2⟩
   ·obtain rfl:k=xs.length:=by omega
    clear HC
    go_wp2
    go_ret
    exact ⟨int_ret (by unfold szR; rw [if_pos (by omega)]; omega),hbw⟩
theorem szSeen_dt:SzC 79 SeenR:=by
 rintro vs r S w left ⟨z0,x1,rfl,q1⟩ h h0 h1
 obtain ⟨v0,v1,rfl,a0,a1⟩:=fs2 h
 obtain ⟨rfl,ia0⟩:=a0.ofInt
 obtain ⟨p1,c1,rfl⟩:=a1.form
 have hbk:Dt.bR [.int z0,.row x1]=Dt.bS x1:=by simp [Dt.bR,Dt.bulk]; try omega
 rw [hbk]
 clear hbk h
 clear ia0 a0
 have O0:(w.alloc (.cells #[.int .i64 z0,.slice p1 x1.length c1] 139)).heap[w.heap.size]? = some (.cells #[.int .i64 z0,.slice p1 x1.length c1] 139):=(MapKept.heap_alloc w _).1
 have B0:Below w.heap.size w (w.alloc (.cells #[.int .i64 z0,.slice p1 x1.length c1] 139)):=(Below.refl _ w).alloc (Nat.le_refl _) _
 have HS:=(show Hid (_∧_∧_∧_) from ⟨O0,B0,a1.up B0,trivial⟩)
 clear O0 B0 a1
 go_enter Tryz.func79,Tryz.ntmps79
 go_wp2_with fail
 refine (szIntS_dt _ x1 S _ _ q1 HS.out.2.2.1 (by omega) (by omega)).mono ?_
 rintro e w1 ⟨rfl,bb1⟩
 have OO:=(bb1.block _ (lh HS.out.1)).trans HS.out.1
 have HS1:=(show Hid (_∧_∧_) from ⟨OO,HS.out.2.1.trans (bb1.mono HS.out.2.1.size),trivial⟩)
 clear OO bb1 HS
 by_cases hl1:left<((Dt.bS x1:Nat):Int)
 ·rw [show szR left (Dt.bS x1) = -1 from by unfold szR; rw [if_neg (by omega)]]
  go_wp2
  go_ret
  exact ⟨int_ret (by unfold szR; rw [if_neg (by omega)]),HS1.out.2.1⟩
 ·obtain ⟨l1,hk1⟩:∃ l1:Int,l1=left - ((Dt.bS x1:Nat):Int):=⟨_,rfl⟩
  rw [show szR left (Dt.bS x1)=l1 from by unfold szR; rw [if_pos (by omega)]; omega]
  have hp1:0≤l1∧l1≤1048576:=by omega
  have hq1:¬ l1<0:=by omega
  have HK1:Hid (l1=left - ((Dt.bS x1:Nat):Int)):=hk1
  clear hk1 hl1
  go_wp2
  go_ret
  exact ⟨int_ret (by have eHK1:=HK1.out; unfold szR; rw [if_pos (by omega)]; try omega),HS1.out.2.1⟩
theorem szSeenS_dt:SzS 35 SeenR:=by
 intro v xs S w left hP h h0 h1
 rw [bulkS_eq]
 have hL:=preD_le xs
 have hl:=h.len
 unfold maxLen at hl
 have HC:=(show Hid (_∧_) from ⟨h,hP⟩)
 obtain ⟨a,cap,rfl⟩:=h.form
 clear h hP
 by_cases hlt:left - (xs.length:Int)<0
 ·go_enter Tryz.func35,Tryz.ntmps35
  go_wp2
  go_ret
  exact ⟨int_ret (by unfold szR; rw [if_neg (by omega)]),Below.refl _ w⟩
 ·go_enter Tryz.func35,Tryz.ntmps35
  go_wp2
  go_loopw [1,5] (fun lv i wr=>∃ k:Nat,k≤xs.length∧i = .int .i64 k∧(preD xs k:Int)≤left - (xs.length:Int)∧lv = .int .i64 (left - (xs.length:Int) - preD xs k)∧Below w.heap.size w wr) (fun _ i _=>xs.length - (intOf i).toNat)
  case atStart=>exact ⟨0,Nat.zero_le _,rfl,by simp [preD]; omega,by simp [preD],Below.refl _ _⟩
  case round =>
   obtain ⟨k,hk,rfl,hle,rfl,hbw⟩:=hrel
   by_cases hkl:k<xs.length
   ·have he:=List.getElem?_eq_getElem hkl
    have hps:=preD_succ he
    have hpk:=hL (k+1)
    generalize xs[k]=r at *
    obtain ⟨z0,x1,rfl,q1⟩:=HC.out.2 k r he
    obtain ⟨b,off,rfl,-,hlb,us,hhus⟩:=HC.out.1.at he
    have c0:w.cell? ⟨b,off+k * 2,none⟩=some (us 0):=(hhus 0 _ rfl).1
    have a0:=(hhus 0 _ rfl).2
    have c1:w.cell? ⟨b,off+k * 2+1,none⟩=some (us 1):=(hhus 1 _ rfl).1
    have a1:=(hhus 1 _ rfl).2
    clear hhus
    obtain ⟨a0e,a0r⟩:=a0.ofInt
    rw [a0e] at c0 a0
    clear a0e
    obtain ⟨p1,d1,a1e⟩:=a1.form
    rw [a1e] at c1 a1
    clear a1e
    rw [← hbw.cell (by exact hlb)] at c0 c1
    have HX:Hid (FsAt wr S [.int .i64 z0,.slice p1 x1.length d1] [.int z0,.row x1]):=⟨a0.up hbw,a1.up hbw,trivial⟩
    have HQ:Hid (SeenR [.int z0,.row x1]):=HC.out.2 k _ he
    clear he HC a0 a1 q1
    obtain ⟨m,hm⟩:∃ m,m=Dt.bR [.int z0,.row x1]:=⟨_,rfl⟩
    rw [← hm] at hps
    have hlt':((k:Nat):Int)<((xs.length:Nat):Int):=by omega
    have HM:Hid (m=Dt.bR [.int z0,.row x1]):=hm
    clear hm
    go_wp2_with fail
    refine (szSeen_dt [.int .i64 z0,.slice p1 x1.length d1] [.int z0,.row x1] S _ _ HQ.out HX.out (by omega) (by omega)).mono ?_
    rintro e w1 ⟨rfl,b1⟩
    have b2:Below w.heap.size w w1:=hbw.trans (b1.mono hbw.size)
    clear b1 HX HQ c0 c1
    rw [← HM.out]
    by_cases hok:(m:Int)≤left - (xs.length:Int) - preD xs k
    ·have hr:szR (left - (xs.length:Int) - preD xs k) m=left - (xs.length:Int) - preD xs (k+1):=by unfold szR; rw [if_pos hok]; omega
     rw [hr]
     have hr0:¬ left - (xs.length:Int) - preD xs (k+1)<0:=by omega
     clear hr HM
     go_wp2
     refine ⟨⟨k+1,by omega,by go_num,by omega,int_val (by omega),b2⟩,by simp [intOf]; omega⟩
    ·have hr:szR (left - (xs.length:Int) - preD xs k) m = -1:=by unfold szR; rw [if_neg hok]
     rw [hr]
     clear hr HM
     go_wp2
     go_ret
     exact ⟨int_ret (by unfold szR; rw [if_neg (by omega)]),b2⟩
   ·obtain rfl:k=xs.length:=by omega
    clear HC
    go_wp2
    go_ret
    exact ⟨int_ret (by unfold szR; rw [if_pos (by omega)]; omega),hbw⟩
theorem szLink_dt:SzC 15 LinkR:=by
 rintro vs r S w left ⟨z0,z1,x2,x3,rfl,q2,q3⟩ h h0 h1
 obtain ⟨v0,v1,v2,v3,rfl,a0,a1,a2,a3⟩:=fs4 h
 obtain ⟨rfl,ia0⟩:=a0.ofInt
 obtain ⟨rfl,ia1⟩:=a1.ofInt
 obtain ⟨p2,c2,rfl⟩:=a2.form
 obtain ⟨p3,c3,rfl⟩:=a3.form
 have hbk:Dt.bR [.int z0,.int z1,.row x2,.row x3]=Dt.bS x2+Dt.bS x3:=by simp [Dt.bR,Dt.bulk]; try omega
 rw [hbk]
 clear hbk h
 clear ia0 a0
 clear ia1 a1
 have O0:(w.alloc (.cells #[.int .i64 z0,.int .i64 z1,.slice p2 x2.length c2,.slice p3 x3.length c3] 34)).heap[w.heap.size]? = some (.cells #[.int .i64 z0,.int .i64 z1,.slice p2 x2.length c2,.slice p3 x3.length c3] 34):=(MapKept.heap_alloc w _).1
 have B0:Below w.heap.size w (w.alloc (.cells #[.int .i64 z0,.int .i64 z1,.slice p2 x2.length c2,.slice p3 x3.length c3] 34)):=(Below.refl _ w).alloc (Nat.le_refl _) _
 have HS:=(show Hid (_∧_∧_∧_∧_) from ⟨O0,B0,a2.up B0,a3.up B0,trivial⟩)
 clear O0 B0 a2 a3
 go_enter Tryz.func15,Tryz.ntmps15
 go_wp2_with fail
 refine (szSentS_dt _ x2 S _ _ q2 HS.out.2.2.1 (by omega) (by omega)).mono ?_
 rintro e w1 ⟨rfl,bb1⟩
 have OO:=(bb1.block _ (lh HS.out.1)).trans HS.out.1
 have y1_3:=cb OO 3 (.slice p3 x3.length c3) rfl
 have HS1:=(show Hid (_∧_∧_∧_) from ⟨OO,HS.out.2.1.trans (bb1.mono HS.out.2.1.size),(HS.out.2.2.2.1).up bb1,trivial⟩)
 clear OO bb1 HS
 by_cases hl2:left<((Dt.bS x2:Nat):Int)
 ·rw [show szR left (Dt.bS x2) = -1 from by unfold szR; rw [if_neg (by omega)]]
  go_wp2
  go_ret
  exact ⟨int_ret (by unfold szR; rw [if_neg (by omega)]),HS1.out.2.1⟩
 ·obtain ⟨l1,hk1⟩:∃ l1:Int,l1=left - ((Dt.bS x2:Nat):Int):=⟨_,rfl⟩
  rw [show szR left (Dt.bS x2)=l1 from by unfold szR; rw [if_pos (by omega)]; omega]
  have hp1:0≤l1∧l1≤1048576:=by omega
  have hq1:¬ l1<0:=by omega
  have HK1:Hid (l1=left - ((Dt.bS x2:Nat):Int)):=hk1
  clear hk1 hl2
  go_wp2_with fail
  refine (szSeenS_dt _ x3 S _ _ q3 HS1.out.2.2.1 (by omega) (by omega)).mono ?_
  rintro e w2 ⟨rfl,bb2⟩
  have OO:=(bb2.block _ (lh HS1.out.1)).trans HS1.out.1
  have HS2:=(show Hid (_∧_∧_) from ⟨OO,HS1.out.2.1.trans (bb2.mono HS1.out.2.1.size),trivial⟩)
  clear OO bb2 HS1 y1_3
  by_cases hl3:l1<((Dt.bS x3:Nat):Int)
  ·rw [show szR l1 (Dt.bS x3) = -1 from by unfold szR; rw [if_neg (by omega)]]
   go_wp2
   go_ret
   exact ⟨int_ret (by have eHK1:=HK1.out; unfold szR; rw [if_neg (by omega)]),HS2.out.2.1⟩
  ·obtain ⟨l2,hk2⟩:∃ l2:Int,l2=l1 - ((Dt.bS x3:Nat):Int):=⟨_,rfl⟩
   rw [show szR l1 (Dt.bS x3)=l2 from by unfold szR; rw [if_pos (by omega)]; omega]
   have hp2:0≤l2∧l2≤1048576:=by omega
   have hq2:¬ l2<0:=by omega
   have HK2:Hid (l2=l1 - ((Dt.bS x3:Nat):Int)):=hk2
   clear hk2 hl3
   go_wp2
   go_ret
   exact ⟨int_ret (by have eHK1:=HK1.out; have eHK2:=HK2.out; unfold szR; rw [if_pos (by omega)]; try omega),HS2.out.2.1⟩
theorem szPeer_dt:SzC 4 PeerR:=by
 rintro vs r S w left ⟨x0,x1,x2,x3,x4,x5,x6,z7,z8,x9,x10,rfl,q0,q1,q2,q3,q4,q5,q6,q9,q10⟩ h h0 h1
 obtain ⟨v0,v1,v2,v3,v4,v5,v6,v7,v8,v9,v10,rfl,a0,a1,a2,a3,a4,a5,a6,a7,a8,a9,a10⟩:=fs11 h
 obtain ⟨p0,c0,rfl⟩:=a0.form
 obtain ⟨p1,c1,rfl⟩:=a1.form
 obtain ⟨p2,c2,rfl⟩:=a2.form
 obtain ⟨p3,c3,rfl⟩:=a3.form
 obtain ⟨p4,c4,rfl⟩:=a4.form
 obtain ⟨p5,c5,rfl⟩:=a5.form
 obtain ⟨p6,c6,rfl⟩:=a6.form
 obtain ⟨rfl,ia7⟩:=a7.ofInt
 obtain ⟨rfl,ia8⟩:=a8.ofInt
 obtain ⟨p9,c9,rfl⟩:=a9.form
 obtain ⟨p10,c10,rfl⟩:=a10.form
 have hbk:Dt.bR [.row x0,.row x1,.row x2,.row x3,.row x4,.row x5,.row x6,.int z7,.int z8,.row x9,.row x10]=Dt.bS x0+Dt.bS x1+Dt.bS x2+Dt.bS x3+Dt.bS x4+Dt.bS x5+Dt.bS x6+Dt.bS x9+Dt.bS x10:=by simp [Dt.bR,Dt.bulk]; try omega
 rw [hbk]
 clear hbk h
 have O0:(w.alloc (.cells #[.slice p0 x0.length c0,.slice p1 x1.length c1,.slice p2 x2.length c2,.slice p3 x3.length c3,.slice p4 x4.length c4,.slice p5 x5.length c5,.slice p6 x6.length c6,.int .i64 z7,.int .i64 z8,.slice p9 x9.length c9,.slice p10 x10.length c10] 36)).heap[w.heap.size]? = some (.cells #[.slice p0 x0.length c0,.slice p1 x1.length c1,.slice p2 x2.length c2,.slice p3 x3.length c3,.slice p4 x4.length c4,.slice p5 x5.length c5,.slice p6 x6.length c6,.int .i64 z7,.int .i64 z8,.slice p9 x9.length c9,.slice p10 x10.length c10] 36):=(MapKept.heap_alloc w _).1
 have B0:Below w.heap.size w (w.alloc (.cells #[.slice p0 x0.length c0,.slice p1 x1.length c1,.slice p2 x2.length c2,.slice p3 x3.length c3,.slice p4 x4.length c4,.slice p5 x5.length c5,.slice p6 x6.length c6,.int .i64 z7,.int .i64 z8,.slice p9 x9.length c9,.slice p10 x10.length c10] 36)):=(Below.refl _ w).alloc (Nat.le_refl _) _
 have HS:=(show Hid (_∧_∧_∧_∧_∧_∧_∧_∧_∧_∧_∧_) from ⟨O0,B0,a0.up B0,a1.up B0,a2.up B0,a3.up B0,a4.up B0,a5.up B0,a6.up B0,a9.up B0,a10.up B0,trivial⟩)
 clear O0 B0 a0 a1 a2 a3 a4 a5 a6 a9 a10
 go_enter Tryz.func4,Tryz.ntmps4
 go_wp2_with fail
 refine (szMachine_dt [.slice p0 x0.length c0,.slice p1 x1.length c1,.slice p2 x2.length c2,.slice p3 x3.length c3,.slice p4 x4.length c4,.slice p5 x5.length c5,.slice p6 x6.length c6] [.row x0,.row x1,.row x2,.row x3,.row x4,.row x5,.row x6] S _ _ ⟨_,_,_,_,_,_,_,rfl,q0,q1,q2,q3,q4,q5,q6⟩ ⟨HS.out.2.2.1,HS.out.2.2.2.1,HS.out.2.2.2.2.1,HS.out.2.2.2.2.2.1,HS.out.2.2.2.2.2.2.1,HS.out.2.2.2.2.2.2.2.1,HS.out.2.2.2.2.2.2.2.2.1,trivial⟩ (by omega) (by omega)).mono ?_
 rintro e w1 ⟨rfl,bb1⟩
 rw [show Dt.bR [.row x0,.row x1,.row x2,.row x3,.row x4,.row x5,.row x6]=Dt.bS x0+Dt.bS x1+Dt.bS x2+Dt.bS x3+Dt.bS x4+Dt.bS x5+Dt.bS x6 from by simp [Dt.bR,Dt.bulk]; try omega]
 have OO:=(bb1.block _ (lh HS.out.1)).trans HS.out.1
 have y1_7:=cb OO 7 (.int .i64 z7) rfl
 have y1_8:=cb OO 8 (.int .i64 z8) rfl
 have y1_9:=cb OO 9 (.slice p9 x9.length c9) rfl
 have y1_10:=cb OO 10 (.slice p10 x10.length c10) rfl
 have HS1:=(show Hid (_∧_∧_∧_∧_) from ⟨OO,HS.out.2.1.trans (bb1.mono HS.out.2.1.size),(HS.out.2.2.2.2.2.2.2.2.2.1).up bb1,(HS.out.2.2.2.2.2.2.2.2.2.2.1).up bb1,trivial⟩)
 clear OO bb1 HS
 by_cases hl0:left<(((Dt.bS x0+Dt.bS x1+Dt.bS x2+Dt.bS x3+Dt.bS x4+Dt.bS x5+Dt.bS x6):Nat):Int)
 ·rw [show szR left ((Dt.bS x0+Dt.bS x1+Dt.bS x2+Dt.bS x3+Dt.bS x4+Dt.bS x5+Dt.bS x6)) = -1 from by unfold szR; rw [if_neg (by omega)]]
  go_wp2
  go_ret
  exact ⟨int_ret (by unfold szR; rw [if_neg (by omega)]),HS1.out.2.1⟩
 ·obtain ⟨l1,hk1⟩:∃ l1:Int,l1=left - (((Dt.bS x0+Dt.bS x1+Dt.bS x2+Dt.bS x3+Dt.bS x4+Dt.bS x5+Dt.bS x6):Nat):Int):=⟨_,rfl⟩
  rw [show szR left ((Dt.bS x0+Dt.bS x1+Dt.bS x2+Dt.bS x3+Dt.bS x4+Dt.bS x5+Dt.bS x6))=l1 from by unfold szR; rw [if_pos (by omega)]; omega]
  have hp1:0≤l1∧l1≤1048576:=by omega
  have hq1:¬ l1<0:=by omega
  have HK1:Hid (l1=left - (((Dt.bS x0+Dt.bS x1+Dt.bS x2+Dt.bS x3+Dt.bS x4+Dt.bS x5+Dt.bS x6):Nat):Int)):=hk1
  clear hk1 hl0
  go_wp2_with fail
  refine (szLink_dt [.int .i64 z7,.int .i64 z8,.slice p9 x9.length c9,.slice p10 x10.length c10] [.int z7,.int z8,.row x9,.row x10] S _ _ ⟨_,_,_,_,rfl,q9,q10⟩ ⟨(FAt.int _ ‹_›),(FAt.int _ ‹_›),HS1.out.2.2.1,HS1.out.2.2.2.1,trivial⟩ (by omega) (by omega)).mono ?_
  rintro e w2 ⟨rfl,bb2⟩
  rw [show Dt.bR [.int z7,.int z8,.row x9,.row x10]=Dt.bS x9+Dt.bS x10 from by simp [Dt.bR,Dt.bulk]; try omega]
  have OO:=(bb2.block _ (lh HS1.out.1)).trans HS1.out.1
  have HS2:=(show Hid (_∧_∧_) from ⟨OO,HS1.out.2.1.trans (bb2.mono HS1.out.2.1.size),trivial⟩)
  clear OO bb2 HS1 y1_7 y1_8 y1_9 y1_10
  by_cases hl7:l1<(((Dt.bS x9+Dt.bS x10):Nat):Int)
  ·rw [show szR l1 ((Dt.bS x9+Dt.bS x10)) = -1 from by unfold szR; rw [if_neg (by omega)]]
   go_wp2
   go_ret
   exact ⟨int_ret (by have eHK1:=HK1.out; unfold szR; rw [if_neg (by omega)]),HS2.out.2.1⟩
  ·obtain ⟨l2,hk2⟩:∃ l2:Int,l2=l1 - (((Dt.bS x9+Dt.bS x10):Nat):Int):=⟨_,rfl⟩
   rw [show szR l1 ((Dt.bS x9+Dt.bS x10))=l2 from by unfold szR; rw [if_pos (by omega)]; omega]
   have hp2:0≤l2∧l2≤1048576:=by omega
   have hq2:¬ l2<0:=by omega
   have HK2:Hid (l2=l1 - (((Dt.bS x9+Dt.bS x10):Nat):Int)):=hk2
   clear hk2 hl7
   go_wp2
   go_ret
   exact ⟨int_ret (by have eHK1:=HK1.out; have eHK2:=HK2.out; unfold szR; rw [if_pos (by omega)]; try omega),HS2.out.2.1⟩
end Go.Proofs.YtmmadoabejgffaaGreatDoor
