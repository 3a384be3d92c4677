/-
  Proofs.
-/
import Derived.Test.YtmmadoabejgffaaGreatDoorA
import Derived.Test.YtmmadoabejgffaaGreatDoorD
import Derived.Test.YtmmadoabejgffaaGreatDoorHA
namespace Go.Proofs.YtmmadoabejgffaaGreatDoor
open Go.RowKit Go.Joins
set_option maxRecDepth 100000
set_option maxHeartbeats 51200000
theorem heldMachine_dt:HlC 27 MachineR:=by
 rintro vs r S w k ⟨x0,x1,x2,x3,x4,x5,x6,rfl,q0,q1,q2,q3,q4,q5,q6⟩ h h0 hb
 rw [show tmk [.row x0,.row x1,.row x2,.row x3,.row x4,.row x5,.row x6] k=[.row (Dt.mkS x0 (k)),.row (Dt.mkS x1 (k+(Dt.cS x0:Int))),.row (Dt.mkS x2 (k+(Dt.cS x0:Int)+(Dt.cS x1:Int))),.row (Dt.mkS x3 (k+(Dt.cS x0:Int)+(Dt.cS x1:Int)+(Dt.cS x2:Int))),.row (Dt.mkS x4 (k+(Dt.cS x0:Int)+(Dt.cS x1:Int)+(Dt.cS x2:Int)+(Dt.cS x3:Int))),.row (Dt.mkS x5 (k+(Dt.cS x0:Int)+(Dt.cS x1:Int)+(Dt.cS x2:Int)+(Dt.cS x3:Int)+(Dt.cS x4:Int))),.row (Dt.mkS x6 (k+(Dt.cS x0:Int)+(Dt.cS x1:Int)+(Dt.cS x2:Int)+(Dt.cS x3:Int)+(Dt.cS x4:Int)+(Dt.cS x5:Int)))] from rfl] at h
 obtain ⟨v0,v1,v2,v3,v4,v5,v6,rfl,a0,a1,a2,a3,a4,a5,a6⟩:=fs7 h
 obtain ⟨p0,c0,rfl⟩:=a0.form
 obtain ⟨p1,c1,rfl⟩:=a1.form
 obtain ⟨p2,c2,rfl⟩:=a2.form
 obtain ⟨p3,c3,rfl⟩:=a3.form
 obtain ⟨p4,c4,rfl⟩:=a4.form
 obtain ⟨p5,c5,rfl⟩:=a5.form
 obtain ⟨p6,c6,rfl⟩:=a6.form
 rw [show tcnt [.row x0,.row x1,.row x2,.row x3,.row x4,.row x5,.row x6]=Dt.cS x0+Dt.cS x1+Dt.cS x2+Dt.cS x3+Dt.cS x4+Dt.cS x5+Dt.cS x6 from by simp [tcnt]; try omega] at hb ⊢
 have B0:Below w.heap.size w (w.alloc (.cells #[.slice p0 (Dt.mkS x0 (k)).length c0,.slice p1 (Dt.mkS x1 (k+(Dt.cS x0:Int))).length c1,.slice p2 (Dt.mkS x2 (k+(Dt.cS x0:Int)+(Dt.cS x1:Int))).length c2,.slice p3 (Dt.mkS x3 (k+(Dt.cS x0:Int)+(Dt.cS x1:Int)+(Dt.cS x2:Int))).length c3,.slice p4 (Dt.mkS x4 (k+(Dt.cS x0:Int)+(Dt.cS x1:Int)+(Dt.cS x2:Int)+(Dt.cS x3:Int))).length c4,.slice p5 (Dt.mkS x5 (k+(Dt.cS x0:Int)+(Dt.cS x1:Int)+(Dt.cS x2:Int)+(Dt.cS x3:Int)+(Dt.cS x4:Int))).length c5,.slice p6 (Dt.mkS x6 (k+(Dt.cS x0:Int)+(Dt.cS x1:Int)+(Dt.cS x2:Int)+(Dt.cS x3:Int)+(Dt.cS x4:Int)+(Dt.cS x5:Int))).length c6] 45)):=(Below.refl _ w).alloc (Nat.le_refl _) _
 have O0:(w.alloc (.cells #[.slice p0 (Dt.mkS x0 (k)).length c0,.slice p1 (Dt.mkS x1 (k+(Dt.cS x0:Int))).length c1,.slice p2 (Dt.mkS x2 (k+(Dt.cS x0:Int)+(Dt.cS x1:Int))).length c2,.slice p3 (Dt.mkS x3 (k+(Dt.cS x0:Int)+(Dt.cS x1:Int)+(Dt.cS x2:Int))).length c3,.slice p4 (Dt.mkS x4 (k+(Dt.cS x0:Int)+(Dt.cS x1:Int)+(Dt.cS x2:Int)+(Dt.cS x3:Int))).length c4,.slice p5 (Dt.mkS x5 (k+(Dt.cS x0:Int)+(Dt.cS x1:Int)+(Dt.cS x2:Int)+(Dt.cS x3:Int)+(Dt.cS x4:Int))).length c5,.slice p6 (Dt.mkS x6 (k+(Dt.cS x0:Int)+(Dt.cS x1:Int)+(Dt.cS x2:Int)+(Dt.cS x3:Int)+(Dt.cS x4:Int)+(Dt.cS x5:Int))).length c6] 45)).heap[w.heap.size]? = some (.cells #[.slice p0 (Dt.mkS x0 (k)).length c0,.slice p1 (Dt.mkS x1 (k+(Dt.cS x0:Int))).length c1,.slice p2 (Dt.mkS x2 (k+(Dt.cS x0:Int)+(Dt.cS x1:Int))).length c2,.slice p3 (Dt.mkS x3 (k+(Dt.cS x0:Int)+(Dt.cS x1:Int)+(Dt.cS x2:Int))).length c3,.slice p4 (Dt.mkS x4 (k+(Dt.cS x0:Int)+(Dt.cS x1:Int)+(Dt.cS x2:Int)+(Dt.cS x3:Int))).length c4,.slice p5 (Dt.mkS x5 (k+(Dt.cS x0:Int)+(Dt.cS x1:Int)+(Dt.cS x2:Int)+(Dt.cS x3:Int)+(Dt.cS x4:Int))).length c5,.slice p6 (Dt.mkS x6 (k+(Dt.cS x0:Int)+(Dt.cS x1:Int)+(Dt.cS x2:Int)+(Dt.cS x3:Int)+(Dt.cS x4:Int)+(Dt.cS x5:Int))).length c6] 45):=(MapKept.heap_alloc w _).1
 have HS:=(show Hid (_∧_∧_∧_∧_∧_∧_∧_∧_∧_) from ⟨O0,B0,a0.up B0,a1.up B0,a2.up B0,a3.up B0,a4.up B0,a5.up B0,a6.up B0,trivial⟩)
 clear h O0 B0 a0 a1 a2 a3 a4 a5 a6
 go_enter Tryz.func27,Tryz.ntmps27
 go_wp2_with fail
 refine (heldTable_dt [.slice p0 (Dt.mkS x0 (k)).length c0,.slice p1 (Dt.mkS x1 (k+(Dt.cS x0:Int))).length c1] [.row x0,.row x1] S _ _ ⟨_,_,rfl,q0,q1⟩ ⟨HS.out.2.2.1,HS.out.2.2.2.1,trivial⟩ (by omega) (by rw [show tcnt [.row x0,.row x1]=Dt.cS x0+Dt.cS x1 from by simp [tcnt]; try omega]; omega)).mono ?_
 rintro e w1 ⟨rfl,bb⟩
 rw [show tcnt [.row x0,.row x1]=Dt.cS x0+Dt.cS x1 from by simp [tcnt]; try omega]
 rw [show k+((Dt.cS x0+Dt.cS x1:Nat):Int)=k+(Dt.cS x0:Int)+(Dt.cS x1:Int) from by omega]
 have O0:=(bb.block _ (lh HS.out.1)).trans HS.out.1
 have B0:=HS.out.2.1.trans (bb.mono HS.out.2.1.size)
 have y2:=cb O0 2 (.slice p2 (Dt.mkS x2 (k+(Dt.cS x0:Int)+(Dt.cS x1:Int))).length c2) rfl
 have y3:=cb O0 3 (.slice p3 (Dt.mkS x3 (k+(Dt.cS x0:Int)+(Dt.cS x1:Int)+(Dt.cS x2:Int))).length c3) rfl
 have y4:=cb O0 4 (.slice p4 (Dt.mkS x4 (k+(Dt.cS x0:Int)+(Dt.cS x1:Int)+(Dt.cS x2:Int)+(Dt.cS x3:Int))).length c4) rfl
 have y5:=cb O0 5 (.slice p5 (Dt.mkS x5 (k+(Dt.cS x0:Int)+(Dt.cS x1:Int)+(Dt.cS x2:Int)+(Dt.cS x3:Int)+(Dt.cS x4:Int))).length c5) rfl
 have y6:=cb O0 6 (.slice p6 (Dt.mkS x6 (k+(Dt.cS x0:Int)+(Dt.cS x1:Int)+(Dt.cS x2:Int)+(Dt.cS x3:Int)+(Dt.cS x4:Int)+(Dt.cS x5:Int))).length c6) rfl
 have HU:=(show Hid (_∧_∧_∧_∧_∧_∧_∧_∧_∧_) from ⟨O0,B0,HS.out.2.2.1.up bb,HS.out.2.2.2.1.up bb,HS.out.2.2.2.2.1.up bb,HS.out.2.2.2.2.2.1.up bb,HS.out.2.2.2.2.2.2.1.up bb,HS.out.2.2.2.2.2.2.2.1.up bb,HS.out.2.2.2.2.2.2.2.2.1.up bb,trivial⟩)
 have hn1:¬ k+(Dt.cS x0:Int)+(Dt.cS x1:Int)<0:=by omega
 clear HS bb O0 B0
 have HS:=HU
 clear HU
 go_wp2_with fail
 refine (heldCellS_dt _ x2 S _ _ q2 HS.out.2.2.2.2.1 (by omega) (by omega)).mono ?_
 rintro e w2 ⟨rfl,bb⟩
 have O0:=(bb.block _ (lh HS.out.1)).trans HS.out.1
 have B0:=HS.out.2.1.trans (bb.mono HS.out.2.1.size)
 clear y2 y3 y4 y5 y6
 have y3:=cb O0 3 (.slice p3 (Dt.mkS x3 (k+(Dt.cS x0:Int)+(Dt.cS x1:Int)+(Dt.cS x2:Int))).length c3) rfl
 have y4:=cb O0 4 (.slice p4 (Dt.mkS x4 (k+(Dt.cS x0:Int)+(Dt.cS x1:Int)+(Dt.cS x2:Int)+(Dt.cS x3:Int))).length c4) rfl
 have y5:=cb O0 5 (.slice p5 (Dt.mkS x5 (k+(Dt.cS x0:Int)+(Dt.cS x1:Int)+(Dt.cS x2:Int)+(Dt.cS x3:Int)+(Dt.cS x4:Int))).length c5) rfl
 have y6:=cb O0 6 (.slice p6 (Dt.mkS x6 (k+(Dt.cS x0:Int)+(Dt.cS x1:Int)+(Dt.cS x2:Int)+(Dt.cS x3:Int)+(Dt.cS x4:Int)+(Dt.cS x5:Int))).length c6) rfl
 have HU:=(show Hid (_∧_∧_∧_∧_∧_∧_∧_∧_∧_) from ⟨O0,B0,HS.out.2.2.1.up bb,HS.out.2.2.2.1.up bb,HS.out.2.2.2.2.1.up bb,HS.out.2.2.2.2.2.1.up bb,HS.out.2.2.2.2.2.2.1.up bb,HS.out.2.2.2.2.2.2.2.1.up bb,HS.out.2.2.2.2.2.2.2.2.1.up bb,trivial⟩)
 have hn2:¬ k+(Dt.cS x0:Int)+(Dt.cS x1:Int)+(Dt.cS x2:Int)<0:=by omega
 clear HS bb O0 B0
 have HS:=HU
 clear HU
 go_wp2_with fail
 refine (heldThreadS_dt _ x3 S _ _ q3 HS.out.2.2.2.2.2.1 (by omega) (by omega)).mono ?_
 rintro e w3 ⟨rfl,bb⟩
 have O0:=(bb.block _ (lh HS.out.1)).trans HS.out.1
 have B0:=HS.out.2.1.trans (bb.mono HS.out.2.1.size)
 clear y3 y4 y5 y6
 have y4:=cb O0 4 (.slice p4 (Dt.mkS x4 (k+(Dt.cS x0:Int)+(Dt.cS x1:Int)+(Dt.cS x2:Int)+(Dt.cS x3:Int))).length c4) rfl
 have y5:=cb O0 5 (.slice p5 (Dt.mkS x5 (k+(Dt.cS x0:Int)+(Dt.cS x1:Int)+(Dt.cS x2:Int)+(Dt.cS x3:Int)+(Dt.cS x4:Int))).length c5) rfl
 have y6:=cb O0 6 (.slice p6 (Dt.mkS x6 (k+(Dt.cS x0:Int)+(Dt.cS x1:Int)+(Dt.cS x2:Int)+(Dt.cS x3:Int)+(Dt.cS x4:Int)+(Dt.cS x5:Int))).length c6) rfl
 have HU:=(show Hid (_∧_∧_∧_∧_∧_∧_∧_∧_∧_) from ⟨O0,B0,HS.out.2.2.1.up bb,HS.out.2.2.2.1.up bb,HS.out.2.2.2.2.1.up bb,HS.out.2.2.2.2.2.1.up bb,HS.out.2.2.2.2.2.2.1.up bb,HS.out.2.2.2.2.2.2.2.1.up bb,HS.out.2.2.2.2.2.2.2.2.1.up bb,trivial⟩)
 have hn3:¬ k+(Dt.cS x0:Int)+(Dt.cS x1:Int)+(Dt.cS x2:Int)+(Dt.cS x3:Int)<0:=by omega
 clear HS bb O0 B0
 have HS:=HU
 clear HU
 go_wp2_with fail
 refine (heldIntS_dt _ x4 S _ _ q4 HS.out.2.2.2.2.2.2.1 (by omega) (by omega)).mono ?_
 rintro e w4 ⟨rfl,bb⟩
 have O0:=(bb.block _ (lh HS.out.1)).trans HS.out.1
 have B0:=HS.out.2.1.trans (bb.mono HS.out.2.1.size)
 clear y4 y5 y6
 have y5:=cb O0 5 (.slice p5 (Dt.mkS x5 (k+(Dt.cS x0:Int)+(Dt.cS x1:Int)+(Dt.cS x2:Int)+(Dt.cS x3:Int)+(Dt.cS x4:Int))).length c5) rfl
 have y6:=cb O0 6 (.slice p6 (Dt.mkS x6 (k+(Dt.cS x0:Int)+(Dt.cS x1:Int)+(Dt.cS x2:Int)+(Dt.cS x3:Int)+(Dt.cS x4:Int)+(Dt.cS x5:Int))).length c6) rfl
 have HU:=(show Hid (_∧_∧_∧_∧_∧_∧_∧_∧_∧_) from ⟨O0,B0,HS.out.2.2.1.up bb,HS.out.2.2.2.1.up bb,HS.out.2.2.2.2.1.up bb,HS.out.2.2.2.2.2.1.up bb,HS.out.2.2.2.2.2.2.1.up bb,HS.out.2.2.2.2.2.2.2.1.up bb,HS.out.2.2.2.2.2.2.2.2.1.up bb,trivial⟩)
 have hn4:¬ k+(Dt.cS x0:Int)+(Dt.cS x1:Int)+(Dt.cS x2:Int)+(Dt.cS x3:Int)+(Dt.cS x4:Int)<0:=by omega
 clear HS bb O0 B0
 have HS:=HU
 clear HU
 go_wp2_with fail
 refine (heldIntS_dt _ x5 S _ _ q5 HS.out.2.2.2.2.2.2.2.1 (by omega) (by omega)).mono ?_
 rintro e w5 ⟨rfl,bb⟩
 have O0:=(bb.block _ (lh HS.out.1)).trans HS.out.1
 have B0:=HS.out.2.1.trans (bb.mono HS.out.2.1.size)
 clear y5 y6
 have y6:=cb O0 6 (.slice p6 (Dt.mkS x6 (k+(Dt.cS x0:Int)+(Dt.cS x1:Int)+(Dt.cS x2:Int)+(Dt.cS x3:Int)+(Dt.cS x4:Int)+(Dt.cS x5:Int))).length c6) rfl
 have HU:=(show Hid (_∧_∧_∧_∧_∧_∧_∧_∧_∧_) from ⟨O0,B0,HS.out.2.2.1.up bb,HS.out.2.2.2.1.up bb,HS.out.2.2.2.2.1.up bb,HS.out.2.2.2.2.2.1.up bb,HS.out.2.2.2.2.2.2.1.up bb,HS.out.2.2.2.2.2.2.2.1.up bb,HS.out.2.2.2.2.2.2.2.2.1.up bb,trivial⟩)
 have hn5:¬ k+(Dt.cS x0:Int)+(Dt.cS x1:Int)+(Dt.cS x2:Int)+(Dt.cS x3:Int)+(Dt.cS x4:Int)+(Dt.cS x5:Int)<0:=by omega
 clear HS bb O0 B0
 have HS:=HU
 clear HU
 go_wp2_with fail
 refine (heldMsgS_dt _ x6 S _ _ q6 HS.out.2.2.2.2.2.2.2.2.1 (by omega) (by omega)).mono ?_
 rintro e w6 ⟨rfl,bb⟩
 have O0:=(bb.block _ (lh HS.out.1)).trans HS.out.1
 have B0:=HS.out.2.1.trans (bb.mono HS.out.2.1.size)
 clear y6
 have HU:=(show Hid (_∧_∧_∧_∧_∧_∧_∧_∧_∧_) from ⟨O0,B0,HS.out.2.2.1.up bb,HS.out.2.2.2.1.up bb,HS.out.2.2.2.2.1.up bb,HS.out.2.2.2.2.2.1.up bb,HS.out.2.2.2.2.2.2.1.up bb,HS.out.2.2.2.2.2.2.2.1.up bb,HS.out.2.2.2.2.2.2.2.2.1.up bb,trivial⟩)
 have hn6:¬ k+(Dt.cS x0:Int)+(Dt.cS x1:Int)+(Dt.cS x2:Int)+(Dt.cS x3:Int)+(Dt.cS x4:Int)+(Dt.cS x5:Int)+(Dt.cS x6:Int)<0:=by omega
 clear HS bb O0 B0
 have HS:=HU
 clear HU
 go_wp2
 go_ret
 exact ⟨int_ret (by omega),HS.out.2.1⟩
theorem heldSentS_dt:HlSl 72 SentR:=by
 intro v xs S w k0 hP h h0 hb
 rw [cntS_eq] at hb ⊢
 have hL:=preC_le xs
 have hl:=h.len
 rw [mkS_len] at hl
 unfold maxLen at hl
 obtain ⟨a,cap,hv⟩:=h.form
 rw [mkS_len] at hv
 subst hv
 have HC:=(show Hid (_∧_) from ⟨h,hP⟩)
 clear h hP
 go_enter Tryz.func72,Tryz.ntmps72
 go_wp2
 go_loopw [1,5] (fun kv i wr=>∃ j:Nat,j≤xs.length∧i = .int .i64 j∧kv = .int .i64 (k0+(preC xs j:Int))∧Below w.heap.size w wr) (fun _ i _=>xs.length - (intOf i).toNat)
 case atStart=>exact ⟨0,Nat.zero_le _,rfl,by simp [preC],Below.refl _ _⟩
 case round =>
  obtain ⟨k,hk,rfl,rfl,hbw⟩:=hrel
  by_cases hkl:k<xs.length
  ·have he0:=List.getElem?_eq_getElem hkl
   have hps:=preC_succ he0
   have hpk:=hL (k+1)
   generalize xs[k]=r at *
   obtain ⟨z0,z1,b2,rfl⟩:=HC.out.2 k r he0
   have he:=mkS_at k0 he0
   rw [show Dt.cntR [.int z0,.int z1,.str b2]=1+1+1 from by simp [Dt.cntR,Dt.cnt]; try omega] at hps
   obtain ⟨K,hK⟩:∃ K:Int,K=k0+(preC xs k:Int):=⟨_,rfl⟩
   rw [← hK] at he ⊢
   have hKb:0≤K∧K+((1+1+1:Nat):Int)≤100000000:=by omega
   have he:(Dt.mkS xs k0)[k]? = some [.int (K),.int (K+1),.str (markT (K+1+1))]:=he
   have HK:Hid (K=k0+(preC xs k:Int)):=hK
   clear hK he0
   obtain ⟨b,off,rfl,-,hlb,us,hhus⟩:=HC.out.1.at he
   have c0:w.cell? ⟨b,off+k * 3,none⟩=some (us 0):=(hhus 0 _ rfl).1
   have a0:=(hhus 0 _ rfl).2
   have c1:w.cell? ⟨b,off+k * 3+1,none⟩=some (us 1):=(hhus 1 _ rfl).1
   have a1:=(hhus 1 _ rfl).2
   have c2:w.cell? ⟨b,off+k * 3+2,none⟩=some (us 2):=(hhus 2 _ rfl).1
   have a2:=(hhus 2 _ rfl).2
   clear hhus
   obtain ⟨a0e,a0r⟩:=a0.ofInt
   rw [a0e] at c0 a0
   clear a0e
   obtain ⟨a1e,a1r⟩:=a1.ofInt
   rw [a1e] at c1 a1
   clear a1e
   obtain ⟨a2e,a2r⟩:=a2.ofStr
   rw [a2e] at c2 a2
   clear a2e
   clear he
   rw [← hbw.cell (by exact hlb)] at c0 c1 c2
   have m0:(K != K)=false:=by simp
   have m1:(K+1 != K+1)=false:=by simp
   have m2:((markT (K+1+1)).toList == (markT (K+1+1)).toList)=true:=by simp
   have m2':((markT (K+1+1)).toList != (markT (K+1+1)).toList)=false:=by simp
   have hlt':((k:Nat):Int)<((xs.length:Nat):Int):=by omega
   clear HC a0 a1 a2 a0r a1r a2r
   have hsz1:=hbw.size
   have HB1:=(show Hid (_∧True) from ⟨hbw,trivial⟩)
   clear hbw
   go_wp2_with fail
   go_region_with (go_at_call 26; refine (markText_any _ _ (by omega)).mono ?_; rintro e w1 ⟨rfl,b1⟩; have c2_1:w1.cell? ⟨b,off+k * 3+2,none⟩=some (.string (markT (K+1+1))):=((b1.cell (p:=⟨b,off+k * 3+2,none⟩) (Nat.lt_of_lt_of_le hlb hsz1)).trans c2))
   all_goals
    have B1:Below w.heap.size w w1:=HB1.out.1.drew.trans (b1.mono hsz1)
    clear b1 HB1
    go_wp2
    go_roundw
    case rel=>exact ⟨k+1,by omega,by go_num,int_val (by have:=HK.out; omega),B1⟩
    case measure=>simp [intOf]; omega
  ·obtain rfl:k=xs.length:=by omega
   clear HC
   go_wp2
   go_ret
   exact ⟨rfl,hbw⟩
theorem heldSeenS_dt:HlSl 73 SeenR:=by
 intro v xs S w k0 hP h h0 hb
 rw [cntS_eq] at hb ⊢
 have hL:=preC_le xs
 have hl:=h.len
 rw [mkS_len] at hl
 unfold maxLen at hl
 obtain ⟨a,cap,hv⟩:=h.form
 rw [mkS_len] at hv
 subst hv
 have HC:=(show Hid (_∧_) from ⟨h,hP⟩)
 clear h hP
 go_enter Tryz.func73,Tryz.ntmps73
 go_wp2
 go_loopw [1,5] (fun kv i wr=>∃ j:Nat,j≤xs.length∧i = .int .i64 j∧kv = .int .i64 (k0+(preC xs j:Int))∧Below w.heap.size w wr) (fun _ i _=>xs.length - (intOf i).toNat)
 case atStart=>exact ⟨0,Nat.zero_le _,rfl,by simp [preC],Below.refl _ _⟩
 case round =>
  obtain ⟨k,hk,rfl,rfl,hbw⟩:=hrel
  by_cases hkl:k<xs.length
  ·have he0:=List.getElem?_eq_getElem hkl
   have hps:=preC_succ he0
   have hpk:=hL (k+1)
   generalize xs[k]=r at *
   obtain ⟨z0,x1,rfl,q1⟩:=HC.out.2 k r he0
   have he:=mkS_at k0 he0
   rw [show Dt.cntR [.int z0,.row x1]=1+Dt.cS x1 from by simp [Dt.cntR,Dt.cnt]; try omega] at hps
   obtain ⟨K,hK⟩:∃ K:Int,K=k0+(preC xs k:Int):=⟨_,rfl⟩
   rw [← hK] at he ⊢
   have hKb:0≤K∧K+((1+Dt.cS x1:Nat):Int)≤100000000:=by omega
   have he:(Dt.mkS xs k0)[k]? = some [.int (K),.row (Dt.mkS x1 (K+1))]:=he
   have HK:Hid (K=k0+(preC xs k:Int)):=hK
   clear hK he0
   obtain ⟨b,off,rfl,-,hlb,us,hhus⟩:=HC.out.1.at he
   have c0:w.cell? ⟨b,off+k * 2,none⟩=some (us 0):=(hhus 0 _ rfl).1
   have a0:=(hhus 0 _ rfl).2
   have c1:w.cell? ⟨b,off+k * 2+1,none⟩=some (us 1):=(hhus 1 _ rfl).1
   have a1:=(hhus 1 _ rfl).2
   clear hhus
   obtain ⟨a0e,a0r⟩:=a0.ofInt
   rw [a0e] at c0 a0
   clear a0e
   obtain ⟨p1,d1,a1e⟩:=a1.form
   rw [a1e] at c1 a1
   clear a1e
   clear he
   rw [← hbw.cell (by exact hlb)] at c0 c1
   have m0:(K != K)=false:=by simp
   have hlt':((k:Nat):Int)<((xs.length:Nat):Int):=by omega
   have HA:=(show Hid (_∧_) from ⟨a1,trivial⟩)
   clear HC a0 a1 a0r
   go_wp2_with fail
   refine (heldIntS_dt _ x1 S _ _ q1 (HA.out.1.up hbw) (by omega) (by omega)).mono ?_
   rintro e w1 ⟨rfl,b1⟩
   have B1:Below w.heap.size w w1:=hbw.trans (b1.mono hbw.size)
   have hn1:¬ K+1+(Dt.cS x1:Int)<0:=by omega
   clear b1 c1
   go_wp2
   refine ⟨⟨k+1,by omega,by go_num,int_val (by have:=HK.out; omega),B1⟩,by simp [intOf]; omega⟩
  ·obtain rfl:k=xs.length:=by omega
   clear HC
   go_wp2
   go_ret
   exact ⟨rfl,hbw⟩
theorem heldLink_dt:HlC 28 LinkR:=by
 rintro vs r S w k ⟨z0,z1,x2,x3,rfl,q2,q3⟩ h h0 hb
 rw [show tmk [.int z0,.int z1,.row x2,.row x3] k=[.int z0,.int z1,.row (Dt.mkS x2 (k)),.row (Dt.mkS x3 (k+(Dt.cS x2:Int)))] from rfl] at h
 obtain ⟨v0,v1,v2,v3,rfl,a0,a1,a2,a3⟩:=fs4 h
 obtain ⟨rfl,ia0⟩:=a0.ofInt
 obtain ⟨rfl,ia1⟩:=a1.ofInt
 obtain ⟨p2,c2,rfl⟩:=a2.form
 obtain ⟨p3,c3,rfl⟩:=a3.form
 rw [show tcnt [.int z0,.int z1,.row x2,.row x3]=Dt.cS x2+Dt.cS x3 from by simp [tcnt]; try omega] at hb ⊢
 have B0:Below w.heap.size w (w.alloc (.cells #[.int .i64 z0,.int .i64 z1,.slice p2 (Dt.mkS x2 (k)).length c2,.slice p3 (Dt.mkS x3 (k+(Dt.cS x2:Int))).length c3] 49)):=(Below.refl _ w).alloc (Nat.le_refl _) _
 have O0:(w.alloc (.cells #[.int .i64 z0,.int .i64 z1,.slice p2 (Dt.mkS x2 (k)).length c2,.slice p3 (Dt.mkS x3 (k+(Dt.cS x2:Int))).length c3] 49)).heap[w.heap.size]? = some (.cells #[.int .i64 z0,.int .i64 z1,.slice p2 (Dt.mkS x2 (k)).length c2,.slice p3 (Dt.mkS x3 (k+(Dt.cS x2:Int))).length c3] 49):=(MapKept.heap_alloc w _).1
 have HS:=(show Hid (_∧_∧_∧_∧_∧_∧_) from ⟨O0,B0,a0.up B0,a1.up B0,a2.up B0,a3.up B0,trivial⟩)
 clear h O0 B0 a0 a1 a2 a3
 go_enter Tryz.func28,Tryz.ntmps28
 go_wp2_with fail
 refine (heldSentS_dt _ x2 S _ _ q2 HS.out.2.2.2.2.1 (by omega) (by omega)).mono ?_
 rintro e w1 ⟨rfl,bb⟩
 have O0:=(bb.block _ (lh HS.out.1)).trans HS.out.1
 have B0:=HS.out.2.1.trans (bb.mono HS.out.2.1.size)
 have y3:=cb O0 3 (.slice p3 (Dt.mkS x3 (k+(Dt.cS x2:Int))).length c3) rfl
 have HU:=(show Hid (_∧_∧_∧_∧_∧_∧_) from ⟨O0,B0,HS.out.2.2.1.up bb,HS.out.2.2.2.1.up bb,HS.out.2.2.2.2.1.up bb,HS.out.2.2.2.2.2.1.up bb,trivial⟩)
 have hn1:¬ k+(Dt.cS x2:Int)<0:=by omega
 clear HS bb O0 B0
 have HS:=HU
 clear HU
 go_wp2_with fail
 refine (heldSeenS_dt _ x3 S _ _ q3 HS.out.2.2.2.2.2.1 (by omega) (by omega)).mono ?_
 rintro e w2 ⟨rfl,bb⟩
 have O0:=(bb.block _ (lh HS.out.1)).trans HS.out.1
 have B0:=HS.out.2.1.trans (bb.mono HS.out.2.1.size)
 clear y3
 have HU:=(show Hid (_∧_∧_∧_∧_∧_∧_) from ⟨O0,B0,HS.out.2.2.1.up bb,HS.out.2.2.2.1.up bb,HS.out.2.2.2.2.1.up bb,HS.out.2.2.2.2.2.1.up bb,trivial⟩)
 have hn2:¬ k+(Dt.cS x2:Int)+(Dt.cS x3:Int)<0:=by omega
 clear HS bb O0 B0
 have HS:=HU
 clear HU
 go_wp2
 go_ret
 exact ⟨int_ret (by omega),HS.out.2.1⟩
theorem heldPeer_dt:HlC 12 PeerR:=by
 rintro vs r S w k ⟨x0,x1,x2,x3,x4,x5,x6,z7,z8,x9,x10,rfl,q0,q1,q2,q3,q4,q5,q6,q9,q10⟩ h h0 hb
 rw [show tmk [.row x0,.row x1,.row x2,.row x3,.row x4,.row x5,.row x6,.int z7,.int z8,.row x9,.row x10] k=[.row (Dt.mkS x0 (k)),.row (Dt.mkS x1 (k+(Dt.cS x0:Int))),.row (Dt.mkS x2 (k+(Dt.cS x0:Int)+(Dt.cS x1:Int))),.row (Dt.mkS x3 (k+(Dt.cS x0:Int)+(Dt.cS x1:Int)+(Dt.cS x2:Int))),.row (Dt.mkS x4 (k+(Dt.cS x0:Int)+(Dt.cS x1:Int)+(Dt.cS x2:Int)+(Dt.cS x3:Int))),.row (Dt.mkS x5 (k+(Dt.cS x0:Int)+(Dt.cS x1:Int)+(Dt.cS x2:Int)+(Dt.cS x3:Int)+(Dt.cS x4:Int))),.row (Dt.mkS x6 (k+(Dt.cS x0:Int)+(Dt.cS x1:Int)+(Dt.cS x2:Int)+(Dt.cS x3:Int)+(Dt.cS x4:Int)+(Dt.cS x5:Int))),.int z7,.int z8,.row (Dt.mkS x9 (k+(Dt.cS x0:Int)+(Dt.cS x1:Int)+(Dt.cS x2:Int)+(Dt.cS x3:Int)+(Dt.cS x4:Int)+(Dt.cS x5:Int)+(Dt.cS x6:Int))),.row (Dt.mkS x10 (k+(Dt.cS x0:Int)+(Dt.cS x1:Int)+(Dt.cS x2:Int)+(Dt.cS x3:Int)+(Dt.cS x4:Int)+(Dt.cS x5:Int)+(Dt.cS x6:Int)+(Dt.cS x9:Int)))] from rfl] at h
 obtain ⟨v0,v1,v2,v3,v4,v5,v6,v7,v8,v9,v10,rfl,a0,a1,a2,a3,a4,a5,a6,a7,a8,a9,a10⟩:=fs11 h
 obtain ⟨p0,c0,rfl⟩:=a0.form
 obtain ⟨p1,c1,rfl⟩:=a1.form
 obtain ⟨p2,c2,rfl⟩:=a2.form
 obtain ⟨p3,c3,rfl⟩:=a3.form
 obtain ⟨p4,c4,rfl⟩:=a4.form
 obtain ⟨p5,c5,rfl⟩:=a5.form
 obtain ⟨p6,c6,rfl⟩:=a6.form
 obtain ⟨rfl,ia7⟩:=a7.ofInt
 obtain ⟨rfl,ia8⟩:=a8.ofInt
 obtain ⟨p9,c9,rfl⟩:=a9.form
 obtain ⟨p10,c10,rfl⟩:=a10.form
 rw [show tcnt [.row x0,.row x1,.row x2,.row x3,.row x4,.row x5,.row x6,.int z7,.int z8,.row x9,.row x10]=Dt.cS x0+Dt.cS x1+Dt.cS x2+Dt.cS x3+Dt.cS x4+Dt.cS x5+Dt.cS x6+Dt.cS x9+Dt.cS x10 from by simp [tcnt]; try omega] at hb ⊢
 have B0:Below w.heap.size w (w.alloc (.cells #[.slice p0 (Dt.mkS x0 (k)).length c0,.slice p1 (Dt.mkS x1 (k+(Dt.cS x0:Int))).length c1,.slice p2 (Dt.mkS x2 (k+(Dt.cS x0:Int)+(Dt.cS x1:Int))).length c2,.slice p3 (Dt.mkS x3 (k+(Dt.cS x0:Int)+(Dt.cS x1:Int)+(Dt.cS x2:Int))).length c3,.slice p4 (Dt.mkS x4 (k+(Dt.cS x0:Int)+(Dt.cS x1:Int)+(Dt.cS x2:Int)+(Dt.cS x3:Int))).length c4,.slice p5 (Dt.mkS x5 (k+(Dt.cS x0:Int)+(Dt.cS x1:Int)+(Dt.cS x2:Int)+(Dt.cS x3:Int)+(Dt.cS x4:Int))).length c5,.slice p6 (Dt.mkS x6 (k+(Dt.cS x0:Int)+(Dt.cS x1:Int)+(Dt.cS x2:Int)+(Dt.cS x3:Int)+(Dt.cS x4:Int)+(Dt.cS x5:Int))).length c6,.int .i64 z7,.int .i64 z8,.slice p9 (Dt.mkS x9 (k+(Dt.cS x0:Int)+(Dt.cS x1:Int)+(Dt.cS x2:Int)+(Dt.cS x3:Int)+(Dt.cS x4:Int)+(Dt.cS x5:Int)+(Dt.cS x6:Int))).length c9,.slice p10 (Dt.mkS x10 (k+(Dt.cS x0:Int)+(Dt.cS x1:Int)+(Dt.cS x2:Int)+(Dt.cS x3:Int)+(Dt.cS x4:Int)+(Dt.cS x5:Int)+(Dt.cS x6:Int)+(Dt.cS x9:Int))).length c10] 51)):=(Below.refl _ w).alloc (Nat.le_refl _) _
 have O0:(w.alloc (.cells #[.slice p0 (Dt.mkS x0 (k)).length c0,.slice p1 (Dt.mkS x1 (k+(Dt.cS x0:Int))).length c1,.slice p2 (Dt.mkS x2 (k+(Dt.cS x0:Int)+(Dt.cS x1:Int))).length c2,.slice p3 (Dt.mkS x3 (k+(Dt.cS x0:Int)+(Dt.cS x1:Int)+(Dt.cS x2:Int))).length c3,.slice p4 (Dt.mkS x4 (k+(Dt.cS x0:Int)+(Dt.cS x1:Int)+(Dt.cS x2:Int)+(Dt.cS x3:Int))).length c4,.slice p5 (Dt.mkS x5 (k+(Dt.cS x0:Int)+(Dt.cS x1:Int)+(Dt.cS x2:Int)+(Dt.cS x3:Int)+(Dt.cS x4:Int))).length c5,.slice p6 (Dt.mkS x6 (k+(Dt.cS x0:Int)+(Dt.cS x1:Int)+(Dt.cS x2:Int)+(Dt.cS x3:Int)+(Dt.cS x4:Int)+(Dt.cS x5:Int))).length c6,.int .i64 z7,.int .i64 z8,.slice p9 (Dt.mkS x9 (k+(Dt.cS x0:Int)+(Dt.cS x1:Int)+(Dt.cS x2:Int)+(Dt.cS x3:Int)+(Dt.cS x4:Int)+(Dt.cS x5:Int)+(Dt.cS x6:Int))).length c9,.slice p10 (Dt.mkS x10 (k+(Dt.cS x0:Int)+(Dt.cS x1:Int)+(Dt.cS x2:Int)+(Dt.cS x3:Int)+(Dt.cS x4:Int)+(Dt.cS x5:Int)+(Dt.cS x6:Int)+(Dt.cS x9:Int))).length c10] 51)).heap[w.heap.size]? = some (.cells #[.slice p0 (Dt.mkS x0 (k)).length c0,.slice p1 (Dt.mkS x1 (k+(Dt.cS x0:Int))).length c1,.slice p2 (Dt.mkS x2 (k+(Dt.cS x0:Int)+(Dt.cS x1:Int))).length c2,.slice p3 (Dt.mkS x3 (k+(Dt.cS x0:Int)+(Dt.cS x1:Int)+(Dt.cS x2:Int))).length c3,.slice p4 (Dt.mkS x4 (k+(Dt.cS x0:Int)+(Dt.cS x1:Int)+(Dt.cS x2:Int)+(Dt.cS x3:Int))).length c4,.slice p5 (Dt.mkS x5 (k+(Dt.cS x0:Int)+(Dt.cS x1:Int)+(Dt.cS x2:Int)+(Dt.cS x3:Int)+(Dt.cS x4:Int))).length c5,.slice p6 (Dt.mkS x6 (k+(Dt.cS x0:Int)+(Dt.cS x1:Int)+(Dt.cS x2:Int)+(Dt.cS x3:Int)+(Dt.cS x4:Int)+(Dt.cS x5:Int))).length c6,.int .i64 z7,.int .i64 z8,.slice p9 (Dt.mkS x9 (k+(Dt.cS x0:Int)+(Dt.cS x1:Int)+(Dt.cS x2:Int)+(Dt.cS x3:Int)+(Dt.cS x4:Int)+(Dt.cS x5:Int)+(Dt.cS x6:Int))).length c9,.slice p10 (Dt.mkS x10 (k+(Dt.cS x0:Int)+(Dt.cS x1:Int)+(Dt.cS x2:Int)+(Dt.cS x3:Int)+(Dt.cS x4:Int)+(Dt.cS x5:Int)+(Dt.cS x6:Int)+(Dt.cS x9:Int))).length c10] 51):=(MapKept.heap_alloc w _).1
 have HS:=(show Hid (_∧_∧_∧_∧_∧_∧_∧_∧_∧_∧_∧_∧_∧_) from ⟨O0,B0,a0.up B0,a1.up B0,a2.up B0,a3.up B0,a4.up B0,a5.up B0,a6.up B0,a7.up B0,a8.up B0,a9.up B0,a10.up B0,trivial⟩)
 clear h O0 B0 a0 a1 a2 a3 a4 a5 a6 a7 a8 a9 a10
 go_enter Tryz.func12,Tryz.ntmps12
 go_wp2_with fail
 refine (heldMachine_dt [.slice p0 (Dt.mkS x0 (k)).length c0,.slice p1 (Dt.mkS x1 (k+(Dt.cS x0:Int))).length c1,.slice p2 (Dt.mkS x2 (k+(Dt.cS x0:Int)+(Dt.cS x1:Int))).length c2,.slice p3 (Dt.mkS x3 (k+(Dt.cS x0:Int)+(Dt.cS x1:Int)+(Dt.cS x2:Int))).length c3,.slice p4 (Dt.mkS x4 (k+(Dt.cS x0:Int)+(Dt.cS x1:Int)+(Dt.cS x2:Int)+(Dt.cS x3:Int))).length c4,.slice p5 (Dt.mkS x5 (k+(Dt.cS x0:Int)+(Dt.cS x1:Int)+(Dt.cS x2:Int)+(Dt.cS x3:Int)+(Dt.cS x4:Int))).length c5,.slice p6 (Dt.mkS x6 (k+(Dt.cS x0:Int)+(Dt.cS x1:Int)+(Dt.cS x2:Int)+(Dt.cS x3:Int)+(Dt.cS x4:Int)+(Dt.cS x5:Int))).length c6] [.row x0,.row x1,.row x2,.row x3,.row x4,.row x5,.row x6] S _ _ ⟨_,_,_,_,_,_,_,rfl,q0,q1,q2,q3,q4,q5,q6⟩ ⟨HS.out.2.2.1,HS.out.2.2.2.1,HS.out.2.2.2.2.1,HS.out.2.2.2.2.2.1,HS.out.2.2.2.2.2.2.1,HS.out.2.2.2.2.2.2.2.1,HS.out.2.2.2.2.2.2.2.2.1,trivial⟩ (by omega) (by rw [show tcnt [.row x0,.row x1,.row x2,.row x3,.row x4,.row x5,.row x6]=Dt.cS x0+Dt.cS x1+Dt.cS x2+Dt.cS x3+Dt.cS x4+Dt.cS x5+Dt.cS x6 from by simp [tcnt]; try omega]; omega)).mono ?_
 rintro e w1 ⟨rfl,bb⟩
 rw [show tcnt [.row x0,.row x1,.row x2,.row x3,.row x4,.row x5,.row x6]=Dt.cS x0+Dt.cS x1+Dt.cS x2+Dt.cS x3+Dt.cS x4+Dt.cS x5+Dt.cS x6 from by simp [tcnt]; try omega]
 rw [show k+((Dt.cS x0+Dt.cS x1+Dt.cS x2+Dt.cS x3+Dt.cS x4+Dt.cS x5+Dt.cS x6:Nat):Int)=k+(Dt.cS x0:Int)+(Dt.cS x1:Int)+(Dt.cS x2:Int)+(Dt.cS x3:Int)+(Dt.cS x4:Int)+(Dt.cS x5:Int)+(Dt.cS x6:Int) from by omega]
 have O0:=(bb.block _ (lh HS.out.1)).trans HS.out.1
 have B0:=HS.out.2.1.trans (bb.mono HS.out.2.1.size)
 have y7:=cb O0 7 (.int .i64 z7) rfl
 have y8:=cb O0 8 (.int .i64 z8) rfl
 have y9:=cb O0 9 (.slice p9 (Dt.mkS x9 (k+(Dt.cS x0:Int)+(Dt.cS x1:Int)+(Dt.cS x2:Int)+(Dt.cS x3:Int)+(Dt.cS x4:Int)+(Dt.cS x5:Int)+(Dt.cS x6:Int))).length c9) rfl
 have y10:=cb O0 10 (.slice p10 (Dt.mkS x10 (k+(Dt.cS x0:Int)+(Dt.cS x1:Int)+(Dt.cS x2:Int)+(Dt.cS x3:Int)+(Dt.cS x4:Int)+(Dt.cS x5:Int)+(Dt.cS x6:Int)+(Dt.cS x9:Int))).length c10) rfl
 have HU:=(show Hid (_∧_∧_∧_∧_∧_∧_∧_∧_∧_∧_∧_∧_∧_) from ⟨O0,B0,HS.out.2.2.1.up bb,HS.out.2.2.2.1.up bb,HS.out.2.2.2.2.1.up bb,HS.out.2.2.2.2.2.1.up bb,HS.out.2.2.2.2.2.2.1.up bb,HS.out.2.2.2.2.2.2.2.1.up bb,HS.out.2.2.2.2.2.2.2.2.1.up bb,HS.out.2.2.2.2.2.2.2.2.2.1.up bb,HS.out.2.2.2.2.2.2.2.2.2.2.1.up bb,HS.out.2.2.2.2.2.2.2.2.2.2.2.1.up bb,HS.out.2.2.2.2.2.2.2.2.2.2.2.2.1.up bb,trivial⟩)
 have hn1:¬ k+(Dt.cS x0:Int)+(Dt.cS x1:Int)+(Dt.cS x2:Int)+(Dt.cS x3:Int)+(Dt.cS x4:Int)+(Dt.cS x5:Int)+(Dt.cS x6:Int)<0:=by omega
 clear HS bb O0 B0
 have HS:=HU
 clear HU
 go_wp2_with fail
 refine (heldLink_dt [.int .i64 z7,.int .i64 z8,.slice p9 (Dt.mkS x9 (k+(Dt.cS x0:Int)+(Dt.cS x1:Int)+(Dt.cS x2:Int)+(Dt.cS x3:Int)+(Dt.cS x4:Int)+(Dt.cS x5:Int)+(Dt.cS x6:Int))).length c9,.slice p10 (Dt.mkS x10 (k+(Dt.cS x0:Int)+(Dt.cS x1:Int)+(Dt.cS x2:Int)+(Dt.cS x3:Int)+(Dt.cS x4:Int)+(Dt.cS x5:Int)+(Dt.cS x6:Int)+(Dt.cS x9:Int))).length c10] [.int z7,.int z8,.row x9,.row x10] S _ _ ⟨_,_,_,_,rfl,q9,q10⟩ ⟨HS.out.2.2.2.2.2.2.2.2.2.1,HS.out.2.2.2.2.2.2.2.2.2.2.1,HS.out.2.2.2.2.2.2.2.2.2.2.2.1,HS.out.2.2.2.2.2.2.2.2.2.2.2.2.1,trivial⟩ (by omega) (by rw [show tcnt [.int z7,.int z8,.row x9,.row x10]=Dt.cS x9+Dt.cS x10 from by simp [tcnt]; try omega]; omega)).mono ?_
 rintro e w2 ⟨rfl,bb⟩
 rw [show tcnt [.int z7,.int z8,.row x9,.row x10]=Dt.cS x9+Dt.cS x10 from by simp [tcnt]; try omega]
 rw [show k+(Dt.cS x0:Int)+(Dt.cS x1:Int)+(Dt.cS x2:Int)+(Dt.cS x3:Int)+(Dt.cS x4:Int)+(Dt.cS x5:Int)+(Dt.cS x6:Int)+((Dt.cS x9+Dt.cS x10:Nat):Int)=k+(Dt.cS x0:Int)+(Dt.cS x1:Int)+(Dt.cS x2:Int)+(Dt.cS x3:Int)+(Dt.cS x4:Int)+(Dt.cS x5:Int)+(Dt.cS x6:Int)+(Dt.cS x9:Int)+(Dt.cS x10:Int) from by omega]
 have O0:=(bb.block _ (lh HS.out.1)).trans HS.out.1
 have B0:=HS.out.2.1.trans (bb.mono HS.out.2.1.size)
 clear y7 y8 y9 y10
 have HU:=(show Hid (_∧_∧_∧_∧_∧_∧_∧_∧_∧_∧_∧_∧_∧_) from ⟨O0,B0,HS.out.2.2.1.up bb,HS.out.2.2.2.1.up bb,HS.out.2.2.2.2.1.up bb,HS.out.2.2.2.2.2.1.up bb,HS.out.2.2.2.2.2.2.1.up bb,HS.out.2.2.2.2.2.2.2.1.up bb,HS.out.2.2.2.2.2.2.2.2.1.up bb,HS.out.2.2.2.2.2.2.2.2.2.1.up bb,HS.out.2.2.2.2.2.2.2.2.2.2.1.up bb,HS.out.2.2.2.2.2.2.2.2.2.2.2.1.up bb,HS.out.2.2.2.2.2.2.2.2.2.2.2.2.1.up bb,trivial⟩)
 have hn2:¬ k+(Dt.cS x0:Int)+(Dt.cS x1:Int)+(Dt.cS x2:Int)+(Dt.cS x3:Int)+(Dt.cS x4:Int)+(Dt.cS x5:Int)+(Dt.cS x6:Int)+(Dt.cS x9:Int)+(Dt.cS x10:Int)<0:=by omega
 clear HS bb O0 B0
 have HS:=HU
 clear HU
 go_wp2
 go_ret
 exact ⟨int_ret (by omega),HS.out.2.1⟩
end Go.Proofs.YtmmadoabejgffaaGreatDoor
