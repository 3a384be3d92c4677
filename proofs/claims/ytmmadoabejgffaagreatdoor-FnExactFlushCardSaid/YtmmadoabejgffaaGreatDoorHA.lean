/-
  Proofs.
-/
import Derived.Test.YtmmadoabejgffaaGreatDoorD
import Derived.Test.YtmmadoabejgffaaGreatDoorA
namespace Go.Proofs.YtmmadoabejgffaaGreatDoor
open Go.RowKit Go.Joins
set_option maxRecDepth 100000
set_option maxHeartbeats 51200000
theorem heldIntS_dt:HlSl 70 IntR:=by
 intro v xs S w k0 hP h h0 hb
 rw [cntS_eq] at hb ⊢
 have hL:=preC_le xs
 have hl:=h.len
 rw [mkS_len] at hl
 unfold maxLen at hl
 obtain ⟨a,cap,hv⟩:=h.form
 rw [mkS_len] at hv
 subst hv
 have HC:=(show Hid (_∧_) from ⟨h,hP⟩)
 clear h hP
 go_enter Tryz.func70,Tryz.ntmps70
 go_wp2
 go_loopw [1,5] (fun kv i wr=>∃ j:Nat,j≤xs.length∧i = .int .i64 j∧kv = .int .i64 (k0+(preC xs j:Int))∧Below w.heap.size w wr) (fun _ i _=>xs.length - (intOf i).toNat)
 case atStart=>exact ⟨0,Nat.zero_le _,rfl,by simp [preC],Below.refl _ _⟩
 case round =>
  obtain ⟨k,hk,rfl,rfl,hbw⟩:=hrel
  by_cases hkl:k<xs.length
  ·have he0:=List.getElem?_eq_getElem hkl
   have hps:=preC_succ he0
   have hpk:=hL (k+1)
   generalize xs[k]=r at *
   obtain ⟨z0,rfl⟩:=HC.out.2 k r he0
   have he:=mkS_at k0 he0
   rw [show Dt.cntR [.int z0]=1 from by simp [Dt.cntR,Dt.cnt]; try omega] at hps
   obtain ⟨K,hK⟩:∃ K:Int,K=k0+(preC xs k:Int):=⟨_,rfl⟩
   rw [← hK] at he ⊢
   have hKb:0≤K∧K+((1:Nat):Int)≤100000000:=by omega
   have he:(Dt.mkS xs k0)[k]? = some [.int (K)]:=he
   have HK:Hid (K=k0+(preC xs k:Int)):=hK
   clear hK he0
   obtain ⟨b,off,rfl,-,hlb,us,hhus⟩:=HC.out.1.at he
   have c0:w.cell? ⟨b,off+k,none⟩=some (us 0):=by have:=(hhus 0 _ rfl).1; simpa using this
   have a0:=(hhus 0 _ rfl).2
   clear hhus
   obtain ⟨a0e,a0r⟩:=a0.ofInt
   rw [a0e] at c0 a0
   clear a0e
   clear he
   rw [← hbw.cell (by exact hlb)] at c0
   have m0:(K != K)=false:=by simp
   have hlt':((k:Nat):Int)<((xs.length:Nat):Int):=by omega
   clear HC a0 a0r
   go_wp2
   refine ⟨⟨k+1,by omega,by go_num,int_val (by have:=HK.out; omega),hbw⟩,by simp [intOf]; omega⟩
  ·obtain rfl:k=xs.length:=by omega
   clear HC
   go_wp2
   go_ret
   exact ⟨rfl,hbw⟩
theorem heldCodeS_dt:HlSl 113 CodeR:=by
 intro v xs S w k0 hP h h0 hb
 rw [cntS_eq] at hb ⊢
 have hL:=preC_le xs
 have hl:=h.len
 rw [mkS_len] at hl
 unfold maxLen at hl
 obtain ⟨a,cap,hv⟩:=h.form
 rw [mkS_len] at hv
 subst hv
 have HC:=(show Hid (_∧_) from ⟨h,hP⟩)
 clear h hP
 go_enter Tryz.func113,Tryz.ntmps113
 go_wp2
 go_loopw [1,5] (fun kv i wr=>∃ j:Nat,j≤xs.length∧i = .int .i64 j∧kv = .int .i64 (k0+(preC xs j:Int))∧Below w.heap.size w wr) (fun _ i _=>xs.length - (intOf i).toNat)
 case atStart=>exact ⟨0,Nat.zero_le _,rfl,by simp [preC],Below.refl _ _⟩
 case round =>
  obtain ⟨k,hk,rfl,rfl,hbw⟩:=hrel
  by_cases hkl:k<xs.length
  ·have he0:=List.getElem?_eq_getElem hkl
   have hps:=preC_succ he0
   have hpk:=hL (k+1)
   generalize xs[k]=r at *
   obtain ⟨z0,z1,b2,x3,rfl,q3⟩:=HC.out.2 k r he0
   have he:=mkS_at k0 he0
   rw [show Dt.cntR [.int z0,.int z1,.str b2,.row x3]=1+1+1+Dt.cS x3 from by simp [Dt.cntR,Dt.cnt]; try omega] at hps
   obtain ⟨K,hK⟩:∃ K:Int,K=k0+(preC xs k:Int):=⟨_,rfl⟩
   rw [← hK] at he ⊢
   have hKb:0≤K∧K+((1+1+1+Dt.cS x3:Nat):Int)≤100000000:=by omega
   have he:(Dt.mkS xs k0)[k]? = some [.int (K),.int (K+1),.str (markT (K+1+1)),.row (Dt.mkS x3 (K+1+1+1))]:=he
   have HK:Hid (K=k0+(preC xs k:Int)):=hK
   clear hK he0
   obtain ⟨b,off,rfl,-,hlb,us,hhus⟩:=HC.out.1.at he
   have c0:w.cell? ⟨b,off+k * 4,none⟩=some (us 0):=(hhus 0 _ rfl).1
   have a0:=(hhus 0 _ rfl).2
   have c1:w.cell? ⟨b,off+k * 4+1,none⟩=some (us 1):=(hhus 1 _ rfl).1
   have a1:=(hhus 1 _ rfl).2
   have c2:w.cell? ⟨b,off+k * 4+2,none⟩=some (us 2):=(hhus 2 _ rfl).1
   have a2:=(hhus 2 _ rfl).2
   have c3:w.cell? ⟨b,off+k * 4+3,none⟩=some (us 3):=(hhus 3 _ rfl).1
   have a3:=(hhus 3 _ rfl).2
   clear hhus
   obtain ⟨a0e,a0r⟩:=a0.ofInt
   rw [a0e] at c0 a0
   clear a0e
   obtain ⟨a1e,a1r⟩:=a1.ofInt
   rw [a1e] at c1 a1
   clear a1e
   obtain ⟨a2e,a2r⟩:=a2.ofStr
   rw [a2e] at c2 a2
   clear a2e
   obtain ⟨p3,d3,a3e⟩:=a3.form
   rw [a3e] at c3 a3
   clear a3e
   clear he
   rw [← hbw.cell (by exact hlb)] at c0 c1 c2 c3
   have m0:(K != K)=false:=by simp
   have m1:(K+1 != K+1)=false:=by simp
   have m2:((markT (K+1+1)).toList == (markT (K+1+1)).toList)=true:=by simp
   have m2':((markT (K+1+1)).toList != (markT (K+1+1)).toList)=false:=by simp
   have hlt':((k:Nat):Int)<((xs.length:Nat):Int):=by omega
   have HA:=(show Hid (_∧_) from ⟨a3,trivial⟩)
   clear HC a0 a1 a2 a3 a0r a1r a2r
   have hsz1:=hbw.size
   have HB1:=(show Hid (_∧True) from ⟨hbw,trivial⟩)
   clear hbw
   go_wp2_with fail
   go_region_with (go_at_call 26; refine (markText_any _ _ (by omega)).mono ?_; rintro e w1 ⟨rfl,b1⟩; have c2_1:w1.cell? ⟨b,off+k * 4+2,none⟩=some (.string (markT (K+1+1))):=((b1.cell (p:=⟨b,off+k * 4+2,none⟩) (Nat.lt_of_lt_of_le hlb hsz1)).trans c2); have c3_1:w1.cell? ⟨b,off+k * 4+3,none⟩=some (.slice p3 (Dt.mkS x3 (K+1+1+1)).length d3):=((b1.cell (p:=⟨b,off+k * 4+3,none⟩) (Nat.lt_of_lt_of_le hlb hsz1)).trans c3))
   all_goals
    have B1:Below w.heap.size w w1:=HB1.out.1.drew.trans (b1.mono hsz1)
    clear b1 HB1
    go_wp2_with fail
    refine (heldIntS_dt _ x3 S _ _ q3 (HA.out.1.up B1) (by omega) (by omega)).mono ?_
    rintro e w2 ⟨rfl,b1⟩
    have B2:Below w.heap.size w w2:=B1.trans (b1.mono B1.size)
    have hn2:¬ K+1+1+1+(Dt.cS x3:Int)<0:=by omega
    clear b1 c3_1
    go_wp2
    go_roundw
    case rel=>exact ⟨k+1,by omega,by go_num,int_val (by have:=HK.out; omega),B2⟩
    case measure=>simp [intOf]; omega
  ·obtain rfl:k=xs.length:=by omega
   clear HC
   go_wp2
   go_ret
   exact ⟨rfl,hbw⟩
theorem heldTable_dt:HlC 67 TableR:=by
 rintro vs r S w k ⟨x0,x1,rfl,q0,q1⟩ h h0 hb
 rw [show tmk [.row x0,.row x1] k=[.row (Dt.mkS x0 (k)),.row (Dt.mkS x1 (k+(Dt.cS x0:Int)))] from rfl] at h
 obtain ⟨v0,v1,rfl,a0,a1⟩:=fs2 h
 obtain ⟨p0,c0,rfl⟩:=a0.form
 obtain ⟨p1,c1,rfl⟩:=a1.form
 rw [show tcnt [.row x0,.row x1]=Dt.cS x0+Dt.cS x1 from by simp [tcnt]; try omega] at hb ⊢
 have B0:Below w.heap.size w (w.alloc (.cells #[.slice p0 (Dt.mkS x0 (k)).length c0,.slice p1 (Dt.mkS x1 (k+(Dt.cS x0:Int))).length c1] 40)):=(Below.refl _ w).alloc (Nat.le_refl _) _
 have O0:(w.alloc (.cells #[.slice p0 (Dt.mkS x0 (k)).length c0,.slice p1 (Dt.mkS x1 (k+(Dt.cS x0:Int))).length c1] 40)).heap[w.heap.size]? = some (.cells #[.slice p0 (Dt.mkS x0 (k)).length c0,.slice p1 (Dt.mkS x1 (k+(Dt.cS x0:Int))).length c1] 40):=(MapKept.heap_alloc w _).1
 have HS:=(show Hid (_∧_∧_∧_∧_) from ⟨O0,B0,a0.up B0,a1.up B0,trivial⟩)
 clear h O0 B0 a0 a1
 go_enter Tryz.func67,Tryz.ntmps67
 go_wp2_with fail
 refine (heldCodeS_dt _ x0 S _ _ q0 HS.out.2.2.1 (by omega) (by omega)).mono ?_
 rintro e w1 ⟨rfl,bb⟩
 have O0:=(bb.block _ (lh HS.out.1)).trans HS.out.1
 have B0:=HS.out.2.1.trans (bb.mono HS.out.2.1.size)
 have y1:=cb O0 1 (.slice p1 (Dt.mkS x1 (k+(Dt.cS x0:Int))).length c1) rfl
 have HU:=(show Hid (_∧_∧_∧_∧_) from ⟨O0,B0,HS.out.2.2.1.up bb,HS.out.2.2.2.1.up bb,trivial⟩)
 have hn1:¬ k+(Dt.cS x0:Int)<0:=by omega
 clear HS bb O0 B0
 have HS:=HU
 clear HU
 go_wp2_with fail
 refine (heldIntS_dt _ x1 S _ _ q1 HS.out.2.2.2.1 (by omega) (by omega)).mono ?_
 rintro e w2 ⟨rfl,bb⟩
 have O0:=(bb.block _ (lh HS.out.1)).trans HS.out.1
 have B0:=HS.out.2.1.trans (bb.mono HS.out.2.1.size)
 clear y1
 have HU:=(show Hid (_∧_∧_∧_∧_) from ⟨O0,B0,HS.out.2.2.1.up bb,HS.out.2.2.2.1.up bb,trivial⟩)
 have hn2:¬ k+(Dt.cS x0:Int)+(Dt.cS x1:Int)<0:=by omega
 clear HS bb O0 B0
 have HS:=HU
 clear HU
 go_wp2
 go_ret
 exact ⟨int_ret (by omega),HS.out.2.1⟩
theorem heldCellS_dt:HlSl 68 CellR:=by
 intro v xs S w k0 hP h h0 hb
 rw [cntS_eq] at hb ⊢
 have hL:=preC_le xs
 have hl:=h.len
 rw [mkS_len] at hl
 unfold maxLen at hl
 obtain ⟨a,cap,hv⟩:=h.form
 rw [mkS_len] at hv
 subst hv
 have HC:=(show Hid (_∧_) from ⟨h,hP⟩)
 clear h hP
 go_enter Tryz.func68,Tryz.ntmps68
 go_wp2
 go_loopw [1,5] (fun kv i wr=>∃ j:Nat,j≤xs.length∧i = .int .i64 j∧kv = .int .i64 (k0+(preC xs j:Int))∧Below w.heap.size w wr) (fun _ i _=>xs.length - (intOf i).toNat)
 case atStart=>exact ⟨0,Nat.zero_le _,rfl,by simp [preC],Below.refl _ _⟩
 case round =>
  obtain ⟨k,hk,rfl,rfl,hbw⟩:=hrel
  by_cases hkl:k<xs.length
  ·have he0:=List.getElem?_eq_getElem hkl
   have hps:=preC_succ he0
   have hpk:=hL (k+1)
   generalize xs[k]=r at *
   obtain ⟨z0,z1,z2,x3,rfl,q3⟩:=HC.out.2 k r he0
   have he:=mkS_at k0 he0
   rw [show Dt.cntR [.int z0,.int z1,.int z2,.row x3]=1+1+1+Dt.cS x3 from by simp [Dt.cntR,Dt.cnt]; try omega] at hps
   obtain ⟨K,hK⟩:∃ K:Int,K=k0+(preC xs k:Int):=⟨_,rfl⟩
   rw [← hK] at he ⊢
   have hKb:0≤K∧K+((1+1+1+Dt.cS x3:Nat):Int)≤100000000:=by omega
   have he:(Dt.mkS xs k0)[k]? = some [.int (K),.int (K+1),.int (K+1+1),.row (Dt.mkS x3 (K+1+1+1))]:=he
   have HK:Hid (K=k0+(preC xs k:Int)):=hK
   clear hK he0
   obtain ⟨b,off,rfl,-,hlb,us,hhus⟩:=HC.out.1.at he
   have c0:w.cell? ⟨b,off+k * 4,none⟩=some (us 0):=(hhus 0 _ rfl).1
   have a0:=(hhus 0 _ rfl).2
   have c1:w.cell? ⟨b,off+k * 4+1,none⟩=some (us 1):=(hhus 1 _ rfl).1
   have a1:=(hhus 1 _ rfl).2
   have c2:w.cell? ⟨b,off+k * 4+2,none⟩=some (us 2):=(hhus 2 _ rfl).1
   have a2:=(hhus 2 _ rfl).2
   have c3:w.cell? ⟨b,off+k * 4+3,none⟩=some (us 3):=(hhus 3 _ rfl).1
   have a3:=(hhus 3 _ rfl).2
   clear hhus
   obtain ⟨a0e,a0r⟩:=a0.ofInt
   rw [a0e] at c0 a0
   clear a0e
   obtain ⟨a1e,a1r⟩:=a1.ofInt
   rw [a1e] at c1 a1
   clear a1e
   obtain ⟨a2e,a2r⟩:=a2.ofInt
   rw [a2e] at c2 a2
   clear a2e
   obtain ⟨p3,d3,a3e⟩:=a3.form
   rw [a3e] at c3 a3
   clear a3e
   clear he
   rw [← hbw.cell (by exact hlb)] at c0 c1 c2 c3
   have m0:(K != K)=false:=by simp
   have m1:(K+1 != K+1)=false:=by simp
   have m2:(K+1+1 != K+1+1)=false:=by simp
   have hlt':((k:Nat):Int)<((xs.length:Nat):Int):=by omega
   have HA:=(show Hid (_∧_) from ⟨a3,trivial⟩)
   clear HC a0 a1 a2 a3 a0r a1r a2r
   go_wp2_with fail
   refine (heldIntS_dt _ x3 S _ _ q3 (HA.out.1.up hbw) (by omega) (by omega)).mono ?_
   rintro e w1 ⟨rfl,b1⟩
   have B1:Below w.heap.size w w1:=hbw.trans (b1.mono hbw.size)
   have hn1:¬ K+1+1+1+(Dt.cS x3:Int)<0:=by omega
   clear b1 c3
   go_wp2
   refine ⟨⟨k+1,by omega,by go_num,int_val (by have:=HK.out; omega),B1⟩,by simp [intOf]; omega⟩
  ·obtain rfl:k=xs.length:=by omega
   clear HC
   go_wp2
   go_ret
   exact ⟨rfl,hbw⟩
theorem heldFrameS_dt:HlSl 114 FrameR:=by
 intro v xs S w k0 hP h h0 hb
 rw [cntS_eq] at hb ⊢
 have hL:=preC_le xs
 have hl:=h.len
 rw [mkS_len] at hl
 unfold maxLen at hl
 obtain ⟨a,cap,hv⟩:=h.form
 rw [mkS_len] at hv
 subst hv
 have HC:=(show Hid (_∧_) from ⟨h,hP⟩)
 clear h hP
 go_enter Tryz.func114,Tryz.ntmps114
 go_wp2
 go_loopw [1,5] (fun kv i wr=>∃ j:Nat,j≤xs.length∧i = .int .i64 j∧kv = .int .i64 (k0+(preC xs j:Int))∧Below w.heap.size w wr) (fun _ i _=>xs.length - (intOf i).toNat)
 case atStart=>exact ⟨0,Nat.zero_le _,rfl,by simp [preC],Below.refl _ _⟩
 case round =>
  obtain ⟨k,hk,rfl,rfl,hbw⟩:=hrel
  by_cases hkl:k<xs.length
  ·have he0:=List.getElem?_eq_getElem hkl
   have hps:=preC_succ he0
   have hpk:=hL (k+1)
   generalize xs[k]=r at *
   obtain ⟨z0,z1,z2,x3,rfl,q3⟩:=HC.out.2 k r he0
   have he:=mkS_at k0 he0
   rw [show Dt.cntR [.int z0,.int z1,.int z2,.row x3]=1+1+1+Dt.cS x3 from by simp [Dt.cntR,Dt.cnt]; try omega] at hps
   obtain ⟨K,hK⟩:∃ K:Int,K=k0+(preC xs k:Int):=⟨_,rfl⟩
   rw [← hK] at he ⊢
   have hKb:0≤K∧K+((1+1+1+Dt.cS x3:Nat):Int)≤100000000:=by omega
   have he:(Dt.mkS xs k0)[k]? = some [.int (K),.int (K+1),.int (K+1+1),.row (Dt.mkS x3 (K+1+1+1))]:=he
   have HK:Hid (K=k0+(preC xs k:Int)):=hK
   clear hK he0
   obtain ⟨b,off,rfl,-,hlb,us,hhus⟩:=HC.out.1.at he
   have c0:w.cell? ⟨b,off+k * 4,none⟩=some (us 0):=(hhus 0 _ rfl).1
   have a0:=(hhus 0 _ rfl).2
   have c1:w.cell? ⟨b,off+k * 4+1,none⟩=some (us 1):=(hhus 1 _ rfl).1
   have a1:=(hhus 1 _ rfl).2
   have c2:w.cell? ⟨b,off+k * 4+2,none⟩=some (us 2):=(hhus 2 _ rfl).1
   have a2:=(hhus 2 _ rfl).2
   have c3:w.cell? ⟨b,off+k * 4+3,none⟩=some (us 3):=(hhus 3 _ rfl).1
   have a3:=(hhus 3 _ rfl).2
   clear hhus
   obtain ⟨a0e,a0r⟩:=a0.ofInt
   rw [a0e] at c0 a0
   clear a0e
   obtain ⟨a1e,a1r⟩:=a1.ofInt
   rw [a1e] at c1 a1
   clear a1e
   obtain ⟨a2e,a2r⟩:=a2.ofInt
   rw [a2e] at c2 a2
   clear a2e
   obtain ⟨p3,d3,a3e⟩:=a3.form
   rw [a3e] at c3 a3
   clear a3e
   clear he
   rw [← hbw.cell (by exact hlb)] at c0 c1 c2 c3
   have m0:(K != K)=false:=by simp
   have m1:(K+1 != K+1)=false:=by simp
   have m2:(K+1+1 != K+1+1)=false:=by simp
   have hlt':((k:Nat):Int)<((xs.length:Nat):Int):=by omega
   have HA:=(show Hid (_∧_) from ⟨a3,trivial⟩)
   clear HC a0 a1 a2 a3 a0r a1r a2r
   go_wp2_with fail
   refine (heldIntS_dt _ x3 S _ _ q3 (HA.out.1.up hbw) (by omega) (by omega)).mono ?_
   rintro e w1 ⟨rfl,b1⟩
   have B1:Below w.heap.size w w1:=hbw.trans (b1.mono hbw.size)
   have hn1:¬ K+1+1+1+(Dt.cS x3:Int)<0:=by omega
   clear b1 c3
   go_wp2
   refine ⟨⟨k+1,by omega,by go_num,int_val (by have:=HK.out; omega),B1⟩,by simp [intOf]; omega⟩
  ·obtain rfl:k=xs.length:=by omega
   clear HC
   go_wp2
   go_ret
   exact ⟨rfl,hbw⟩
theorem heldThreadS_dt:HlSl 69 ThreadR:=by
 intro v xs S w k0 hP h h0 hb
 rw [cntS_eq] at hb ⊢
 have hL:=preC_le xs
 have hl:=h.len
 rw [mkS_len] at hl
 unfold maxLen at hl
 obtain ⟨a,cap,hv⟩:=h.form
 rw [mkS_len] at hv
 subst hv
 have HC:=(show Hid (_∧_) from ⟨h,hP⟩)
 clear h hP
 go_enter Tryz.func69,Tryz.ntmps69
 go_wp2
 go_loopw [1,5] (fun kv i wr=>∃ j:Nat,j≤xs.length∧i = .int .i64 j∧kv = .int .i64 (k0+(preC xs j:Int))∧Below w.heap.size w wr) (fun _ i _=>xs.length - (intOf i).toNat)
 case atStart=>exact ⟨0,Nat.zero_le _,rfl,by simp [preC],Below.refl _ _⟩
 case round =>
  obtain ⟨k,hk,rfl,rfl,hbw⟩:=hrel
  by_cases hkl:k<xs.length
  ·have he0:=List.getElem?_eq_getElem hkl
   have hps:=preC_succ he0
   have hpk:=hL (k+1)
   generalize xs[k]=r at *
   obtain ⟨z0,z1,x2,x3,b4,rfl,q2,q3⟩:=HC.out.2 k r he0
   have he:=mkS_at k0 he0
   rw [show Dt.cntR [.int z0,.int z1,.row x2,.row x3,.str b4]=1+1+Dt.cS x2+Dt.cS x3+1 from by simp [Dt.cntR,Dt.cnt]; try omega] at hps
   obtain ⟨K,hK⟩:∃ K:Int,K=k0+(preC xs k:Int):=⟨_,rfl⟩
   rw [← hK] at he ⊢
   have hKb:0≤K∧K+((1+1+Dt.cS x2+Dt.cS x3+1:Nat):Int)≤100000000:=by omega
   have he:(Dt.mkS xs k0)[k]? = some [.int (K),.int (K+1),.row (Dt.mkS x2 (K+1+1)),.row (Dt.mkS x3 (K+1+1+(Dt.cS x2:Int))),.str (markT (K+1+1+(Dt.cS x2:Int)+(Dt.cS x3:Int)))]:=he
   have HK:Hid (K=k0+(preC xs k:Int)):=hK
   clear hK he0
   obtain ⟨b,off,rfl,-,hlb,us,hhus⟩:=HC.out.1.at he
   have c0:w.cell? ⟨b,off+k * 5,none⟩=some (us 0):=(hhus 0 _ rfl).1
   have a0:=(hhus 0 _ rfl).2
   have c1:w.cell? ⟨b,off+k * 5+1,none⟩=some (us 1):=(hhus 1 _ rfl).1
   have a1:=(hhus 1 _ rfl).2
   have c2:w.cell? ⟨b,off+k * 5+2,none⟩=some (us 2):=(hhus 2 _ rfl).1
   have a2:=(hhus 2 _ rfl).2
   have c3:w.cell? ⟨b,off+k * 5+3,none⟩=some (us 3):=(hhus 3 _ rfl).1
   have a3:=(hhus 3 _ rfl).2
   have c4:w.cell? ⟨b,off+k * 5+4,none⟩=some (us 4):=(hhus 4 _ rfl).1
   have a4:=(hhus 4 _ rfl).2
   clear hhus
   obtain ⟨a0e,a0r⟩:=a0.ofInt
   rw [a0e] at c0 a0
   clear a0e
   obtain ⟨a1e,a1r⟩:=a1.ofInt
   rw [a1e] at c1 a1
   clear a1e
   obtain ⟨p2,d2,a2e⟩:=a2.form
   rw [a2e] at c2 a2
   clear a2e
   obtain ⟨p3,d3,a3e⟩:=a3.form
   rw [a3e] at c3 a3
   clear a3e
   obtain ⟨a4e,a4r⟩:=a4.ofStr
   rw [a4e] at c4 a4
   clear a4e
   clear he
   rw [← hbw.cell (by exact hlb)] at c0 c1 c2 c3 c4
   have m0:(K != K)=false:=by simp
   have m1:(K+1 != K+1)=false:=by simp
   have m4:((markT (K+1+1+(Dt.cS x2:Int)+(Dt.cS x3:Int))).toList == (markT (K+1+1+(Dt.cS x2:Int)+(Dt.cS x3:Int))).toList)=true:=by simp
   have m4':((markT (K+1+1+(Dt.cS x2:Int)+(Dt.cS x3:Int))).toList != (markT (K+1+1+(Dt.cS x2:Int)+(Dt.cS x3:Int))).toList)=false:=by simp
   have hlt':((k:Nat):Int)<((xs.length:Nat):Int):=by omega
   have HA:=(show Hid (_∧_∧_) from ⟨a2,a3,trivial⟩)
   clear HC a0 a1 a2 a3 a4 a0r a1r a4r
   go_wp2_with fail
   refine (heldIntS_dt _ x2 S _ _ q2 (HA.out.1.up hbw) (by omega) (by omega)).mono ?_
   rintro e w1 ⟨rfl,b1⟩
   have B1:Below w.heap.size w w1:=hbw.trans (b1.mono hbw.size)
   have c3_1:w1.cell? ⟨b,off+k * 5+3,none⟩=some (.slice p3 (Dt.mkS x3 (K+1+1+(Dt.cS x2:Int))).length d3):=(b1.cell (p:=⟨b,off+k * 5+3,none⟩) (Nat.lt_of_lt_of_le hlb hbw.size)).trans c3
   have c4_1:w1.cell? ⟨b,off+k * 5+4,none⟩=some (.string (markT (K+1+1+(Dt.cS x2:Int)+(Dt.cS x3:Int)))):=(b1.cell (p:=⟨b,off+k * 5+4,none⟩) (Nat.lt_of_lt_of_le hlb hbw.size)).trans c4
   have hn1:¬ K+1+1+(Dt.cS x2:Int)<0:=by omega
   clear b1 c2 c3 c4
   go_wp2_with fail
   refine (heldFrameS_dt _ x3 S _ _ q3 (HA.out.2.1.up B1) (by omega) (by omega)).mono ?_
   rintro e w2 ⟨rfl,b1⟩
   have B2:Below w.heap.size w w2:=B1.trans (b1.mono B1.size)
   have c4_2:w2.cell? ⟨b,off+k * 5+4,none⟩=some (.string (markT (K+1+1+(Dt.cS x2:Int)+(Dt.cS x3:Int)))):=(b1.cell (p:=⟨b,off+k * 5+4,none⟩) (Nat.lt_of_lt_of_le hlb B1.size)).trans c4_1
   have hn2:¬ K+1+1+(Dt.cS x2:Int)+(Dt.cS x3:Int)<0:=by omega
   clear b1 c3_1 c4_1
   have hsz3:=B2.size
   have HB3:=(show Hid (_∧True) from ⟨B2,trivial⟩)
   clear B2
   go_wp2_with fail
   go_region_with (go_at_call 26; refine (markText_any _ _ (by omega)).mono ?_; rintro e w3 ⟨rfl,b1⟩; have c4_3:w3.cell? ⟨b,off+k * 5+4,none⟩=some (.string (markT (K+1+1+(Dt.cS x2:Int)+(Dt.cS x3:Int)))):=((b1.cell (p:=⟨b,off+k * 5+4,none⟩) (Nat.lt_of_lt_of_le hlb hsz3)).trans c4_2))
   all_goals
    have B3:Below w.heap.size w w3:=HB3.out.1.drew.trans (b1.mono hsz3)
    clear b1 HB3
    go_wp2
    go_roundw
    case rel=>exact ⟨k+1,by omega,by go_num,int_val (by have:=HK.out; omega),B3⟩
    case measure=>simp [intOf]; omega
  ·obtain rfl:k=xs.length:=by omega
   clear HC
   go_wp2
   go_ret
   exact ⟨rfl,hbw⟩
theorem heldMsgS_dt:HlSl 71 MsgR:=by
 intro v xs S w k0 hP h h0 hb
 rw [cntS_eq] at hb ⊢
 have hL:=preC_le xs
 have hl:=h.len
 rw [mkS_len] at hl
 unfold maxLen at hl
 obtain ⟨a,cap,hv⟩:=h.form
 rw [mkS_len] at hv
 subst hv
 have HC:=(show Hid (_∧_) from ⟨h,hP⟩)
 clear h hP
 go_enter Tryz.func71,Tryz.ntmps71
 go_wp2
 go_loopw [1,5] (fun kv i wr=>∃ j:Nat,j≤xs.length∧i = .int .i64 j∧kv = .int .i64 (k0+(preC xs j:Int))∧Below w.heap.size w wr) (fun _ i _=>xs.length - (intOf i).toNat)
 case atStart=>exact ⟨0,Nat.zero_le _,rfl,by simp [preC],Below.refl _ _⟩
 case round =>
  obtain ⟨k,hk,rfl,rfl,hbw⟩:=hrel
  by_cases hkl:k<xs.length
  ·have he0:=List.getElem?_eq_getElem hkl
   have hps:=preC_succ he0
   have hpk:=hL (k+1)
   generalize xs[k]=r at *
   obtain ⟨z0,z1,z2,z3,z4,z5,z6,z7,x8,rfl,q8⟩:=HC.out.2 k r he0
   have he:=mkS_at k0 he0
   rw [show Dt.cntR [.int z0,.int z1,.int z2,.int z3,.int z4,.int z5,.int z6,.int z7,.row x8]=1+1+1+1+1+1+1+1+Dt.cS x8 from by simp [Dt.cntR,Dt.cnt]; try omega] at hps
   obtain ⟨K,hK⟩:∃ K:Int,K=k0+(preC xs k:Int):=⟨_,rfl⟩
   rw [← hK] at he ⊢
   have hKb:0≤K∧K+((1+1+1+1+1+1+1+1+Dt.cS x8:Nat):Int)≤100000000:=by omega
   have he:(Dt.mkS xs k0)[k]? = some [.int (K),.int (K+1),.int (K+1+1),.int (K+1+1+1),.int (K+1+1+1+1),.int (K+1+1+1+1+1),.int (K+1+1+1+1+1+1),.int (K+1+1+1+1+1+1+1),.row (Dt.mkS x8 (K+1+1+1+1+1+1+1+1))]:=he
   have HK:Hid (K=k0+(preC xs k:Int)):=hK
   clear hK he0
   obtain ⟨b,off,rfl,-,hlb,us,hhus⟩:=HC.out.1.at he
   have c0:w.cell? ⟨b,off+k * 9,none⟩=some (us 0):=(hhus 0 _ rfl).1
   have a0:=(hhus 0 _ rfl).2
   have c1:w.cell? ⟨b,off+k * 9+1,none⟩=some (us 1):=(hhus 1 _ rfl).1
   have a1:=(hhus 1 _ rfl).2
   have c2:w.cell? ⟨b,off+k * 9+2,none⟩=some (us 2):=(hhus 2 _ rfl).1
   have a2:=(hhus 2 _ rfl).2
   have c3:w.cell? ⟨b,off+k * 9+3,none⟩=some (us 3):=(hhus 3 _ rfl).1
   have a3:=(hhus 3 _ rfl).2
   have c4:w.cell? ⟨b,off+k * 9+4,none⟩=some (us 4):=(hhus 4 _ rfl).1
   have a4:=(hhus 4 _ rfl).2
   have c5:w.cell? ⟨b,off+k * 9+5,none⟩=some (us 5):=(hhus 5 _ rfl).1
   have a5:=(hhus 5 _ rfl).2
   have c6:w.cell? ⟨b,off+k * 9+6,none⟩=some (us 6):=(hhus 6 _ rfl).1
   have a6:=(hhus 6 _ rfl).2
   have c7:w.cell? ⟨b,off+k * 9+7,none⟩=some (us 7):=(hhus 7 _ rfl).1
   have a7:=(hhus 7 _ rfl).2
   have c8:w.cell? ⟨b,off+k * 9+8,none⟩=some (us 8):=(hhus 8 _ rfl).1
   have a8:=(hhus 8 _ rfl).2
   clear hhus
   obtain ⟨a0e,a0r⟩:=a0.ofInt
   rw [a0e] at c0 a0
   clear a0e
   obtain ⟨a1e,a1r⟩:=a1.ofInt
   rw [a1e] at c1 a1
   clear a1e
   obtain ⟨a2e,a2r⟩:=a2.ofInt
   rw [a2e] at c2 a2
   clear a2e
   obtain ⟨a3e,a3r⟩:=a3.ofInt
   rw [a3e] at c3 a3
   clear a3e
   obtain ⟨a4e,a4r⟩:=a4.ofInt
   rw [a4e] at c4 a4
   clear a4e
   obtain ⟨a5e,a5r⟩:=a5.ofInt
   rw [a5e] at c5 a5
   clear a5e
   obtain ⟨a6e,a6r⟩:=a6.ofInt
   rw [a6e] at c6 a6
   clear a6e
   obtain ⟨a7e,a7r⟩:=a7.ofInt
   rw [a7e] at c7 a7
   clear a7e
   obtain ⟨p8,d8,a8e⟩:=a8.form
   rw [a8e] at c8 a8
   clear a8e
   clear he
   rw [← hbw.cell (by exact hlb)] at c0 c1 c2 c3 c4 c5 c6 c7 c8
   have m0:(K != K)=false:=by simp
   have m1:(K+1 != K+1)=false:=by simp
   have m2:(K+1+1 != K+1+1)=false:=by simp
   have m3:(K+1+1+1 != K+1+1+1)=false:=by simp
   have m4:(K+1+1+1+1 != K+1+1+1+1)=false:=by simp
   have m5:(K+1+1+1+1+1 != K+1+1+1+1+1)=false:=by simp
   have m6:(K+1+1+1+1+1+1 != K+1+1+1+1+1+1)=false:=by simp
   have m7:(K+1+1+1+1+1+1+1 != K+1+1+1+1+1+1+1)=false:=by simp
   have hlt':((k:Nat):Int)<((xs.length:Nat):Int):=by omega
   have HA:=(show Hid (_∧_) from ⟨a8,trivial⟩)
   clear HC a0 a1 a2 a3 a4 a5 a6 a7 a8 a0r a1r a2r a3r a4r a5r a6r a7r
   go_wp2_with fail
   refine (heldIntS_dt _ x8 S _ _ q8 (HA.out.1.up hbw) (by omega) (by omega)).mono ?_
   rintro e w1 ⟨rfl,b1⟩
   have B1:Below w.heap.size w w1:=hbw.trans (b1.mono hbw.size)
   have hn1:¬ K+1+1+1+1+1+1+1+1+(Dt.cS x8:Int)<0:=by omega
   clear b1 c8
   go_wp2
   refine ⟨⟨k+1,by omega,by go_num,int_val (by have:=HK.out; omega),B1⟩,by simp [intOf]; omega⟩
  ·obtain rfl:k=xs.length:=by omega
   clear HC
   go_wp2
   go_ret
   exact ⟨rfl,hbw⟩
theorem heldStringS_dt:HlSl 13 StringR:=by
 intro v xs S w k0 hP h h0 hb
 rw [cntS_eq] at hb ⊢
 have hL:=preC_le xs
 have hl:=h.len
 rw [mkS_len] at hl
 unfold maxLen at hl
 obtain ⟨a,cap,hv⟩:=h.form
 rw [mkS_len] at hv
 subst hv
 have HC:=(show Hid (_∧_) from ⟨h,hP⟩)
 clear h hP
 go_enter Tryz.func13,Tryz.ntmps13
 go_wp2
 go_loopw [1,5] (fun kv i wr=>∃ j:Nat,j≤xs.length∧i = .int .i64 j∧kv = .int .i64 (k0+(preC xs j:Int))∧Below w.heap.size w wr) (fun _ i _=>xs.length - (intOf i).toNat)
 case atStart=>exact ⟨0,Nat.zero_le _,rfl,by simp [preC],Below.refl _ _⟩
 case round =>
  obtain ⟨k,hk,rfl,rfl,hbw⟩:=hrel
  by_cases hkl:k<xs.length
  ·have he0:=List.getElem?_eq_getElem hkl
   have hps:=preC_succ he0
   have hpk:=hL (k+1)
   generalize xs[k]=r at *
   obtain ⟨b0,rfl⟩:=HC.out.2 k r he0
   have he:=mkS_at k0 he0
   rw [show Dt.cntR [.str b0]=1 from by simp [Dt.cntR,Dt.cnt]; try omega] at hps
   obtain ⟨K,hK⟩:∃ K:Int,K=k0+(preC xs k:Int):=⟨_,rfl⟩
   rw [← hK] at he ⊢
   have hKb:0≤K∧K+((1:Nat):Int)≤100000000:=by omega
   have he:(Dt.mkS xs k0)[k]? = some [.str (markT (K))]:=he
   have HK:Hid (K=k0+(preC xs k:Int)):=hK
   clear hK he0
   obtain ⟨b,off,rfl,-,hlb,us,hhus⟩:=HC.out.1.at he
   have c0:w.cell? ⟨b,off+k,none⟩=some (us 0):=by have:=(hhus 0 _ rfl).1; simpa using this
   have a0:=(hhus 0 _ rfl).2
   clear hhus
   obtain ⟨a0e,a0r⟩:=a0.ofStr
   rw [a0e] at c0 a0
   clear a0e
   clear he
   rw [← hbw.cell (by exact hlb)] at c0
   have m0:((markT (K)).toList == (markT (K)).toList)=true:=by simp
   have m0':((markT (K)).toList != (markT (K)).toList)=false:=by simp
   have hlt':((k:Nat):Int)<((xs.length:Nat):Int):=by omega
   clear HC a0 a0r
   have hsz1:=hbw.size
   have HB1:=(show Hid (_∧True) from ⟨hbw,trivial⟩)
   clear hbw
   go_wp2_with fail
   go_region_with (go_at_call 26; refine (markText_any _ _ (by omega)).mono ?_; rintro e w1 ⟨rfl,b1⟩; have c0_1:w1.cell? ⟨b,off+k,none⟩=some (.string (markT (K))):=((b1.cell (p:=⟨b,off+k,none⟩) (Nat.lt_of_lt_of_le hlb hsz1)).trans c0))
   all_goals
    have B1:Below w.heap.size w w1:=HB1.out.1.drew.trans (b1.mono hsz1)
    clear b1 HB1
    go_wp2
    go_roundw
    case rel=>exact ⟨k+1,by omega,by go_num,int_val (by have:=HK.out; omega),B1⟩
    case measure=>simp [intOf]; omega
  ·obtain rfl:k=xs.length:=by omega
   clear HC
   go_wp2
   go_ret
   exact ⟨rfl,hbw⟩
end Go.Proofs.YtmmadoabejgffaaGreatDoor
