/-
  Proofs.
-/
import Derived.Test.YtmmadoabejgffaaGreatDoorB
import Derived.Test.YtmmadoabejgffaaGreatDoorA
namespace Go.Proofs.YtmmadoabejgffaaGreatDoor
open Go.RowKit Go.Joins
set_option maxRecDepth 100000
set_option maxHeartbeats 51200000
theorem eqIntS_dt:EqS 56 IntR:=by
 intro v u xs S1 S2 w hP h h' hb
 have hlen:=bulkS_len xs
 have hBA:=@bulkS_at xs
 have HC:=(show Hid (_∧_∧_) from ⟨h,h',hP⟩)
 obtain ⟨a,cap,rfl⟩:=h.form
 obtain ⟨a',cap',rfl⟩:=h'.form
 clear h h' hP
 have hnot:=ex_not
 have hne:(((xs.length:Nat):Int) != ((xs.length:Nat):Int))=false:=by simp
 go_enter Tryz.func56,Tryz.ntmps56
 go_wp2
 go_loopw [5] (fun i wr=>∃ k:Nat,k≤xs.length∧i = .int .i64 k∧Below w.heap.size w wr) (fun i _=>xs.length - (intOf i).toNat)
 case atStart=>exact ⟨0,Nat.zero_le _,rfl,Below.refl _ _⟩
 case round =>
  obtain ⟨k,hk,rfl,hbw⟩:=hrel
  by_cases hkl:k<xs.length
  ·have he:=List.getElem?_eq_getElem hkl
   have hbk:=hBA he
   generalize xs[k]=r at *
   obtain ⟨z0,rfl⟩:=HC.out.2.2 k r he
   obtain ⟨b,off,rfl,-,hlb,us,hhus⟩:=HC.out.1.at he
   have c0:w.cell? ⟨b,off+k,none⟩=some (us 0):=by have:=(hhus 0 _ rfl).1; simpa using this
   have a0:=(hhus 0 _ rfl).2
   clear hhus
   obtain ⟨a0e,a0r⟩:=a0.ofInt
   rw [a0e] at c0 a0
   clear a0e
   obtain ⟨b',off',rfl,-,hlb',us',hhus'⟩:=HC.out.2.1.at he
   have c'0:w.cell? ⟨b',off'+k,none⟩=some (us' 0):=by have:=(hhus' 0 _ rfl).1; simpa using this
   have a'0:=(hhus' 0 _ rfl).2
   clear hhus'
   obtain ⟨a'0e,a'0r⟩:=a'0.ofInt
   rw [a'0e] at c'0 a'0
   clear a'0e
   rw [← hbw.cell (by exact hlb)] at c0
   rw [← hbw.cell (by exact hlb')] at c'0
   clear he HC hBA a0 a'0 a0r a'0r
   have hlt':((k:Nat):Int)<((xs.length:Nat):Int):=by omega
   have hst:(z0 == z0)=true:=by simp
   have hsn:(z0 != z0)=false:=by simp
   go_wp2
   go_region
   all_goals
    go_wp2
    go_roundw
    case rel=>exact ⟨k+1,by omega,by go_num,hbw.drew⟩
    case measure=>simp [intOf]; omega
  ·clear HC
   go_wp2
   go_ret
   exact ⟨rfl,hbw⟩
theorem eqCode_dt:EqC 151 CodeR:=by
 rintro vs us r S1 S2 w ⟨z0,z1,b2,x3,rfl,q3⟩ h h' hb
 obtain ⟨v0,v1,v2,v3,rfl,a0,a1,a2,a3⟩:=fs4 h
 obtain ⟨rfl,ia0⟩:=a0.ofInt
 obtain ⟨rfl,ia1⟩:=a1.ofInt
 obtain ⟨rfl,ia2⟩:=a2.ofStr
 obtain ⟨p3,c3,rfl⟩:=a3.form
 obtain ⟨v0,v1,v2,v3,rfl,k0,k1,k2,k3⟩:=fs4 h'
 obtain ⟨rfl,-⟩:=k0.ofInt
 obtain ⟨rfl,-⟩:=k1.ofInt
 obtain ⟨rfl,-⟩:=k2.ofStr
 obtain ⟨s3,t3,rfl⟩:=k3.form
 have hbk:Dt.bR [.int z0,.int z1,.str b2,.row x3]=b2.size+Dt.bS x3:=by simp [Dt.bR,Dt.bulk]; try omega
 rw [hbk] at hb
 clear hbk h h'
 have m0:(z0 != z0)=false:=by simp
 have m1:(z1 != z1)=false:=by simp
 have m2:(b2.toList == b2.toList)=true:=by simp
 have m2':(b2.toList != b2.toList)=false:=by simp
 have B:Below w.heap.size w ((w.alloc (.cells #[.int .i64 z0,.int .i64 z1,.string b2,.slice p3 x3.length c3] 182)).alloc (.cells #[.int .i64 z0,.int .i64 z1,.string b2,.slice s3 x3.length t3] 182)):=((Below.refl _ w).alloc (Nat.le_refl _) _).alloc (by simp) _
 have O1:((w.alloc (.cells #[.int .i64 z0,.int .i64 z1,.string b2,.slice p3 x3.length c3] 182)).alloc (.cells #[.int .i64 z0,.int .i64 z1,.string b2,.slice s3 x3.length t3] 182)).heap[w.heap.size]? = some (.cells #[.int .i64 z0,.int .i64 z1,.string b2,.slice p3 x3.length c3] 182):=(Below.heap_alloc _ _ _ (by simp)).trans (MapKept.heap_alloc w _).1
 have O2:((w.alloc (.cells #[.int .i64 z0,.int .i64 z1,.string b2,.slice p3 x3.length c3] 182)).alloc (.cells #[.int .i64 z0,.int .i64 z1,.string b2,.slice s3 x3.length t3] 182)).heap[w.heap.size+1]? = some (.cells #[.int .i64 z0,.int .i64 z1,.string b2,.slice s3 x3.length t3] 182):=by
  have:=(MapKept.heap_alloc (w.alloc (.cells #[.int .i64 z0,.int .i64 z1,.string b2,.slice p3 x3.length c3] 182)) (.cells #[.int .i64 z0,.int .i64 z1,.string b2,.slice s3 x3.length t3] 182)).1
  simpa using this
 have HS:=(show Hid (_∧_∧_∧_∧_∧_∧_∧_∧_∧_∧_∧_) from ⟨O1,O2,B,a0.up B,k0.up B,a1.up B,k1.up B,a2.up B,k2.up B,a3.up B,k3.up B,trivial⟩)
 have hnot:=ex_not
 clear O1 O2 B a0 k0 a1 k1 a2 k2 a3 k3
 go_enter Tryz.func151,Tryz.ntmps151
 go_wp2_with fail
 refine (eqIntS_dt _ _ x3 S1 S2 _ q3 (HS.out.2.2.2.2.2.2.2.2.2.1) (HS.out.2.2.2.2.2.2.2.2.2.2.1) (by omega)).mono ?_
 rintro e w1 ⟨rfl,bb⟩
 have O1:=(bb.block _ (lh HS.out.1)).trans HS.out.1
 have O2:=(bb.block _ (lh HS.out.2.1)).trans HS.out.2.1
 have B:=HS.out.2.2.1.trans (bb.mono HS.out.2.2.1.size)
 have HT:=(show Hid (_∧_∧_∧_∧_∧_∧_∧_∧_∧_∧_∧_) from ⟨O1,O2,B,(HS.out.2.2.2.1).up bb,(HS.out.2.2.2.2.1).up bb,(HS.out.2.2.2.2.2.1).up bb,(HS.out.2.2.2.2.2.2.1).up bb,(HS.out.2.2.2.2.2.2.2.1).up bb,(HS.out.2.2.2.2.2.2.2.2.1).up bb,(HS.out.2.2.2.2.2.2.2.2.2.1).up bb,(HS.out.2.2.2.2.2.2.2.2.2.2.1).up bb,trivial⟩)
 clear O1 O2 B bb HS
 have HS:=HT
 clear HT
 go_wp2
 go_ret
 exact ⟨rfl,HS.out.2.2.1⟩
theorem eqCodeS_dt:EqS 105 CodeR:=by
 intro v u xs S1 S2 w hP h h' hb
 have hlen:=bulkS_len xs
 have hBA:=@bulkS_at xs
 have HC:=(show Hid (_∧_∧_) from ⟨h,h',hP⟩)
 obtain ⟨a,cap,rfl⟩:=h.form
 obtain ⟨a',cap',rfl⟩:=h'.form
 clear h h' hP
 have hnot:=ex_not
 have hne:(((xs.length:Nat):Int) != ((xs.length:Nat):Int))=false:=by simp
 go_enter Tryz.func105,Tryz.ntmps105
 go_wp2
 go_loopw [5] (fun i wr=>∃ k:Nat,k≤xs.length∧i = .int .i64 k∧Below w.heap.size w wr) (fun i _=>xs.length - (intOf i).toNat)
 case atStart=>exact ⟨0,Nat.zero_le _,rfl,Below.refl _ _⟩
 case round =>
  obtain ⟨k,hk,rfl,hbw⟩:=hrel
  by_cases hkl:k<xs.length
  ·have he:=List.getElem?_eq_getElem hkl
   have hbk:=hBA he
   generalize xs[k]=r at *
   obtain ⟨z0,z1,b2,x3,rfl,q3⟩:=HC.out.2.2 k r he
   obtain ⟨b,off,rfl,-,hlb,us,hhus⟩:=HC.out.1.at he
   have c0:w.cell? ⟨b,off+k * 4,none⟩=some (us 0):=(hhus 0 _ rfl).1
   have a0:=(hhus 0 _ rfl).2
   have c1:w.cell? ⟨b,off+k * 4+1,none⟩=some (us 1):=(hhus 1 _ rfl).1
   have a1:=(hhus 1 _ rfl).2
   have c2:w.cell? ⟨b,off+k * 4+2,none⟩=some (us 2):=(hhus 2 _ rfl).1
   have a2:=(hhus 2 _ rfl).2
   have c3:w.cell? ⟨b,off+k * 4+3,none⟩=some (us 3):=(hhus 3 _ rfl).1
   have a3:=(hhus 3 _ rfl).2
   clear hhus
   obtain ⟨a0e,a0r⟩:=a0.ofInt
   rw [a0e] at c0 a0
   clear a0e
   obtain ⟨a1e,a1r⟩:=a1.ofInt
   rw [a1e] at c1 a1
   clear a1e
   obtain ⟨a2e,a2r⟩:=a2.ofStr
   rw [a2e] at c2 a2
   clear a2e
   obtain ⟨p3,d3,a3e⟩:=a3.form
   rw [a3e] at c3 a3
   clear a3e
   obtain ⟨b',off',rfl,-,hlb',us',hhus'⟩:=HC.out.2.1.at he
   have c'0:w.cell? ⟨b',off'+k * 4,none⟩=some (us' 0):=(hhus' 0 _ rfl).1
   have a'0:=(hhus' 0 _ rfl).2
   have c'1:w.cell? ⟨b',off'+k * 4+1,none⟩=some (us' 1):=(hhus' 1 _ rfl).1
   have a'1:=(hhus' 1 _ rfl).2
   have c'2:w.cell? ⟨b',off'+k * 4+2,none⟩=some (us' 2):=(hhus' 2 _ rfl).1
   have a'2:=(hhus' 2 _ rfl).2
   have c'3:w.cell? ⟨b',off'+k * 4+3,none⟩=some (us' 3):=(hhus' 3 _ rfl).1
   have a'3:=(hhus' 3 _ rfl).2
   clear hhus'
   obtain ⟨a'0e,a'0r⟩:=a'0.ofInt
   rw [a'0e] at c'0 a'0
   clear a'0e
   obtain ⟨a'1e,a'1r⟩:=a'1.ofInt
   rw [a'1e] at c'1 a'1
   clear a'1e
   obtain ⟨a'2e,a'2r⟩:=a'2.ofStr
   rw [a'2e] at c'2 a'2
   clear a'2e
   obtain ⟨s3,t3,a'3e⟩:=a'3.form
   rw [a'3e] at c'3 a'3
   clear a'3e
   rw [← hbw.cell (by exact hlb)] at c0 c1 c2 c3
   rw [← hbw.cell (by exact hlb')] at c'0 c'1 c'2 c'3
   have HX:Hid (∀ wx:World,Below w.heap.size w wx→FsAt wx S1 [.int .i64 z0,.int .i64 z1,.string b2,.slice p3 x3.length d3] [.int z0,.int z1,.str b2,.row x3]∧FsAt wx S2 [.int .i64 z0,.int .i64 z1,.string b2,.slice s3 x3.length t3] [.int z0,.int z1,.str b2,.row x3]):=fun wx hx=>⟨⟨a0.up hx,a1.up hx,a2.up hx,a3.up hx,trivial⟩,⟨a'0.up hx,a'1.up hx,a'2.up hx,a'3.up hx,trivial⟩⟩
   have HQ:Hid (CodeR [.int z0,.int z1,.str b2,.row x3]):=HC.out.2.2 k _ he
   clear he HC hBA a0 a'0 a1 a'1 a2 a'2 a3 a'3 q3 a0r a'0r a1r a'1r a2r a'2r
   have hlt':((k:Nat):Int)<((xs.length:Nat):Int):=by omega
   have hsz:=hbw.size
   go_wp2
   go_region_with (go_at_call 151; refine (eqCode_dt [.int .i64 z0,.int .i64 z1,.string b2,.slice p3 x3.length d3] [.int .i64 z0,.int .i64 z1,.string b2,.slice s3 x3.length t3] [.int z0,.int z1,.str b2,.row x3] S1 S2 _ HQ.out (HX.out _ hbw.drew).1 (HX.out _ hbw.drew).2 (by omega)).mono ?_; rintro e w1 ⟨rfl,b1⟩)
   all_goals
    have hbw2:Below w.heap.size w w1:=hbw.drew.trans (b1.mono hsz)
    clear b1
    go_wp2
    go_roundw
    case rel=>exact ⟨k+1,by omega,by go_num,hbw2⟩
    case measure=>simp [intOf]; omega
  ·clear HC
   go_wp2
   go_ret
   exact ⟨rfl,hbw⟩
theorem eqTable_dt:EqC 53 TableR:=by
 rintro vs us r S1 S2 w ⟨x0,x1,rfl,q0,q1⟩ h h' hb
 obtain ⟨v0,v1,rfl,a0,a1⟩:=fs2 h
 obtain ⟨p0,c0,rfl⟩:=a0.form
 obtain ⟨p1,c1,rfl⟩:=a1.form
 obtain ⟨v0,v1,rfl,k0,k1⟩:=fs2 h'
 obtain ⟨s0,t0,rfl⟩:=k0.form
 obtain ⟨s1,t1,rfl⟩:=k1.form
 have hbk:Dt.bR [.row x0,.row x1]=Dt.bS x0+Dt.bS x1:=by simp [Dt.bR,Dt.bulk]; try omega
 rw [hbk] at hb
 clear hbk h h'
 have B:Below w.heap.size w ((w.alloc (.cells #[.slice p0 x0.length c0,.slice p1 x1.length c1] 40)).alloc (.cells #[.slice s0 x0.length t0,.slice s1 x1.length t1] 40)):=((Below.refl _ w).alloc (Nat.le_refl _) _).alloc (by simp) _
 have O1:((w.alloc (.cells #[.slice p0 x0.length c0,.slice p1 x1.length c1] 40)).alloc (.cells #[.slice s0 x0.length t0,.slice s1 x1.length t1] 40)).heap[w.heap.size]? = some (.cells #[.slice p0 x0.length c0,.slice p1 x1.length c1] 40):=(Below.heap_alloc _ _ _ (by simp)).trans (MapKept.heap_alloc w _).1
 have O2:((w.alloc (.cells #[.slice p0 x0.length c0,.slice p1 x1.length c1] 40)).alloc (.cells #[.slice s0 x0.length t0,.slice s1 x1.length t1] 40)).heap[w.heap.size+1]? = some (.cells #[.slice s0 x0.length t0,.slice s1 x1.length t1] 40):=by
  have:=(MapKept.heap_alloc (w.alloc (.cells #[.slice p0 x0.length c0,.slice p1 x1.length c1] 40)) (.cells #[.slice s0 x0.length t0,.slice s1 x1.length t1] 40)).1
  simpa using this
 have HS:=(show Hid (_∧_∧_∧_∧_∧_∧_∧_) from ⟨O1,O2,B,a0.up B,k0.up B,a1.up B,k1.up B,trivial⟩)
 have hnot:=ex_not
 clear O1 O2 B a0 k0 a1 k1
 go_enter Tryz.func53,Tryz.ntmps53
 go_wp2_with fail
 refine (eqCodeS_dt _ _ x0 S1 S2 _ q0 (HS.out.2.2.2.1) (HS.out.2.2.2.2.1) (by omega)).mono ?_
 rintro e w1 ⟨rfl,bb⟩
 have O1:=(bb.block _ (lh HS.out.1)).trans HS.out.1
 have O2:=(bb.block _ (lh HS.out.2.1)).trans HS.out.2.1
 have B:=HS.out.2.2.1.trans (bb.mono HS.out.2.2.1.size)
 have y1:=cb O1 1 (.slice p1 x1.length c1) rfl
 have y1':w1.cell? ⟨w.heap.size+1,1,none⟩=some (.slice s1 x1.length t1):=by rw [cell_of_block O2]; rfl
 have HT:=(show Hid (_∧_∧_∧_∧_∧_∧_∧_) from ⟨O1,O2,B,(HS.out.2.2.2.1).up bb,(HS.out.2.2.2.2.1).up bb,(HS.out.2.2.2.2.2.1).up bb,(HS.out.2.2.2.2.2.2.1).up bb,trivial⟩)
 clear O1 O2 B bb HS
 have HS:=HT
 clear HT
 go_wp2_with fail
 refine (eqIntS_dt _ _ x1 S1 S2 _ q1 (HS.out.2.2.2.2.2.1) (HS.out.2.2.2.2.2.2.1) (by omega)).mono ?_
 rintro e w2 ⟨rfl,bb⟩
 have O1:=(bb.block _ (lh HS.out.1)).trans HS.out.1
 have O2:=(bb.block _ (lh HS.out.2.1)).trans HS.out.2.1
 have B:=HS.out.2.2.1.trans (bb.mono HS.out.2.2.1.size)
 clear y1 y1'
 have HT:=(show Hid (_∧_∧_∧_∧_∧_∧_∧_) from ⟨O1,O2,B,(HS.out.2.2.2.1).up bb,(HS.out.2.2.2.2.1).up bb,(HS.out.2.2.2.2.2.1).up bb,(HS.out.2.2.2.2.2.2.1).up bb,trivial⟩)
 clear O1 O2 B bb HS
 have HS:=HT
 clear HT
 go_wp2
 go_ret
 exact ⟨rfl,HS.out.2.2.1⟩
theorem eqCell_dt:EqC 106 CellR:=by
 rintro vs us r S1 S2 w ⟨z0,z1,z2,x3,rfl,q3⟩ h h' hb
 obtain ⟨v0,v1,v2,v3,rfl,a0,a1,a2,a3⟩:=fs4 h
 obtain ⟨rfl,ia0⟩:=a0.ofInt
 obtain ⟨rfl,ia1⟩:=a1.ofInt
 obtain ⟨rfl,ia2⟩:=a2.ofInt
 obtain ⟨p3,c3,rfl⟩:=a3.form
 obtain ⟨v0,v1,v2,v3,rfl,k0,k1,k2,k3⟩:=fs4 h'
 obtain ⟨rfl,-⟩:=k0.ofInt
 obtain ⟨rfl,-⟩:=k1.ofInt
 obtain ⟨rfl,-⟩:=k2.ofInt
 obtain ⟨s3,t3,rfl⟩:=k3.form
 have hbk:Dt.bR [.int z0,.int z1,.int z2,.row x3]=Dt.bS x3:=by simp [Dt.bR,Dt.bulk]; try omega
 rw [hbk] at hb
 clear hbk h h'
 have m0:(z0 != z0)=false:=by simp
 have m1:(z1 != z1)=false:=by simp
 have m2:(z2 != z2)=false:=by simp
 have B:Below w.heap.size w ((w.alloc (.cells #[.int .i64 z0,.int .i64 z1,.int .i64 z2,.slice p3 x3.length c3] 65)).alloc (.cells #[.int .i64 z0,.int .i64 z1,.int .i64 z2,.slice s3 x3.length t3] 65)):=((Below.refl _ w).alloc (Nat.le_refl _) _).alloc (by simp) _
 have O1:((w.alloc (.cells #[.int .i64 z0,.int .i64 z1,.int .i64 z2,.slice p3 x3.length c3] 65)).alloc (.cells #[.int .i64 z0,.int .i64 z1,.int .i64 z2,.slice s3 x3.length t3] 65)).heap[w.heap.size]? = some (.cells #[.int .i64 z0,.int .i64 z1,.int .i64 z2,.slice p3 x3.length c3] 65):=(Below.heap_alloc _ _ _ (by simp)).trans (MapKept.heap_alloc w _).1
 have O2:((w.alloc (.cells #[.int .i64 z0,.int .i64 z1,.int .i64 z2,.slice p3 x3.length c3] 65)).alloc (.cells #[.int .i64 z0,.int .i64 z1,.int .i64 z2,.slice s3 x3.length t3] 65)).heap[w.heap.size+1]? = some (.cells #[.int .i64 z0,.int .i64 z1,.int .i64 z2,.slice s3 x3.length t3] 65):=by
  have:=(MapKept.heap_alloc (w.alloc (.cells #[.int .i64 z0,.int .i64 z1,.int .i64 z2,.slice p3 x3.length c3] 65)) (.cells #[.int .i64 z0,.int .i64 z1,.int .i64 z2,.slice s3 x3.length t3] 65)).1
  simpa using this
 have HS:=(show Hid (_∧_∧_∧_∧_∧_∧_∧_∧_∧_∧_∧_) from ⟨O1,O2,B,a0.up B,k0.up B,a1.up B,k1.up B,a2.up B,k2.up B,a3.up B,k3.up B,trivial⟩)
 have hnot:=ex_not
 clear O1 O2 B a0 k0 a1 k1 a2 k2 a3 k3
 go_enter Tryz.func106,Tryz.ntmps106
 go_wp2_with fail
 refine (eqIntS_dt _ _ x3 S1 S2 _ q3 (HS.out.2.2.2.2.2.2.2.2.2.1) (HS.out.2.2.2.2.2.2.2.2.2.2.1) (by omega)).mono ?_
 rintro e w1 ⟨rfl,bb⟩
 have O1:=(bb.block _ (lh HS.out.1)).trans HS.out.1
 have O2:=(bb.block _ (lh HS.out.2.1)).trans HS.out.2.1
 have B:=HS.out.2.2.1.trans (bb.mono HS.out.2.2.1.size)
 have HT:=(show Hid (_∧_∧_∧_∧_∧_∧_∧_∧_∧_∧_∧_) from ⟨O1,O2,B,(HS.out.2.2.2.1).up bb,(HS.out.2.2.2.2.1).up bb,(HS.out.2.2.2.2.2.1).up bb,(HS.out.2.2.2.2.2.2.1).up bb,(HS.out.2.2.2.2.2.2.2.1).up bb,(HS.out.2.2.2.2.2.2.2.2.1).up bb,(HS.out.2.2.2.2.2.2.2.2.2.1).up bb,(HS.out.2.2.2.2.2.2.2.2.2.2.1).up bb,trivial⟩)
 clear O1 O2 B bb HS
 have HS:=HT
 clear HT
 go_wp2
 go_ret
 exact ⟨rfl,HS.out.2.2.1⟩
theorem eqCellS_dt:EqS 54 CellR:=by
 intro v u xs S1 S2 w hP h h' hb
 have hlen:=bulkS_len xs
 have hBA:=@bulkS_at xs
 have HC:=(show Hid (_∧_∧_) from ⟨h,h',hP⟩)
 obtain ⟨a,cap,rfl⟩:=h.form
 obtain ⟨a',cap',rfl⟩:=h'.form
 clear h h' hP
 have hnot:=ex_not
 have hne:(((xs.length:Nat):Int) != ((xs.length:Nat):Int))=false:=by simp
 go_enter Tryz.func54,Tryz.ntmps54
 go_wp2
 go_loopw [5] (fun i wr=>∃ k:Nat,k≤xs.length∧i = .int .i64 k∧Below w.heap.size w wr) (fun i _=>xs.length - (intOf i).toNat)
 case atStart=>exact ⟨0,Nat.zero_le _,rfl,Below.refl _ _⟩
 case round =>
  obtain ⟨k,hk,rfl,hbw⟩:=hrel
  by_cases hkl:k<xs.length
  ·have he:=List.getElem?_eq_getElem hkl
   have hbk:=hBA he
   generalize xs[k]=r at *
   obtain ⟨z0,z1,z2,x3,rfl,q3⟩:=HC.out.2.2 k r he
   obtain ⟨b,off,rfl,-,hlb,us,hhus⟩:=HC.out.1.at he
   have c0:w.cell? ⟨b,off+k * 4,none⟩=some (us 0):=(hhus 0 _ rfl).1
   have a0:=(hhus 0 _ rfl).2
   have c1:w.cell? ⟨b,off+k * 4+1,none⟩=some (us 1):=(hhus 1 _ rfl).1
   have a1:=(hhus 1 _ rfl).2
   have c2:w.cell? ⟨b,off+k * 4+2,none⟩=some (us 2):=(hhus 2 _ rfl).1
   have a2:=(hhus 2 _ rfl).2
   have c3:w.cell? ⟨b,off+k * 4+3,none⟩=some (us 3):=(hhus 3 _ rfl).1
   have a3:=(hhus 3 _ rfl).2
   clear hhus
   obtain ⟨a0e,a0r⟩:=a0.ofInt
   rw [a0e] at c0 a0
   clear a0e
   obtain ⟨a1e,a1r⟩:=a1.ofInt
   rw [a1e] at c1 a1
   clear a1e
   obtain ⟨a2e,a2r⟩:=a2.ofInt
   rw [a2e] at c2 a2
   clear a2e
   obtain ⟨p3,d3,a3e⟩:=a3.form
   rw [a3e] at c3 a3
   clear a3e
   obtain ⟨b',off',rfl,-,hlb',us',hhus'⟩:=HC.out.2.1.at he
   have c'0:w.cell? ⟨b',off'+k * 4,none⟩=some (us' 0):=(hhus' 0 _ rfl).1
   have a'0:=(hhus' 0 _ rfl).2
   have c'1:w.cell? ⟨b',off'+k * 4+1,none⟩=some (us' 1):=(hhus' 1 _ rfl).1
   have a'1:=(hhus' 1 _ rfl).2
   have c'2:w.cell? ⟨b',off'+k * 4+2,none⟩=some (us' 2):=(hhus' 2 _ rfl).1
   have a'2:=(hhus' 2 _ rfl).2
   have c'3:w.cell? ⟨b',off'+k * 4+3,none⟩=some (us' 3):=(hhus' 3 _ rfl).1
   have a'3:=(hhus' 3 _ rfl).2
   clear hhus'
   obtain ⟨a'0e,a'0r⟩:=a'0.ofInt
   rw [a'0e] at c'0 a'0
   clear a'0e
   obtain ⟨a'1e,a'1r⟩:=a'1.ofInt
   rw [a'1e] at c'1 a'1
   clear a'1e
   obtain ⟨a'2e,a'2r⟩:=a'2.ofInt
   rw [a'2e] at c'2 a'2
   clear a'2e
   obtain ⟨s3,t3,a'3e⟩:=a'3.form
   rw [a'3e] at c'3 a'3
   clear a'3e
   rw [← hbw.cell (by exact hlb)] at c0 c1 c2 c3
   rw [← hbw.cell (by exact hlb')] at c'0 c'1 c'2 c'3
   have HX:Hid (∀ wx:World,Below w.heap.size w wx→FsAt wx S1 [.int .i64 z0,.int .i64 z1,.int .i64 z2,.slice p3 x3.length d3] [.int z0,.int z1,.int z2,.row x3]∧FsAt wx S2 [.int .i64 z0,.int .i64 z1,.int .i64 z2,.slice s3 x3.length t3] [.int z0,.int z1,.int z2,.row x3]):=fun wx hx=>⟨⟨a0.up hx,a1.up hx,a2.up hx,a3.up hx,trivial⟩,⟨a'0.up hx,a'1.up hx,a'2.up hx,a'3.up hx,trivial⟩⟩
   have HQ:Hid (CellR [.int z0,.int z1,.int z2,.row x3]):=HC.out.2.2 k _ he
   clear he HC hBA a0 a'0 a1 a'1 a2 a'2 a3 a'3 q3 a0r a'0r a1r a'1r a2r a'2r
   have hlt':((k:Nat):Int)<((xs.length:Nat):Int):=by omega
   have hsz:=hbw.size
   go_wp2
   go_region_with (go_at_call 106; refine (eqCell_dt [.int .i64 z0,.int .i64 z1,.int .i64 z2,.slice p3 x3.length d3] [.int .i64 z0,.int .i64 z1,.int .i64 z2,.slice s3 x3.length t3] [.int z0,.int z1,.int z2,.row x3] S1 S2 _ HQ.out (HX.out _ hbw.drew).1 (HX.out _ hbw.drew).2 (by omega)).mono ?_; rintro e w1 ⟨rfl,b1⟩)
   all_goals
    have hbw2:Below w.heap.size w w1:=hbw.drew.trans (b1.mono hsz)
    clear b1
    go_wp2
    go_roundw
    case rel=>exact ⟨k+1,by omega,by go_num,hbw2⟩
    case measure=>simp [intOf]; omega
  ·clear HC
   go_wp2
   go_ret
   exact ⟨rfl,hbw⟩
theorem eqFrame_dt:EqC 194 FrameR:=by
 rintro vs us r S1 S2 w ⟨z0,z1,z2,x3,rfl,q3⟩ h h' hb
 obtain ⟨v0,v1,v2,v3,rfl,a0,a1,a2,a3⟩:=fs4 h
 obtain ⟨rfl,ia0⟩:=a0.ofInt
 obtain ⟨rfl,ia1⟩:=a1.ofInt
 obtain ⟨rfl,ia2⟩:=a2.ofInt
 obtain ⟨p3,c3,rfl⟩:=a3.form
 obtain ⟨v0,v1,v2,v3,rfl,k0,k1,k2,k3⟩:=fs4 h'
 obtain ⟨rfl,-⟩:=k0.ofInt
 obtain ⟨rfl,-⟩:=k1.ofInt
 obtain ⟨rfl,-⟩:=k2.ofInt
 obtain ⟨s3,t3,rfl⟩:=k3.form
 have hbk:Dt.bR [.int z0,.int z1,.int z2,.row x3]=Dt.bS x3:=by simp [Dt.bR,Dt.bulk]; try omega
 rw [hbk] at hb
 clear hbk h h'
 have m0:(z0 != z0)=false:=by simp
 have m1:(z1 != z1)=false:=by simp
 have m2:(z2 != z2)=false:=by simp
 have B:Below w.heap.size w ((w.alloc (.cells #[.int .i64 z0,.int .i64 z1,.int .i64 z2,.slice p3 x3.length c3] 184)).alloc (.cells #[.int .i64 z0,.int .i64 z1,.int .i64 z2,.slice s3 x3.length t3] 184)):=((Below.refl _ w).alloc (Nat.le_refl _) _).alloc (by simp) _
 have O1:((w.alloc (.cells #[.int .i64 z0,.int .i64 z1,.int .i64 z2,.slice p3 x3.length c3] 184)).alloc (.cells #[.int .i64 z0,.int .i64 z1,.int .i64 z2,.slice s3 x3.length t3] 184)).heap[w.heap.size]? = some (.cells #[.int .i64 z0,.int .i64 z1,.int .i64 z2,.slice p3 x3.length c3] 184):=(Below.heap_alloc _ _ _ (by simp)).trans (MapKept.heap_alloc w _).1
 have O2:((w.alloc (.cells #[.int .i64 z0,.int .i64 z1,.int .i64 z2,.slice p3 x3.length c3] 184)).alloc (.cells #[.int .i64 z0,.int .i64 z1,.int .i64 z2,.slice s3 x3.length t3] 184)).heap[w.heap.size+1]? = some (.cells #[.int .i64 z0,.int .i64 z1,.int .i64 z2,.slice s3 x3.length t3] 184):=by
  have:=(MapKept.heap_alloc (w.alloc (.cells #[.int .i64 z0,.int .i64 z1,.int .i64 z2,.slice p3 x3.length c3] 184)) (.cells #[.int .i64 z0,.int .i64 z1,.int .i64 z2,.slice s3 x3.length t3] 184)).1
  simpa using this
 have HS:=(show Hid (_∧_∧_∧_∧_∧_∧_∧_∧_∧_∧_∧_) from ⟨O1,O2,B,a0.up B,k0.up B,a1.up B,k1.up B,a2.up B,k2.up B,a3.up B,k3.up B,trivial⟩)
 have hnot:=ex_not
 clear O1 O2 B a0 k0 a1 k1 a2 k2 a3 k3
 go_enter Tryz.func194,Tryz.ntmps194
 go_wp2_with fail
 refine (eqIntS_dt _ _ x3 S1 S2 _ q3 (HS.out.2.2.2.2.2.2.2.2.2.1) (HS.out.2.2.2.2.2.2.2.2.2.2.1) (by omega)).mono ?_
 rintro e w1 ⟨rfl,bb⟩
 have O1:=(bb.block _ (lh HS.out.1)).trans HS.out.1
 have O2:=(bb.block _ (lh HS.out.2.1)).trans HS.out.2.1
 have B:=HS.out.2.2.1.trans (bb.mono HS.out.2.2.1.size)
 have HT:=(show Hid (_∧_∧_∧_∧_∧_∧_∧_∧_∧_∧_∧_) from ⟨O1,O2,B,(HS.out.2.2.2.1).up bb,(HS.out.2.2.2.2.1).up bb,(HS.out.2.2.2.2.2.1).up bb,(HS.out.2.2.2.2.2.2.1).up bb,(HS.out.2.2.2.2.2.2.2.1).up bb,(HS.out.2.2.2.2.2.2.2.2.1).up bb,(HS.out.2.2.2.2.2.2.2.2.2.1).up bb,(HS.out.2.2.2.2.2.2.2.2.2.2.1).up bb,trivial⟩)
 clear O1 O2 B bb HS
 have HS:=HT
 clear HT
 go_wp2
 go_ret
 exact ⟨rfl,HS.out.2.2.1⟩
theorem eqFrameS_dt:EqS 152 FrameR:=by
 intro v u xs S1 S2 w hP h h' hb
 have hlen:=bulkS_len xs
 have hBA:=@bulkS_at xs
 have HC:=(show Hid (_∧_∧_) from ⟨h,h',hP⟩)
 obtain ⟨a,cap,rfl⟩:=h.form
 obtain ⟨a',cap',rfl⟩:=h'.form
 clear h h' hP
 have hnot:=ex_not
 have hne:(((xs.length:Nat):Int) != ((xs.length:Nat):Int))=false:=by simp
 go_enter Tryz.func152,Tryz.ntmps152
 go_wp2
 go_loopw [5] (fun i wr=>∃ k:Nat,k≤xs.length∧i = .int .i64 k∧Below w.heap.size w wr) (fun i _=>xs.length - (intOf i).toNat)
 case atStart=>exact ⟨0,Nat.zero_le _,rfl,Below.refl _ _⟩
 case round =>
  obtain ⟨k,hk,rfl,hbw⟩:=hrel
  by_cases hkl:k<xs.length
  ·have he:=List.getElem?_eq_getElem hkl
   have hbk:=hBA he
   generalize xs[k]=r at *
   obtain ⟨z0,z1,z2,x3,rfl,q3⟩:=HC.out.2.2 k r he
   obtain ⟨b,off,rfl,-,hlb,us,hhus⟩:=HC.out.1.at he
   have c0:w.cell? ⟨b,off+k * 4,none⟩=some (us 0):=(hhus 0 _ rfl).1
   have a0:=(hhus 0 _ rfl).2
   have c1:w.cell? ⟨b,off+k * 4+1,none⟩=some (us 1):=(hhus 1 _ rfl).1
   have a1:=(hhus 1 _ rfl).2
   have c2:w.cell? ⟨b,off+k * 4+2,none⟩=some (us 2):=(hhus 2 _ rfl).1
   have a2:=(hhus 2 _ rfl).2
   have c3:w.cell? ⟨b,off+k * 4+3,none⟩=some (us 3):=(hhus 3 _ rfl).1
   have a3:=(hhus 3 _ rfl).2
   clear hhus
   obtain ⟨a0e,a0r⟩:=a0.ofInt
   rw [a0e] at c0 a0
   clear a0e
   obtain ⟨a1e,a1r⟩:=a1.ofInt
   rw [a1e] at c1 a1
   clear a1e
   obtain ⟨a2e,a2r⟩:=a2.ofInt
   rw [a2e] at c2 a2
   clear a2e
   obtain ⟨p3,d3,a3e⟩:=a3.form
   rw [a3e] at c3 a3
   clear a3e
   obtain ⟨b',off',rfl,-,hlb',us',hhus'⟩:=HC.out.2.1.at he
   have c'0:w.cell? ⟨b',off'+k * 4,none⟩=some (us' 0):=(hhus' 0 _ rfl).1
   have a'0:=(hhus' 0 _ rfl).2
   have c'1:w.cell? ⟨b',off'+k * 4+1,none⟩=some (us' 1):=(hhus' 1 _ rfl).1
   have a'1:=(hhus' 1 _ rfl).2
   have c'2:w.cell? ⟨b',off'+k * 4+2,none⟩=some (us' 2):=(hhus' 2 _ rfl).1
   have a'2:=(hhus' 2 _ rfl).2
   have c'3:w.cell? ⟨b',off'+k * 4+3,none⟩=some (us' 3):=(hhus' 3 _ rfl).1
   have a'3:=(hhus' 3 _ rfl).2
   clear hhus'
   obtain ⟨a'0e,a'0r⟩:=a'0.ofInt
   rw [a'0e] at c'0 a'0
   clear a'0e
   obtain ⟨a'1e,a'1r⟩:=a'1.ofInt
   rw [a'1e] at c'1 a'1
   clear a'1e
   obtain ⟨a'2e,a'2r⟩:=a'2.ofInt
   rw [a'2e] at c'2 a'2
   clear a'2e
   obtain ⟨s3,t3,a'3e⟩:=a'3.form
   rw [a'3e] at c'3 a'3
   clear a'3e
   rw [← hbw.cell (by exact hlb)] at c0 c1 c2 c3
   rw [← hbw.cell (by exact hlb')] at c'0 c'1 c'2 c'3
   have HX:Hid (∀ wx:World,Below w.heap.size w wx→FsAt wx S1 [.int .i64 z0,.int .i64 z1,.int .i64 z2,.slice p3 x3.length d3] [.int z0,.int z1,.int z2,.row x3]∧FsAt wx S2 [.int .i64 z0,.int .i64 z1,.int .i64 z2,.slice s3 x3.length t3] [.int z0,.int z1,.int z2,.row x3]):=fun wx hx=>⟨⟨a0.up hx,a1.up hx,a2.up hx,a3.up hx,trivial⟩,⟨a'0.up hx,a'1.up hx,a'2.up hx,a'3.up hx,trivial⟩⟩
   have HQ:Hid (FrameR [.int z0,.int z1,.int z2,.row x3]):=HC.out.2.2 k _ he
   clear he HC hBA a0 a'0 a1 a'1 a2 a'2 a3 a'3 q3 a0r a'0r a1r a'1r a2r a'2r
   have hlt':((k:Nat):Int)<((xs.length:Nat):Int):=by omega
   have hsz:=hbw.size
   go_wp2
   go_region_with (go_at_call 194; refine (eqFrame_dt [.int .i64 z0,.int .i64 z1,.int .i64 z2,.slice p3 x3.length d3] [.int .i64 z0,.int .i64 z1,.int .i64 z2,.slice s3 x3.length t3] [.int z0,.int z1,.int z2,.row x3] S1 S2 _ HQ.out (HX.out _ hbw.drew).1 (HX.out _ hbw.drew).2 (by omega)).mono ?_; rintro e w1 ⟨rfl,b1⟩)
   all_goals
    have hbw2:Below w.heap.size w w1:=hbw.drew.trans (b1.mono hsz)
    clear b1
    go_wp2
    go_roundw
    case rel=>exact ⟨k+1,by omega,by go_num,hbw2⟩
    case measure=>simp [intOf]; omega
  ·clear HC
   go_wp2
   go_ret
   exact ⟨rfl,hbw⟩
theorem eqThread_dt:EqC 107 ThreadR:=by
 rintro vs us r S1 S2 w ⟨z0,z1,x2,x3,b4,rfl,q2,q3⟩ h h' hb
 obtain ⟨v0,v1,v2,v3,v4,rfl,a0,a1,a2,a3,a4⟩:=fs5 h
 obtain ⟨rfl,ia0⟩:=a0.ofInt
 obtain ⟨rfl,ia1⟩:=a1.ofInt
 obtain ⟨p2,c2,rfl⟩:=a2.form
 obtain ⟨p3,c3,rfl⟩:=a3.form
 obtain ⟨rfl,ia4⟩:=a4.ofStr
 obtain ⟨v0,v1,v2,v3,v4,rfl,k0,k1,k2,k3,k4⟩:=fs5 h'
 obtain ⟨rfl,-⟩:=k0.ofInt
 obtain ⟨rfl,-⟩:=k1.ofInt
 obtain ⟨s2,t2,rfl⟩:=k2.form
 obtain ⟨s3,t3,rfl⟩:=k3.form
 obtain ⟨rfl,-⟩:=k4.ofStr
 have hbk:Dt.bR [.int z0,.int z1,.row x2,.row x3,.str b4]=Dt.bS x2+Dt.bS x3+b4.size:=by simp [Dt.bR,Dt.bulk]; try omega
 rw [hbk] at hb
 clear hbk h h'
 have m0:(z0 != z0)=false:=by simp
 have m1:(z1 != z1)=false:=by simp
 have m4:(b4.toList == b4.toList)=true:=by simp
 have m4':(b4.toList != b4.toList)=false:=by simp
 have B:Below w.heap.size w ((w.alloc (.cells #[.int .i64 z0,.int .i64 z1,.slice p2 x2.length c2,.slice p3 x3.length c3,.string b4] 145)).alloc (.cells #[.int .i64 z0,.int .i64 z1,.slice s2 x2.length t2,.slice s3 x3.length t3,.string b4] 145)):=((Below.refl _ w).alloc (Nat.le_refl _) _).alloc (by simp) _
 have O1:((w.alloc (.cells #[.int .i64 z0,.int .i64 z1,.slice p2 x2.length c2,.slice p3 x3.length c3,.string b4] 145)).alloc (.cells #[.int .i64 z0,.int .i64 z1,.slice s2 x2.length t2,.slice s3 x3.length t3,.string b4] 145)).heap[w.heap.size]? = some (.cells #[.int .i64 z0,.int .i64 z1,.slice p2 x2.length c2,.slice p3 x3.length c3,.string b4] 145):=(Below.heap_alloc _ _ _ (by simp)).trans (MapKept.heap_alloc w _).1
 have O2:((w.alloc (.cells #[.int .i64 z0,.int .i64 z1,.slice p2 x2.length c2,.slice p3 x3.length c3,.string b4] 145)).alloc (.cells #[.int .i64 z0,.int .i64 z1,.slice s2 x2.length t2,.slice s3 x3.length t3,.string b4] 145)).heap[w.heap.size+1]? = some (.cells #[.int .i64 z0,.int .i64 z1,.slice s2 x2.length t2,.slice s3 x3.length t3,.string b4] 145):=by
  have:=(MapKept.heap_alloc (w.alloc (.cells #[.int .i64 z0,.int .i64 z1,.slice p2 x2.length c2,.slice p3 x3.length c3,.string b4] 145)) (.cells #[.int .i64 z0,.int .i64 z1,.slice s2 x2.length t2,.slice s3 x3.length t3,.string b4] 145)).1
  simpa using this
 have HS:=(show Hid (_∧_∧_∧_∧_∧_∧_∧_∧_∧_∧_∧_∧_∧_) from ⟨O1,O2,B,a0.up B,k0.up B,a1.up B,k1.up B,a2.up B,k2.up B,a3.up B,k3.up B,a4.up B,k4.up B,trivial⟩)
 have hnot:=ex_not
 clear O1 O2 B a0 k0 a1 k1 a2 k2 a3 k3 a4 k4
 go_enter Tryz.func107,Tryz.ntmps107
 go_wp2_with fail
 refine (eqIntS_dt _ _ x2 S1 S2 _ q2 (HS.out.2.2.2.2.2.2.2.1) (HS.out.2.2.2.2.2.2.2.2.1) (by omega)).mono ?_
 rintro e w1 ⟨rfl,bb⟩
 have O1:=(bb.block _ (lh HS.out.1)).trans HS.out.1
 have O2:=(bb.block _ (lh HS.out.2.1)).trans HS.out.2.1
 have B:=HS.out.2.2.1.trans (bb.mono HS.out.2.2.1.size)
 have y3:=cb O1 3 (.slice p3 x3.length c3) rfl
 have y3':w1.cell? ⟨w.heap.size+1,3,none⟩=some (.slice s3 x3.length t3):=by rw [cell_of_block O2]; rfl
 have y4:=cb O1 4 (.string b4) rfl
 have y4':w1.cell? ⟨w.heap.size+1,4,none⟩=some (.string b4):=by rw [cell_of_block O2]; rfl
 have HT:=(show Hid (_∧_∧_∧_∧_∧_∧_∧_∧_∧_∧_∧_∧_∧_) from ⟨O1,O2,B,(HS.out.2.2.2.1).up bb,(HS.out.2.2.2.2.1).up bb,(HS.out.2.2.2.2.2.1).up bb,(HS.out.2.2.2.2.2.2.1).up bb,(HS.out.2.2.2.2.2.2.2.1).up bb,(HS.out.2.2.2.2.2.2.2.2.1).up bb,(HS.out.2.2.2.2.2.2.2.2.2.1).up bb,(HS.out.2.2.2.2.2.2.2.2.2.2.1).up bb,(HS.out.2.2.2.2.2.2.2.2.2.2.2.1).up bb,(HS.out.2.2.2.2.2.2.2.2.2.2.2.2.1).up bb,trivial⟩)
 clear O1 O2 B bb HS
 have HS:=HT
 clear HT
 go_wp2_with fail
 refine (eqFrameS_dt _ _ x3 S1 S2 _ q3 (HS.out.2.2.2.2.2.2.2.2.2.1) (HS.out.2.2.2.2.2.2.2.2.2.2.1) (by omega)).mono ?_
 rintro e w2 ⟨rfl,bb⟩
 have O1:=(bb.block _ (lh HS.out.1)).trans HS.out.1
 have O2:=(bb.block _ (lh HS.out.2.1)).trans HS.out.2.1
 have B:=HS.out.2.2.1.trans (bb.mono HS.out.2.2.1.size)
 clear y3 y3' y4 y4'
 have y4:=cb O1 4 (.string b4) rfl
 have y4':w2.cell? ⟨w.heap.size+1,4,none⟩=some (.string b4):=by rw [cell_of_block O2]; rfl
 have HT:=(show Hid (_∧_∧_∧_∧_∧_∧_∧_∧_∧_∧_∧_∧_∧_) from ⟨O1,O2,B,(HS.out.2.2.2.1).up bb,(HS.out.2.2.2.2.1).up bb,(HS.out.2.2.2.2.2.1).up bb,(HS.out.2.2.2.2.2.2.1).up bb,(HS.out.2.2.2.2.2.2.2.1).up bb,(HS.out.2.2.2.2.2.2.2.2.1).up bb,(HS.out.2.2.2.2.2.2.2.2.2.1).up bb,(HS.out.2.2.2.2.2.2.2.2.2.2.1).up bb,(HS.out.2.2.2.2.2.2.2.2.2.2.2.1).up bb,(HS.out.2.2.2.2.2.2.2.2.2.2.2.2.1).up bb,trivial⟩)
 clear O1 O2 B bb HS
 have HS:=HT
 clear HT
 go_wp2
 go_ret
 exact ⟨rfl,HS.out.2.2.1⟩
theorem eqThreadS_dt:EqS 55 ThreadR:=by
 intro v u xs S1 S2 w hP h h' hb
 have hlen:=bulkS_len xs
 have hBA:=@bulkS_at xs
 have HC:=(show Hid (_∧_∧_) from ⟨h,h',hP⟩)
 obtain ⟨a,cap,rfl⟩:=h.form
 obtain ⟨a',cap',rfl⟩:=h'.form
 clear h h' hP
 have hnot:=ex_not
 have hne:(((xs.length:Nat):Int) != ((xs.length:Nat):Int))=false:=by simp
 go_enter Tryz.func55,Tryz.ntmps55
 go_wp2
 go_loopw [5] (fun i wr=>∃ k:Nat,k≤xs.length∧i = .int .i64 k∧Below w.heap.size w wr) (fun i _=>xs.length - (intOf i).toNat)
 case atStart=>exact ⟨0,Nat.zero_le _,rfl,Below.refl _ _⟩
 case round =>
  obtain ⟨k,hk,rfl,hbw⟩:=hrel
  by_cases hkl:k<xs.length
  ·have he:=List.getElem?_eq_getElem hkl
   have hbk:=hBA he
   generalize xs[k]=r at *
   obtain ⟨z0,z1,x2,x3,b4,rfl,q2,q3⟩:=HC.out.2.2 k r he
   obtain ⟨b,off,rfl,-,hlb,us,hhus⟩:=HC.out.1.at he
   have c0:w.cell? ⟨b,off+k * 5,none⟩=some (us 0):=(hhus 0 _ rfl).1
   have a0:=(hhus 0 _ rfl).2
   have c1:w.cell? ⟨b,off+k * 5+1,none⟩=some (us 1):=(hhus 1 _ rfl).1
   have a1:=(hhus 1 _ rfl).2
   have c2:w.cell? ⟨b,off+k * 5+2,none⟩=some (us 2):=(hhus 2 _ rfl).1
   have a2:=(hhus 2 _ rfl).2
   have c3:w.cell? ⟨b,off+k * 5+3,none⟩=some (us 3):=(hhus 3 _ rfl).1
   have a3:=(hhus 3 _ rfl).2
   have c4:w.cell? ⟨b,off+k * 5+4,none⟩=some (us 4):=(hhus 4 _ rfl).1
   have a4:=(hhus 4 _ rfl).2
   clear hhus
   obtain ⟨a0e,a0r⟩:=a0.ofInt
   rw [a0e] at c0 a0
   clear a0e
   obtain ⟨a1e,a1r⟩:=a1.ofInt
   rw [a1e] at c1 a1
   clear a1e
   obtain ⟨p2,d2,a2e⟩:=a2.form
   rw [a2e] at c2 a2
   clear a2e
   obtain ⟨p3,d3,a3e⟩:=a3.form
   rw [a3e] at c3 a3
   clear a3e
   obtain ⟨a4e,a4r⟩:=a4.ofStr
   rw [a4e] at c4 a4
   clear a4e
   obtain ⟨b',off',rfl,-,hlb',us',hhus'⟩:=HC.out.2.1.at he
   have c'0:w.cell? ⟨b',off'+k * 5,none⟩=some (us' 0):=(hhus' 0 _ rfl).1
   have a'0:=(hhus' 0 _ rfl).2
   have c'1:w.cell? ⟨b',off'+k * 5+1,none⟩=some (us' 1):=(hhus' 1 _ rfl).1
   have a'1:=(hhus' 1 _ rfl).2
   have c'2:w.cell? ⟨b',off'+k * 5+2,none⟩=some (us' 2):=(hhus' 2 _ rfl).1
   have a'2:=(hhus' 2 _ rfl).2
   have c'3:w.cell? ⟨b',off'+k * 5+3,none⟩=some (us' 3):=(hhus' 3 _ rfl).1
   have a'3:=(hhus' 3 _ rfl).2
   have c'4:w.cell? ⟨b',off'+k * 5+4,none⟩=some (us' 4):=(hhus' 4 _ rfl).1
   have a'4:=(hhus' 4 _ rfl).2
   clear hhus'
   obtain ⟨a'0e,a'0r⟩:=a'0.ofInt
   rw [a'0e] at c'0 a'0
   clear a'0e
   obtain ⟨a'1e,a'1r⟩:=a'1.ofInt
   rw [a'1e] at c'1 a'1
   clear a'1e
   obtain ⟨s2,t2,a'2e⟩:=a'2.form
   rw [a'2e] at c'2 a'2
   clear a'2e
   obtain ⟨s3,t3,a'3e⟩:=a'3.form
   rw [a'3e] at c'3 a'3
   clear a'3e
   obtain ⟨a'4e,a'4r⟩:=a'4.ofStr
   rw [a'4e] at c'4 a'4
   clear a'4e
   rw [← hbw.cell (by exact hlb)] at c0 c1 c2 c3 c4
   rw [← hbw.cell (by exact hlb')] at c'0 c'1 c'2 c'3 c'4
   have HX:Hid (∀ wx:World,Below w.heap.size w wx→FsAt wx S1 [.int .i64 z0,.int .i64 z1,.slice p2 x2.length d2,.slice p3 x3.length d3,.string b4] [.int z0,.int z1,.row x2,.row x3,.str b4]∧FsAt wx S2 [.int .i64 z0,.int .i64 z1,.slice s2 x2.length t2,.slice s3 x3.length t3,.string b4] [.int z0,.int z1,.row x2,.row x3,.str b4]):=fun wx hx=>⟨⟨a0.up hx,a1.up hx,a2.up hx,a3.up hx,a4.up hx,trivial⟩,⟨a'0.up hx,a'1.up hx,a'2.up hx,a'3.up hx,a'4.up hx,trivial⟩⟩
   have HQ:Hid (ThreadR [.int z0,.int z1,.row x2,.row x3,.str b4]):=HC.out.2.2 k _ he
   clear he HC hBA a0 a'0 a1 a'1 a2 a'2 a3 a'3 a4 a'4 q2 q3 a0r a'0r a1r a'1r a4r a'4r
   have hlt':((k:Nat):Int)<((xs.length:Nat):Int):=by omega
   have hsz:=hbw.size
   go_wp2
   go_region_with (go_at_call 107; refine (eqThread_dt [.int .i64 z0,.int .i64 z1,.slice p2 x2.length d2,.slice p3 x3.length d3,.string b4] [.int .i64 z0,.int .i64 z1,.slice s2 x2.length t2,.slice s3 x3.length t3,.string b4] [.int z0,.int z1,.row x2,.row x3,.str b4] S1 S2 _ HQ.out (HX.out _ hbw.drew).1 (HX.out _ hbw.drew).2 (by omega)).mono ?_; rintro e w1 ⟨rfl,b1⟩)
   all_goals
    have hbw2:Below w.heap.size w w1:=hbw.drew.trans (b1.mono hsz)
    clear b1
    go_wp2
    go_roundw
    case rel=>exact ⟨k+1,by omega,by go_num,hbw2⟩
    case measure=>simp [intOf]; omega
  ·clear HC
   go_wp2
   go_ret
   exact ⟨rfl,hbw⟩
theorem eqMsg_dt:EqC 108 MsgR:=by
 rintro vs us r S1 S2 w ⟨z0,z1,z2,z3,z4,z5,z6,z7,x8,rfl,q8⟩ h h' hb
 obtain ⟨v0,v1,v2,v3,v4,v5,v6,v7,v8,rfl,a0,a1,a2,a3,a4,a5,a6,a7,a8⟩:=fs9 h
 obtain ⟨rfl,ia0⟩:=a0.ofInt
 obtain ⟨rfl,ia1⟩:=a1.ofInt
 obtain ⟨rfl,ia2⟩:=a2.ofInt
 obtain ⟨rfl,ia3⟩:=a3.ofInt
 obtain ⟨rfl,ia4⟩:=a4.ofInt
 obtain ⟨rfl,ia5⟩:=a5.ofInt
 obtain ⟨rfl,ia6⟩:=a6.ofInt
 obtain ⟨rfl,ia7⟩:=a7.ofInt
 obtain ⟨p8,c8,rfl⟩:=a8.form
 obtain ⟨v0,v1,v2,v3,v4,v5,v6,v7,v8,rfl,k0,k1,k2,k3,k4,k5,k6,k7,k8⟩:=fs9 h'
 obtain ⟨rfl,-⟩:=k0.ofInt
 obtain ⟨rfl,-⟩:=k1.ofInt
 obtain ⟨rfl,-⟩:=k2.ofInt
 obtain ⟨rfl,-⟩:=k3.ofInt
 obtain ⟨rfl,-⟩:=k4.ofInt
 obtain ⟨rfl,-⟩:=k5.ofInt
 obtain ⟨rfl,-⟩:=k6.ofInt
 obtain ⟨rfl,-⟩:=k7.ofInt
 obtain ⟨s8,t8,rfl⟩:=k8.form
 have hbk:Dt.bR [.int z0,.int z1,.int z2,.int z3,.int z4,.int z5,.int z6,.int z7,.row x8]=Dt.bS x8:=by simp [Dt.bR,Dt.bulk]; try omega
 rw [hbk] at hb
 clear hbk h h'
 have m0:(z0 != z0)=false:=by simp
 have m1:(z1 != z1)=false:=by simp
 have m2:(z2 != z2)=false:=by simp
 have m3:(z3 != z3)=false:=by simp
 have m4:(z4 != z4)=false:=by simp
 have m5:(z5 != z5)=false:=by simp
 have m6:(z6 != z6)=false:=by simp
 have m7:(z7 != z7)=false:=by simp
 have B:Below w.heap.size w ((w.alloc (.cells #[.int .i64 z0,.int .i64 z1,.int .i64 z2,.int .i64 z3,.int .i64 z4,.int .i64 z5,.int .i64 z6,.int .i64 z7,.slice p8 x8.length c8] 67)).alloc (.cells #[.int .i64 z0,.int .i64 z1,.int .i64 z2,.int .i64 z3,.int .i64 z4,.int .i64 z5,.int .i64 z6,.int .i64 z7,.slice s8 x8.length t8] 67)):=((Below.refl _ w).alloc (Nat.le_refl _) _).alloc (by simp) _
 have O1:((w.alloc (.cells #[.int .i64 z0,.int .i64 z1,.int .i64 z2,.int .i64 z3,.int .i64 z4,.int .i64 z5,.int .i64 z6,.int .i64 z7,.slice p8 x8.length c8] 67)).alloc (.cells #[.int .i64 z0,.int .i64 z1,.int .i64 z2,.int .i64 z3,.int .i64 z4,.int .i64 z5,.int .i64 z6,.int .i64 z7,.slice s8 x8.length t8] 67)).heap[w.heap.size]? = some (.cells #[.int .i64 z0,.int .i64 z1,.int .i64 z2,.int .i64 z3,.int .i64 z4,.int .i64 z5,.int .i64 z6,.int .i64 z7,.slice p8 x8.length c8] 67):=(Below.heap_alloc _ _ _ (by simp)).trans (MapKept.heap_alloc w _).1
 have O2:((w.alloc (.cells #[.int .i64 z0,.int .i64 z1,.int .i64 z2,.int .i64 z3,.int .i64 z4,.int .i64 z5,.int .i64 z6,.int .i64 z7,.slice p8 x8.length c8] 67)).alloc (.cells #[.int .i64 z0,.int .i64 z1,.int .i64 z2,.int .i64 z3,.int .i64 z4,.int .i64 z5,.int .i64 z6,.int .i64 z7,.slice s8 x8.length t8] 67)).heap[w.heap.size+1]? = some (.cells #[.int .i64 z0,.int .i64 z1,.int .i64 z2,.int .i64 z3,.int .i64 z4,.int .i64 z5,.int .i64 z6,.int .i64 z7,.slice s8 x8.length t8] 67):=by
  have:=(MapKept.heap_alloc (w.alloc (.cells #[.int .i64 z0,.int .i64 z1,.int .i64 z2,.int .i64 z3,.int .i64 z4,.int .i64 z5,.int .i64 z6,.int .i64 z7,.slice p8 x8.length c8] 67)) (.cells #[.int .i64 z0,.int .i64 z1,.int .i64 z2,.int .i64 z3,.int .i64 z4,.int .i64 z5,.int .i64 z6,.int .i64 z7,.slice s8 x8.length t8] 67)).1
  simpa using this
 have HS:=(show Hid (_∧_∧_∧_∧_∧_∧_∧_∧_∧_∧_∧_∧_∧_∧_∧_∧_∧_∧_∧_∧_∧_) from ⟨O1,O2,B,a0.up B,k0.up B,a1.up B,k1.up B,a2.up B,k2.up B,a3.up B,k3.up B,a4.up B,k4.up B,a5.up B,k5.up B,a6.up B,k6.up B,a7.up B,k7.up B,a8.up B,k8.up B,trivial⟩)
 have hnot:=ex_not
 clear O1 O2 B a0 k0 a1 k1 a2 k2 a3 k3 a4 k4 a5 k5 a6 k6 a7 k7 a8 k8
 go_enter Tryz.func108,Tryz.ntmps108
 go_wp2_with fail
 refine (eqCell_dt [.int .i64 z5,.int .i64 z6,.int .i64 z7,.slice p8 x8.length c8] [.int .i64 z5,.int .i64 z6,.int .i64 z7,.slice s8 x8.length t8] [.int z5,.int z6,.int z7,.row x8] S1 S2 _ ⟨_,_,_,_,rfl,q8⟩ ⟨HS.out.2.2.2.2.2.2.2.2.2.2.2.2.2.1,HS.out.2.2.2.2.2.2.2.2.2.2.2.2.2.2.2.1,HS.out.2.2.2.2.2.2.2.2.2.2.2.2.2.2.2.2.2.1,HS.out.2.2.2.2.2.2.2.2.2.2.2.2.2.2.2.2.2.2.2.1,trivial⟩ ⟨HS.out.2.2.2.2.2.2.2.2.2.2.2.2.2.2.1,HS.out.2.2.2.2.2.2.2.2.2.2.2.2.2.2.2.2.1,HS.out.2.2.2.2.2.2.2.2.2.2.2.2.2.2.2.2.2.2.1,HS.out.2.2.2.2.2.2.2.2.2.2.2.2.2.2.2.2.2.2.2.2.1,trivial⟩ (by rw [show Dt.bR [.int z5,.int z6,.int z7,.row x8]=Dt.bS x8 from by simp [Dt.bR,Dt.bulk]; try omega]; omega)).mono ?_
 rintro e w1 ⟨rfl,bb⟩
 have O1:=(bb.block _ (lh HS.out.1)).trans HS.out.1
 have O2:=(bb.block _ (lh HS.out.2.1)).trans HS.out.2.1
 have B:=HS.out.2.2.1.trans (bb.mono HS.out.2.2.1.size)
 have HT:=(show Hid (_∧_∧_∧_∧_∧_∧_∧_∧_∧_∧_∧_∧_∧_∧_∧_∧_∧_∧_∧_∧_∧_) from ⟨O1,O2,B,(HS.out.2.2.2.1).up bb,(HS.out.2.2.2.2.1).up bb,(HS.out.2.2.2.2.2.1).up bb,(HS.out.2.2.2.2.2.2.1).up bb,(HS.out.2.2.2.2.2.2.2.1).up bb,(HS.out.2.2.2.2.2.2.2.2.1).up bb,(HS.out.2.2.2.2.2.2.2.2.2.1).up bb,(HS.out.2.2.2.2.2.2.2.2.2.2.1).up bb,(HS.out.2.2.2.2.2.2.2.2.2.2.2.1).up bb,(HS.out.2.2.2.2.2.2.2.2.2.2.2.2.1).up bb,(HS.out.2.2.2.2.2.2.2.2.2.2.2.2.2.1).up bb,(HS.out.2.2.2.2.2.2.2.2.2.2.2.2.2.2.1).up bb,(HS.out.2.2.2.2.2.2.2.2.2.2.2.2.2.2.2.1).up bb,(HS.out.2.2.2.2.2.2.2.2.2.2.2.2.2.2.2.2.1).up bb,(HS.out.2.2.2.2.2.2.2.2.2.2.2.2.2.2.2.2.2.1).up bb,(HS.out.2.2.2.2.2.2.2.2.2.2.2.2.2.2.2.2.2.2.1).up bb,(HS.out.2.2.2.2.2.2.2.2.2.2.2.2.2.2.2.2.2.2.2.1).up bb,(HS.out.2.2.2.2.2.2.2.2.2.2.2.2.2.2.2.2.2.2.2.2.1).up bb,trivial⟩)
 clear O1 O2 B bb HS
 have HS:=HT
 clear HT
 go_wp2
 go_ret
 exact ⟨rfl,HS.out.2.2.1⟩
theorem eqMsgS_dt:EqS 57 MsgR:=by
 intro v u xs S1 S2 w hP h h' hb
 have hlen:=bulkS_len xs
 have hBA:=@bulkS_at xs
 have HC:=(show Hid (_∧_∧_) from ⟨h,h',hP⟩)
 obtain ⟨a,cap,rfl⟩:=h.form
 obtain ⟨a',cap',rfl⟩:=h'.form
 clear h h' hP
 have hnot:=ex_not
 have hne:(((xs.length:Nat):Int) != ((xs.length:Nat):Int))=false:=by simp
 go_enter Tryz.func57,Tryz.ntmps57
 go_wp2
 go_loopw [5] (fun i wr=>∃ k:Nat,k≤xs.length∧i = .int .i64 k∧Below w.heap.size w wr) (fun i _=>xs.length - (intOf i).toNat)
 case atStart=>exact ⟨0,Nat.zero_le _,rfl,Below.refl _ _⟩
 case round =>
  obtain ⟨k,hk,rfl,hbw⟩:=hrel
  by_cases hkl:k<xs.length
  ·have he:=List.getElem?_eq_getElem hkl
   have hbk:=hBA he
   generalize xs[k]=r at *
   obtain ⟨z0,z1,z2,z3,z4,z5,z6,z7,x8,rfl,q8⟩:=HC.out.2.2 k r he
   obtain ⟨b,off,rfl,-,hlb,us,hhus⟩:=HC.out.1.at he
   have c0:w.cell? ⟨b,off+k * 9,none⟩=some (us 0):=(hhus 0 _ rfl).1
   have a0:=(hhus 0 _ rfl).2
   have c1:w.cell? ⟨b,off+k * 9+1,none⟩=some (us 1):=(hhus 1 _ rfl).1
   have a1:=(hhus 1 _ rfl).2
   have c2:w.cell? ⟨b,off+k * 9+2,none⟩=some (us 2):=(hhus 2 _ rfl).1
   have a2:=(hhus 2 _ rfl).2
   have c3:w.cell? ⟨b,off+k * 9+3,none⟩=some (us 3):=(hhus 3 _ rfl).1
   have a3:=(hhus 3 _ rfl).2
   have c4:w.cell? ⟨b,off+k * 9+4,none⟩=some (us 4):=(hhus 4 _ rfl).1
   have a4:=(hhus 4 _ rfl).2
   have c5:w.cell? ⟨b,off+k * 9+5,none⟩=some (us 5):=(hhus 5 _ rfl).1
   have a5:=(hhus 5 _ rfl).2
   have c6:w.cell? ⟨b,off+k * 9+6,none⟩=some (us 6):=(hhus 6 _ rfl).1
   have a6:=(hhus 6 _ rfl).2
   have c7:w.cell? ⟨b,off+k * 9+7,none⟩=some (us 7):=(hhus 7 _ rfl).1
   have a7:=(hhus 7 _ rfl).2
   have c8:w.cell? ⟨b,off+k * 9+8,none⟩=some (us 8):=(hhus 8 _ rfl).1
   have a8:=(hhus 8 _ rfl).2
   clear hhus
   obtain ⟨a0e,a0r⟩:=a0.ofInt
   rw [a0e] at c0 a0
   clear a0e
   obtain ⟨a1e,a1r⟩:=a1.ofInt
   rw [a1e] at c1 a1
   clear a1e
   obtain ⟨a2e,a2r⟩:=a2.ofInt
   rw [a2e] at c2 a2
   clear a2e
   obtain ⟨a3e,a3r⟩:=a3.ofInt
   rw [a3e] at c3 a3
   clear a3e
   obtain ⟨a4e,a4r⟩:=a4.ofInt
   rw [a4e] at c4 a4
   clear a4e
   obtain ⟨a5e,a5r⟩:=a5.ofInt
   rw [a5e] at c5 a5
   clear a5e
   obtain ⟨a6e,a6r⟩:=a6.ofInt
   rw [a6e] at c6 a6
   clear a6e
   obtain ⟨a7e,a7r⟩:=a7.ofInt
   rw [a7e] at c7 a7
   clear a7e
   obtain ⟨p8,d8,a8e⟩:=a8.form
   rw [a8e] at c8 a8
   clear a8e
   obtain ⟨b',off',rfl,-,hlb',us',hhus'⟩:=HC.out.2.1.at he
   have c'0:w.cell? ⟨b',off'+k * 9,none⟩=some (us' 0):=(hhus' 0 _ rfl).1
   have a'0:=(hhus' 0 _ rfl).2
   have c'1:w.cell? ⟨b',off'+k * 9+1,none⟩=some (us' 1):=(hhus' 1 _ rfl).1
   have a'1:=(hhus' 1 _ rfl).2
   have c'2:w.cell? ⟨b',off'+k * 9+2,none⟩=some (us' 2):=(hhus' 2 _ rfl).1
   have a'2:=(hhus' 2 _ rfl).2
   have c'3:w.cell? ⟨b',off'+k * 9+3,none⟩=some (us' 3):=(hhus' 3 _ rfl).1
   have a'3:=(hhus' 3 _ rfl).2
   have c'4:w.cell? ⟨b',off'+k * 9+4,none⟩=some (us' 4):=(hhus' 4 _ rfl).1
   have a'4:=(hhus' 4 _ rfl).2
   have c'5:w.cell? ⟨b',off'+k * 9+5,none⟩=some (us' 5):=(hhus' 5 _ rfl).1
   have a'5:=(hhus' 5 _ rfl).2
   have c'6:w.cell? ⟨b',off'+k * 9+6,none⟩=some (us' 6):=(hhus' 6 _ rfl).1
   have a'6:=(hhus' 6 _ rfl).2
   have c'7:w.cell? ⟨b',off'+k * 9+7,none⟩=some (us' 7):=(hhus' 7 _ rfl).1
   have a'7:=(hhus' 7 _ rfl).2
   have c'8:w.cell? ⟨b',off'+k * 9+8,none⟩=some (us' 8):=(hhus' 8 _ rfl).1
   have a'8:=(hhus' 8 _ rfl).2
   clear hhus'
   obtain ⟨a'0e,a'0r⟩:=a'0.ofInt
   rw [a'0e] at c'0 a'0
   clear a'0e
   obtain ⟨a'1e,a'1r⟩:=a'1.ofInt
   rw [a'1e] at c'1 a'1
   clear a'1e
   obtain ⟨a'2e,a'2r⟩:=a'2.ofInt
   rw [a'2e] at c'2 a'2
   clear a'2e
   obtain ⟨a'3e,a'3r⟩:=a'3.ofInt
   rw [a'3e] at c'3 a'3
   clear a'3e
   obtain ⟨a'4e,a'4r⟩:=a'4.ofInt
   rw [a'4e] at c'4 a'4
   clear a'4e
   obtain ⟨a'5e,a'5r⟩:=a'5.ofInt
   rw [a'5e] at c'5 a'5
   clear a'5e
   obtain ⟨a'6e,a'6r⟩:=a'6.ofInt
   rw [a'6e] at c'6 a'6
   clear a'6e
   obtain ⟨a'7e,a'7r⟩:=a'7.ofInt
   rw [a'7e] at c'7 a'7
   clear a'7e
   obtain ⟨s8,t8,a'8e⟩:=a'8.form
   rw [a'8e] at c'8 a'8
   clear a'8e
   rw [← hbw.cell (by exact hlb)] at c0 c1 c2 c3 c4 c5 c6 c7 c8
   rw [← hbw.cell (by exact hlb')] at c'0 c'1 c'2 c'3 c'4 c'5 c'6 c'7 c'8
   have HX:Hid (∀ wx:World,Below w.heap.size w wx→FsAt wx S1 [.int .i64 z0,.int .i64 z1,.int .i64 z2,.int .i64 z3,.int .i64 z4,.int .i64 z5,.int .i64 z6,.int .i64 z7,.slice p8 x8.length d8] [.int z0,.int z1,.int z2,.int z3,.int z4,.int z5,.int z6,.int z7,.row x8]∧FsAt wx S2 [.int .i64 z0,.int .i64 z1,.int .i64 z2,.int .i64 z3,.int .i64 z4,.int .i64 z5,.int .i64 z6,.int .i64 z7,.slice s8 x8.length t8] [.int z0,.int z1,.int z2,.int z3,.int z4,.int z5,.int z6,.int z7,.row x8]):=fun wx hx=>⟨⟨a0.up hx,a1.up hx,a2.up hx,a3.up hx,a4.up hx,a5.up hx,a6.up hx,a7.up hx,a8.up hx,trivial⟩,⟨a'0.up hx,a'1.up hx,a'2.up hx,a'3.up hx,a'4.up hx,a'5.up hx,a'6.up hx,a'7.up hx,a'8.up hx,trivial⟩⟩
   have HQ:Hid (MsgR [.int z0,.int z1,.int z2,.int z3,.int z4,.int z5,.int z6,.int z7,.row x8]):=HC.out.2.2 k _ he
   clear he HC hBA a0 a'0 a1 a'1 a2 a'2 a3 a'3 a4 a'4 a5 a'5 a6 a'6 a7 a'7 a8 a'8 q8 a0r a'0r a1r a'1r a2r a'2r a3r a'3r a4r a'4r a5r a'5r a6r a'6r a7r a'7r
   have hlt':((k:Nat):Int)<((xs.length:Nat):Int):=by omega
   have hsz:=hbw.size
   go_wp2
   go_region_with (go_at_call 108; refine (eqMsg_dt [.int .i64 z0,.int .i64 z1,.int .i64 z2,.int .i64 z3,.int .i64 z4,.int .i64 z5,.int .i64 z6,.int .i64 z7,.slice p8 x8.length d8] [.int .i64 z0,.int .i64 z1,.int .i64 z2,.int .i64 z3,.int .i64 z4,.int .i64 z5,.int .i64 z6,.int .i64 z7,.slice s8 x8.length t8] [.int z0,.int z1,.int z2,.int z3,.int z4,.int z5,.int z6,.int z7,.row x8] S1 S2 _ HQ.out (HX.out _ hbw.drew).1 (HX.out _ hbw.drew).2 (by omega)).mono ?_; rintro e w1 ⟨rfl,b1⟩)
   all_goals
    have hbw2:Below w.heap.size w w1:=hbw.drew.trans (b1.mono hsz)
    clear b1
    go_wp2
    go_roundw
    case rel=>exact ⟨k+1,by omega,by go_num,hbw2⟩
    case measure=>simp [intOf]; omega
  ·clear HC
   go_wp2
   go_ret
   exact ⟨rfl,hbw⟩
end Go.Proofs.YtmmadoabejgffaaGreatDoor
