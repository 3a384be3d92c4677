/-
  Proofs.
-/
import Derived.Test.YtmmadoabejgffaaGreatDoorA
import Derived.Test.YtmmadoabejgffaaGreatDoorB
import Derived.Test.YtmmadoabejgffaaGreatDoorEA
namespace Go.Proofs.YtmmadoabejgffaaGreatDoor
open Go.RowKit Go.Joins
set_option maxRecDepth 100000
set_option maxHeartbeats 51200000
theorem eqMachine_dt:EqC 22 MachineR:=by
 rintro vs us r S1 S2 w ⟨x0,x1,x2,x3,x4,x5,x6,rfl,q0,q1,q2,q3,q4,q5,q6⟩ h h' hb
 obtain ⟨v0,v1,v2,v3,v4,v5,v6,rfl,a0,a1,a2,a3,a4,a5,a6⟩:=fs7 h
 obtain ⟨p0,c0,rfl⟩:=a0.form
 obtain ⟨p1,c1,rfl⟩:=a1.form
 obtain ⟨p2,c2,rfl⟩:=a2.form
 obtain ⟨p3,c3,rfl⟩:=a3.form
 obtain ⟨p4,c4,rfl⟩:=a4.form
 obtain ⟨p5,c5,rfl⟩:=a5.form
 obtain ⟨p6,c6,rfl⟩:=a6.form
 obtain ⟨v0,v1,v2,v3,v4,v5,v6,rfl,k0,k1,k2,k3,k4,k5,k6⟩:=fs7 h'
 obtain ⟨s0,t0,rfl⟩:=k0.form
 obtain ⟨s1,t1,rfl⟩:=k1.form
 obtain ⟨s2,t2,rfl⟩:=k2.form
 obtain ⟨s3,t3,rfl⟩:=k3.form
 obtain ⟨s4,t4,rfl⟩:=k4.form
 obtain ⟨s5,t5,rfl⟩:=k5.form
 obtain ⟨s6,t6,rfl⟩:=k6.form
 have hbk:Dt.bR [.row x0,.row x1,.row x2,.row x3,.row x4,.row x5,.row x6]=Dt.bS x0+Dt.bS x1+Dt.bS x2+Dt.bS x3+Dt.bS x4+Dt.bS x5+Dt.bS x6:=by simp [Dt.bR,Dt.bulk]; try omega
 rw [hbk] at hb
 clear hbk h h'
 have B:Below w.heap.size w ((w.alloc (.cells #[.slice p0 x0.length c0,.slice p1 x1.length c1,.slice p2 x2.length c2,.slice p3 x3.length c3,.slice p4 x4.length c4,.slice p5 x5.length c5,.slice p6 x6.length c6] 45)).alloc (.cells #[.slice s0 x0.length t0,.slice s1 x1.length t1,.slice s2 x2.length t2,.slice s3 x3.length t3,.slice s4 x4.length t4,.slice s5 x5.length t5,.slice s6 x6.length t6] 45)):=((Below.refl _ w).alloc (Nat.le_refl _) _).alloc (by simp) _
 have O1:((w.alloc (.cells #[.slice p0 x0.length c0,.slice p1 x1.length c1,.slice p2 x2.length c2,.slice p3 x3.length c3,.slice p4 x4.length c4,.slice p5 x5.length c5,.slice p6 x6.length c6] 45)).alloc (.cells #[.slice s0 x0.length t0,.slice s1 x1.length t1,.slice s2 x2.length t2,.slice s3 x3.length t3,.slice s4 x4.length t4,.slice s5 x5.length t5,.slice s6 x6.length t6] 45)).heap[w.heap.size]? = some (.cells #[.slice p0 x0.length c0,.slice p1 x1.length c1,.slice p2 x2.length c2,.slice p3 x3.length c3,.slice p4 x4.length c4,.slice p5 x5.length c5,.slice p6 x6.length c6] 45):=(Below.heap_alloc _ _ _ (by simp)).trans (MapKept.heap_alloc w _).1
 have O2:((w.alloc (.cells #[.slice p0 x0.length c0,.slice p1 x1.length c1,.slice p2 x2.length c2,.slice p3 x3.length c3,.slice p4 x4.length c4,.slice p5 x5.length c5,.slice p6 x6.length c6] 45)).alloc (.cells #[.slice s0 x0.length t0,.slice s1 x1.length t1,.slice s2 x2.length t2,.slice s3 x3.length t3,.slice s4 x4.length t4,.slice s5 x5.length t5,.slice s6 x6.length t6] 45)).heap[w.heap.size+1]? = some (.cells #[.slice s0 x0.length t0,.slice s1 x1.length t1,.slice s2 x2.length t2,.slice s3 x3.length t3,.slice s4 x4.length t4,.slice s5 x5.length t5,.slice s6 x6.length t6] 45):=by
  have:=(MapKept.heap_alloc (w.alloc (.cells #[.slice p0 x0.length c0,.slice p1 x1.length c1,.slice p2 x2.length c2,.slice p3 x3.length c3,.slice p4 x4.length c4,.slice p5 x5.length c5,.slice p6 x6.length c6] 45)) (.cells #[.slice s0 x0.length t0,.slice s1 x1.length t1,.slice s2 x2.length t2,.slice s3 x3.length t3,.slice s4 x4.length t4,.slice s5 x5.length t5,.slice s6 x6.length t6] 45)).1
  simpa using this
 have HS:=(show Hid (_∧_∧_∧_∧_∧_∧_∧_∧_∧_∧_∧_∧_∧_∧_∧_∧_∧_) from ⟨O1,O2,B,a0.up B,k0.up B,a1.up B,k1.up B,a2.up B,k2.up B,a3.up B,k3.up B,a4.up B,k4.up B,a5.up B,k5.up B,a6.up B,k6.up B,trivial⟩)
 have hnot:=ex_not
 clear O1 O2 B a0 k0 a1 k1 a2 k2 a3 k3 a4 k4 a5 k5 a6 k6
 go_enter Tryz.func22,Tryz.ntmps22
 go_wp2_with fail
 refine (eqTable_dt [.slice p0 x0.length c0,.slice p1 x1.length c1] [.slice s0 x0.length t0,.slice s1 x1.length t1] [.row x0,.row x1] S1 S2 _ ⟨_,_,rfl,q0,q1⟩ ⟨HS.out.2.2.2.1,HS.out.2.2.2.2.2.1,trivial⟩ ⟨HS.out.2.2.2.2.1,HS.out.2.2.2.2.2.2.1,trivial⟩ (by rw [show Dt.bR [.row x0,.row x1]=Dt.bS x0+Dt.bS x1 from by simp [Dt.bR,Dt.bulk]; try omega]; omega)).mono ?_
 rintro e w1 ⟨rfl,bb⟩
 have O1:=(bb.block _ (lh HS.out.1)).trans HS.out.1
 have O2:=(bb.block _ (lh HS.out.2.1)).trans HS.out.2.1
 have B:=HS.out.2.2.1.trans (bb.mono HS.out.2.2.1.size)
 have y2:=cb O1 2 (.slice p2 x2.length c2) rfl
 have y2':w1.cell? ⟨w.heap.size+1,2,none⟩=some (.slice s2 x2.length t2):=by rw [cell_of_block O2]; rfl
 have y3:=cb O1 3 (.slice p3 x3.length c3) rfl
 have y3':w1.cell? ⟨w.heap.size+1,3,none⟩=some (.slice s3 x3.length t3):=by rw [cell_of_block O2]; rfl
 have y4:=cb O1 4 (.slice p4 x4.length c4) rfl
 have y4':w1.cell? ⟨w.heap.size+1,4,none⟩=some (.slice s4 x4.length t4):=by rw [cell_of_block O2]; rfl
 have y5:=cb O1 5 (.slice p5 x5.length c5) rfl
 have y5':w1.cell? ⟨w.heap.size+1,5,none⟩=some (.slice s5 x5.length t5):=by rw [cell_of_block O2]; rfl
 have y6:=cb O1 6 (.slice p6 x6.length c6) rfl
 have y6':w1.cell? ⟨w.heap.size+1,6,none⟩=some (.slice s6 x6.length t6):=by rw [cell_of_block O2]; rfl
 have HT:=(show Hid (_∧_∧_∧_∧_∧_∧_∧_∧_∧_∧_∧_∧_∧_∧_∧_∧_∧_) from ⟨O1,O2,B,(HS.out.2.2.2.1).up bb,(HS.out.2.2.2.2.1).up bb,(HS.out.2.2.2.2.2.1).up bb,(HS.out.2.2.2.2.2.2.1).up bb,(HS.out.2.2.2.2.2.2.2.1).up bb,(HS.out.2.2.2.2.2.2.2.2.1).up bb,(HS.out.2.2.2.2.2.2.2.2.2.1).up bb,(HS.out.2.2.2.2.2.2.2.2.2.2.1).up bb,(HS.out.2.2.2.2.2.2.2.2.2.2.2.1).up bb,(HS.out.2.2.2.2.2.2.2.2.2.2.2.2.1).up bb,(HS.out.2.2.2.2.2.2.2.2.2.2.2.2.2.1).up bb,(HS.out.2.2.2.2.2.2.2.2.2.2.2.2.2.2.1).up bb,(HS.out.2.2.2.2.2.2.2.2.2.2.2.2.2.2.2.1).up bb,(HS.out.2.2.2.2.2.2.2.2.2.2.2.2.2.2.2.2.1).up bb,trivial⟩)
 clear O1 O2 B bb HS
 have HS:=HT
 clear HT
 go_wp2_with fail
 refine (eqCellS_dt _ _ x2 S1 S2 _ q2 (HS.out.2.2.2.2.2.2.2.1) (HS.out.2.2.2.2.2.2.2.2.1) (by omega)).mono ?_
 rintro e w2 ⟨rfl,bb⟩
 have O1:=(bb.block _ (lh HS.out.1)).trans HS.out.1
 have O2:=(bb.block _ (lh HS.out.2.1)).trans HS.out.2.1
 have B:=HS.out.2.2.1.trans (bb.mono HS.out.2.2.1.size)
 clear y2 y2' y3 y3' y4 y4' y5 y5' y6 y6'
 have y3:=cb O1 3 (.slice p3 x3.length c3) rfl
 have y3':w2.cell? ⟨w.heap.size+1,3,none⟩=some (.slice s3 x3.length t3):=by rw [cell_of_block O2]; rfl
 have y4:=cb O1 4 (.slice p4 x4.length c4) rfl
 have y4':w2.cell? ⟨w.heap.size+1,4,none⟩=some (.slice s4 x4.length t4):=by rw [cell_of_block O2]; rfl
 have y5:=cb O1 5 (.slice p5 x5.length c5) rfl
 have y5':w2.cell? ⟨w.heap.size+1,5,none⟩=some (.slice s5 x5.length t5):=by rw [cell_of_block O2]; rfl
 have y6:=cb O1 6 (.slice p6 x6.length c6) rfl
 have y6':w2.cell? ⟨w.heap.size+1,6,none⟩=some (.slice s6 x6.length t6):=by rw [cell_of_block O2]; rfl
 have HT:=(show Hid (_∧_∧_∧_∧_∧_∧_∧_∧_∧_∧_∧_∧_∧_∧_∧_∧_∧_) from ⟨O1,O2,B,(HS.out.2.2.2.1).up bb,(HS.out.2.2.2.2.1).up bb,(HS.out.2.2.2.2.2.1).up bb,(HS.out.2.2.2.2.2.2.1).up bb,(HS.out.2.2.2.2.2.2.2.1).up bb,(HS.out.2.2.2.2.2.2.2.2.1).up bb,(HS.out.2.2.2.2.2.2.2.2.2.1).up bb,(HS.out.2.2.2.2.2.2.2.2.2.2.1).up bb,(HS.out.2.2.2.2.2.2.2.2.2.2.2.1).up bb,(HS.out.2.2.2.2.2.2.2.2.2.2.2.2.1).up bb,(HS.out.2.2.2.2.2.2.2.2.2.2.2.2.2.1).up bb,(HS.out.2.2.2.2.2.2.2.2.2.2.2.2.2.2.1).up bb,(HS.out.2.2.2.2.2.2.2.2.2.2.2.2.2.2.2.1).up bb,(HS.out.2.2.2.2.2.2.2.2.2.2.2.2.2.2.2.2.1).up bb,trivial⟩)
 clear O1 O2 B bb HS
 have HS:=HT
 clear HT
 go_wp2_with fail
 refine (eqThreadS_dt _ _ x3 S1 S2 _ q3 (HS.out.2.2.2.2.2.2.2.2.2.1) (HS.out.2.2.2.2.2.2.2.2.2.2.1) (by omega)).mono ?_
 rintro e w3 ⟨rfl,bb⟩
 have O1:=(bb.block _ (lh HS.out.1)).trans HS.out.1
 have O2:=(bb.block _ (lh HS.out.2.1)).trans HS.out.2.1
 have B:=HS.out.2.2.1.trans (bb.mono HS.out.2.2.1.size)
 clear y3 y3' y4 y4' y5 y5' y6 y6'
 have y4:=cb O1 4 (.slice p4 x4.length c4) rfl
 have y4':w3.cell? ⟨w.heap.size+1,4,none⟩=some (.slice s4 x4.length t4):=by rw [cell_of_block O2]; rfl
 have y5:=cb O1 5 (.slice p5 x5.length c5) rfl
 have y5':w3.cell? ⟨w.heap.size+1,5,none⟩=some (.slice s5 x5.length t5):=by rw [cell_of_block O2]; rfl
 have y6:=cb O1 6 (.slice p6 x6.length c6) rfl
 have y6':w3.cell? ⟨w.heap.size+1,6,none⟩=some (.slice s6 x6.length t6):=by rw [cell_of_block O2]; rfl
 have HT:=(show Hid (_∧_∧_∧_∧_∧_∧_∧_∧_∧_∧_∧_∧_∧_∧_∧_∧_∧_) from ⟨O1,O2,B,(HS.out.2.2.2.1).up bb,(HS.out.2.2.2.2.1).up bb,(HS.out.2.2.2.2.2.1).up bb,(HS.out.2.2.2.2.2.2.1).up bb,(HS.out.2.2.2.2.2.2.2.1).up bb,(HS.out.2.2.2.2.2.2.2.2.1).up bb,(HS.out.2.2.2.2.2.2.2.2.2.1).up bb,(HS.out.2.2.2.2.2.2.2.2.2.2.1).up bb,(HS.out.2.2.2.2.2.2.2.2.2.2.2.1).up bb,(HS.out.2.2.2.2.2.2.2.2.2.2.2.2.1).up bb,(HS.out.2.2.2.2.2.2.2.2.2.2.2.2.2.1).up bb,(HS.out.2.2.2.2.2.2.2.2.2.2.2.2.2.2.1).up bb,(HS.out.2.2.2.2.2.2.2.2.2.2.2.2.2.2.2.1).up bb,(HS.out.2.2.2.2.2.2.2.2.2.2.2.2.2.2.2.2.1).up bb,trivial⟩)
 clear O1 O2 B bb HS
 have HS:=HT
 clear HT
 go_wp2_with fail
 refine (eqIntS_dt _ _ x4 S1 S2 _ q4 (HS.out.2.2.2.2.2.2.2.2.2.2.2.1) (HS.out.2.2.2.2.2.2.2.2.2.2.2.2.1) (by omega)).mono ?_
 rintro e w4 ⟨rfl,bb⟩
 have O1:=(bb.block _ (lh HS.out.1)).trans HS.out.1
 have O2:=(bb.block _ (lh HS.out.2.1)).trans HS.out.2.1
 have B:=HS.out.2.2.1.trans (bb.mono HS.out.2.2.1.size)
 clear y4 y4' y5 y5' y6 y6'
 have y5:=cb O1 5 (.slice p5 x5.length c5) rfl
 have y5':w4.cell? ⟨w.heap.size+1,5,none⟩=some (.slice s5 x5.length t5):=by rw [cell_of_block O2]; rfl
 have y6:=cb O1 6 (.slice p6 x6.length c6) rfl
 have y6':w4.cell? ⟨w.heap.size+1,6,none⟩=some (.slice s6 x6.length t6):=by rw [cell_of_block O2]; rfl
 have HT:=(show Hid (_∧_∧_∧_∧_∧_∧_∧_∧_∧_∧_∧_∧_∧_∧_∧_∧_∧_) from ⟨O1,O2,B,(HS.out.2.2.2.1).up bb,(HS.out.2.2.2.2.1).up bb,(HS.out.2.2.2.2.2.1).up bb,(HS.out.2.2.2.2.2.2.1).up bb,(HS.out.2.2.2.2.2.2.2.1).up bb,(HS.out.2.2.2.2.2.2.2.2.1).up bb,(HS.out.2.2.2.2.2.2.2.2.2.1).up bb,(HS.out.2.2.2.2.2.2.2.2.2.2.1).up bb,(HS.out.2.2.2.2.2.2.2.2.2.2.2.1).up bb,(HS.out.2.2.2.2.2.2.2.2.2.2.2.2.1).up bb,(HS.out.2.2.2.2.2.2.2.2.2.2.2.2.2.1).up bb,(HS.out.2.2.2.2.2.2.2.2.2.2.2.2.2.2.1).up bb,(HS.out.2.2.2.2.2.2.2.2.2.2.2.2.2.2.2.1).up bb,(HS.out.2.2.2.2.2.2.2.2.2.2.2.2.2.2.2.2.1).up bb,trivial⟩)
 clear O1 O2 B bb HS
 have HS:=HT
 clear HT
 go_wp2_with fail
 refine (eqIntS_dt _ _ x5 S1 S2 _ q5 (HS.out.2.2.2.2.2.2.2.2.2.2.2.2.2.1) (HS.out.2.2.2.2.2.2.2.2.2.2.2.2.2.2.1) (by omega)).mono ?_
 rintro e w5 ⟨rfl,bb⟩
 have O1:=(bb.block _ (lh HS.out.1)).trans HS.out.1
 have O2:=(bb.block _ (lh HS.out.2.1)).trans HS.out.2.1
 have B:=HS.out.2.2.1.trans (bb.mono HS.out.2.2.1.size)
 clear y5 y5' y6 y6'
 have y6:=cb O1 6 (.slice p6 x6.length c6) rfl
 have y6':w5.cell? ⟨w.heap.size+1,6,none⟩=some (.slice s6 x6.length t6):=by rw [cell_of_block O2]; rfl
 have HT:=(show Hid (_∧_∧_∧_∧_∧_∧_∧_∧_∧_∧_∧_∧_∧_∧_∧_∧_∧_) from ⟨O1,O2,B,(HS.out.2.2.2.1).up bb,(HS.out.2.2.2.2.1).up bb,(HS.out.2.2.2.2.2.1).up bb,(HS.out.2.2.2.2.2.2.1).up bb,(HS.out.2.2.2.2.2.2.2.1).up bb,(HS.out.2.2.2.2.2.2.2.2.1).up bb,(HS.out.2.2.2.2.2.2.2.2.2.1).up bb,(HS.out.2.2.2.2.2.2.2.2.2.2.1).up bb,(HS.out.2.2.2.2.2.2.2.2.2.2.2.1).up bb,(HS.out.2.2.2.2.2.2.2.2.2.2.2.2.1).up bb,(HS.out.2.2.2.2.2.2.2.2.2.2.2.2.2.1).up bb,(HS.out.2.2.2.2.2.2.2.2.2.2.2.2.2.2.1).up bb,(HS.out.2.2.2.2.2.2.2.2.2.2.2.2.2.2.2.1).up bb,(HS.out.2.2.2.2.2.2.2.2.2.2.2.2.2.2.2.2.1).up bb,trivial⟩)
 clear O1 O2 B bb HS
 have HS:=HT
 clear HT
 go_wp2_with fail
 refine (eqMsgS_dt _ _ x6 S1 S2 _ q6 (HS.out.2.2.2.2.2.2.2.2.2.2.2.2.2.2.2.1) (HS.out.2.2.2.2.2.2.2.2.2.2.2.2.2.2.2.2.1) (by omega)).mono ?_
 rintro e w6 ⟨rfl,bb⟩
 have O1:=(bb.block _ (lh HS.out.1)).trans HS.out.1
 have O2:=(bb.block _ (lh HS.out.2.1)).trans HS.out.2.1
 have B:=HS.out.2.2.1.trans (bb.mono HS.out.2.2.1.size)
 clear y6 y6'
 have HT:=(show Hid (_∧_∧_∧_∧_∧_∧_∧_∧_∧_∧_∧_∧_∧_∧_∧_∧_∧_) from ⟨O1,O2,B,(HS.out.2.2.2.1).up bb,(HS.out.2.2.2.2.1).up bb,(HS.out.2.2.2.2.2.1).up bb,(HS.out.2.2.2.2.2.2.1).up bb,(HS.out.2.2.2.2.2.2.2.1).up bb,(HS.out.2.2.2.2.2.2.2.2.1).up bb,(HS.out.2.2.2.2.2.2.2.2.2.1).up bb,(HS.out.2.2.2.2.2.2.2.2.2.2.1).up bb,(HS.out.2.2.2.2.2.2.2.2.2.2.2.1).up bb,(HS.out.2.2.2.2.2.2.2.2.2.2.2.2.1).up bb,(HS.out.2.2.2.2.2.2.2.2.2.2.2.2.2.1).up bb,(HS.out.2.2.2.2.2.2.2.2.2.2.2.2.2.2.1).up bb,(HS.out.2.2.2.2.2.2.2.2.2.2.2.2.2.2.2.1).up bb,(HS.out.2.2.2.2.2.2.2.2.2.2.2.2.2.2.2.2.1).up bb,trivial⟩)
 clear O1 O2 B bb HS
 have HS:=HT
 clear HT
 go_wp2
 go_ret
 exact ⟨rfl,HS.out.2.2.1⟩
theorem eqSent_dt:EqC 109 SentR:=by
 rintro vs us r S1 S2 w ⟨z0,z1,b2,rfl⟩ h h' hb
 obtain ⟨v0,v1,v2,rfl,a0,a1,a2⟩:=fs3 h
 obtain ⟨rfl,ia0⟩:=a0.ofInt
 obtain ⟨rfl,ia1⟩:=a1.ofInt
 obtain ⟨rfl,ia2⟩:=a2.ofStr
 obtain ⟨v0,v1,v2,rfl,k0,k1,k2⟩:=fs3 h'
 obtain ⟨rfl,-⟩:=k0.ofInt
 obtain ⟨rfl,-⟩:=k1.ofInt
 obtain ⟨rfl,-⟩:=k2.ofStr
 have hbk:Dt.bR [.int z0,.int z1,.str b2]=b2.size:=by simp [Dt.bR,Dt.bulk]; try omega
 rw [hbk] at hb
 clear hbk h h'
 have m0:(z0 != z0)=false:=by simp
 have m1:(z1 != z1)=false:=by simp
 have m2:(b2.toList == b2.toList)=true:=by simp
 have m2':(b2.toList != b2.toList)=false:=by simp
 have B:Below w.heap.size w ((w.alloc (.cells #[.int .i64 z0,.int .i64 z1,.string b2] 93)).alloc (.cells #[.int .i64 z0,.int .i64 z1,.string b2] 93)):=((Below.refl _ w).alloc (Nat.le_refl _) _).alloc (by simp) _
 have O1:((w.alloc (.cells #[.int .i64 z0,.int .i64 z1,.string b2] 93)).alloc (.cells #[.int .i64 z0,.int .i64 z1,.string b2] 93)).heap[w.heap.size]? = some (.cells #[.int .i64 z0,.int .i64 z1,.string b2] 93):=(Below.heap_alloc _ _ _ (by simp)).trans (MapKept.heap_alloc w _).1
 have O2:((w.alloc (.cells #[.int .i64 z0,.int .i64 z1,.string b2] 93)).alloc (.cells #[.int .i64 z0,.int .i64 z1,.string b2] 93)).heap[w.heap.size+1]? = some (.cells #[.int .i64 z0,.int .i64 z1,.string b2] 93):=by
  have:=(MapKept.heap_alloc (w.alloc (.cells #[.int .i64 z0,.int .i64 z1,.string b2] 93)) (.cells #[.int .i64 z0,.int .i64 z1,.string b2] 93)).1
  simpa using this
 have HS:=(show Hid (_∧_∧_∧_∧_∧_∧_∧_∧_∧_) from ⟨O1,O2,B,a0.up B,k0.up B,a1.up B,k1.up B,a2.up B,k2.up B,trivial⟩)
 have hnot:=ex_not
 clear O1 O2 B a0 k0 a1 k1 a2 k2
 go_enter Tryz.func109,Tryz.ntmps109
 go_wp2
 go_ret
 exact ⟨rfl,HS.out.2.2.1⟩
theorem eqSentS_dt:EqS 58 SentR:=by
 intro v u xs S1 S2 w hP h h' hb
 have hlen:=bulkS_len xs
 have hBA:=@bulkS_at xs
 have HC:=(show Hid (_∧_∧_) from ⟨h,h',hP⟩)
 obtain ⟨a,cap,rfl⟩:=h.form
 obtain ⟨a',cap',rfl⟩:=h'.form
 clear h h' hP
 have hnot:=ex_not
 have hne:(((xs.length:Nat):Int) != ((xs.length:Nat):Int))=false:=by simp
 go_enter Tryz.func58,Tryz.ntmps58
 go_wp2
 go_loopw [5] (fun i wr=>∃ k:Nat,k≤xs.length∧i = .int .i64 k∧Below w.heap.size w wr) (fun i _=>xs.length - (intOf i).toNat)
 case atStart=>exact ⟨0,Nat.zero_le _,rfl,Below.refl _ _⟩
 case round =>
  obtain ⟨k,hk,rfl,hbw⟩:=hrel
  by_cases hkl:k<xs.length
  ·have he:=List.getElem?_eq_getElem hkl
   have hbk:=hBA he
   generalize xs[k]=r at *
   obtain ⟨z0,z1,b2,rfl⟩:=HC.out.2.2 k r he
   obtain ⟨b,off,rfl,-,hlb,us,hhus⟩:=HC.out.1.at he
   have c0:w.cell? ⟨b,off+k * 3,none⟩=some (us 0):=(hhus 0 _ rfl).1
   have a0:=(hhus 0 _ rfl).2
   have c1:w.cell? ⟨b,off+k * 3+1,none⟩=some (us 1):=(hhus 1 _ rfl).1
   have a1:=(hhus 1 _ rfl).2
   have c2:w.cell? ⟨b,off+k * 3+2,none⟩=some (us 2):=(hhus 2 _ rfl).1
   have a2:=(hhus 2 _ rfl).2
   clear hhus
   obtain ⟨a0e,a0r⟩:=a0.ofInt
   rw [a0e] at c0 a0
   clear a0e
   obtain ⟨a1e,a1r⟩:=a1.ofInt
   rw [a1e] at c1 a1
   clear a1e
   obtain ⟨a2e,a2r⟩:=a2.ofStr
   rw [a2e] at c2 a2
   clear a2e
   obtain ⟨b',off',rfl,-,hlb',us',hhus'⟩:=HC.out.2.1.at he
   have c'0:w.cell? ⟨b',off'+k * 3,none⟩=some (us' 0):=(hhus' 0 _ rfl).1
   have a'0:=(hhus' 0 _ rfl).2
   have c'1:w.cell? ⟨b',off'+k * 3+1,none⟩=some (us' 1):=(hhus' 1 _ rfl).1
   have a'1:=(hhus' 1 _ rfl).2
   have c'2:w.cell? ⟨b',off'+k * 3+2,none⟩=some (us' 2):=(hhus' 2 _ rfl).1
   have a'2:=(hhus' 2 _ rfl).2
   clear hhus'
   obtain ⟨a'0e,a'0r⟩:=a'0.ofInt
   rw [a'0e] at c'0 a'0
   clear a'0e
   obtain ⟨a'1e,a'1r⟩:=a'1.ofInt
   rw [a'1e] at c'1 a'1
   clear a'1e
   obtain ⟨a'2e,a'2r⟩:=a'2.ofStr
   rw [a'2e] at c'2 a'2
   clear a'2e
   rw [← hbw.cell (by exact hlb)] at c0 c1 c2
   rw [← hbw.cell (by exact hlb')] at c'0 c'1 c'2
   have HX:Hid (∀ wx:World,Below w.heap.size w wx→FsAt wx S1 [.int .i64 z0,.int .i64 z1,.string b2] [.int z0,.int z1,.str b2]∧FsAt wx S2 [.int .i64 z0,.int .i64 z1,.string b2] [.int z0,.int z1,.str b2]):=fun wx hx=>⟨⟨a0.up hx,a1.up hx,a2.up hx,trivial⟩,⟨a'0.up hx,a'1.up hx,a'2.up hx,trivial⟩⟩
   have HQ:Hid (SentR [.int z0,.int z1,.str b2]):=HC.out.2.2 k _ he
   clear he HC hBA a0 a'0 a1 a'1 a2 a'2  a0r a'0r a1r a'1r a2r a'2r
   have hlt':((k:Nat):Int)<((xs.length:Nat):Int):=by omega
   have hsz:=hbw.size
   go_wp2
   go_region_with (go_at_call 109; refine (eqSent_dt [.int .i64 z0,.int .i64 z1,.string b2] [.int .i64 z0,.int .i64 z1,.string b2] [.int z0,.int z1,.str b2] S1 S2 _ HQ.out (HX.out _ hbw.drew).1 (HX.out _ hbw.drew).2 (by omega)).mono ?_; rintro e w1 ⟨rfl,b1⟩)
   all_goals
    have hbw2:Below w.heap.size w w1:=hbw.drew.trans (b1.mono hsz)
    clear b1
    go_wp2
    go_roundw
    case rel=>exact ⟨k+1,by omega,by go_num,hbw2⟩
    case measure=>simp [intOf]; omega
  ·clear HC
   go_wp2
   go_ret
   exact ⟨rfl,hbw⟩
theorem eqSeen_dt:EqC 110 SeenR:=by
 rintro vs us r S1 S2 w ⟨z0,x1,rfl,q1⟩ h h' hb
 obtain ⟨v0,v1,rfl,a0,a1⟩:=fs2 h
 obtain ⟨rfl,ia0⟩:=a0.ofInt
 obtain ⟨p1,c1,rfl⟩:=a1.form
 obtain ⟨v0,v1,rfl,k0,k1⟩:=fs2 h'
 obtain ⟨rfl,-⟩:=k0.ofInt
 obtain ⟨s1,t1,rfl⟩:=k1.form
 have hbk:Dt.bR [.int z0,.row x1]=Dt.bS x1:=by simp [Dt.bR,Dt.bulk]; try omega
 rw [hbk] at hb
 clear hbk h h'
 have m0:(z0 != z0)=false:=by simp
 have B:Below w.heap.size w ((w.alloc (.cells #[.int .i64 z0,.slice p1 x1.length c1] 147)).alloc (.cells #[.int .i64 z0,.slice s1 x1.length t1] 147)):=((Below.refl _ w).alloc (Nat.le_refl _) _).alloc (by simp) _
 have O1:((w.alloc (.cells #[.int .i64 z0,.slice p1 x1.length c1] 147)).alloc (.cells #[.int .i64 z0,.slice s1 x1.length t1] 147)).heap[w.heap.size]? = some (.cells #[.int .i64 z0,.slice p1 x1.length c1] 147):=(Below.heap_alloc _ _ _ (by simp)).trans (MapKept.heap_alloc w _).1
 have O2:((w.alloc (.cells #[.int .i64 z0,.slice p1 x1.length c1] 147)).alloc (.cells #[.int .i64 z0,.slice s1 x1.length t1] 147)).heap[w.heap.size+1]? = some (.cells #[.int .i64 z0,.slice s1 x1.length t1] 147):=by
  have:=(MapKept.heap_alloc (w.alloc (.cells #[.int .i64 z0,.slice p1 x1.length c1] 147)) (.cells #[.int .i64 z0,.slice s1 x1.length t1] 147)).1
  simpa using this
 have HS:=(show Hid (_∧_∧_∧_∧_∧_∧_∧_) from ⟨O1,O2,B,a0.up B,k0.up B,a1.up B,k1.up B,trivial⟩)
 have hnot:=ex_not
 clear O1 O2 B a0 k0 a1 k1
 go_enter Tryz.func110,Tryz.ntmps110
 go_wp2_with fail
 refine (eqIntS_dt _ _ x1 S1 S2 _ q1 (HS.out.2.2.2.2.2.1) (HS.out.2.2.2.2.2.2.1) (by omega)).mono ?_
 rintro e w1 ⟨rfl,bb⟩
 have O1:=(bb.block _ (lh HS.out.1)).trans HS.out.1
 have O2:=(bb.block _ (lh HS.out.2.1)).trans HS.out.2.1
 have B:=HS.out.2.2.1.trans (bb.mono HS.out.2.2.1.size)
 have HT:=(show Hid (_∧_∧_∧_∧_∧_∧_∧_) from ⟨O1,O2,B,(HS.out.2.2.2.1).up bb,(HS.out.2.2.2.2.1).up bb,(HS.out.2.2.2.2.2.1).up bb,(HS.out.2.2.2.2.2.2.1).up bb,trivial⟩)
 clear O1 O2 B bb HS
 have HS:=HT
 clear HT
 go_wp2
 go_ret
 exact ⟨rfl,HS.out.2.2.1⟩
theorem eqSeenS_dt:EqS 59 SeenR:=by
 intro v u xs S1 S2 w hP h h' hb
 have hlen:=bulkS_len xs
 have hBA:=@bulkS_at xs
 have HC:=(show Hid (_∧_∧_) from ⟨h,h',hP⟩)
 obtain ⟨a,cap,rfl⟩:=h.form
 obtain ⟨a',cap',rfl⟩:=h'.form
 clear h h' hP
 have hnot:=ex_not
 have hne:(((xs.length:Nat):Int) != ((xs.length:Nat):Int))=false:=by simp
 go_enter Tryz.func59,Tryz.ntmps59
 go_wp2
 go_loopw [5] (fun i wr=>∃ k:Nat,k≤xs.length∧i = .int .i64 k∧Below w.heap.size w wr) (fun i _=>xs.length - (intOf i).toNat)
 case atStart=>exact ⟨0,Nat.zero_le _,rfl,Below.refl _ _⟩
 case round =>
  obtain ⟨k,hk,rfl,hbw⟩:=hrel
  by_cases hkl:k<xs.length
  ·have he:=List.getElem?_eq_getElem hkl
   have hbk:=hBA he
   generalize xs[k]=r at *
   obtain ⟨z0,x1,rfl,q1⟩:=HC.out.2.2 k r he
   obtain ⟨b,off,rfl,-,hlb,us,hhus⟩:=HC.out.1.at he
   have c0:w.cell? ⟨b,off+k * 2,none⟩=some (us 0):=(hhus 0 _ rfl).1
   have a0:=(hhus 0 _ rfl).2
   have c1:w.cell? ⟨b,off+k * 2+1,none⟩=some (us 1):=(hhus 1 _ rfl).1
   have a1:=(hhus 1 _ rfl).2
   clear hhus
   obtain ⟨a0e,a0r⟩:=a0.ofInt
   rw [a0e] at c0 a0
   clear a0e
   obtain ⟨p1,d1,a1e⟩:=a1.form
   rw [a1e] at c1 a1
   clear a1e
   obtain ⟨b',off',rfl,-,hlb',us',hhus'⟩:=HC.out.2.1.at he
   have c'0:w.cell? ⟨b',off'+k * 2,none⟩=some (us' 0):=(hhus' 0 _ rfl).1
   have a'0:=(hhus' 0 _ rfl).2
   have c'1:w.cell? ⟨b',off'+k * 2+1,none⟩=some (us' 1):=(hhus' 1 _ rfl).1
   have a'1:=(hhus' 1 _ rfl).2
   clear hhus'
   obtain ⟨a'0e,a'0r⟩:=a'0.ofInt
   rw [a'0e] at c'0 a'0
   clear a'0e
   obtain ⟨s1,t1,a'1e⟩:=a'1.form
   rw [a'1e] at c'1 a'1
   clear a'1e
   rw [← hbw.cell (by exact hlb)] at c0 c1
   rw [← hbw.cell (by exact hlb')] at c'0 c'1
   have HX:Hid (∀ wx:World,Below w.heap.size w wx→FsAt wx S1 [.int .i64 z0,.slice p1 x1.length d1] [.int z0,.row x1]∧FsAt wx S2 [.int .i64 z0,.slice s1 x1.length t1] [.int z0,.row x1]):=fun wx hx=>⟨⟨a0.up hx,a1.up hx,trivial⟩,⟨a'0.up hx,a'1.up hx,trivial⟩⟩
   have HQ:Hid (SeenR [.int z0,.row x1]):=HC.out.2.2 k _ he
   clear he HC hBA a0 a'0 a1 a'1 q1 a0r a'0r
   have hlt':((k:Nat):Int)<((xs.length:Nat):Int):=by omega
   have hsz:=hbw.size
   go_wp2
   go_region_with (go_at_call 110; refine (eqSeen_dt [.int .i64 z0,.slice p1 x1.length d1] [.int .i64 z0,.slice s1 x1.length t1] [.int z0,.row x1] S1 S2 _ HQ.out (HX.out _ hbw.drew).1 (HX.out _ hbw.drew).2 (by omega)).mono ?_; rintro e w1 ⟨rfl,b1⟩)
   all_goals
    have hbw2:Below w.heap.size w w1:=hbw.drew.trans (b1.mono hsz)
    clear b1
    go_wp2
    go_roundw
    case rel=>exact ⟨k+1,by omega,by go_num,hbw2⟩
    case measure=>simp [intOf]; omega
  ·clear HC
   go_wp2
   go_ret
   exact ⟨rfl,hbw⟩
theorem eqLink_dt:EqC 23 LinkR:=by
 rintro vs us r S1 S2 w ⟨z0,z1,x2,x3,rfl,q2,q3⟩ h h' hb
 obtain ⟨v0,v1,v2,v3,rfl,a0,a1,a2,a3⟩:=fs4 h
 obtain ⟨rfl,ia0⟩:=a0.ofInt
 obtain ⟨rfl,ia1⟩:=a1.ofInt
 obtain ⟨p2,c2,rfl⟩:=a2.form
 obtain ⟨p3,c3,rfl⟩:=a3.form
 obtain ⟨v0,v1,v2,v3,rfl,k0,k1,k2,k3⟩:=fs4 h'
 obtain ⟨rfl,-⟩:=k0.ofInt
 obtain ⟨rfl,-⟩:=k1.ofInt
 obtain ⟨s2,t2,rfl⟩:=k2.form
 obtain ⟨s3,t3,rfl⟩:=k3.form
 have hbk:Dt.bR [.int z0,.int z1,.row x2,.row x3]=Dt.bS x2+Dt.bS x3:=by simp [Dt.bR,Dt.bulk]; try omega
 rw [hbk] at hb
 clear hbk h h'
 have m0:(z0 != z0)=false:=by simp
 have m1:(z1 != z1)=false:=by simp
 have B:Below w.heap.size w ((w.alloc (.cells #[.int .i64 z0,.int .i64 z1,.slice p2 x2.length c2,.slice p3 x3.length c3] 49)).alloc (.cells #[.int .i64 z0,.int .i64 z1,.slice s2 x2.length t2,.slice s3 x3.length t3] 49)):=((Below.refl _ w).alloc (Nat.le_refl _) _).alloc (by simp) _
 have O1:((w.alloc (.cells #[.int .i64 z0,.int .i64 z1,.slice p2 x2.length c2,.slice p3 x3.length c3] 49)).alloc (.cells #[.int .i64 z0,.int .i64 z1,.slice s2 x2.length t2,.slice s3 x3.length t3] 49)).heap[w.heap.size]? = some (.cells #[.int .i64 z0,.int .i64 z1,.slice p2 x2.length c2,.slice p3 x3.length c3] 49):=(Below.heap_alloc _ _ _ (by simp)).trans (MapKept.heap_alloc w _).1
 have O2:((w.alloc (.cells #[.int .i64 z0,.int .i64 z1,.slice p2 x2.length c2,.slice p3 x3.length c3] 49)).alloc (.cells #[.int .i64 z0,.int .i64 z1,.slice s2 x2.length t2,.slice s3 x3.length t3] 49)).heap[w.heap.size+1]? = some (.cells #[.int .i64 z0,.int .i64 z1,.slice s2 x2.length t2,.slice s3 x3.length t3] 49):=by
  have:=(MapKept.heap_alloc (w.alloc (.cells #[.int .i64 z0,.int .i64 z1,.slice p2 x2.length c2,.slice p3 x3.length c3] 49)) (.cells #[.int .i64 z0,.int .i64 z1,.slice s2 x2.length t2,.slice s3 x3.length t3] 49)).1
  simpa using this
 have HS:=(show Hid (_∧_∧_∧_∧_∧_∧_∧_∧_∧_∧_∧_) from ⟨O1,O2,B,a0.up B,k0.up B,a1.up B,k1.up B,a2.up B,k2.up B,a3.up B,k3.up B,trivial⟩)
 have hnot:=ex_not
 clear O1 O2 B a0 k0 a1 k1 a2 k2 a3 k3
 go_enter Tryz.func23,Tryz.ntmps23
 go_wp2_with fail
 refine (eqSentS_dt _ _ x2 S1 S2 _ q2 (HS.out.2.2.2.2.2.2.2.1) (HS.out.2.2.2.2.2.2.2.2.1) (by omega)).mono ?_
 rintro e w1 ⟨rfl,bb⟩
 have O1:=(bb.block _ (lh HS.out.1)).trans HS.out.1
 have O2:=(bb.block _ (lh HS.out.2.1)).trans HS.out.2.1
 have B:=HS.out.2.2.1.trans (bb.mono HS.out.2.2.1.size)
 have y3:=cb O1 3 (.slice p3 x3.length c3) rfl
 have y3':w1.cell? ⟨w.heap.size+1,3,none⟩=some (.slice s3 x3.length t3):=by rw [cell_of_block O2]; rfl
 have HT:=(show Hid (_∧_∧_∧_∧_∧_∧_∧_∧_∧_∧_∧_) from ⟨O1,O2,B,(HS.out.2.2.2.1).up bb,(HS.out.2.2.2.2.1).up bb,(HS.out.2.2.2.2.2.1).up bb,(HS.out.2.2.2.2.2.2.1).up bb,(HS.out.2.2.2.2.2.2.2.1).up bb,(HS.out.2.2.2.2.2.2.2.2.1).up bb,(HS.out.2.2.2.2.2.2.2.2.2.1).up bb,(HS.out.2.2.2.2.2.2.2.2.2.2.1).up bb,trivial⟩)
 clear O1 O2 B bb HS
 have HS:=HT
 clear HT
 go_wp2_with fail
 refine (eqSeenS_dt _ _ x3 S1 S2 _ q3 (HS.out.2.2.2.2.2.2.2.2.2.1) (HS.out.2.2.2.2.2.2.2.2.2.2.1) (by omega)).mono ?_
 rintro e w2 ⟨rfl,bb⟩
 have O1:=(bb.block _ (lh HS.out.1)).trans HS.out.1
 have O2:=(bb.block _ (lh HS.out.2.1)).trans HS.out.2.1
 have B:=HS.out.2.2.1.trans (bb.mono HS.out.2.2.1.size)
 clear y3 y3'
 have HT:=(show Hid (_∧_∧_∧_∧_∧_∧_∧_∧_∧_∧_∧_) from ⟨O1,O2,B,(HS.out.2.2.2.1).up bb,(HS.out.2.2.2.2.1).up bb,(HS.out.2.2.2.2.2.1).up bb,(HS.out.2.2.2.2.2.2.1).up bb,(HS.out.2.2.2.2.2.2.2.1).up bb,(HS.out.2.2.2.2.2.2.2.2.1).up bb,(HS.out.2.2.2.2.2.2.2.2.2.1).up bb,(HS.out.2.2.2.2.2.2.2.2.2.2.1).up bb,trivial⟩)
 clear O1 O2 B bb HS
 have HS:=HT
 clear HT
 go_wp2
 go_ret
 exact ⟨rfl,HS.out.2.2.1⟩
theorem eqPeer_dt:EqC 8 PeerR:=by
 rintro vs us r S1 S2 w ⟨x0,x1,x2,x3,x4,x5,x6,z7,z8,x9,x10,rfl,q0,q1,q2,q3,q4,q5,q6,q9,q10⟩ h h' hb
 obtain ⟨v0,v1,v2,v3,v4,v5,v6,v7,v8,v9,v10,rfl,a0,a1,a2,a3,a4,a5,a6,a7,a8,a9,a10⟩:=fs11 h
 obtain ⟨p0,c0,rfl⟩:=a0.form
 obtain ⟨p1,c1,rfl⟩:=a1.form
 obtain ⟨p2,c2,rfl⟩:=a2.form
 obtain ⟨p3,c3,rfl⟩:=a3.form
 obtain ⟨p4,c4,rfl⟩:=a4.form
 obtain ⟨p5,c5,rfl⟩:=a5.form
 obtain ⟨p6,c6,rfl⟩:=a6.form
 obtain ⟨rfl,ia7⟩:=a7.ofInt
 obtain ⟨rfl,ia8⟩:=a8.ofInt
 obtain ⟨p9,c9,rfl⟩:=a9.form
 obtain ⟨p10,c10,rfl⟩:=a10.form
 obtain ⟨v0,v1,v2,v3,v4,v5,v6,v7,v8,v9,v10,rfl,k0,k1,k2,k3,k4,k5,k6,k7,k8,k9,k10⟩:=fs11 h'
 obtain ⟨s0,t0,rfl⟩:=k0.form
 obtain ⟨s1,t1,rfl⟩:=k1.form
 obtain ⟨s2,t2,rfl⟩:=k2.form
 obtain ⟨s3,t3,rfl⟩:=k3.form
 obtain ⟨s4,t4,rfl⟩:=k4.form
 obtain ⟨s5,t5,rfl⟩:=k5.form
 obtain ⟨s6,t6,rfl⟩:=k6.form
 obtain ⟨rfl,-⟩:=k7.ofInt
 obtain ⟨rfl,-⟩:=k8.ofInt
 obtain ⟨s9,t9,rfl⟩:=k9.form
 obtain ⟨s10,t10,rfl⟩:=k10.form
 have hbk:Dt.bR [.row x0,.row x1,.row x2,.row x3,.row x4,.row x5,.row x6,.int z7,.int z8,.row x9,.row x10]=Dt.bS x0+Dt.bS x1+Dt.bS x2+Dt.bS x3+Dt.bS x4+Dt.bS x5+Dt.bS x6+Dt.bS x9+Dt.bS x10:=by simp [Dt.bR,Dt.bulk]; try omega
 rw [hbk] at hb
 clear hbk h h'
 have m7:(z7 != z7)=false:=by simp
 have m8:(z8 != z8)=false:=by simp
 have B:Below w.heap.size w ((w.alloc (.cells #[.slice p0 x0.length c0,.slice p1 x1.length c1,.slice p2 x2.length c2,.slice p3 x3.length c3,.slice p4 x4.length c4,.slice p5 x5.length c5,.slice p6 x6.length c6,.int .i64 z7,.int .i64 z8,.slice p9 x9.length c9,.slice p10 x10.length c10] 51)).alloc (.cells #[.slice s0 x0.length t0,.slice s1 x1.length t1,.slice s2 x2.length t2,.slice s3 x3.length t3,.slice s4 x4.length t4,.slice s5 x5.length t5,.slice s6 x6.length t6,.int .i64 z7,.int .i64 z8,.slice s9 x9.length t9,.slice s10 x10.length t10] 51)):=((Below.refl _ w).alloc (Nat.le_refl _) _).alloc (by simp) _
 have O1:((w.alloc (.cells #[.slice p0 x0.length c0,.slice p1 x1.length c1,.slice p2 x2.length c2,.slice p3 x3.length c3,.slice p4 x4.length c4,.slice p5 x5.length c5,.slice p6 x6.length c6,.int .i64 z7,.int .i64 z8,.slice p9 x9.length c9,.slice p10 x10.length c10] 51)).alloc (.cells #[.slice s0 x0.length t0,.slice s1 x1.length t1,.slice s2 x2.length t2,.slice s3 x3.length t3,.slice s4 x4.length t4,.slice s5 x5.length t5,.slice s6 x6.length t6,.int .i64 z7,.int .i64 z8,.slice s9 x9.length t9,.slice s10 x10.length t10] 51)).heap[w.heap.size]? = some (.cells #[.slice p0 x0.length c0,.slice p1 x1.length c1,.slice p2 x2.length c2,.slice p3 x3.length c3,.slice p4 x4.length c4,.slice p5 x5.length c5,.slice p6 x6.length c6,.int .i64 z7,.int .i64 z8,.slice p9 x9.length c9,.slice p10 x10.length c10] 51):=(Below.heap_alloc _ _ _ (by simp)).trans (MapKept.heap_alloc w _).1
 have O2:((w.alloc (.cells #[.slice p0 x0.length c0,.slice p1 x1.length c1,.slice p2 x2.length c2,.slice p3 x3.length c3,.slice p4 x4.length c4,.slice p5 x5.length c5,.slice p6 x6.length c6,.int .i64 z7,.int .i64 z8,.slice p9 x9.length c9,.slice p10 x10.length c10] 51)).alloc (.cells #[.slice s0 x0.length t0,.slice s1 x1.length t1,.slice s2 x2.length t2,.slice s3 x3.length t3,.slice s4 x4.length t4,.slice s5 x5.length t5,.slice s6 x6.length t6,.int .i64 z7,.int .i64 z8,.slice s9 x9.length t9,.slice s10 x10.length t10] 51)).heap[w.heap.size+1]? = some (.cells #[.slice s0 x0.length t0,.slice s1 x1.length t1,.slice s2 x2.length t2,.slice s3 x3.length t3,.slice s4 x4.length t4,.slice s5 x5.length t5,.slice s6 x6.length t6,.int .i64 z7,.int .i64 z8,.slice s9 x9.length t9,.slice s10 x10.length t10] 51):=by
  have:=(MapKept.heap_alloc (w.alloc (.cells #[.slice p0 x0.length c0,.slice p1 x1.length c1,.slice p2 x2.length c2,.slice p3 x3.length c3,.slice p4 x4.length c4,.slice p5 x5.length c5,.slice p6 x6.length c6,.int .i64 z7,.int .i64 z8,.slice p9 x9.length c9,.slice p10 x10.length c10] 51)) (.cells #[.slice s0 x0.length t0,.slice s1 x1.length t1,.slice s2 x2.length t2,.slice s3 x3.length t3,.slice s4 x4.length t4,.slice s5 x5.length t5,.slice s6 x6.length t6,.int .i64 z7,.int .i64 z8,.slice s9 x9.length t9,.slice s10 x10.length t10] 51)).1
  simpa using this
 have HS:=(show Hid (_∧_∧_∧_∧_∧_∧_∧_∧_∧_∧_∧_∧_∧_∧_∧_∧_∧_∧_∧_∧_∧_∧_∧_∧_∧_) from ⟨O1,O2,B,a0.up B,k0.up B,a1.up B,k1.up B,a2.up B,k2.up B,a3.up B,k3.up B,a4.up B,k4.up B,a5.up B,k5.up B,a6.up B,k6.up B,a7.up B,k7.up B,a8.up B,k8.up B,a9.up B,k9.up B,a10.up B,k10.up B,trivial⟩)
 have hnot:=ex_not
 clear O1 O2 B a0 k0 a1 k1 a2 k2 a3 k3 a4 k4 a5 k5 a6 k6 a7 k7 a8 k8 a9 k9 a10 k10
 go_enter Tryz.func8,Tryz.ntmps8
 go_wp2_with fail
 refine (eqMachine_dt [.slice p0 x0.length c0,.slice p1 x1.length c1,.slice p2 x2.length c2,.slice p3 x3.length c3,.slice p4 x4.length c4,.slice p5 x5.length c5,.slice p6 x6.length c6] [.slice s0 x0.length t0,.slice s1 x1.length t1,.slice s2 x2.length t2,.slice s3 x3.length t3,.slice s4 x4.length t4,.slice s5 x5.length t5,.slice s6 x6.length t6] [.row x0,.row x1,.row x2,.row x3,.row x4,.row x5,.row x6] S1 S2 _ ⟨_,_,_,_,_,_,_,rfl,q0,q1,q2,q3,q4,q5,q6⟩ ⟨HS.out.2.2.2.1,HS.out.2.2.2.2.2.1,HS.out.2.2.2.2.2.2.2.1,HS.out.2.2.2.2.2.2.2.2.2.1,HS.out.2.2.2.2.2.2.2.2.2.2.2.1,HS.out.2.2.2.2.2.2.2.2.2.2.2.2.2.1,HS.out.2.2.2.2.2.2.2.2.2.2.2.2.2.2.2.1,trivial⟩ ⟨HS.out.2.2.2.2.1,HS.out.2.2.2.2.2.2.1,HS.out.2.2.2.2.2.2.2.2.1,HS.out.2.2.2.2.2.2.2.2.2.2.1,HS.out.2.2.2.2.2.2.2.2.2.2.2.2.1,HS.out.2.2.2.2.2.2.2.2.2.2.2.2.2.2.1,HS.out.2.2.2.2.2.2.2.2.2.2.2.2.2.2.2.2.1,trivial⟩ (by rw [show Dt.bR [.row x0,.row x1,.row x2,.row x3,.row x4,.row x5,.row x6]=Dt.bS x0+Dt.bS x1+Dt.bS x2+Dt.bS x3+Dt.bS x4+Dt.bS x5+Dt.bS x6 from by simp [Dt.bR,Dt.bulk]; try omega]; omega)).mono ?_
 rintro e w1 ⟨rfl,bb⟩
 have O1:=(bb.block _ (lh HS.out.1)).trans HS.out.1
 have O2:=(bb.block _ (lh HS.out.2.1)).trans HS.out.2.1
 have B:=HS.out.2.2.1.trans (bb.mono HS.out.2.2.1.size)
 have y7:=cb O1 7 (.int .i64 z7) rfl
 have y7':w1.cell? ⟨w.heap.size+1,7,none⟩=some (.int .i64 z7):=by rw [cell_of_block O2]; rfl
 have y8:=cb O1 8 (.int .i64 z8) rfl
 have y8':w1.cell? ⟨w.heap.size+1,8,none⟩=some (.int .i64 z8):=by rw [cell_of_block O2]; rfl
 have y9:=cb O1 9 (.slice p9 x9.length c9) rfl
 have y9':w1.cell? ⟨w.heap.size+1,9,none⟩=some (.slice s9 x9.length t9):=by rw [cell_of_block O2]; rfl
 have y10:=cb O1 10 (.slice p10 x10.length c10) rfl
 have y10':w1.cell? ⟨w.heap.size+1,10,none⟩=some (.slice s10 x10.length t10):=by rw [cell_of_block O2]; rfl
 have HT:=(show Hid (_∧_∧_∧_∧_∧_∧_∧_∧_∧_∧_∧_∧_∧_∧_∧_∧_∧_∧_∧_∧_∧_∧_∧_∧_∧_) from ⟨O1,O2,B,(HS.out.2.2.2.1).up bb,(HS.out.2.2.2.2.1).up bb,(HS.out.2.2.2.2.2.1).up bb,(HS.out.2.2.2.2.2.2.1).up bb,(HS.out.2.2.2.2.2.2.2.1).up bb,(HS.out.2.2.2.2.2.2.2.2.1).up bb,(HS.out.2.2.2.2.2.2.2.2.2.1).up bb,(HS.out.2.2.2.2.2.2.2.2.2.2.1).up bb,(HS.out.2.2.2.2.2.2.2.2.2.2.2.1).up bb,(HS.out.2.2.2.2.2.2.2.2.2.2.2.2.1).up bb,(HS.out.2.2.2.2.2.2.2.2.2.2.2.2.2.1).up bb,(HS.out.2.2.2.2.2.2.2.2.2.2.2.2.2.2.1).up bb,(HS.out.2.2.2.2.2.2.2.2.2.2.2.2.2.2.2.1).up bb,(HS.out.2.2.2.2.2.2.2.2.2.2.2.2.2.2.2.2.1).up bb,(HS.out.2.2.2.2.2.2.2.2.2.2.2.2.2.2.2.2.2.1).up bb,(HS.out.2.2.2.2.2.2.2.2.2.2.2.2.2.2.2.2.2.2.1).up bb,(HS.out.2.2.2.2.2.2.2.2.2.2.2.2.2.2.2.2.2.2.2.1).up bb,(HS.out.2.2.2.2.2.2.2.2.2.2.2.2.2.2.2.2.2.2.2.2.1).up bb,(HS.out.2.2.2.2.2.2.2.2.2.2.2.2.2.2.2.2.2.2.2.2.2.1).up bb,(HS.out.2.2.2.2.2.2.2.2.2.2.2.2.2.2.2.2.2.2.2.2.2.2.1).up bb,(HS.out.2.2.2.2.2.2.2.2.2.2.2.2.2.2.2.2.2.2.2.2.2.2.2.1).up bb,(HS.out.2.2.2.2.2.2.2.2.2.2.2.2.2.2.2.2.2.2.2.2.2.2.2.2.1).up bb,trivial⟩)
 clear O1 O2 B bb HS
 have HS:=HT
 clear HT
 go_wp2_with fail
 refine (eqLink_dt [.int .i64 z7,.int .i64 z8,.slice p9 x9.length c9,.slice p10 x10.length c10] [.int .i64 z7,.int .i64 z8,.slice s9 x9.length t9,.slice s10 x10.length t10] [.int z7,.int z8,.row x9,.row x10] S1 S2 _ ⟨_,_,_,_,rfl,q9,q10⟩ ⟨HS.out.2.2.2.2.2.2.2.2.2.2.2.2.2.2.2.2.2.1,HS.out.2.2.2.2.2.2.2.2.2.2.2.2.2.2.2.2.2.2.2.1,HS.out.2.2.2.2.2.2.2.2.2.2.2.2.2.2.2.2.2.2.2.2.2.1,HS.out.2.2.2.2.2.2.2.2.2.2.2.2.2.2.2.2.2.2.2.2.2.2.2.1,trivial⟩ ⟨HS.out.2.2.2.2.2.2.2.2.2.2.2.2.2.2.2.2.2.2.1,HS.out.2.2.2.2.2.2.2.2.2.2.2.2.2.2.2.2.2.2.2.2.1,HS.out.2.2.2.2.2.2.2.2.2.2.2.2.2.2.2.2.2.2.2.2.2.2.1,HS.out.2.2.2.2.2.2.2.2.2.2.2.2.2.2.2.2.2.2.2.2.2.2.2.2.1,trivial⟩ (by rw [show Dt.bR [.int z7,.int z8,.row x9,.row x10]=Dt.bS x9+Dt.bS x10 from by simp [Dt.bR,Dt.bulk]; try omega]; omega)).mono ?_
 rintro e w2 ⟨rfl,bb⟩
 have O1:=(bb.block _ (lh HS.out.1)).trans HS.out.1
 have O2:=(bb.block _ (lh HS.out.2.1)).trans HS.out.2.1
 have B:=HS.out.2.2.1.trans (bb.mono HS.out.2.2.1.size)
 clear y7 y7' y8 y8' y9 y9' y10 y10'
 have HT:=(show Hid (_∧_∧_∧_∧_∧_∧_∧_∧_∧_∧_∧_∧_∧_∧_∧_∧_∧_∧_∧_∧_∧_∧_∧_∧_∧_) from ⟨O1,O2,B,(HS.out.2.2.2.1).up bb,(HS.out.2.2.2.2.1).up bb,(HS.out.2.2.2.2.2.1).up bb,(HS.out.2.2.2.2.2.2.1).up bb,(HS.out.2.2.2.2.2.2.2.1).up bb,(HS.out.2.2.2.2.2.2.2.2.1).up bb,(HS.out.2.2.2.2.2.2.2.2.2.1).up bb,(HS.out.2.2.2.2.2.2.2.2.2.2.1).up bb,(HS.out.2.2.2.2.2.2.2.2.2.2.2.1).up bb,(HS.out.2.2.2.2.2.2.2.2.2.2.2.2.1).up bb,(HS.out.2.2.2.2.2.2.2.2.2.2.2.2.2.1).up bb,(HS.out.2.2.2.2.2.2.2.2.2.2.2.2.2.2.1).up bb,(HS.out.2.2.2.2.2.2.2.2.2.2.2.2.2.2.2.1).up bb,(HS.out.2.2.2.2.2.2.2.2.2.2.2.2.2.2.2.2.1).up bb,(HS.out.2.2.2.2.2.2.2.2.2.2.2.2.2.2.2.2.2.1).up bb,(HS.out.2.2.2.2.2.2.2.2.2.2.2.2.2.2.2.2.2.2.1).up bb,(HS.out.2.2.2.2.2.2.2.2.2.2.2.2.2.2.2.2.2.2.2.1).up bb,(HS.out.2.2.2.2.2.2.2.2.2.2.2.2.2.2.2.2.2.2.2.2.1).up bb,(HS.out.2.2.2.2.2.2.2.2.2.2.2.2.2.2.2.2.2.2.2.2.2.1).up bb,(HS.out.2.2.2.2.2.2.2.2.2.2.2.2.2.2.2.2.2.2.2.2.2.2.1).up bb,(HS.out.2.2.2.2.2.2.2.2.2.2.2.2.2.2.2.2.2.2.2.2.2.2.2.1).up bb,(HS.out.2.2.2.2.2.2.2.2.2.2.2.2.2.2.2.2.2.2.2.2.2.2.2.2.1).up bb,trivial⟩)
 clear O1 O2 B bb HS
 have HS:=HT
 clear HT
 go_wp2
 go_ret
 exact ⟨rfl,HS.out.2.2.1⟩
theorem eqStringS_len (v u:Value) (xs:List (List Dt)) (S1 S2:Nat→Prop) (w:World) (hP:AllR StringR xs) (h:FAt w S1 v (.row xs)) (h':FAt w S2 u (.row xs)) (hb:xs.length≤4194304) :
  Calls Tryz.prog 9 #[v,u] w fun e w'=>e = .returned (.bool true)∧Below w.heap.size w w':=by
 have HC:=(show Hid (_∧_∧_) from ⟨h,h',hP⟩)
 obtain ⟨a,cap,rfl⟩:=h.form
 obtain ⟨a',cap',rfl⟩:=h'.form
 clear h h' hP
 have hnot:=ex_not
 have hne:(((xs.length:Nat):Int) != ((xs.length:Nat):Int))=false:=by simp
 go_enter Tryz.func9,Tryz.ntmps9
 go_wp2
 go_loopw [5] (fun i wr=>∃ k:Nat,k≤xs.length∧i = .int .i64 k∧Below w.heap.size w wr) (fun i _=>xs.length - (intOf i).toNat)
 case atStart=>exact ⟨0,Nat.zero_le _,rfl,Below.refl _ _⟩
 case round =>
  obtain ⟨k,hk,rfl,hbw⟩:=hrel
  by_cases hkl:k<xs.length
  ·have he:=List.getElem?_eq_getElem hkl
   generalize xs[k]=r at *
   obtain ⟨b0,rfl⟩:=HC.out.2.2 k r he
   obtain ⟨b,off,rfl,-,hlb,us,hhus⟩:=HC.out.1.at he
   have c0:w.cell? ⟨b,off+k,none⟩=some (us 0):=by have:=(hhus 0 _ rfl).1; simpa using this
   have a0:=(hhus 0 _ rfl).2
   clear hhus
   obtain ⟨a0e,a0r⟩:=a0.ofStr
   rw [a0e] at c0 a0
   clear a0e
   obtain ⟨b',off',rfl,-,hlb',us',hhus'⟩:=HC.out.2.1.at he
   have c'0:w.cell? ⟨b',off'+k,none⟩=some (us' 0):=by have:=(hhus' 0 _ rfl).1; simpa using this
   have a'0:=(hhus' 0 _ rfl).2
   clear hhus'
   obtain ⟨a'0e,a'0r⟩:=a'0.ofStr
   rw [a'0e] at c'0 a'0
   clear a'0e
   rw [← hbw.cell (by exact hlb)] at c0
   rw [← hbw.cell (by exact hlb')] at c'0
   clear he HC a0 a'0 a0r a'0r
   have hlt':((k:Nat):Int)<((xs.length:Nat):Int):=by omega
   have hst:(b0.toList == b0.toList)=true:=by simp
   go_wp2
   go_region
   all_goals
    go_wp2
    go_roundw
    case rel=>exact ⟨k+1,by omega,by go_num,hbw.drew⟩
    case measure=>simp [intOf]; omega
  ·clear HC
   go_wp2
   go_ret
   exact ⟨rfl,hbw⟩
end Go.Proofs.YtmmadoabejgffaaGreatDoor
