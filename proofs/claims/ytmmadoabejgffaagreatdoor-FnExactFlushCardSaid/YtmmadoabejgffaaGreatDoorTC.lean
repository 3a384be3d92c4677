/-
  Proofs.
-/
import Derived.Test.YtmmadoabejgffaaGreatDoorA
import Derived.Test.YtmmadoabejgffaaGreatDoorB
import Derived.Test.YtmmadoabejgffaaGreatDoorTA
import Derived.Test.YtmmadoabejgffaaGreatDoorTB
namespace Go.Proofs.YtmmadoabejgffaaGreatDoor
open Go.RowKit Go.Joins
set_option maxRecDepth 100000
set_option maxHeartbeats 51200000
theorem toMachine_dt:ToC 18 MachineR:=by
 rintro vs r S w ⟨x0,x1,x2,x3,x4,x5,x6,rfl,q0,q1,q2,q3,q4,q5,q6⟩ h hb
 obtain ⟨v0,v1,v2,v3,v4,v5,v6,rfl,a0,a1,a2,a3,a4,a5,a6⟩:=fs7 h
 obtain ⟨p0,c0,rfl⟩:=a0.form
 obtain ⟨p1,c1,rfl⟩:=a1.form
 obtain ⟨p2,c2,rfl⟩:=a2.form
 obtain ⟨p3,c3,rfl⟩:=a3.form
 obtain ⟨p4,c4,rfl⟩:=a4.form
 obtain ⟨p5,c5,rfl⟩:=a5.form
 obtain ⟨p6,c6,rfl⟩:=a6.form
 have hbk:Dt.bR [.row x0,.row x1,.row x2,.row x3,.row x4,.row x5,.row x6]=Dt.bS x0+Dt.bS x1+Dt.bS x2+Dt.bS x3+Dt.bS x4+Dt.bS x5+Dt.bS x6:=by simp [Dt.bR,Dt.bulk]; try omega
 rw [hbk] at hb
 clear hbk h
 have HA:=(show Hid (_∧_∧_∧_∧_∧_∧_∧_) from ⟨a0,a1,a2,a3,a4,a5,a6,trivial⟩)
 clear a0 a1 a2 a3 a4 a5 a6
 obtain ⟨W0,hW0⟩:∃ W0,W0=((w.alloc (.cells #[.slice p0 x0.length c0,.slice p1 x1.length c1,.slice p2 x2.length c2,.slice p3 x3.length c3,.slice p4 x4.length c4,.slice p5 x5.length c5,.slice p6 x6.length c6] 30)).alloc (.cells #[.slice none 0 0,.slice none 0 0,.slice none 0 0,.slice none 0 0,.slice none 0 0,.slice none 0 0,.slice none 0 0] 45)).alloc (.cells #[.slice none 0 0,.slice none 0 0,.slice none 0 0,.slice none 0 0,.slice none 0 0,.slice none 0 0,.slice none 0 0] 45):=⟨_,rfl⟩
 have B:Below w.heap.size w W0:=by rw [hW0]; exact (((Below.refl _ w).alloc (Nat.le_refl _) _).alloc (by simp) _).alloc (by simp; omega) _
 have SZ:W0.heap.size=w.heap.size+3:=by rw [hW0]; simp
 have O0:W0.heap[w.heap.size]? = some (.cells #[.slice p0 x0.length c0,.slice p1 x1.length c1,.slice p2 x2.length c2,.slice p3 x3.length c3,.slice p4 x4.length c4,.slice p5 x5.length c5,.slice p6 x6.length c6] 30):=by rw [hW0]; exact (Below.heap_alloc _ _ _ (by simp; omega)).trans ((Below.heap_alloc _ _ _ (by simp)).trans (MapKept.heap_alloc w _).1)
 have O1:W0.heap[w.heap.size+1]? = some (.cells #[.slice none 0 0,.slice none 0 0,.slice none 0 0,.slice none 0 0,.slice none 0 0,.slice none 0 0,.slice none 0 0] 45):=by
  rw [hW0]
  have:=(MapKept.heap_alloc (w.alloc (.cells #[.slice p0 x0.length c0,.slice p1 x1.length c1,.slice p2 x2.length c2,.slice p3 x3.length c3,.slice p4 x4.length c4,.slice p5 x5.length c5,.slice p6 x6.length c6] 30)) (.cells #[.slice none 0 0,.slice none 0 0,.slice none 0 0,.slice none 0 0,.slice none 0 0,.slice none 0 0,.slice none 0 0] 45)).1
  exact (Below.heap_alloc _ _ _ (by simp)).trans (by simpa using this)
 have O2:W0.heap[w.heap.size+1+1]? = some (.cells #[.slice none 0 0,.slice none 0 0,.slice none 0 0,.slice none 0 0,.slice none 0 0,.slice none 0 0,.slice none 0 0] 45):=by
  rw [hW0]
  have:=(MapKept.heap_alloc ((w.alloc (.cells #[.slice p0 x0.length c0,.slice p1 x1.length c1,.slice p2 x2.length c2,.slice p3 x3.length c3,.slice p4 x4.length c4,.slice p5 x5.length c5,.slice p6 x6.length c6] 30)).alloc (.cells #[.slice none 0 0,.slice none 0 0,.slice none 0 0,.slice none 0 0,.slice none 0 0,.slice none 0 0,.slice none 0 0] 45)) (.cells #[.slice none 0 0,.slice none 0 0,.slice none 0 0,.slice none 0 0,.slice none 0 0,.slice none 0 0,.slice none 0 0] 45)).1
  simpa using this
 have HS:=(show Hid (_∧_∧_∧_∧_∧_) from ⟨O0,O1,O2,B,SZ,trivial⟩)
 have HW:=(show Hid (_∧True) from ⟨hW0,trivial⟩)
 clear O0 O1 O2 B SZ hW0
 go_enter Tryz.func18,Tryz.ntmps18
 go_wp2_with fail
 rw [← HW.out.1]
 refine (toTable_dt [.slice p0 x0.length c0,.slice p1 x1.length c1] [.row x0,.row x1] S _ ⟨_,_,rfl,q0,q1⟩ ⟨HA.out.1.up HS.out.2.2.2.1,HA.out.2.1.up HS.out.2.2.2.1,trivial⟩ (by rw [show Dt.bR [.row x0,.row x1]=Dt.bS x0+Dt.bS x1 from by simp [Dt.bR,Dt.bulk]; try omega]; omega)).mono ?_
 rintro e w1 ⟨u,rfl,n0,bb⟩
 obtain ⟨v0,v1,rfl,k0,k1⟩:=fs2 n0.at
 obtain ⟨s0,t0,rfl⟩:=k0.form
 obtain ⟨s1,t1,rfl⟩:=k1.form
 clear k0 k1
 obtain ⟨O0,O1,O2,B,SZ,-⟩:=HS.out
 rw [SZ] at n0
 have zw1:w.heap.size+3≤w1.heap.size:=by have:=bb.size; rw [SZ] at this; exact this
 have O0:=(bb.block _ (lh O0)).trans O0
 have O1:=(bb.block _ (lh O1)).trans O1
 have O2:=(bb.block _ (lh O2)).trans O2
 have B:=B.trans (bb.mono B.size)
 have y0_2:=cb O0 2 (.slice p2 x2.length c2) rfl
 have y0_3:=cb O0 3 (.slice p3 x3.length c3) rfl
 have y0_4:=cb O0 4 (.slice p4 x4.length c4) rfl
 have y0_5:=cb O0 5 (.slice p5 x5.length c5) rfl
 have y0_6:=cb O0 6 (.slice p6 x6.length c6) rfl
 have y2_0:=cb O2 0 (.slice none 0 0) rfl
 have f2_0:=ub O2 0
 have y2_1:=cb O2 1 (.slice none 0 0) rfl
 have f2_1:=ub O2 1
 obtain ⟨W1,hW⟩:∃ W,W=((w1.setCell ⟨w.heap.size+1+1,0,none⟩ (.slice s0 x0.length t0)).setCell ⟨w.heap.size+1+1,1,none⟩ (.slice s1 x1.length t1)):=⟨_,rfl⟩
 have SZ':W1.heap.size=w1.heap.size:=by rw [hW]; simp
 have e2:∀ (b:Nat),b≠w.heap.size+1+1→W1.heap[b]? = w1.heap[b]? := by
  intro b hb'
  rw [hW]
  simp only [Below.heap_setCell _ _ _ b (show b≠(⟨w.heap.size+1+1,_,none⟩:Addr).block from hb')]
 have P0:=(e2 _ (by omega)).trans O0
 have P1:=(e2 _ (by omega)).trans O1
 have P2:W1.heap[w.heap.size+1+1]? = some (.cells #[.slice s0 x0.length t0,.slice s1 x1.length t1,.slice none 0 0,.slice none 0 0,.slice none 0 0,.slice none 0 0,.slice none 0 0] 45):=by
  rw [hW]
  have:=(block_setCell (i:=1) (block_setCell (i:=0) O2 (.slice s0 x0.length t0)) (.slice s1 x1.length t1))
  simpa only [List.setIfInBounds_toArray,List.set_cons_zero,List.set_cons_succ] using this
 have PB:Below w.heap.size w W1:=by rw [hW]; exact ((B.setCell (p:=⟨w.heap.size+1+1,0,none⟩) (by simp; omega) (.slice s0 x0.length t0)).setCell (p:=⟨w.heap.size+1+1,1,none⟩) (by simp; omega) (.slice s1 x1.length t1))
 have Pn0:=OFs.moved n0 (w':=W1) (fun b hb' _=>e2 b (by have:=hb'.1; omega))
 have HS:=(show Hid (_∧_∧_∧_∧_∧_∧_) from ⟨P0,P1,P2,PB,SZ',Pn0,trivial⟩)
 have HW:=(show Hid (_∧True) from ⟨hW,trivial⟩)
 clear O0 O1 O2 B SZ SZ' bb hW e2 P0 P1 P2 PB n0 Pn0
 go_wp2_with fail
 rw [← HW.out.1]
 refine (toCellS_dt _ x2 S _ q2 (HA.out.2.2.1.up HS.out.2.2.2.1) (by omega)).mono ?_
 rintro e w2 ⟨u,rfl,n2,bb⟩
 obtain ⟨s2,t2,rfl⟩:=n2.form
 obtain ⟨O0,O1,O2,B,SZ,n0,-⟩:=HS.out
 rw [SZ] at n2
 have zw2:w1.heap.size≤w2.heap.size:=by have:=bb.size; rw [SZ] at this; exact this
 have O0:=(bb.block _ (lh O0)).trans O0
 have O1:=(bb.block _ (lh O1)).trans O1
 have O2:=(bb.block _ (lh O2)).trans O2
 have B:=B.trans (bb.mono B.size)
 have n0:=OFs.up n0 bb
 have y0_3:=cb O0 3 (.slice p3 x3.length c3) rfl
 have y0_4:=cb O0 4 (.slice p4 x4.length c4) rfl
 have y0_5:=cb O0 5 (.slice p5 x5.length c5) rfl
 have y0_6:=cb O0 6 (.slice p6 x6.length c6) rfl
 have y2_2:=cb O2 2 (.slice none 0 0) rfl
 have f2_2:=ub O2 2
 obtain ⟨W2,hW⟩:∃ W,W=(w2.setCell ⟨w.heap.size+1+1,2,none⟩ (.slice s2 x2.length t2)):=⟨_,rfl⟩
 have SZ':W2.heap.size=w2.heap.size:=by rw [hW]; simp
 have e2:∀ (b:Nat),b≠w.heap.size+1+1→W2.heap[b]? = w2.heap[b]? := by
  intro b hb'
  rw [hW]
  simp only [Below.heap_setCell _ _ _ b (show b≠(⟨w.heap.size+1+1,_,none⟩:Addr).block from hb')]
 have P0:=(e2 _ (by omega)).trans O0
 have P1:=(e2 _ (by omega)).trans O1
 have P2:W2.heap[w.heap.size+1+1]? = some (.cells #[.slice s0 x0.length t0,.slice s1 x1.length t1,.slice s2 x2.length t2,.slice none 0 0,.slice none 0 0,.slice none 0 0,.slice none 0 0] 45):=by
  rw [hW]
  have:=(block_setCell (i:=2) O2 (.slice s2 x2.length t2))
  simpa only [List.setIfInBounds_toArray,List.set_cons_zero,List.set_cons_succ] using this
 have PB:Below w.heap.size w W2:=by rw [hW]; exact (B.setCell (p:=⟨w.heap.size+1+1,2,none⟩) (by simp; omega) (.slice s2 x2.length t2))
 have Pn0:=OFs.moved n0 (w':=W2) (fun b hb' _=>e2 b (by have:=hb'.1; omega))
 have Pn2:=Own.moved n2 (w':=W2) (fun b hb' _=>e2 b (by have:=hb'.1; omega))
 have HS:=(show Hid (_∧_∧_∧_∧_∧_∧_∧_) from ⟨P0,P1,P2,PB,SZ',Pn0,Pn2,trivial⟩)
 have HW:=(show Hid (_∧True) from ⟨hW,trivial⟩)
 clear O0 O1 O2 B SZ SZ' bb hW e2 P0 P1 P2 PB n0 n2 Pn0 Pn2
 go_wp2_with fail
 rw [← HW.out.1]
 refine (toThreadS_dt _ x3 S _ q3 (HA.out.2.2.2.1.up HS.out.2.2.2.1) (by omega)).mono ?_
 rintro e w3 ⟨u,rfl,n3,bb⟩
 obtain ⟨s3,t3,rfl⟩:=n3.form
 obtain ⟨O0,O1,O2,B,SZ,n0,n2,-⟩:=HS.out
 rw [SZ] at n3
 have zw3:w2.heap.size≤w3.heap.size:=by have:=bb.size; rw [SZ] at this; exact this
 have O0:=(bb.block _ (lh O0)).trans O0
 have O1:=(bb.block _ (lh O1)).trans O1
 have O2:=(bb.block _ (lh O2)).trans O2
 have B:=B.trans (bb.mono B.size)
 have n0:=OFs.up n0 bb
 have n2:=Own.up n2 bb
 have y0_4:=cb O0 4 (.slice p4 x4.length c4) rfl
 have y0_5:=cb O0 5 (.slice p5 x5.length c5) rfl
 have y0_6:=cb O0 6 (.slice p6 x6.length c6) rfl
 have y2_3:=cb O2 3 (.slice none 0 0) rfl
 have f2_3:=ub O2 3
 obtain ⟨W3,hW⟩:∃ W,W=(w3.setCell ⟨w.heap.size+1+1,3,none⟩ (.slice s3 x3.length t3)):=⟨_,rfl⟩
 have SZ':W3.heap.size=w3.heap.size:=by rw [hW]; simp
 have e2:∀ (b:Nat),b≠w.heap.size+1+1→W3.heap[b]? = w3.heap[b]? := by
  intro b hb'
  rw [hW]
  simp only [Below.heap_setCell _ _ _ b (show b≠(⟨w.heap.size+1+1,_,none⟩:Addr).block from hb')]
 have P0:=(e2 _ (by omega)).trans O0
 have P1:=(e2 _ (by omega)).trans O1
 have P2:W3.heap[w.heap.size+1+1]? = some (.cells #[.slice s0 x0.length t0,.slice s1 x1.length t1,.slice s2 x2.length t2,.slice s3 x3.length t3,.slice none 0 0,.slice none 0 0,.slice none 0 0] 45):=by
  rw [hW]
  have:=(block_setCell (i:=3) O2 (.slice s3 x3.length t3))
  simpa only [List.setIfInBounds_toArray,List.set_cons_zero,List.set_cons_succ] using this
 have PB:Below w.heap.size w W3:=by rw [hW]; exact (B.setCell (p:=⟨w.heap.size+1+1,3,none⟩) (by simp; omega) (.slice s3 x3.length t3))
 have Pn0:=OFs.moved n0 (w':=W3) (fun b hb' _=>e2 b (by have:=hb'.1; omega))
 have Pn2:=Own.moved n2 (w':=W3) (fun b hb' _=>e2 b (by have:=hb'.1; omega))
 have Pn3:=Own.moved n3 (w':=W3) (fun b hb' _=>e2 b (by have:=hb'.1; omega))
 have HS:=(show Hid (_∧_∧_∧_∧_∧_∧_∧_∧_) from ⟨P0,P1,P2,PB,SZ',Pn0,Pn2,Pn3,trivial⟩)
 have HW:=(show Hid (_∧True) from ⟨hW,trivial⟩)
 clear O0 O1 O2 B SZ SZ' bb hW e2 P0 P1 P2 PB n0 n2 n3 Pn0 Pn2 Pn3
 go_wp2_with fail
 rw [← HW.out.1]
 refine (toIntS_dt _ x4 S _ q4 (HA.out.2.2.2.2.1.up HS.out.2.2.2.1) (by omega)).mono ?_
 rintro e w4 ⟨u,rfl,n4,bb⟩
 obtain ⟨s4,t4,rfl⟩:=n4.form
 obtain ⟨O0,O1,O2,B,SZ,n0,n2,n3,-⟩:=HS.out
 rw [SZ] at n4
 have zw4:w3.heap.size≤w4.heap.size:=by have:=bb.size; rw [SZ] at this; exact this
 have O0:=(bb.block _ (lh O0)).trans O0
 have O1:=(bb.block _ (lh O1)).trans O1
 have O2:=(bb.block _ (lh O2)).trans O2
 have B:=B.trans (bb.mono B.size)
 have n0:=OFs.up n0 bb
 have n2:=Own.up n2 bb
 have n3:=Own.up n3 bb
 have y0_5:=cb O0 5 (.slice p5 x5.length c5) rfl
 have y0_6:=cb O0 6 (.slice p6 x6.length c6) rfl
 have y2_4:=cb O2 4 (.slice none 0 0) rfl
 have f2_4:=ub O2 4
 obtain ⟨W4,hW⟩:∃ W,W=(w4.setCell ⟨w.heap.size+1+1,4,none⟩ (.slice s4 x4.length t4)):=⟨_,rfl⟩
 have SZ':W4.heap.size=w4.heap.size:=by rw [hW]; simp
 have e2:∀ (b:Nat),b≠w.heap.size+1+1→W4.heap[b]? = w4.heap[b]? := by
  intro b hb'
  rw [hW]
  simp only [Below.heap_setCell _ _ _ b (show b≠(⟨w.heap.size+1+1,_,none⟩:Addr).block from hb')]
 have P0:=(e2 _ (by omega)).trans O0
 have P1:=(e2 _ (by omega)).trans O1
 have P2:W4.heap[w.heap.size+1+1]? = some (.cells #[.slice s0 x0.length t0,.slice s1 x1.length t1,.slice s2 x2.length t2,.slice s3 x3.length t3,.slice s4 x4.length t4,.slice none 0 0,.slice none 0 0] 45):=by
  rw [hW]
  have:=(block_setCell (i:=4) O2 (.slice s4 x4.length t4))
  simpa only [List.setIfInBounds_toArray,List.set_cons_zero,List.set_cons_succ] using this
 have PB:Below w.heap.size w W4:=by rw [hW]; exact (B.setCell (p:=⟨w.heap.size+1+1,4,none⟩) (by simp; omega) (.slice s4 x4.length t4))
 have Pn0:=OFs.moved n0 (w':=W4) (fun b hb' _=>e2 b (by have:=hb'.1; omega))
 have Pn2:=Own.moved n2 (w':=W4) (fun b hb' _=>e2 b (by have:=hb'.1; omega))
 have Pn3:=Own.moved n3 (w':=W4) (fun b hb' _=>e2 b (by have:=hb'.1; omega))
 have Pn4:=Own.moved n4 (w':=W4) (fun b hb' _=>e2 b (by have:=hb'.1; omega))
 have HS:=(show Hid (_∧_∧_∧_∧_∧_∧_∧_∧_∧_) from ⟨P0,P1,P2,PB,SZ',Pn0,Pn2,Pn3,Pn4,trivial⟩)
 have HW:=(show Hid (_∧True) from ⟨hW,trivial⟩)
 clear O0 O1 O2 B SZ SZ' bb hW e2 P0 P1 P2 PB n0 n2 n3 n4 Pn0 Pn2 Pn3 Pn4
 go_wp2_with fail
 rw [← HW.out.1]
 refine (toIntS_dt _ x5 S _ q5 (HA.out.2.2.2.2.2.1.up HS.out.2.2.2.1) (by omega)).mono ?_
 rintro e w5 ⟨u,rfl,n5,bb⟩
 obtain ⟨s5,t5,rfl⟩:=n5.form
 obtain ⟨O0,O1,O2,B,SZ,n0,n2,n3,n4,-⟩:=HS.out
 rw [SZ] at n5
 have zw5:w4.heap.size≤w5.heap.size:=by have:=bb.size; rw [SZ] at this; exact this
 have O0:=(bb.block _ (lh O0)).trans O0
 have O1:=(bb.block _ (lh O1)).trans O1
 have O2:=(bb.block _ (lh O2)).trans O2
 have B:=B.trans (bb.mono B.size)
 have n0:=OFs.up n0 bb
 have n2:=Own.up n2 bb
 have n3:=Own.up n3 bb
 have n4:=Own.up n4 bb
 have y0_6:=cb O0 6 (.slice p6 x6.length c6) rfl
 have y2_5:=cb O2 5 (.slice none 0 0) rfl
 have f2_5:=ub O2 5
 obtain ⟨W5,hW⟩:∃ W,W=(w5.setCell ⟨w.heap.size+1+1,5,none⟩ (.slice s5 x5.length t5)):=⟨_,rfl⟩
 have SZ':W5.heap.size=w5.heap.size:=by rw [hW]; simp
 have e2:∀ (b:Nat),b≠w.heap.size+1+1→W5.heap[b]? = w5.heap[b]? := by
  intro b hb'
  rw [hW]
  simp only [Below.heap_setCell _ _ _ b (show b≠(⟨w.heap.size+1+1,_,none⟩:Addr).block from hb')]
 have P0:=(e2 _ (by omega)).trans O0
 have P1:=(e2 _ (by omega)).trans O1
 have P2:W5.heap[w.heap.size+1+1]? = some (.cells #[.slice s0 x0.length t0,.slice s1 x1.length t1,.slice s2 x2.length t2,.slice s3 x3.length t3,.slice s4 x4.length t4,.slice s5 x5.length t5,.slice none 0 0] 45):=by
  rw [hW]
  have:=(block_setCell (i:=5) O2 (.slice s5 x5.length t5))
  simpa only [List.setIfInBounds_toArray,List.set_cons_zero,List.set_cons_succ] using this
 have PB:Below w.heap.size w W5:=by rw [hW]; exact (B.setCell (p:=⟨w.heap.size+1+1,5,none⟩) (by simp; omega) (.slice s5 x5.length t5))
 have Pn0:=OFs.moved n0 (w':=W5) (fun b hb' _=>e2 b (by have:=hb'.1; omega))
 have Pn2:=Own.moved n2 (w':=W5) (fun b hb' _=>e2 b (by have:=hb'.1; omega))
 have Pn3:=Own.moved n3 (w':=W5) (fun b hb' _=>e2 b (by have:=hb'.1; omega))
 have Pn4:=Own.moved n4 (w':=W5) (fun b hb' _=>e2 b (by have:=hb'.1; omega))
 have Pn5:=Own.moved n5 (w':=W5) (fun b hb' _=>e2 b (by have:=hb'.1; omega))
 have HS:=(show Hid (_∧_∧_∧_∧_∧_∧_∧_∧_∧_∧_) from ⟨P0,P1,P2,PB,SZ',Pn0,Pn2,Pn3,Pn4,Pn5,trivial⟩)
 have HW:=(show Hid (_∧True) from ⟨hW,trivial⟩)
 clear O0 O1 O2 B SZ SZ' bb hW e2 P0 P1 P2 PB n0 n2 n3 n4 n5 Pn0 Pn2 Pn3 Pn4 Pn5
 go_wp2_with fail
 rw [← HW.out.1]
 refine (toMsgS_dt _ x6 S _ q6 (HA.out.2.2.2.2.2.2.1.up HS.out.2.2.2.1) (by omega)).mono ?_
 rintro e w6 ⟨u,rfl,n6,bb⟩
 obtain ⟨s6,t6,rfl⟩:=n6.form
 obtain ⟨O0,O1,O2,B,SZ,n0,n2,n3,n4,n5,-⟩:=HS.out
 rw [SZ] at n6
 have zw6:w5.heap.size≤w6.heap.size:=by have:=bb.size; rw [SZ] at this; exact this
 have O0:=(bb.block _ (lh O0)).trans O0
 have O1:=(bb.block _ (lh O1)).trans O1
 have O2:=(bb.block _ (lh O2)).trans O2
 have B:=B.trans (bb.mono B.size)
 have n0:=OFs.up n0 bb
 have n2:=Own.up n2 bb
 have n3:=Own.up n3 bb
 have n4:=Own.up n4 bb
 have n5:=Own.up n5 bb
 have y2_0:=cb O2 0 (.slice s0 x0.length t0) rfl
 have y2_1:=cb O2 1 (.slice s1 x1.length t1) rfl
 have y2_2:=cb O2 2 (.slice s2 x2.length t2) rfl
 have y2_3:=cb O2 3 (.slice s3 x3.length t3) rfl
 have y2_4:=cb O2 4 (.slice s4 x4.length t4) rfl
 have y2_5:=cb O2 5 (.slice s5 x5.length t5) rfl
 have y2_6:=cb O2 6 (.slice none 0 0) rfl
 have f2_6:=ub O2 6
 have y1_0:=cb O1 0 (.slice none 0 0) rfl
 have f1_0:=ub O1 0
 have y1_1:=cb O1 1 (.slice none 0 0) rfl
 have f1_1:=ub O1 1
 have y1_2:=cb O1 2 (.slice none 0 0) rfl
 have f1_2:=ub O1 2
 have y1_3:=cb O1 3 (.slice none 0 0) rfl
 have f1_3:=ub O1 3
 have y1_4:=cb O1 4 (.slice none 0 0) rfl
 have f1_4:=ub O1 4
 have y1_5:=cb O1 5 (.slice none 0 0) rfl
 have f1_5:=ub O1 5
 have y1_6:=cb O1 6 (.slice none 0 0) rfl
 have f1_6:=ub O1 6
 have HF:=(show Hid (_∧_∧_∧_∧_∧_∧_∧_) from ⟨B,n0,n2,n3,n4,n5,n6,trivial⟩)
 clear O0 O1 O2 B SZ bb HS HW n0 n2 n3 n4 n5 n6
 go_wp2
 refine bodyPost_ret (v:=.agg #[.slice s0 x0.length t0,.slice s1 x1.length t1,.slice s2 x2.length t2,.slice s3 x3.length t3,.slice s4 x4.length t4,.slice s5 x5.length t5,.slice s6 x6.length t6]) (by simp [results,Tryz.results18,go_sem,y1_0,y1_1,y1_2,y1_3,y1_4,y1_5,y1_6]) rfl ⟨_,rfl,?_,?_⟩
 ·obtain ⟨-,n0,n2,n3,n4,n5,n6,-⟩:=HF.out
  have key:OFs w6 [.slice s0 x0.length t0,.slice s1 x1.length t1,.slice s2 x2.length t2,.slice s3 x3.length t3,.slice s4 x4.length t4,.slice s5 x5.length t5,.slice s6 x6.length t6] [.row x0,.row x1,.row x2,.row x3,.row x4,.row x5,.row x6] (Btw (w.heap.size+3) w6.heap.size):=(OFs.app n0 (OFs.cons n2 (OFs.cons n3 (OFs.cons n4 (OFs.cons n5 (OFs.cons n6 (show OFs _ [] [] _ from trivial) (by omega) (by omega)) (by omega) (by omega)) (by omega) (by omega)) (by omega) (by omega)) (by omega) (by omega)) (by omega) (by omega))
  refine (key.moved (fun b hb' _ => ?_)).mono (fun b hb'=>⟨by have:=hb'.1; omega,by have:=hb'.2; simpa using this⟩)
  have e1:∀ (j:Nat) (u:Value) (W:World),(W.setCell ⟨w.heap.size+1,j,none⟩ u).heap[b]? = W.heap[b]? := fun j u W=>Below.heap_setCell W _ u b (by have:=hb'.1; simp; omega)
  have e2:∀ (j:Nat) (u:Value) (W:World),(W.setCell ⟨w.heap.size+1+1,j,none⟩ u).heap[b]? = W.heap[b]? := fun j u W=>Below.heap_setCell W _ u b (by have:=hb'.1; simp; omega)
  simp only [e1,e2]
 ·iterate 8 refine Below.setCell ?_ (by simp; try omega) _
  exact HF.out.1
theorem toSent_dt:ToC 96 SentR:=by
 rintro vs r S w ⟨z0,z1,b2,rfl⟩ h hb
 obtain ⟨v0,v1,v2,rfl,a0,a1,a2⟩:=fs3 h
 obtain ⟨rfl,ia0⟩:=a0.ofInt
 obtain ⟨rfl,ia1⟩:=a1.ofInt
 obtain ⟨rfl,ia2⟩:=a2.ofStr
 have hbk:Dt.bR [.int z0,.int z1,.str b2]=b2.size:=by simp [Dt.bR,Dt.bulk]; try omega
 rw [hbk] at hb
 clear hbk h
 have HI:=(show Hid (_∧_∧_∧_) from ⟨ia0,ia1,ia2,trivial⟩)
 clear a0 a1 a2 ia0 ia1 ia2
 go_enter Tryz.func96,Tryz.ntmps96
 go_wp2
 refine bodyPost_ret (v:=.agg #[.int .i64 z0,.int .i64 z1,.string b2]) (by simp [results,Tryz.results96,go_sem]) rfl ⟨_,rfl,?_,?_⟩
 ·exact (OFs.int HI.out.1 (OFs.int HI.out.2.1 (OFs.str HI.out.2.2.1 (show OFs _ [] [] _ from trivial))))
 ·exact (((Below.refl _ w).alloc (Nat.le_refl _) _).alloc (by simp) _).alloc (by simp; omega) _
theorem infoDSent:(Tryz.prog.info? 93).map (fun i=>(i.zero,i.size,i.bytes))=some (some (.agg #[.int .i64 0,.int .i64 0,.string ⟨#[]⟩]),3,32):=by kernel_rfl
theorem makeDSent (n:Nat) (hn:n≤1048576) (w:World):(Instr.makeSlice 46 (.int .i64 (n:Int)) (.int .i64 (n:Int))).run Tryz.prog w = .ok (.slice (some ⟨w.heap.size,0,none⟩) n n) (w.alloc (.cells (madeCells #[.int .i64 0,.int .i64 0,.string ⟨#[]⟩] (n * 3)) 93)):=by
 obtain ⟨i0,hi,hz0,hz1,hz2⟩:=info_parts infoDSent
 have h:=run_make (P:=Tryz.prog) w 46 93 i0 _ Tryz.underlying46 hi hz0 .i64 .i64 (n:Int) (n:Int) (by omega) (by omega) (by rw [hz2]; omega) (by omega)
 rw [h,hz1]
 rfl
theorem toSentS_dt:ToS 47 SentR:=by
 intro v xs S w hP h hb
 have hlen:=bulkS_len xs
 have hBA:=@bulkS_at xs
 have hN:=(show Hid (_∧_) from ⟨hP.len SentR.len,trivial⟩)
 have HC:=(show Hid (_∧_) from ⟨h,hP⟩)
 obtain ⟨a,cap,rfl⟩:=h.form
 have hmk:=makeDSent xs.length (by omega)
 clear h hP
 have R0:Hid (RowTo (w.alloc (.cells (madeCells #[.int .i64 0,.int .i64 0,.string ⟨#[]⟩] (xs.length * 3)) 93)) 93 w.heap.size 3 0 xs):=RowTo.start (MapKept.heap_alloc w _).1 (by rw [size_madeCells])
 have B0:Below w.heap.size w (w.alloc (.cells (madeCells #[.int .i64 0,.int .i64 0,.string ⟨#[]⟩] (xs.length * 3)) 93)):=(Below.refl _ w).alloc (Nat.le_refl _) _
 generalize madeCells #[.int .i64 0,.int .i64 0,.string ⟨#[]⟩] (xs.length * 3)=c0 at *
 go_enter Tryz.func47,Tryz.ntmps47
 go_wp2
 clear hmk
 go_loopw [4] (fun i wr=>∃ k:Nat,k≤xs.length∧i = .int .i64 k∧Hid (RowTo wr 93 w.heap.size 3 k xs)∧Below w.heap.size w wr) (fun i _=>xs.length - (intOf i).toNat)
 case atStart=>exact ⟨0,Nat.zero_le _,rfl,R0,B0⟩
 case round =>
  clear R0 B0
  obtain ⟨k,hk,rfl,HR,hbw⟩:=hrel
  by_cases hkl:k<xs.length
  ·have he:=List.getElem?_eq_getElem hkl
   have hbk:=hBA he
   generalize xs[k]=r at *
   obtain ⟨z0,z1,b2,rfl⟩:=HC.out.2 k r he
   obtain ⟨b,off,rfl,-,hlb,us,hhus⟩:=HC.out.1.at he
   have c0:w.cell? ⟨b,off+k * 3,none⟩=some (us 0):=(hhus 0 _ rfl).1
   have a0:=(hhus 0 _ rfl).2
   have c1:w.cell? ⟨b,off+k * 3+1,none⟩=some (us 1):=(hhus 1 _ rfl).1
   have a1:=(hhus 1 _ rfl).2
   have c2:w.cell? ⟨b,off+k * 3+2,none⟩=some (us 2):=(hhus 2 _ rfl).1
   have a2:=(hhus 2 _ rfl).2
   clear hhus
   obtain ⟨a0e,a0r⟩:=a0.ofInt
   rw [a0e] at c0 a0
   clear a0e
   obtain ⟨a1e,a1r⟩:=a1.ofInt
   rw [a1e] at c1 a1
   clear a1e
   obtain ⟨a2e,a2r⟩:=a2.ofStr
   rw [a2e] at c2 a2
   clear a2e
   rw [← hbw.cell (by exact hlb)] at c0 c1 c2
   have HX:Hid (FsAt wr S [.int .i64 z0,.int .i64 z1,.string b2] [.int z0,.int z1,.str b2]):=⟨a0.up hbw,a1.up hbw,a2.up hbw,trivial⟩
   have HQ:Hid (SentR [.int z0,.int z1,.str b2]):=HC.out.2 k _ he
   have HH:=(show Hid (_∧True) from ⟨he,trivial⟩)
   clear he HC hBA a0 a1 a2
   have hlt':((k:Nat):Int)<((xs.length:Nat):Int):=by omega
   go_wp2_with fail
   refine (toSent_dt [.int .i64 z0,.int .i64 z1,.string b2] [.int z0,.int z1,.str b2] S _ HQ.out HX.out (by omega)).mono ?_
   rintro e w1 ⟨us,rfl,o1,b1⟩
   obtain ⟨v0,v1,v2,rfl,k0,k1,k2⟩:=fs3 o1.at
   obtain ⟨rfl,-⟩:=k0.ofInt
   obtain ⟨rfl,-⟩:=k1.ofInt
   obtain ⟨rfl,-⟩:=k2.ofStr
   clear k0 k1 k2
   have HN:=(show Hid (_∧_) from ⟨RowTo.next HR.out b1 HH.out.1 hN.out.1 o1,trivial⟩)
   obtain ⟨cur,-,-,hg,hs,-⟩:=HR.out
   have hg1:w1.heap[w.heap.size]? = some (.cells cur 93 (0,0)):=(b1.block _ (lh hg)).trans hg
   have B1:Below w.heap.size w w1:=hbw.trans (b1.mono hbw.size)
   have g0:w1.cell? ⟨w.heap.size,k * 3,none⟩=some (cur[k * 3]'(by omega)):=by rw [cell_of_block hg1]; exact Array.getElem?_eq_getElem _
   generalize cur[k * 3]'(by omega)=y0 at g0
   have f0:w1.frozen? ⟨w.heap.size,k * 3,none⟩=false:=unfrozen_of_block hg1 _
   have g1:w1.cell? ⟨w.heap.size,k * 3+1,none⟩=some (cur[k * 3+1]'(by omega)):=by rw [cell_of_block hg1]; exact Array.getElem?_eq_getElem _
   generalize cur[k * 3+1]'(by omega)=y1 at g1
   have f1:w1.frozen? ⟨w.heap.size,k * 3+1,none⟩=false:=unfrozen_of_block hg1 _
   have g2:w1.cell? ⟨w.heap.size,k * 3+2,none⟩=some (cur[k * 3+2]'(by omega)):=by rw [cell_of_block hg1]; exact Array.getElem?_eq_getElem _
   generalize cur[k * 3+2]'(by omega)=y2 at g2
   have f2:w1.frozen? ⟨w.heap.size,k * 3+2,none⟩=false:=unfrozen_of_block hg1 _
   clear hg hg1 hs o1 b1 HX HQ HH HR hN c0 c1 c2
   go_wp2
   refine ⟨⟨k+1,by omega,by go_num,HN.out.1,?_⟩,by simp [intOf]; omega⟩
   exact (((B1.setCell (p:=⟨w.heap.size,k * 3,none⟩) (Nat.le_refl _) _).setCell (p:=⟨w.heap.size,k * 3+1,none⟩) (Nat.le_refl _) _).setCell (p:=⟨w.heap.size,k * 3+2,none⟩) (Nat.le_refl _) _)
  ·obtain rfl:k=xs.length:=by omega
   have HF:=(show Hid (_∧_) from ⟨RowTo.done HR.out hN.out.1 (by unfold maxLen; omega) rfl,trivial⟩)
   clear HR HC
   go_wp2
   go_ret
   exact ⟨_,rfl,HF.out.1,hbw⟩
theorem toSeen_dt:ToC 97 SeenR:=by
 rintro vs r S w ⟨z0,x1,rfl,q1⟩ h hb
 obtain ⟨v0,v1,rfl,a0,a1⟩:=fs2 h
 obtain ⟨rfl,ia0⟩:=a0.ofInt
 obtain ⟨p1,c1,rfl⟩:=a1.form
 have hbk:Dt.bR [.int z0,.row x1]=Dt.bS x1:=by simp [Dt.bR,Dt.bulk]; try omega
 rw [hbk] at hb
 clear hbk h
 have HI:=(show Hid (_∧_) from ⟨ia0,trivial⟩)
 have HA:=(show Hid (_∧_) from ⟨a1,trivial⟩)
 clear a0 a1 ia0
 obtain ⟨W0,hW0⟩:∃ W0,W0=((w.alloc (.cells #[.int .i64 z0,.slice p1 x1.length c1] 139)).alloc (.cells #[.int .i64 0,.slice none 0 0] 147)).alloc (.cells #[.int .i64 z0,.slice none 0 0] 147):=⟨_,rfl⟩
 have B:Below w.heap.size w W0:=by rw [hW0]; exact (((Below.refl _ w).alloc (Nat.le_refl _) _).alloc (by simp) _).alloc (by simp; omega) _
 have SZ:W0.heap.size=w.heap.size+3:=by rw [hW0]; simp
 have O0:W0.heap[w.heap.size]? = some (.cells #[.int .i64 z0,.slice p1 x1.length c1] 139):=by rw [hW0]; exact (Below.heap_alloc _ _ _ (by simp; omega)).trans ((Below.heap_alloc _ _ _ (by simp)).trans (MapKept.heap_alloc w _).1)
 have O1:W0.heap[w.heap.size+1]? = some (.cells #[.int .i64 0,.slice none 0 0] 147):=by
  rw [hW0]
  have:=(MapKept.heap_alloc (w.alloc (.cells #[.int .i64 z0,.slice p1 x1.length c1] 139)) (.cells #[.int .i64 0,.slice none 0 0] 147)).1
  exact (Below.heap_alloc _ _ _ (by simp)).trans (by simpa using this)
 have O2:W0.heap[w.heap.size+1+1]? = some (.cells #[.int .i64 z0,.slice none 0 0] 147):=by
  rw [hW0]
  have:=(MapKept.heap_alloc ((w.alloc (.cells #[.int .i64 z0,.slice p1 x1.length c1] 139)).alloc (.cells #[.int .i64 0,.slice none 0 0] 147)) (.cells #[.int .i64 z0,.slice none 0 0] 147)).1
  simpa using this
 have HS:=(show Hid (_∧_∧_∧_∧_∧_) from ⟨O0,O1,O2,B,SZ,trivial⟩)
 have HW:=(show Hid (_∧True) from ⟨hW0,trivial⟩)
 clear O0 O1 O2 B SZ hW0
 go_enter Tryz.func97,Tryz.ntmps97
 go_wp2_with fail
 rw [← HW.out.1]
 refine (toIntS_dt _ x1 S _ q1 (HA.out.1.up HS.out.2.2.2.1) (by omega)).mono ?_
 rintro e w1 ⟨u,rfl,n1,bb⟩
 obtain ⟨s1,t1,rfl⟩:=n1.form
 obtain ⟨O0,O1,O2,B,SZ,-⟩:=HS.out
 rw [SZ] at n1
 have zw1:w.heap.size+3≤w1.heap.size:=by have:=bb.size; rw [SZ] at this; exact this
 have O0:=(bb.block _ (lh O0)).trans O0
 have O1:=(bb.block _ (lh O1)).trans O1
 have O2:=(bb.block _ (lh O2)).trans O2
 have B:=B.trans (bb.mono B.size)
 have y2_0:=cb O2 0 (.int .i64 z0) rfl
 have y2_1:=cb O2 1 (.slice none 0 0) rfl
 have f2_1:=ub O2 1
 have y1_0:=cb O1 0 (.int .i64 0) rfl
 have f1_0:=ub O1 0
 have y1_1:=cb O1 1 (.slice none 0 0) rfl
 have f1_1:=ub O1 1
 have HF:=(show Hid (_∧_∧_) from ⟨B,n1,trivial⟩)
 clear O0 O1 O2 B SZ bb HS HW n1
 go_wp2
 refine bodyPost_ret (v:=.agg #[.int .i64 z0,.slice s1 x1.length t1]) (by simp [results,Tryz.results97,go_sem,y1_0,y1_1]) rfl ⟨_,rfl,?_,?_⟩
 ·obtain ⟨-,n1,-⟩:=HF.out
  have key:OFs w1 [.int .i64 z0,.slice s1 x1.length t1] [.int z0,.row x1] (Btw (w.heap.size+3) w1.heap.size):=(OFs.int HI.out.1 (OFs.cons n1 (show OFs _ [] [] _ from trivial) (by omega) (by omega)))
  refine (key.moved (fun b hb' _ => ?_)).mono (fun b hb'=>⟨by have:=hb'.1; omega,by have:=hb'.2; simpa using this⟩)
  have e1:∀ (j:Nat) (u:Value) (W:World),(W.setCell ⟨w.heap.size+1,j,none⟩ u).heap[b]? = W.heap[b]? := fun j u W=>Below.heap_setCell W _ u b (by have:=hb'.1; simp; omega)
  have e2:∀ (j:Nat) (u:Value) (W:World),(W.setCell ⟨w.heap.size+1+1,j,none⟩ u).heap[b]? = W.heap[b]? := fun j u W=>Below.heap_setCell W _ u b (by have:=hb'.1; simp; omega)
  simp only [e1,e2]
 ·iterate 3 refine Below.setCell ?_ (by simp; try omega) _
  exact HF.out.1
theorem infoDSeen:(Tryz.prog.info? 147).map (fun i=>(i.zero,i.size,i.bytes))=some (some (.agg #[.int .i64 0,.slice none 0 0]),2,32):=by kernel_rfl
theorem makeDSeen (n:Nat) (hn:n≤1048576) (w:World):(Instr.makeSlice 47 (.int .i64 (n:Int)) (.int .i64 (n:Int))).run Tryz.prog w = .ok (.slice (some ⟨w.heap.size,0,none⟩) n n) (w.alloc (.cells (madeCells #[.int .i64 0,.slice none 0 0] (n * 2)) 147)):=by
 obtain ⟨i0,hi,hz0,hz1,hz2⟩:=info_parts infoDSeen
 have h:=run_make (P:=Tryz.prog) w 47 147 i0 _ Tryz.underlying47 hi hz0 .i64 .i64 (n:Int) (n:Int) (by omega) (by omega) (by rw [hz2]; omega) (by omega)
 rw [h,hz1]
 rfl
theorem toSeenS_dt:ToS 48 SeenR:=by
 intro v xs S w hP h hb
 have hlen:=bulkS_len xs
 have hBA:=@bulkS_at xs
 have hN:=(show Hid (_∧_) from ⟨hP.len SeenR.len,trivial⟩)
 have HC:=(show Hid (_∧_) from ⟨h,hP⟩)
 obtain ⟨a,cap,rfl⟩:=h.form
 have hmk:=makeDSeen xs.length (by omega)
 clear h hP
 have R0:Hid (RowTo (w.alloc (.cells (madeCells #[.int .i64 0,.slice none 0 0] (xs.length * 2)) 147)) 147 w.heap.size 2 0 xs):=RowTo.start (MapKept.heap_alloc w _).1 (by rw [size_madeCells])
 have B0:Below w.heap.size w (w.alloc (.cells (madeCells #[.int .i64 0,.slice none 0 0] (xs.length * 2)) 147)):=(Below.refl _ w).alloc (Nat.le_refl _) _
 generalize madeCells #[.int .i64 0,.slice none 0 0] (xs.length * 2)=c0 at *
 go_enter Tryz.func48,Tryz.ntmps48
 go_wp2
 clear hmk
 go_loopw [4] (fun i wr=>∃ k:Nat,k≤xs.length∧i = .int .i64 k∧Hid (RowTo wr 147 w.heap.size 2 k xs)∧Below w.heap.size w wr) (fun i _=>xs.length - (intOf i).toNat)
 case atStart=>exact ⟨0,Nat.zero_le _,rfl,R0,B0⟩
 case round =>
  clear R0 B0
  obtain ⟨k,hk,rfl,HR,hbw⟩:=hrel
  by_cases hkl:k<xs.length
  ·have he:=List.getElem?_eq_getElem hkl
   have hbk:=hBA he
   generalize xs[k]=r at *
   obtain ⟨z0,x1,rfl,q1⟩:=HC.out.2 k r he
   obtain ⟨b,off,rfl,-,hlb,us,hhus⟩:=HC.out.1.at he
   have c0:w.cell? ⟨b,off+k * 2,none⟩=some (us 0):=(hhus 0 _ rfl).1
   have a0:=(hhus 0 _ rfl).2
   have c1:w.cell? ⟨b,off+k * 2+1,none⟩=some (us 1):=(hhus 1 _ rfl).1
   have a1:=(hhus 1 _ rfl).2
   clear hhus
   obtain ⟨a0e,a0r⟩:=a0.ofInt
   rw [a0e] at c0 a0
   clear a0e
   obtain ⟨p1,d1,a1e⟩:=a1.form
   rw [a1e] at c1 a1
   clear a1e
   rw [← hbw.cell (by exact hlb)] at c0 c1
   have HX:Hid (FsAt wr S [.int .i64 z0,.slice p1 x1.length d1] [.int z0,.row x1]):=⟨a0.up hbw,a1.up hbw,trivial⟩
   have HQ:Hid (SeenR [.int z0,.row x1]):=HC.out.2 k _ he
   have HH:=(show Hid (_∧True) from ⟨he,trivial⟩)
   clear he HC hBA a0 a1 q1
   have hlt':((k:Nat):Int)<((xs.length:Nat):Int):=by omega
   go_wp2_with fail
   refine (toSeen_dt [.int .i64 z0,.slice p1 x1.length d1] [.int z0,.row x1] S _ HQ.out HX.out (by omega)).mono ?_
   rintro e w1 ⟨us,rfl,o1,b1⟩
   obtain ⟨v0,v1,rfl,k0,k1⟩:=fs2 o1.at
   obtain ⟨rfl,-⟩:=k0.ofInt
   obtain ⟨s1,t1,rfl⟩:=k1.form
   clear k0 k1
   have HN:=(show Hid (_∧_) from ⟨RowTo.next HR.out b1 HH.out.1 hN.out.1 o1,trivial⟩)
   obtain ⟨cur,-,-,hg,hs,-⟩:=HR.out
   have hg1:w1.heap[w.heap.size]? = some (.cells cur 147 (0,0)):=(b1.block _ (lh hg)).trans hg
   have B1:Below w.heap.size w w1:=hbw.trans (b1.mono hbw.size)
   have g0:w1.cell? ⟨w.heap.size,k * 2,none⟩=some (cur[k * 2]'(by omega)):=by rw [cell_of_block hg1]; exact Array.getElem?_eq_getElem _
   generalize cur[k * 2]'(by omega)=y0 at g0
   have f0:w1.frozen? ⟨w.heap.size,k * 2,none⟩=false:=unfrozen_of_block hg1 _
   have g1:w1.cell? ⟨w.heap.size,k * 2+1,none⟩=some (cur[k * 2+1]'(by omega)):=by rw [cell_of_block hg1]; exact Array.getElem?_eq_getElem _
   generalize cur[k * 2+1]'(by omega)=y1 at g1
   have f1:w1.frozen? ⟨w.heap.size,k * 2+1,none⟩=false:=unfrozen_of_block hg1 _
   clear hg hg1 hs o1 b1 HX HQ HH HR hN c0 c1
   go_wp2
   refine ⟨⟨k+1,by omega,by go_num,HN.out.1,?_⟩,by simp [intOf]; omega⟩
   exact ((B1.setCell (p:=⟨w.heap.size,k * 2,none⟩) (Nat.le_refl _) _).setCell (p:=⟨w.heap.size,k * 2+1,none⟩) (Nat.le_refl _) _)
  ·obtain rfl:k=xs.length:=by omega
   have HF:=(show Hid (_∧_) from ⟨RowTo.done HR.out hN.out.1 (by unfold maxLen; omega) rfl,trivial⟩)
   clear HR HC
   go_wp2
   go_ret
   exact ⟨_,rfl,HF.out.1,hbw⟩
theorem toLink_dt:ToC 19 LinkR:=by
 rintro vs r S w ⟨z0,z1,x2,x3,rfl,q2,q3⟩ h hb
 obtain ⟨v0,v1,v2,v3,rfl,a0,a1,a2,a3⟩:=fs4 h
 obtain ⟨rfl,ia0⟩:=a0.ofInt
 obtain ⟨rfl,ia1⟩:=a1.ofInt
 obtain ⟨p2,c2,rfl⟩:=a2.form
 obtain ⟨p3,c3,rfl⟩:=a3.form
 have hbk:Dt.bR [.int z0,.int z1,.row x2,.row x3]=Dt.bS x2+Dt.bS x3:=by simp [Dt.bR,Dt.bulk]; try omega
 rw [hbk] at hb
 clear hbk h
 have HI:=(show Hid (_∧_∧_) from ⟨ia0,ia1,trivial⟩)
 have HA:=(show Hid (_∧_∧_) from ⟨a2,a3,trivial⟩)
 clear a0 a1 a2 a3 ia0 ia1
 obtain ⟨W0,hW0⟩:∃ W0,W0=((w.alloc (.cells #[.int .i64 z0,.int .i64 z1,.slice p2 x2.length c2,.slice p3 x3.length c3] 34)).alloc (.cells #[.int .i64 0,.int .i64 0,.slice none 0 0,.slice none 0 0] 49)).alloc (.cells #[.int .i64 z0,.int .i64 z1,.slice none 0 0,.slice none 0 0] 49):=⟨_,rfl⟩
 have B:Below w.heap.size w W0:=by rw [hW0]; exact (((Below.refl _ w).alloc (Nat.le_refl _) _).alloc (by simp) _).alloc (by simp; omega) _
 have SZ:W0.heap.size=w.heap.size+3:=by rw [hW0]; simp
 have O0:W0.heap[w.heap.size]? = some (.cells #[.int .i64 z0,.int .i64 z1,.slice p2 x2.length c2,.slice p3 x3.length c3] 34):=by rw [hW0]; exact (Below.heap_alloc _ _ _ (by simp; omega)).trans ((Below.heap_alloc _ _ _ (by simp)).trans (MapKept.heap_alloc w _).1)
 have O1:W0.heap[w.heap.size+1]? = some (.cells #[.int .i64 0,.int .i64 0,.slice none 0 0,.slice none 0 0] 49):=by
  rw [hW0]
  have:=(MapKept.heap_alloc (w.alloc (.cells #[.int .i64 z0,.int .i64 z1,.slice p2 x2.length c2,.slice p3 x3.length c3] 34)) (.cells #[.int .i64 0,.int .i64 0,.slice none 0 0,.slice none 0 0] 49)).1
  exact (Below.heap_alloc _ _ _ (by simp)).trans (by simpa using this)
 have O2:W0.heap[w.heap.size+1+1]? = some (.cells #[.int .i64 z0,.int .i64 z1,.slice none 0 0,.slice none 0 0] 49):=by
  rw [hW0]
  have:=(MapKept.heap_alloc ((w.alloc (.cells #[.int .i64 z0,.int .i64 z1,.slice p2 x2.length c2,.slice p3 x3.length c3] 34)).alloc (.cells #[.int .i64 0,.int .i64 0,.slice none 0 0,.slice none 0 0] 49)) (.cells #[.int .i64 z0,.int .i64 z1,.slice none 0 0,.slice none 0 0] 49)).1
  simpa using this
 have HS:=(show Hid (_∧_∧_∧_∧_∧_) from ⟨O0,O1,O2,B,SZ,trivial⟩)
 have HW:=(show Hid (_∧True) from ⟨hW0,trivial⟩)
 clear O0 O1 O2 B SZ hW0
 go_enter Tryz.func19,Tryz.ntmps19
 go_wp2_with fail
 rw [← HW.out.1]
 refine (toSentS_dt _ x2 S _ q2 (HA.out.1.up HS.out.2.2.2.1) (by omega)).mono ?_
 rintro e w1 ⟨u,rfl,n2,bb⟩
 obtain ⟨s2,t2,rfl⟩:=n2.form
 obtain ⟨O0,O1,O2,B,SZ,-⟩:=HS.out
 rw [SZ] at n2
 have zw1:w.heap.size+3≤w1.heap.size:=by have:=bb.size; rw [SZ] at this; exact this
 have O0:=(bb.block _ (lh O0)).trans O0
 have O1:=(bb.block _ (lh O1)).trans O1
 have O2:=(bb.block _ (lh O2)).trans O2
 have B:=B.trans (bb.mono B.size)
 have y0_3:=cb O0 3 (.slice p3 x3.length c3) rfl
 have y2_2:=cb O2 2 (.slice none 0 0) rfl
 have f2_2:=ub O2 2
 obtain ⟨W1,hW⟩:∃ W,W=(w1.setCell ⟨w.heap.size+1+1,2,none⟩ (.slice s2 x2.length t2)):=⟨_,rfl⟩
 have SZ':W1.heap.size=w1.heap.size:=by rw [hW]; simp
 have e2:∀ (b:Nat),b≠w.heap.size+1+1→W1.heap[b]? = w1.heap[b]? := by
  intro b hb'
  rw [hW]
  simp only [Below.heap_setCell _ _ _ b (show b≠(⟨w.heap.size+1+1,_,none⟩:Addr).block from hb')]
 have P0:=(e2 _ (by omega)).trans O0
 have P1:=(e2 _ (by omega)).trans O1
 have P2:W1.heap[w.heap.size+1+1]? = some (.cells #[.int .i64 z0,.int .i64 z1,.slice s2 x2.length t2,.slice none 0 0] 49):=by
  rw [hW]
  have:=(block_setCell (i:=2) O2 (.slice s2 x2.length t2))
  simpa only [List.setIfInBounds_toArray,List.set_cons_zero,List.set_cons_succ] using this
 have PB:Below w.heap.size w W1:=by rw [hW]; exact (B.setCell (p:=⟨w.heap.size+1+1,2,none⟩) (by simp; omega) (.slice s2 x2.length t2))
 have Pn2:=Own.moved n2 (w':=W1) (fun b hb' _=>e2 b (by have:=hb'.1; omega))
 have HS:=(show Hid (_∧_∧_∧_∧_∧_∧_) from ⟨P0,P1,P2,PB,SZ',Pn2,trivial⟩)
 have HW:=(show Hid (_∧True) from ⟨hW,trivial⟩)
 clear O0 O1 O2 B SZ SZ' bb hW e2 P0 P1 P2 PB n2 Pn2
 go_wp2_with fail
 rw [← HW.out.1]
 refine (toSeenS_dt _ x3 S _ q3 (HA.out.2.1.up HS.out.2.2.2.1) (by omega)).mono ?_
 rintro e w2 ⟨u,rfl,n3,bb⟩
 obtain ⟨s3,t3,rfl⟩:=n3.form
 obtain ⟨O0,O1,O2,B,SZ,n2,-⟩:=HS.out
 rw [SZ] at n3
 have zw2:w1.heap.size≤w2.heap.size:=by have:=bb.size; rw [SZ] at this; exact this
 have O0:=(bb.block _ (lh O0)).trans O0
 have O1:=(bb.block _ (lh O1)).trans O1
 have O2:=(bb.block _ (lh O2)).trans O2
 have B:=B.trans (bb.mono B.size)
 have n2:=Own.up n2 bb
 have y2_0:=cb O2 0 (.int .i64 z0) rfl
 have y2_1:=cb O2 1 (.int .i64 z1) rfl
 have y2_2:=cb O2 2 (.slice s2 x2.length t2) rfl
 have y2_3:=cb O2 3 (.slice none 0 0) rfl
 have f2_3:=ub O2 3
 have y1_0:=cb O1 0 (.int .i64 0) rfl
 have f1_0:=ub O1 0
 have y1_1:=cb O1 1 (.int .i64 0) rfl
 have f1_1:=ub O1 1
 have y1_2:=cb O1 2 (.slice none 0 0) rfl
 have f1_2:=ub O1 2
 have y1_3:=cb O1 3 (.slice none 0 0) rfl
 have f1_3:=ub O1 3
 have HF:=(show Hid (_∧_∧_∧_) from ⟨B,n2,n3,trivial⟩)
 clear O0 O1 O2 B SZ bb HS HW n2 n3
 go_wp2
 refine bodyPost_ret (v:=.agg #[.int .i64 z0,.int .i64 z1,.slice s2 x2.length t2,.slice s3 x3.length t3]) (by simp [results,Tryz.results19,go_sem,y1_0,y1_1,y1_2,y1_3]) rfl ⟨_,rfl,?_,?_⟩
 ·obtain ⟨-,n2,n3,-⟩:=HF.out
  have key:OFs w2 [.int .i64 z0,.int .i64 z1,.slice s2 x2.length t2,.slice s3 x3.length t3] [.int z0,.int z1,.row x2,.row x3] (Btw (w.heap.size+3) w2.heap.size):=(OFs.int HI.out.1 (OFs.int HI.out.2.1 (OFs.cons n2 (OFs.cons n3 (show OFs _ [] [] _ from trivial) (by omega) (by omega)) (by omega) (by omega))))
  refine (key.moved (fun b hb' _ => ?_)).mono (fun b hb'=>⟨by have:=hb'.1; omega,by have:=hb'.2; simpa using this⟩)
  have e1:∀ (j:Nat) (u:Value) (W:World),(W.setCell ⟨w.heap.size+1,j,none⟩ u).heap[b]? = W.heap[b]? := fun j u W=>Below.heap_setCell W _ u b (by have:=hb'.1; simp; omega)
  have e2:∀ (j:Nat) (u:Value) (W:World),(W.setCell ⟨w.heap.size+1+1,j,none⟩ u).heap[b]? = W.heap[b]? := fun j u W=>Below.heap_setCell W _ u b (by have:=hb'.1; simp; omega)
  simp only [e1,e2]
 ·iterate 5 refine Below.setCell ?_ (by simp; try omega) _
  exact HF.out.1
theorem toPeer_dt:ToC 6 PeerR:=by
 rintro vs r S w ⟨x0,x1,x2,x3,x4,x5,x6,z7,z8,x9,x10,rfl,q0,q1,q2,q3,q4,q5,q6,q9,q10⟩ h hb
 obtain ⟨v0,v1,v2,v3,v4,v5,v6,v7,v8,v9,v10,rfl,a0,a1,a2,a3,a4,a5,a6,a7,a8,a9,a10⟩:=fs11 h
 obtain ⟨p0,c0,rfl⟩:=a0.form
 obtain ⟨p1,c1,rfl⟩:=a1.form
 obtain ⟨p2,c2,rfl⟩:=a2.form
 obtain ⟨p3,c3,rfl⟩:=a3.form
 obtain ⟨p4,c4,rfl⟩:=a4.form
 obtain ⟨p5,c5,rfl⟩:=a5.form
 obtain ⟨p6,c6,rfl⟩:=a6.form
 obtain ⟨rfl,ia7⟩:=a7.ofInt
 obtain ⟨rfl,ia8⟩:=a8.ofInt
 obtain ⟨p9,c9,rfl⟩:=a9.form
 obtain ⟨p10,c10,rfl⟩:=a10.form
 have hbk:Dt.bR [.row x0,.row x1,.row x2,.row x3,.row x4,.row x5,.row x6,.int z7,.int z8,.row x9,.row x10]=Dt.bS x0+Dt.bS x1+Dt.bS x2+Dt.bS x3+Dt.bS x4+Dt.bS x5+Dt.bS x6+Dt.bS x9+Dt.bS x10:=by simp [Dt.bR,Dt.bulk]; try omega
 rw [hbk] at hb
 clear hbk h
 have HI:=(show Hid (_∧_∧_) from ⟨ia7,ia8,trivial⟩)
 have HA:=(show Hid (_∧_∧_∧_∧_∧_∧_∧_∧_∧_) from ⟨a0,a1,a2,a3,a4,a5,a6,a9,a10,trivial⟩)
 clear a0 a1 a2 a3 a4 a5 a6 a7 a8 a9 a10 ia7 ia8
 obtain ⟨W0,hW0⟩:∃ W0,W0=((w.alloc (.cells #[.slice p0 x0.length c0,.slice p1 x1.length c1,.slice p2 x2.length c2,.slice p3 x3.length c3,.slice p4 x4.length c4,.slice p5 x5.length c5,.slice p6 x6.length c6,.int .i64 z7,.int .i64 z8,.slice p9 x9.length c9,.slice p10 x10.length c10] 36)).alloc (.cells #[.slice none 0 0,.slice none 0 0,.slice none 0 0,.slice none 0 0,.slice none 0 0,.slice none 0 0,.slice none 0 0,.int .i64 0,.int .i64 0,.slice none 0 0,.slice none 0 0] 51)).alloc (.cells #[.slice none 0 0,.slice none 0 0,.slice none 0 0,.slice none 0 0,.slice none 0 0,.slice none 0 0,.slice none 0 0,.int .i64 0,.int .i64 0,.slice none 0 0,.slice none 0 0] 51):=⟨_,rfl⟩
 have B:Below w.heap.size w W0:=by rw [hW0]; exact (((Below.refl _ w).alloc (Nat.le_refl _) _).alloc (by simp) _).alloc (by simp; omega) _
 have SZ:W0.heap.size=w.heap.size+3:=by rw [hW0]; simp
 have O0:W0.heap[w.heap.size]? = some (.cells #[.slice p0 x0.length c0,.slice p1 x1.length c1,.slice p2 x2.length c2,.slice p3 x3.length c3,.slice p4 x4.length c4,.slice p5 x5.length c5,.slice p6 x6.length c6,.int .i64 z7,.int .i64 z8,.slice p9 x9.length c9,.slice p10 x10.length c10] 36):=by rw [hW0]; exact (Below.heap_alloc _ _ _ (by simp; omega)).trans ((Below.heap_alloc _ _ _ (by simp)).trans (MapKept.heap_alloc w _).1)
 have O1:W0.heap[w.heap.size+1]? = some (.cells #[.slice none 0 0,.slice none 0 0,.slice none 0 0,.slice none 0 0,.slice none 0 0,.slice none 0 0,.slice none 0 0,.int .i64 0,.int .i64 0,.slice none 0 0,.slice none 0 0] 51):=by
  rw [hW0]
  have:=(MapKept.heap_alloc (w.alloc (.cells #[.slice p0 x0.length c0,.slice p1 x1.length c1,.slice p2 x2.length c2,.slice p3 x3.length c3,.slice p4 x4.length c4,.slice p5 x5.length c5,.slice p6 x6.length c6,.int .i64 z7,.int .i64 z8,.slice p9 x9.length c9,.slice p10 x10.length c10] 36)) (.cells #[.slice none 0 0,.slice none 0 0,.slice none 0 0,.slice none 0 0,.slice none 0 0,.slice none 0 0,.slice none 0 0,.int .i64 0,.int .i64 0,.slice none 0 0,.slice none 0 0] 51)).1
  exact (Below.heap_alloc _ _ _ (by simp)).trans (by simpa using this)
 have O2:W0.heap[w.heap.size+1+1]? = some (.cells #[.slice none 0 0,.slice none 0 0,.slice none 0 0,.slice none 0 0,.slice none 0 0,.slice none 0 0,.slice none 0 0,.int .i64 0,.int .i64 0,.slice none 0 0,.slice none 0 0] 51):=by
  rw [hW0]
  have:=(MapKept.heap_alloc ((w.alloc (.cells #[.slice p0 x0.length c0,.slice p1 x1.length c1,.slice p2 x2.length c2,.slice p3 x3.length c3,.slice p4 x4.length c4,.slice p5 x5.length c5,.slice p6 x6.length c6,.int .i64 z7,.int .i64 z8,.slice p9 x9.length c9,.slice p10 x10.length c10] 36)).alloc (.cells #[.slice none 0 0,.slice none 0 0,.slice none 0 0,.slice none 0 0,.slice none 0 0,.slice none 0 0,.slice none 0 0,.int .i64 0,.int .i64 0,.slice none 0 0,.slice none 0 0] 51)) (.cells #[.slice none 0 0,.slice none 0 0,.slice none 0 0,.slice none 0 0,.slice none 0 0,.slice none 0 0,.slice none 0 0,.int .i64 0,.int .i64 0,.slice none 0 0,.slice none 0 0] 51)).1
  simpa using this
 have HS:=(show Hid (_∧_∧_∧_∧_∧_) from ⟨O0,O1,O2,B,SZ,trivial⟩)
 have HW:=(show Hid (_∧True) from ⟨hW0,trivial⟩)
 clear O0 O1 O2 B SZ hW0
 go_enter Tryz.func6,Tryz.ntmps6
 go_wp2_with fail
 rw [← HW.out.1]
 refine (toMachine_dt [.slice p0 x0.length c0,.slice p1 x1.length c1,.slice p2 x2.length c2,.slice p3 x3.length c3,.slice p4 x4.length c4,.slice p5 x5.length c5,.slice p6 x6.length c6] [.row x0,.row x1,.row x2,.row x3,.row x4,.row x5,.row x6] S _ ⟨_,_,_,_,_,_,_,rfl,q0,q1,q2,q3,q4,q5,q6⟩ ⟨HA.out.1.up HS.out.2.2.2.1,HA.out.2.1.up HS.out.2.2.2.1,HA.out.2.2.1.up HS.out.2.2.2.1,HA.out.2.2.2.1.up HS.out.2.2.2.1,HA.out.2.2.2.2.1.up HS.out.2.2.2.1,HA.out.2.2.2.2.2.1.up HS.out.2.2.2.1,HA.out.2.2.2.2.2.2.1.up HS.out.2.2.2.1,trivial⟩ (by rw [show Dt.bR [.row x0,.row x1,.row x2,.row x3,.row x4,.row x5,.row x6]=Dt.bS x0+Dt.bS x1+Dt.bS x2+Dt.bS x3+Dt.bS x4+Dt.bS x5+Dt.bS x6 from by simp [Dt.bR,Dt.bulk]; try omega]; omega)).mono ?_
 rintro e w1 ⟨u,rfl,n0,bb⟩
 obtain ⟨v0,v1,v2,v3,v4,v5,v6,rfl,k0,k1,k2,k3,k4,k5,k6⟩:=fs7 n0.at
 obtain ⟨s0,t0,rfl⟩:=k0.form
 obtain ⟨s1,t1,rfl⟩:=k1.form
 obtain ⟨s2,t2,rfl⟩:=k2.form
 obtain ⟨s3,t3,rfl⟩:=k3.form
 obtain ⟨s4,t4,rfl⟩:=k4.form
 obtain ⟨s5,t5,rfl⟩:=k5.form
 obtain ⟨s6,t6,rfl⟩:=k6.form
 clear k0 k1 k2 k3 k4 k5 k6
 obtain ⟨O0,O1,O2,B,SZ,-⟩:=HS.out
 rw [SZ] at n0
 have zw1:w.heap.size+3≤w1.heap.size:=by have:=bb.size; rw [SZ] at this; exact this
 have O0:=(bb.block _ (lh O0)).trans O0
 have O1:=(bb.block _ (lh O1)).trans O1
 have O2:=(bb.block _ (lh O2)).trans O2
 have B:=B.trans (bb.mono B.size)
 have y0_7:=cb O0 7 (.int .i64 z7) rfl
 have y0_8:=cb O0 8 (.int .i64 z8) rfl
 have y0_9:=cb O0 9 (.slice p9 x9.length c9) rfl
 have y0_10:=cb O0 10 (.slice p10 x10.length c10) rfl
 have y2_0:=cb O2 0 (.slice none 0 0) rfl
 have f2_0:=ub O2 0
 have y2_1:=cb O2 1 (.slice none 0 0) rfl
 have f2_1:=ub O2 1
 have y2_2:=cb O2 2 (.slice none 0 0) rfl
 have f2_2:=ub O2 2
 have y2_3:=cb O2 3 (.slice none 0 0) rfl
 have f2_3:=ub O2 3
 have y2_4:=cb O2 4 (.slice none 0 0) rfl
 have f2_4:=ub O2 4
 have y2_5:=cb O2 5 (.slice none 0 0) rfl
 have f2_5:=ub O2 5
 have y2_6:=cb O2 6 (.slice none 0 0) rfl
 have f2_6:=ub O2 6
 obtain ⟨W1,hW⟩:∃ W,W=(((((((w1.setCell ⟨w.heap.size+1+1,0,none⟩ (.slice s0 x0.length t0)).setCell ⟨w.heap.size+1+1,1,none⟩ (.slice s1 x1.length t1)).setCell ⟨w.heap.size+1+1,2,none⟩ (.slice s2 x2.length t2)).setCell ⟨w.heap.size+1+1,3,none⟩ (.slice s3 x3.length t3)).setCell ⟨w.heap.size+1+1,4,none⟩ (.slice s4 x4.length t4)).setCell ⟨w.heap.size+1+1,5,none⟩ (.slice s5 x5.length t5)).setCell ⟨w.heap.size+1+1,6,none⟩ (.slice s6 x6.length t6)):=⟨_,rfl⟩
 have SZ':W1.heap.size=w1.heap.size:=by rw [hW]; simp
 have e2:∀ (b:Nat),b≠w.heap.size+1+1→W1.heap[b]? = w1.heap[b]? := by
  intro b hb'
  rw [hW]
  simp only [Below.heap_setCell _ _ _ b (show b≠(⟨w.heap.size+1+1,_,none⟩:Addr).block from hb')]
 have P0:=(e2 _ (by omega)).trans O0
 have P1:=(e2 _ (by omega)).trans O1
 have P2:W1.heap[w.heap.size+1+1]? = some (.cells #[.slice s0 x0.length t0,.slice s1 x1.length t1,.slice s2 x2.length t2,.slice s3 x3.length t3,.slice s4 x4.length t4,.slice s5 x5.length t5,.slice s6 x6.length t6,.int .i64 0,.int .i64 0,.slice none 0 0,.slice none 0 0] 51):=by
  rw [hW]
  have:=(block_setCell (i:=6) (block_setCell (i:=5) (block_setCell (i:=4) (block_setCell (i:=3) (block_setCell (i:=2) (block_setCell (i:=1) (block_setCell (i:=0) O2 (.slice s0 x0.length t0)) (.slice s1 x1.length t1)) (.slice s2 x2.length t2)) (.slice s3 x3.length t3)) (.slice s4 x4.length t4)) (.slice s5 x5.length t5)) (.slice s6 x6.length t6))
  simpa only [List.setIfInBounds_toArray,List.set_cons_zero,List.set_cons_succ] using this
 have PB:Below w.heap.size w W1:=by rw [hW]; exact (((((((B.setCell (p:=⟨w.heap.size+1+1,0,none⟩) (by simp; omega) (.slice s0 x0.length t0)).setCell (p:=⟨w.heap.size+1+1,1,none⟩) (by simp; omega) (.slice s1 x1.length t1)).setCell (p:=⟨w.heap.size+1+1,2,none⟩) (by simp; omega) (.slice s2 x2.length t2)).setCell (p:=⟨w.heap.size+1+1,3,none⟩) (by simp; omega) (.slice s3 x3.length t3)).setCell (p:=⟨w.heap.size+1+1,4,none⟩) (by simp; omega) (.slice s4 x4.length t4)).setCell (p:=⟨w.heap.size+1+1,5,none⟩) (by simp; omega) (.slice s5 x5.length t5)).setCell (p:=⟨w.heap.size+1+1,6,none⟩) (by simp; omega) (.slice s6 x6.length t6))
 have Pn0:=OFs.moved n0 (w':=W1) (fun b hb' _=>e2 b (by have:=hb'.1; omega))
 have HS:=(show Hid (_∧_∧_∧_∧_∧_∧_) from ⟨P0,P1,P2,PB,SZ',Pn0,trivial⟩)
 have HW:=(show Hid (_∧True) from ⟨hW,trivial⟩)
 clear O0 O1 O2 B SZ SZ' bb hW e2 P0 P1 P2 PB n0 Pn0
 go_wp2_with fail
 rw [← HW.out.1]
 refine (toLink_dt [.int .i64 z7,.int .i64 z8,.slice p9 x9.length c9,.slice p10 x10.length c10] [.int z7,.int z8,.row x9,.row x10] S _ ⟨_,_,_,_,rfl,q9,q10⟩ ⟨(FAt.int _ HI.out.1),(FAt.int _ HI.out.2.1),HA.out.2.2.2.2.2.2.2.1.up HS.out.2.2.2.1,HA.out.2.2.2.2.2.2.2.2.1.up HS.out.2.2.2.1,trivial⟩ (by rw [show Dt.bR [.int z7,.int z8,.row x9,.row x10]=Dt.bS x9+Dt.bS x10 from by simp [Dt.bR,Dt.bulk]; try omega]; omega)).mono ?_
 rintro e w2 ⟨u,rfl,n7,bb⟩
 obtain ⟨v7,v8,v9,v10,rfl,k7,k8,k9,k10⟩:=fs4 n7.at
 obtain ⟨rfl,-⟩:=k7.ofInt
 obtain ⟨rfl,-⟩:=k8.ofInt
 obtain ⟨s9,t9,rfl⟩:=k9.form
 obtain ⟨s10,t10,rfl⟩:=k10.form
 clear k7 k8 k9 k10
 obtain ⟨O0,O1,O2,B,SZ,n0,-⟩:=HS.out
 rw [SZ] at n7
 have zw2:w1.heap.size≤w2.heap.size:=by have:=bb.size; rw [SZ] at this; exact this
 have O0:=(bb.block _ (lh O0)).trans O0
 have O1:=(bb.block _ (lh O1)).trans O1
 have O2:=(bb.block _ (lh O2)).trans O2
 have B:=B.trans (bb.mono B.size)
 have n0:=OFs.up n0 bb
 have y2_0:=cb O2 0 (.slice s0 x0.length t0) rfl
 have y2_1:=cb O2 1 (.slice s1 x1.length t1) rfl
 have y2_2:=cb O2 2 (.slice s2 x2.length t2) rfl
 have y2_3:=cb O2 3 (.slice s3 x3.length t3) rfl
 have y2_4:=cb O2 4 (.slice s4 x4.length t4) rfl
 have y2_5:=cb O2 5 (.slice s5 x5.length t5) rfl
 have y2_6:=cb O2 6 (.slice s6 x6.length t6) rfl
 have y2_7:=cb O2 7 (.int .i64 0) rfl
 have f2_7:=ub O2 7
 have y2_8:=cb O2 8 (.int .i64 0) rfl
 have f2_8:=ub O2 8
 have y2_9:=cb O2 9 (.slice none 0 0) rfl
 have f2_9:=ub O2 9
 have y2_10:=cb O2 10 (.slice none 0 0) rfl
 have f2_10:=ub O2 10
 have y1_0:=cb O1 0 (.slice none 0 0) rfl
 have f1_0:=ub O1 0
 have y1_1:=cb O1 1 (.slice none 0 0) rfl
 have f1_1:=ub O1 1
 have y1_2:=cb O1 2 (.slice none 0 0) rfl
 have f1_2:=ub O1 2
 have y1_3:=cb O1 3 (.slice none 0 0) rfl
 have f1_3:=ub O1 3
 have y1_4:=cb O1 4 (.slice none 0 0) rfl
 have f1_4:=ub O1 4
 have y1_5:=cb O1 5 (.slice none 0 0) rfl
 have f1_5:=ub O1 5
 have y1_6:=cb O1 6 (.slice none 0 0) rfl
 have f1_6:=ub O1 6
 have y1_7:=cb O1 7 (.int .i64 0) rfl
 have f1_7:=ub O1 7
 have y1_8:=cb O1 8 (.int .i64 0) rfl
 have f1_8:=ub O1 8
 have y1_9:=cb O1 9 (.slice none 0 0) rfl
 have f1_9:=ub O1 9
 have y1_10:=cb O1 10 (.slice none 0 0) rfl
 have f1_10:=ub O1 10
 have HF:=(show Hid (_∧_∧_∧_) from ⟨B,n0,n7,trivial⟩)
 clear O0 O1 O2 B SZ bb HS HW n0 n7
 go_wp2
 refine bodyPost_ret (v:=.agg #[.slice s0 x0.length t0,.slice s1 x1.length t1,.slice s2 x2.length t2,.slice s3 x3.length t3,.slice s4 x4.length t4,.slice s5 x5.length t5,.slice s6 x6.length t6,.int .i64 z7,.int .i64 z8,.slice s9 x9.length t9,.slice s10 x10.length t10]) (by simp [results,Tryz.results6,go_sem,y1_0,y1_1,y1_2,y1_3,y1_4,y1_5,y1_6,y1_7,y1_8,y1_9,y1_10]) rfl ⟨_,rfl,?_,?_⟩
 ·obtain ⟨-,n0,n7,-⟩:=HF.out
  have key:OFs w2 [.slice s0 x0.length t0,.slice s1 x1.length t1,.slice s2 x2.length t2,.slice s3 x3.length t3,.slice s4 x4.length t4,.slice s5 x5.length t5,.slice s6 x6.length t6,.int .i64 z7,.int .i64 z8,.slice s9 x9.length t9,.slice s10 x10.length t10] [.row x0,.row x1,.row x2,.row x3,.row x4,.row x5,.row x6,.int z7,.int z8,.row x9,.row x10] (Btw (w.heap.size+3) w2.heap.size):=(OFs.app n0 (OFs.app n7 (show OFs _ [] [] _ from trivial) (by omega) (by omega)) (by omega) (by omega))
  refine (key.moved (fun b hb' _ => ?_)).mono (fun b hb'=>⟨by have:=hb'.1; omega,by have:=hb'.2; simpa using this⟩)
  have e1:∀ (j:Nat) (u:Value) (W:World),(W.setCell ⟨w.heap.size+1,j,none⟩ u).heap[b]? = W.heap[b]? := fun j u W=>Below.heap_setCell W _ u b (by have:=hb'.1; simp; omega)
  have e2:∀ (j:Nat) (u:Value) (W:World),(W.setCell ⟨w.heap.size+1+1,j,none⟩ u).heap[b]? = W.heap[b]? := fun j u W=>Below.heap_setCell W _ u b (by have:=hb'.1; simp; omega)
  simp only [e1,e2]
 ·iterate 15 refine Below.setCell ?_ (by simp; try omega) _
  exact HF.out.1
end Go.Proofs.YtmmadoabejgffaaGreatDoor
