/-
  Proofs.
-/
import Derived.Test.YtmmadoabejgffaaGreatDoorA
import Derived.Test.YtmmadoabejgffaaGreatDoorD
import Derived.Test.YtmmadoabejgffaaGreatDoorKA
namespace Go.Proofs.YtmmadoabejgffaaGreatDoor
open Go.RowKit Go.Joins
set_option maxRecDepth 100000
set_option maxHeartbeats 51200000
theorem markMachine_dt:MkC 24 MachineR:=by
 rintro vs r X w k ⟨x0,x1,x2,x3,x4,x5,x6,rfl,q0,q1,q2,q3,q4,q5,q6⟩ h h0 hb
 have hat:=h.at
 obtain ⟨v0,v1,v2,v3,v4,v5,v6,rfl,a0,a1,a2,a3,a4,a5,a6⟩:=fs7 hat
 obtain ⟨p0,c0,rfl⟩:=a0.form
 obtain ⟨p1,c1,rfl⟩:=a1.form
 obtain ⟨p2,c2,rfl⟩:=a2.form
 obtain ⟨p3,c3,rfl⟩:=a3.form
 obtain ⟨p4,c4,rfl⟩:=a4.form
 obtain ⟨p5,c5,rfl⟩:=a5.form
 obtain ⟨p6,c6,rfl⟩:=a6.form
 rw [show tcnt [.row x0,.row x1,.row x2,.row x3,.row x4,.row x5,.row x6]=Dt.cS x0+Dt.cS x1+Dt.cS x2+Dt.cS x3+Dt.cS x4+Dt.cS x5+Dt.cS x6 from by simp [tcnt]; try omega] at hb ⊢
 rw [show tmk [.row x0,.row x1,.row x2,.row x3,.row x4,.row x5,.row x6] k=[.row (Dt.mkS x0 (k)),.row (Dt.mkS x1 (k+(Dt.cS x0:Int))),.row (Dt.mkS x2 (k+(Dt.cS x0:Int)+(Dt.cS x1:Int))),.row (Dt.mkS x3 (k+(Dt.cS x0:Int)+(Dt.cS x1:Int)+(Dt.cS x2:Int))),.row (Dt.mkS x4 (k+(Dt.cS x0:Int)+(Dt.cS x1:Int)+(Dt.cS x2:Int)+(Dt.cS x3:Int))),.row (Dt.mkS x5 (k+(Dt.cS x0:Int)+(Dt.cS x1:Int)+(Dt.cS x2:Int)+(Dt.cS x3:Int)+(Dt.cS x4:Int))),.row (Dt.mkS x6 (k+(Dt.cS x0:Int)+(Dt.cS x1:Int)+(Dt.cS x2:Int)+(Dt.cS x3:Int)+(Dt.cS x4:Int)+(Dt.cS x5:Int)))] from rfl]
 clear hat a0 a1 a2 a3 a4 a5 a6
 have h:=h.dom
 obtain ⟨X',hX'⟩:∃ X':Nat→Prop,X'=fun b=>X b∧b<w.heap.size:=⟨_,rfl⟩
 rw [← hX'] at h
 have HN:Hid (¬ X' w.heap.size∧∀ b,X' b→X b):=by rw [hX']; exact ⟨fun hx=>Nat.lt_irrefl _ hx.2,fun b hx=>hx.1⟩
 clear hX'
 obtain ⟨Z0,R0,zz0,r0,d0,o0,h⟩:=OFs.split (vs:=[.slice p0 x0.length c0,.slice p1 x1.length c1]) (us:=[.slice p2 x2.length c2,.slice p3 x3.length c3,.slice p4 x4.length c4,.slice p5 x5.length c5,.slice p6 x6.length c6]) (ds:=[.row x0,.row x1]) (es:=[.row x2,.row x3,.row x4,.row x5,.row x6]) rfl h
 obtain ⟨Z1,R1,zz1,r1,d1,o1,h⟩:=h
 obtain ⟨Z2,R2,zz2,r2,d2,o2,h⟩:=h
 obtain ⟨Z3,R3,zz3,r3,d3,o3,h⟩:=h
 obtain ⟨Z4,R4,zz4,r4,d4,o4,h⟩:=h
 obtain ⟨Z5,R5,zz5,r5,d5,o5,h⟩:=h
 have B0:Below w.heap.size w (w.alloc (.cells #[.slice p0 x0.length c0,.slice p1 x1.length c1,.slice p2 x2.length c2,.slice p3 x3.length c3,.slice p4 x4.length c4,.slice p5 x5.length c5,.slice p6 x6.length c6] 45)):=(Below.refl _ w).alloc (Nat.le_refl _) _
 have O0:(w.alloc (.cells #[.slice p0 x0.length c0,.slice p1 x1.length c1,.slice p2 x2.length c2,.slice p3 x3.length c3,.slice p4 x4.length c4,.slice p5 x5.length c5,.slice p6 x6.length c6] 45)).heap[w.heap.size]? = some (.cells #[.slice p0 x0.length c0,.slice p1 x1.length c1,.slice p2 x2.length c2,.slice p3 x3.length c3,.slice p4 x4.length c4,.slice p5 x5.length c5,.slice p6 x6.length c6] 45):=(MapKept.heap_alloc w _).1
 have o0:=OFs.up o0 B0
 have o1:=Own.up o1 B0
 have o2:=Own.up o2 B0
 have o3:=Own.up o3 B0
 have o4:=Own.up o4 B0
 have o5:=Own.up o5 B0
 have KB0:KB X' w (w.alloc (.cells #[.slice p0 x0.length c0,.slice p1 x1.length c1,.slice p2 x2.length c2,.slice p3 x3.length c3,.slice p4 x4.length c4,.slice p5 x5.length c5,.slice p6 x6.length c6] 45)):=KB.of_below B0
 have HS:=(show Hid (_∧_∧_∧_∧_∧_∧_∧_∧_) from ⟨O0,KB0,o0,o1,o2,o3,o4,o5,trivial⟩)
 have HT:=(show Hid (_∧_∧_∧_∧_∧_∧_∧_∧_∧_∧_∧_∧_∧_∧_∧_∧_∧_∧_) from ⟨zz0,r0,d0,zz1,r1,d1,zz2,r2,d2,zz3,r3,d3,zz4,r4,d4,zz5,r5,d5,h⟩)
 clear B0 O0 KB0 h o0 zz0 r0 d0 o1 zz1 r1 d1 o2 zz2 r2 d2 o3 zz3 r3 d3 o4 zz4 r4 d4 o5 zz5 r5 d5
 go_enter Tryz.func24,Tryz.ntmps24
 go_wp2_with fail
 refine (markTable_dt [.slice p0 x0.length c0,.slice p1 x1.length c1] [.row x0,.row x1] Z0 _ _ ⟨_,_,rfl,q0,q1⟩ HS.out.2.2.1 (by omega) (by rw [show tcnt [.row x0,.row x1]=Dt.cS x0+Dt.cS x1 from by simp [tcnt]; try omega]; omega)).mono ?_
 rintro e w1 ⟨rfl,n0,kb⟩
 rw [show tcnt [.row x0,.row x1]=Dt.cS x0+Dt.cS x1 from by simp [tcnt]; try omega]
 rw [show k+((Dt.cS x0+Dt.cS x1:Nat):Int)=k+(Dt.cS x0:Int)+(Dt.cS x1:Int) from by omega]
 obtain ⟨O0,KB0,o0,o1,o2,o3,o4,o5,-⟩:=HS.out
 obtain ⟨zz0,r0,d0,zz1,r1,d1,zz2,r2,d2,zz3,r3,d3,zz4,r4,d4,zz5,r5,d5,hE⟩:=HT.out
 have hzx:∀ b,Z0 b→X' b:=fun b hb=>(zz0 b hb)
 have o1:=Own.moved o1 (fun b hb hlt=>kb.block b hlt (fun hy=>d0 b hy (zz1 b hb)))
 have o2:=Own.moved o2 (fun b hb hlt=>kb.block b hlt (fun hy=>d0 b hy (r1 b (zz2 b hb))))
 have o3:=Own.moved o3 (fun b hb hlt=>kb.block b hlt (fun hy=>d0 b hy (r1 b (r2 b (zz3 b hb)))))
 have o4:=Own.moved o4 (fun b hb hlt=>kb.block b hlt (fun hy=>d0 b hy (r1 b (r2 b (r3 b (zz4 b hb))))))
 have o5:=Own.moved o5 (fun b hb hlt=>kb.block b hlt (fun hy=>d0 b hy (r1 b (r2 b (r3 b (r4 b (zz5 b hb)))))))
 have o0:=n0
 clear n0
 have O0:=(kb.block _ (lh O0) (fun hy=>HN.out.1 (hzx _ hy))).trans O0
 have KB0:=KB0.trans (kb.more (fun b _ hy=>hzx b hy))
 have y2:=cb O0 2 (.slice p2 x2.length c2) rfl
 have y3:=cb O0 3 (.slice p3 x3.length c3) rfl
 have y4:=cb O0 4 (.slice p4 x4.length c4) rfl
 have y5:=cb O0 5 (.slice p5 x5.length c5) rfl
 have y6:=cb O0 6 (.slice p6 x6.length c6) rfl
 have HU:=(show Hid (_∧_∧_∧_∧_∧_∧_∧_∧_) from ⟨O0,KB0,o0,o1,o2,o3,o4,o5,trivial⟩)
 clear HS kb hzx O0 KB0 hE o0 zz0 r0 d0 o1 zz1 r1 d1 o2 zz2 r2 d2 o3 zz3 r3 d3 o4 zz4 r4 d4 o5 zz5 r5 d5
 have HS:=HU
 clear HU
 go_wp2_with fail
 refine (markCellS_dt _ x2 Z1 _ _ q2 HS.out.2.2.2.1 (by omega) (by omega)).mono ?_
 rintro e w2 ⟨rfl,n1,kb⟩
 obtain ⟨O0,KB0,o0,o1,o2,o3,o4,o5,-⟩:=HS.out
 obtain ⟨zz0,r0,d0,zz1,r1,d1,zz2,r2,d2,zz3,r3,d3,zz4,r4,d4,zz5,r5,d5,hE⟩:=HT.out
 have hzx:∀ b,Z1 b→X' b:=fun b hb=>(r0 b (zz1 b hb))
 have o0:=OFs.moved o0 (fun b hb hlt=>kb.block b hlt (fun hy=>d0 b hb (zz1 b hy)))
 have o2:=Own.moved o2 (fun b hb hlt=>kb.block b hlt (fun hy=>d1 b hy (zz2 b hb)))
 have o3:=Own.moved o3 (fun b hb hlt=>kb.block b hlt (fun hy=>d1 b hy (r2 b (zz3 b hb))))
 have o4:=Own.moved o4 (fun b hb hlt=>kb.block b hlt (fun hy=>d1 b hy (r2 b (r3 b (zz4 b hb)))))
 have o5:=Own.moved o5 (fun b hb hlt=>kb.block b hlt (fun hy=>d1 b hy (r2 b (r3 b (r4 b (zz5 b hb))))))
 have o1:=n1
 clear n1
 have O0:=(kb.block _ (lh O0) (fun hy=>HN.out.1 (hzx _ hy))).trans O0
 have KB0:=KB0.trans (kb.more (fun b _ hy=>hzx b hy))
 clear y2 y3 y4 y5 y6
 have y3:=cb O0 3 (.slice p3 x3.length c3) rfl
 have y4:=cb O0 4 (.slice p4 x4.length c4) rfl
 have y5:=cb O0 5 (.slice p5 x5.length c5) rfl
 have y6:=cb O0 6 (.slice p6 x6.length c6) rfl
 have HU:=(show Hid (_∧_∧_∧_∧_∧_∧_∧_∧_) from ⟨O0,KB0,o0,o1,o2,o3,o4,o5,trivial⟩)
 clear HS kb hzx O0 KB0 hE o0 zz0 r0 d0 o1 zz1 r1 d1 o2 zz2 r2 d2 o3 zz3 r3 d3 o4 zz4 r4 d4 o5 zz5 r5 d5
 have HS:=HU
 clear HU
 go_wp2_with fail
 refine (markThreadS_dt _ x3 Z2 _ _ q3 HS.out.2.2.2.2.1 (by omega) (by omega)).mono ?_
 rintro e w3 ⟨rfl,n2,kb⟩
 obtain ⟨O0,KB0,o0,o1,o2,o3,o4,o5,-⟩:=HS.out
 obtain ⟨zz0,r0,d0,zz1,r1,d1,zz2,r2,d2,zz3,r3,d3,zz4,r4,d4,zz5,r5,d5,hE⟩:=HT.out
 have hzx:∀ b,Z2 b→X' b:=fun b hb=>(r0 b (r1 b (zz2 b hb)))
 have o0:=OFs.moved o0 (fun b hb hlt=>kb.block b hlt (fun hy=>d0 b hb (r1 b (zz2 b hy))))
 have o1:=Own.moved o1 (fun b hb hlt=>kb.block b hlt (fun hy=>d1 b hb (zz2 b hy)))
 have o3:=Own.moved o3 (fun b hb hlt=>kb.block b hlt (fun hy=>d2 b hy (zz3 b hb)))
 have o4:=Own.moved o4 (fun b hb hlt=>kb.block b hlt (fun hy=>d2 b hy (r3 b (zz4 b hb))))
 have o5:=Own.moved o5 (fun b hb hlt=>kb.block b hlt (fun hy=>d2 b hy (r3 b (r4 b (zz5 b hb)))))
 have o2:=n2
 clear n2
 have O0:=(kb.block _ (lh O0) (fun hy=>HN.out.1 (hzx _ hy))).trans O0
 have KB0:=KB0.trans (kb.more (fun b _ hy=>hzx b hy))
 clear y3 y4 y5 y6
 have y4:=cb O0 4 (.slice p4 x4.length c4) rfl
 have y5:=cb O0 5 (.slice p5 x5.length c5) rfl
 have y6:=cb O0 6 (.slice p6 x6.length c6) rfl
 have HU:=(show Hid (_∧_∧_∧_∧_∧_∧_∧_∧_) from ⟨O0,KB0,o0,o1,o2,o3,o4,o5,trivial⟩)
 clear HS kb hzx O0 KB0 hE o0 zz0 r0 d0 o1 zz1 r1 d1 o2 zz2 r2 d2 o3 zz3 r3 d3 o4 zz4 r4 d4 o5 zz5 r5 d5
 have HS:=HU
 clear HU
 go_wp2_with fail
 refine (markIntS_dt _ x4 Z3 _ _ q4 HS.out.2.2.2.2.2.1 (by omega) (by omega)).mono ?_
 rintro e w4 ⟨rfl,n3,kb⟩
 obtain ⟨O0,KB0,o0,o1,o2,o3,o4,o5,-⟩:=HS.out
 obtain ⟨zz0,r0,d0,zz1,r1,d1,zz2,r2,d2,zz3,r3,d3,zz4,r4,d4,zz5,r5,d5,hE⟩:=HT.out
 have hzx:∀ b,Z3 b→X' b:=fun b hb=>(r0 b (r1 b (r2 b (zz3 b hb))))
 have o0:=OFs.moved o0 (fun b hb hlt=>kb.block b hlt (fun hy=>d0 b hb (r1 b (r2 b (zz3 b hy)))))
 have o1:=Own.moved o1 (fun b hb hlt=>kb.block b hlt (fun hy=>d1 b hb (r2 b (zz3 b hy))))
 have o2:=Own.moved o2 (fun b hb hlt=>kb.block b hlt (fun hy=>d2 b hb (zz3 b hy)))
 have o4:=Own.moved o4 (fun b hb hlt=>kb.block b hlt (fun hy=>d3 b hy (zz4 b hb)))
 have o5:=Own.moved o5 (fun b hb hlt=>kb.block b hlt (fun hy=>d3 b hy (r4 b (zz5 b hb))))
 have o3:=n3
 clear n3
 have O0:=(kb.block _ (lh O0) (fun hy=>HN.out.1 (hzx _ hy))).trans O0
 have KB0:=KB0.trans (kb.more (fun b _ hy=>hzx b hy))
 clear y4 y5 y6
 have y5:=cb O0 5 (.slice p5 x5.length c5) rfl
 have y6:=cb O0 6 (.slice p6 x6.length c6) rfl
 have HU:=(show Hid (_∧_∧_∧_∧_∧_∧_∧_∧_) from ⟨O0,KB0,o0,o1,o2,o3,o4,o5,trivial⟩)
 clear HS kb hzx O0 KB0 hE o0 zz0 r0 d0 o1 zz1 r1 d1 o2 zz2 r2 d2 o3 zz3 r3 d3 o4 zz4 r4 d4 o5 zz5 r5 d5
 have HS:=HU
 clear HU
 go_wp2_with fail
 refine (markIntS_dt _ x5 Z4 _ _ q5 HS.out.2.2.2.2.2.2.1 (by omega) (by omega)).mono ?_
 rintro e w5 ⟨rfl,n4,kb⟩
 obtain ⟨O0,KB0,o0,o1,o2,o3,o4,o5,-⟩:=HS.out
 obtain ⟨zz0,r0,d0,zz1,r1,d1,zz2,r2,d2,zz3,r3,d3,zz4,r4,d4,zz5,r5,d5,hE⟩:=HT.out
 have hzx:∀ b,Z4 b→X' b:=fun b hb=>(r0 b (r1 b (r2 b (r3 b (zz4 b hb)))))
 have o0:=OFs.moved o0 (fun b hb hlt=>kb.block b hlt (fun hy=>d0 b hb (r1 b (r2 b (r3 b (zz4 b hy))))))
 have o1:=Own.moved o1 (fun b hb hlt=>kb.block b hlt (fun hy=>d1 b hb (r2 b (r3 b (zz4 b hy)))))
 have o2:=Own.moved o2 (fun b hb hlt=>kb.block b hlt (fun hy=>d2 b hb (r3 b (zz4 b hy))))
 have o3:=Own.moved o3 (fun b hb hlt=>kb.block b hlt (fun hy=>d3 b hb (zz4 b hy)))
 have o5:=Own.moved o5 (fun b hb hlt=>kb.block b hlt (fun hy=>d4 b hy (zz5 b hb)))
 have o4:=n4
 clear n4
 have O0:=(kb.block _ (lh O0) (fun hy=>HN.out.1 (hzx _ hy))).trans O0
 have KB0:=KB0.trans (kb.more (fun b _ hy=>hzx b hy))
 clear y5 y6
 have y6:=cb O0 6 (.slice p6 x6.length c6) rfl
 have HU:=(show Hid (_∧_∧_∧_∧_∧_∧_∧_∧_) from ⟨O0,KB0,o0,o1,o2,o3,o4,o5,trivial⟩)
 clear HS kb hzx O0 KB0 hE o0 zz0 r0 d0 o1 zz1 r1 d1 o2 zz2 r2 d2 o3 zz3 r3 d3 o4 zz4 r4 d4 o5 zz5 r5 d5
 have HS:=HU
 clear HU
 go_wp2_with fail
 refine (markMsgS_dt _ x6 Z5 _ _ q6 HS.out.2.2.2.2.2.2.2.1 (by omega) (by omega)).mono ?_
 rintro e w6 ⟨rfl,n5,kb⟩
 obtain ⟨O0,KB0,o0,o1,o2,o3,o4,o5,-⟩:=HS.out
 obtain ⟨zz0,r0,d0,zz1,r1,d1,zz2,r2,d2,zz3,r3,d3,zz4,r4,d4,zz5,r5,d5,hE⟩:=HT.out
 have hzx:∀ b,Z5 b→X' b:=fun b hb=>(r0 b (r1 b (r2 b (r3 b (r4 b (zz5 b hb))))))
 have o0:=OFs.moved o0 (fun b hb hlt=>kb.block b hlt (fun hy=>d0 b hb (r1 b (r2 b (r3 b (r4 b (zz5 b hy)))))))
 have o1:=Own.moved o1 (fun b hb hlt=>kb.block b hlt (fun hy=>d1 b hb (r2 b (r3 b (r4 b (zz5 b hy))))))
 have o2:=Own.moved o2 (fun b hb hlt=>kb.block b hlt (fun hy=>d2 b hb (r3 b (r4 b (zz5 b hy)))))
 have o3:=Own.moved o3 (fun b hb hlt=>kb.block b hlt (fun hy=>d3 b hb (r4 b (zz5 b hy))))
 have o4:=Own.moved o4 (fun b hb hlt=>kb.block b hlt (fun hy=>d4 b hb (zz5 b hy)))
 have o5:=n5
 clear n5
 have O0:=(kb.block _ (lh O0) (fun hy=>HN.out.1 (hzx _ hy))).trans O0
 have KB0:=KB0.trans (kb.more (fun b _ hy=>hzx b hy))
 clear y6
 have HU:=(show Hid (_∧_∧_∧_∧_∧_∧_∧_∧_) from ⟨O0,KB0,o0,o1,o2,o3,o4,o5,trivial⟩)
 clear HS kb hzx O0 KB0 hE o0 zz0 r0 d0 o1 zz1 r1 d1 o2 zz2 r2 d2 o3 zz3 r3 d3 o4 zz4 r4 d4 o5 zz5 r5 d5
 have HS:=HU
 clear HU
 go_wp2
 go_ret
 obtain ⟨O0,KB0,o0,o1,o2,o3,o4,o5,-⟩:=HS.out
 obtain ⟨zz0,r0,d0,zz1,r1,d1,zz2,r2,d2,zz3,r3,d3,zz4,r4,d4,zz5,r5,d5,hE⟩:=HT.out
 have hfin:OFs _ [.slice p0 x0.length c0,.slice p1 x1.length c1,.slice p2 x2.length c2,.slice p3 x3.length c3,.slice p4 x4.length c4,.slice p5 x5.length c5,.slice p6 x6.length c6] [.row (Dt.mkS x0 (k)),.row (Dt.mkS x1 (k+(Dt.cS x0:Int))),.row (Dt.mkS x2 (k+(Dt.cS x0:Int)+(Dt.cS x1:Int))),.row (Dt.mkS x3 (k+(Dt.cS x0:Int)+(Dt.cS x1:Int)+(Dt.cS x2:Int))),.row (Dt.mkS x4 (k+(Dt.cS x0:Int)+(Dt.cS x1:Int)+(Dt.cS x2:Int)+(Dt.cS x3:Int))),.row (Dt.mkS x5 (k+(Dt.cS x0:Int)+(Dt.cS x1:Int)+(Dt.cS x2:Int)+(Dt.cS x3:Int)+(Dt.cS x4:Int))),.row (Dt.mkS x6 (k+(Dt.cS x0:Int)+(Dt.cS x1:Int)+(Dt.cS x2:Int)+(Dt.cS x3:Int)+(Dt.cS x4:Int)+(Dt.cS x5:Int)))] X':=(OFs.join (vs:=[.slice p0 x0.length c0,.slice p1 x1.length c1]) (ds:=[.row (Dt.mkS x0 (k)),.row (Dt.mkS x1 (k+(Dt.cS x0:Int)))]) zz0 r0 d0 o0 ⟨Z1,R1,zz1,r1,d1,o1,⟨Z2,R2,zz2,r2,d2,o2,⟨Z3,R3,zz3,r3,d3,o3,⟨Z4,R4,zz4,r4,d4,o4,⟨Z5,R5,zz5,r5,d5,o5,hE⟩⟩⟩⟩⟩)
 exact ⟨int_ret (by omega),hfin.mono HN.out.2,KB0.more (fun b _ hb=>HN.out.2 b hb)⟩
theorem markSentS_dt:MkSl 65 SentR:=by
 intro v xs X w k0 hP h h0 hb
 rw [cntS_eq] at hb ⊢
 have hL:=preC_le xs
 have hl:=h.at.len
 unfold maxLen at hl
 obtain ⟨a,cap,rfl⟩:=h.form
 have HC:Hid (AllR SentR xs):=hP
 have HO:Hid (Own w (.slice a xs.length cap) (.row (mids xs k0 0)) X):=h
 clear h hP
 go_enter Tryz.func65,Tryz.ntmps65
 go_wp2
 go_loopw [1,5] (fun kv i wr=>∃ j:Nat,j≤xs.length∧i = .int .i64 j∧kv = .int .i64 (k0+(preC xs j:Int))∧Hid (Own wr (.slice a xs.length cap) (.row (mids xs k0 j)) X)∧Hid (KB X w wr)) (fun _ i _=>xs.length - (intOf i).toNat)
 case atStart=>exact ⟨0,Nat.zero_le _,rfl,by simp [preC],HO,KB.refl _ _⟩
 case round =>
  clear HO
  obtain ⟨k,hk,rfl,rfl,HO,HKB⟩:=hrel
  by_cases hkl:k<xs.length
  ·have he:=List.getElem?_eq_getElem hkl
   have hps:=preC_succ he
   have hpk:=hL (k+1)
   generalize xs[k]=r at *
   obtain ⟨z0,z1,b2,rfl⟩:=HC.out k r he
   have hsh:=mids_succ k0 he
   have hM:=(mids_later xs k0 k k (Nat.le_refl _)).trans he
   have hkM:k<(mids xs k0 k).length:=by rw [mids_len]; exact hkl
   rw [show Dt.cntR [.int z0,.int z1,.str b2]=1+1+1 from by simp [Dt.cntR,Dt.cnt]; try omega] at hps
   obtain ⟨K,hK⟩:∃ K:Int,K=k0+(preC xs k:Int):=⟨_,rfl⟩
   rw [← hK] at hsh ⊢
   have hKb:0≤K∧K+((1+1+1:Nat):Int)≤100000000:=by omega
   have hO:=HO.out
   have hKB:=HKB.out
   obtain ⟨M,hMe⟩:∃ M,M=mids xs k0 k:=⟨_,rfl⟩
   rw [← hMe] at hsh hM hO hkM
   have hfin:∀ W:World,Own W (.slice a xs.length cap) (.row (M.set k [.int (K),.int (K+1),.str (markT (K+1+1))])) X→Own W (.slice a xs.length cap) (.row (mids xs k0 (k+1))) X:=fun W hW=>by rw [hsh]; exact hW
   have HK:Hid (K=k0+(preC xs k:Int)):=hK
   have hlt':((k:Nat):Int)<((xs.length:Nat):Int):=by omega
   clear HO HKB hK hMe hsh HC he
   obtain ⟨g0,off,hg0,hX0,cur,te,hblk⟩:=Own.head hO hM
   obtain rfl:=hg0
   have hXg:=hX0
   clear hX0
   obtain ⟨u0,Y0,c0',f0',o0,-,-,-⟩:=Own.slotAt hO hM (j:=0) rfl
   have c0:wr.cell? ⟨g0,off+k * 3,none⟩=some u0:=c0'
   have f0:wr.frozen? ⟨g0,off+k * 3,none⟩=false:=f0'
   clear c0' f0' o0
   obtain ⟨u1,Y1,c1',f1',o1,-,-,-⟩:=Own.slotAt hO hM (j:=1) rfl
   have c1:wr.cell? ⟨g0,off+k * 3+1,none⟩=some u1:=c1'
   have f1:wr.frozen? ⟨g0,off+k * 3+1,none⟩=false:=f1'
   clear c1' f1' o1
   obtain ⟨_,_,-,-,-,-,pt,-⟩:=Own.slotAt hO hM (j:=0) rfl
   have h1:Own (wr.setCell ⟨g0,off+k * 3,none⟩ (.int .i64 (K))) (.slice (some ⟨g0,off,none⟩) xs.length cap) (.row (M.set k [.int (K),.int z1,.str b2])) X:=by have:=pt (.int .i64 (K)) (.int (K)) (fun _ => .int _ ⟨by omega,by omega⟩ _); exact this
   have hM1:(M.set k [.int (K),.int z1,.str b2])[k]? = some [.int (K),.int z1,.str b2]:=List.getElem?_set_self hkM
   have kb1:KB X w (wr.setCell ⟨g0,off+k * 3,none⟩ (.int .i64 (K))):=hKB.setCell (p:=⟨g0,off+k * 3,none⟩) hXg _
   obtain ⟨_,_,-,-,-,-,pt,-⟩:=Own.slotAt h1 hM1 (j:=1) rfl
   have h2:Own ((wr.setCell ⟨g0,off+k * 3,none⟩ (.int .i64 (K))).setCell ⟨g0,off+k * 3+1,none⟩ (.int .i64 (K+1))) (.slice (some ⟨g0,off,none⟩) xs.length cap) (.row (M.set k [.int (K),.int (K+1),.str b2])) X:=by have:=pt (.int .i64 (K+1)) (.int (K+1)) (fun _ => .int _ ⟨by omega,by omega⟩ _); rw [List.set_set] at this; exact this
   have hM2:(M.set k [.int (K),.int (K+1),.str b2])[k]? = some [.int (K),.int (K+1),.str b2]:=List.getElem?_set_self hkM
   have kb2:KB X w ((wr.setCell ⟨g0,off+k * 3,none⟩ (.int .i64 (K))).setCell ⟨g0,off+k * 3+1,none⟩ (.int .i64 (K+1))):=kb1.setCell (p:=⟨g0,off+k * 3+1,none⟩) hXg _
   have HX1:=(show Hid (_∧_) from ⟨h2,kb2⟩)
   clear hblk pt h1 hM1 kb1 h2 hM2 kb2 hO hKB
   go_wp2_with fail
   refine (markText_any _ _ (by omega)).mono ?_
   rintro e w1 ⟨rfl,b1⟩
   have g_1:=HX1.out.1.up b1
   have gM_1:(M.set k [.int (K),.int (K+1),.str b2])[k]? = some [.int (K),.int (K+1),.str b2]:=List.getElem?_set_self hkM
   have gk_1:KB X w w1:=HX1.out.2.trans (KB.of_below b1)
   clear b1 HX1 c0 f0 c1 f1
   obtain ⟨g1,off1,hg1,hX1,cur,te,hblk⟩:=Own.head g_1 gM_1
   obtain ⟨rfl,rfl⟩:g0=g1∧off=off1:=by simpa using hg1
   clear hX1 hg1
   obtain ⟨u2,Y2,c2',f2',o2,-,-,-⟩:=Own.slotAt g_1 gM_1 (j:=2) rfl
   have c2:w1.cell? ⟨g0,off+k * 3+2,none⟩=some u2:=c2'
   have f2:w1.frozen? ⟨g0,off+k * 3+2,none⟩=false:=f2'
   clear c2' f2' o2
   obtain ⟨_,_,-,-,-,-,pt,-⟩:=Own.slotAt g_1 gM_1 (j:=2) rfl
   have h3:Own (w1.setCell ⟨g0,off+k * 3+2,none⟩ (.string (markT (K+1+1)))) (.slice (some ⟨g0,off,none⟩) xs.length cap) (.row (M.set k [.int (K),.int (K+1),.str (markT (K+1+1))])) X:=by have:=pt (.string (markT (K+1+1))) (.str (markT (K+1+1))) (fun _ => .str _ (markT_len _ (by omega)) _); rw [List.set_set] at this; exact this
   have hM3:(M.set k [.int (K),.int (K+1),.str (markT (K+1+1))])[k]? = some [.int (K),.int (K+1),.str (markT (K+1+1))]:=List.getElem?_set_self hkM
   have kb3:KB X w (w1.setCell ⟨g0,off+k * 3+2,none⟩ (.string (markT (K+1+1)))):=gk_1.setCell (p:=⟨g0,off+k * 3+2,none⟩) hXg _
   have HX2:=(show Hid (_∧_) from ⟨hfin _ h3,kb3⟩)
   clear hfin hblk pt h3 hM3 kb3 g_1 gk_1 gM_1
   go_wp2
   refine ⟨⟨k+1,by omega,by go_num,int_val (by have:=HK.out; omega),HX2.out.1,HX2.out.2⟩,by simp [intOf]; omega⟩
  ·obtain rfl:k=xs.length:=by omega
   have HF:=(show Hid (_∧_) from ⟨HO.out,HKB.out⟩)
   clear HO HKB HC
   go_wp2
   go_ret
   exact ⟨rfl,by rw [← mids_all]; exact HF.out.1,HF.out.2⟩
theorem markSeenS_dt:MkSl 66 SeenR:=by
 intro v xs X w k0 hP h h0 hb
 rw [cntS_eq] at hb ⊢
 have hL:=preC_le xs
 have hl:=h.at.len
 unfold maxLen at hl
 obtain ⟨a,cap,rfl⟩:=h.form
 have HC:Hid (AllR SeenR xs):=hP
 have HO:Hid (Own w (.slice a xs.length cap) (.row (mids xs k0 0)) X):=h
 clear h hP
 go_enter Tryz.func66,Tryz.ntmps66
 go_wp2
 go_loopw [1,5] (fun kv i wr=>∃ j:Nat,j≤xs.length∧i = .int .i64 j∧kv = .int .i64 (k0+(preC xs j:Int))∧Hid (Own wr (.slice a xs.length cap) (.row (mids xs k0 j)) X)∧Hid (KB X w wr)) (fun _ i _=>xs.length - (intOf i).toNat)
 case atStart=>exact ⟨0,Nat.zero_le _,rfl,by simp [preC],HO,KB.refl _ _⟩
 case round =>
  clear HO
  obtain ⟨k,hk,rfl,rfl,HO,HKB⟩:=hrel
  by_cases hkl:k<xs.length
  ·have he:=List.getElem?_eq_getElem hkl
   have hps:=preC_succ he
   have hpk:=hL (k+1)
   generalize xs[k]=r at *
   obtain ⟨z0,x1,rfl,q1⟩:=HC.out k r he
   have hsh:=mids_succ k0 he
   have hM:=(mids_later xs k0 k k (Nat.le_refl _)).trans he
   have hkM:k<(mids xs k0 k).length:=by rw [mids_len]; exact hkl
   rw [show Dt.cntR [.int z0,.row x1]=1+Dt.cS x1 from by simp [Dt.cntR,Dt.cnt]; try omega] at hps
   obtain ⟨K,hK⟩:∃ K:Int,K=k0+(preC xs k:Int):=⟨_,rfl⟩
   rw [← hK] at hsh ⊢
   have hKb:0≤K∧K+((1+Dt.cS x1:Nat):Int)≤100000000:=by omega
   have hO:=HO.out
   have hKB:=HKB.out
   obtain ⟨M,hMe⟩:∃ M,M=mids xs k0 k:=⟨_,rfl⟩
   rw [← hMe] at hsh hM hO hkM
   have hfin:∀ W:World,Own W (.slice a xs.length cap) (.row (M.set k [.int (K),.row (Dt.mkS x1 (K+1))])) X→Own W (.slice a xs.length cap) (.row (mids xs k0 (k+1))) X:=fun W hW=>by rw [hsh]; exact hW
   have HK:Hid (K=k0+(preC xs k:Int)):=hK
   have hlt':((k:Nat):Int)<((xs.length:Nat):Int):=by omega
   clear HO HKB hK hMe hsh HC he
   obtain ⟨g0,off,hg0,hX0,cur,te,hblk⟩:=Own.head hO hM
   obtain rfl:=hg0
   have hXg:=hX0
   clear hX0
   obtain ⟨u0,Y0,c0',f0',o0,-,-,-⟩:=Own.slotAt hO hM (j:=0) rfl
   have c0:wr.cell? ⟨g0,off+k * 2,none⟩=some u0:=c0'
   have f0:wr.frozen? ⟨g0,off+k * 2,none⟩=false:=f0'
   clear c0' f0' o0
   obtain ⟨u1,Y1,c1',f1',o1,-,-,-⟩:=Own.slotAt hO hM (j:=1) rfl
   have c1:wr.cell? ⟨g0,off+k * 2+1,none⟩=some u1:=c1'
   have f1:wr.frozen? ⟨g0,off+k * 2+1,none⟩=false:=f1'
   obtain ⟨s1,t1,rfl⟩:=o1.form
   clear c1' f1' o1
   obtain ⟨_,_,-,-,-,-,pt,-⟩:=Own.slotAt hO hM (j:=0) rfl
   have h1:Own (wr.setCell ⟨g0,off+k * 2,none⟩ (.int .i64 (K))) (.slice (some ⟨g0,off,none⟩) xs.length cap) (.row (M.set k [.int (K),.row x1])) X:=by have:=pt (.int .i64 (K)) (.int (K)) (fun _ => .int _ ⟨by omega,by omega⟩ _); exact this
   have hM1:(M.set k [.int (K),.row x1])[k]? = some [.int (K),.row x1]:=List.getElem?_set_self hkM
   have kb1:KB X w (wr.setCell ⟨g0,off+k * 2,none⟩ (.int .i64 (K))):=hKB.setCell (p:=⟨g0,off+k * 2,none⟩) hXg _
   obtain ⟨u',Y',c',-,o',ys',-,kd⟩:=Own.slotAt h1 hM1 (j:=1) rfl
   obtain rfl:u' = .slice s1 x1.length t1:=by
    have e1:=c1
    rw [cell_of_block hblk] at e1
    have e2:(wr.setCell ⟨g0,off+k * 2,none⟩ (.int .i64 (K))).cell? ⟨g0,off+k * 2+1,none⟩=some u':=c'
    rw [cell_of_block (block_setCell hblk _),Array.getElem?_setIfInBounds_ne (by omega),e1] at e2
    exact (Option.some.inj e2).symm
   have HX1:=(show Hid (_∧_∧_∧_) from ⟨o',ys',kd,kb1⟩)
   clear c' o' ys' kd hblk pt h1 hM1 kb1 hO hKB
   go_wp2_with fail
   refine (markIntS_dt _ x1 Y' _ _ q1 HX1.out.1 (by omega) (by omega)).mono ?_
   rintro e w1 ⟨rfl,o1,kb1⟩
   have g_1:Own w1 (.slice (some ⟨g0,off,none⟩) xs.length cap) (.row (M.set k [.int (K),.row (Dt.mkS x1 (K+1))])) X:=by have:=HX1.out.2.2.1 w1 (.row (Dt.mkS x1 (K+1))) kb1 o1; rw [List.set_set] at this; exact this
   have gM_1:(M.set k [.int (K),.row (Dt.mkS x1 (K+1))])[k]? = some [.int (K),.row (Dt.mkS x1 (K+1))]:=List.getElem?_set_self hkM
   have gk_1:KB X w w1:=HX1.out.2.2.2.trans (kb1.more (fun b _ hy=>(HX1.out.2.1 b hy).1))
   clear o1 kb1 HX1 c0 f0 c1 f1
   have HX:=(show Hid (_∧_) from ⟨hfin _ g_1,gk_1⟩)
   clear hfin g_1 gk_1 gM_1
   go_wp2
   refine ⟨⟨k+1,by omega,by go_num,int_val (by have:=HK.out; omega),HX.out.1,HX.out.2⟩,by simp [intOf]; omega⟩
  ·obtain rfl:k=xs.length:=by omega
   have HF:=(show Hid (_∧_) from ⟨HO.out,HKB.out⟩)
   clear HO HKB HC
   go_wp2
   go_ret
   exact ⟨rfl,by rw [← mids_all]; exact HF.out.1,HF.out.2⟩
theorem markLink_dt:MkC 25 LinkR:=by
 rintro vs r X w k ⟨z0,z1,x2,x3,rfl,q2,q3⟩ h h0 hb
 have hat:=h.at
 obtain ⟨v0,v1,v2,v3,rfl,a0,a1,a2,a3⟩:=fs4 hat
 obtain ⟨rfl,ia0⟩:=a0.ofInt
 obtain ⟨rfl,ia1⟩:=a1.ofInt
 obtain ⟨p2,c2,rfl⟩:=a2.form
 obtain ⟨p3,c3,rfl⟩:=a3.form
 rw [show tcnt [.int z0,.int z1,.row x2,.row x3]=Dt.cS x2+Dt.cS x3 from by simp [tcnt]; try omega] at hb ⊢
 rw [show tmk [.int z0,.int z1,.row x2,.row x3] k=[.int z0,.int z1,.row (Dt.mkS x2 (k)),.row (Dt.mkS x3 (k+(Dt.cS x2:Int)))] from rfl]
 clear hat a0 a1 a2 a3
 have h:=h.dom
 obtain ⟨X',hX'⟩:∃ X':Nat→Prop,X'=fun b=>X b∧b<w.heap.size:=⟨_,rfl⟩
 rw [← hX'] at h
 have HN:Hid (¬ X' w.heap.size∧∀ b,X' b→X b):=by rw [hX']; exact ⟨fun hx=>Nat.lt_irrefl _ hx.2,fun b hx=>hx.1⟩
 clear hX'
 obtain ⟨Z0,R0,zz0,r0,d0,o0,h⟩:=h
 obtain ⟨Z1,R1,zz1,r1,d1,o1,h⟩:=h
 obtain ⟨Z2,R2,zz2,r2,d2,o2,h⟩:=h
 obtain ⟨Z3,R3,zz3,r3,d3,o3,h⟩:=h
 have B0:Below w.heap.size w (w.alloc (.cells #[.int .i64 z0,.int .i64 z1,.slice p2 x2.length c2,.slice p3 x3.length c3] 49)):=(Below.refl _ w).alloc (Nat.le_refl _) _
 have O0:(w.alloc (.cells #[.int .i64 z0,.int .i64 z1,.slice p2 x2.length c2,.slice p3 x3.length c3] 49)).heap[w.heap.size]? = some (.cells #[.int .i64 z0,.int .i64 z1,.slice p2 x2.length c2,.slice p3 x3.length c3] 49):=(MapKept.heap_alloc w _).1
 have o0:=Own.up o0 B0
 have o1:=Own.up o1 B0
 have o2:=Own.up o2 B0
 have o3:=Own.up o3 B0
 have KB0:KB X' w (w.alloc (.cells #[.int .i64 z0,.int .i64 z1,.slice p2 x2.length c2,.slice p3 x3.length c3] 49)):=KB.of_below B0
 have HS:=(show Hid (_∧_∧_∧_∧_∧_∧_) from ⟨O0,KB0,o0,o1,o2,o3,trivial⟩)
 have HT:=(show Hid (_∧_∧_∧_∧_∧_∧_∧_∧_∧_∧_∧_∧_) from ⟨zz0,r0,d0,zz1,r1,d1,zz2,r2,d2,zz3,r3,d3,h⟩)
 clear B0 O0 KB0 h o0 zz0 r0 d0 o1 zz1 r1 d1 o2 zz2 r2 d2 o3 zz3 r3 d3
 go_enter Tryz.func25,Tryz.ntmps25
 go_wp2_with fail
 refine (markSentS_dt _ x2 Z2 _ _ q2 HS.out.2.2.2.2.1 (by omega) (by omega)).mono ?_
 rintro e w1 ⟨rfl,n2,kb⟩
 obtain ⟨O0,KB0,o0,o1,o2,o3,-⟩:=HS.out
 obtain ⟨zz0,r0,d0,zz1,r1,d1,zz2,r2,d2,zz3,r3,d3,hE⟩:=HT.out
 have hzx:∀ b,Z2 b→X' b:=fun b hb=>(r0 b (r1 b (zz2 b hb)))
 have o0:=Own.moved o0 (fun b hb hlt=>kb.block b hlt (fun hy=>d0 b hb (r1 b (zz2 b hy))))
 have o1:=Own.moved o1 (fun b hb hlt=>kb.block b hlt (fun hy=>d1 b hb (zz2 b hy)))
 have o3:=Own.moved o3 (fun b hb hlt=>kb.block b hlt (fun hy=>d2 b hy (zz3 b hb)))
 have o2:=n2
 clear n2
 have O0:=(kb.block _ (lh O0) (fun hy=>HN.out.1 (hzx _ hy))).trans O0
 have KB0:=KB0.trans (kb.more (fun b _ hy=>hzx b hy))
 have y3:=cb O0 3 (.slice p3 x3.length c3) rfl
 have HU:=(show Hid (_∧_∧_∧_∧_∧_∧_) from ⟨O0,KB0,o0,o1,o2,o3,trivial⟩)
 clear HS kb hzx O0 KB0 hE o0 zz0 r0 d0 o1 zz1 r1 d1 o2 zz2 r2 d2 o3 zz3 r3 d3
 have HS:=HU
 clear HU
 go_wp2_with fail
 refine (markSeenS_dt _ x3 Z3 _ _ q3 HS.out.2.2.2.2.2.1 (by omega) (by omega)).mono ?_
 rintro e w2 ⟨rfl,n3,kb⟩
 obtain ⟨O0,KB0,o0,o1,o2,o3,-⟩:=HS.out
 obtain ⟨zz0,r0,d0,zz1,r1,d1,zz2,r2,d2,zz3,r3,d3,hE⟩:=HT.out
 have hzx:∀ b,Z3 b→X' b:=fun b hb=>(r0 b (r1 b (r2 b (zz3 b hb))))
 have o0:=Own.moved o0 (fun b hb hlt=>kb.block b hlt (fun hy=>d0 b hb (r1 b (r2 b (zz3 b hy)))))
 have o1:=Own.moved o1 (fun b hb hlt=>kb.block b hlt (fun hy=>d1 b hb (r2 b (zz3 b hy))))
 have o2:=Own.moved o2 (fun b hb hlt=>kb.block b hlt (fun hy=>d2 b hb (zz3 b hy)))
 have o3:=n3
 clear n3
 have O0:=(kb.block _ (lh O0) (fun hy=>HN.out.1 (hzx _ hy))).trans O0
 have KB0:=KB0.trans (kb.more (fun b _ hy=>hzx b hy))
 clear y3
 have HU:=(show Hid (_∧_∧_∧_∧_∧_∧_) from ⟨O0,KB0,o0,o1,o2,o3,trivial⟩)
 clear HS kb hzx O0 KB0 hE o0 zz0 r0 d0 o1 zz1 r1 d1 o2 zz2 r2 d2 o3 zz3 r3 d3
 have HS:=HU
 clear HU
 go_wp2
 go_ret
 obtain ⟨O0,KB0,o0,o1,o2,o3,-⟩:=HS.out
 obtain ⟨zz0,r0,d0,zz1,r1,d1,zz2,r2,d2,zz3,r3,d3,hE⟩:=HT.out
 have hfin:OFs _ [.int .i64 z0,.int .i64 z1,.slice p2 x2.length c2,.slice p3 x3.length c3] [.int z0,.int z1,.row (Dt.mkS x2 (k)),.row (Dt.mkS x3 (k+(Dt.cS x2:Int)))] X':=⟨Z0,R0,zz0,r0,d0,o0,⟨Z1,R1,zz1,r1,d1,o1,⟨Z2,R2,zz2,r2,d2,o2,⟨Z3,R3,zz3,r3,d3,o3,hE⟩⟩⟩⟩
 exact ⟨int_ret (by omega),hfin.mono HN.out.2,KB0.more (fun b _ hb=>HN.out.2 b hb)⟩
theorem markPeer_dt:MkC 10 PeerR:=by
 rintro vs r X w k ⟨x0,x1,x2,x3,x4,x5,x6,z7,z8,x9,x10,rfl,q0,q1,q2,q3,q4,q5,q6,q9,q10⟩ h h0 hb
 have hat:=h.at
 obtain ⟨v0,v1,v2,v3,v4,v5,v6,v7,v8,v9,v10,rfl,a0,a1,a2,a3,a4,a5,a6,a7,a8,a9,a10⟩:=fs11 hat
 obtain ⟨p0,c0,rfl⟩:=a0.form
 obtain ⟨p1,c1,rfl⟩:=a1.form
 obtain ⟨p2,c2,rfl⟩:=a2.form
 obtain ⟨p3,c3,rfl⟩:=a3.form
 obtain ⟨p4,c4,rfl⟩:=a4.form
 obtain ⟨p5,c5,rfl⟩:=a5.form
 obtain ⟨p6,c6,rfl⟩:=a6.form
 obtain ⟨rfl,ia7⟩:=a7.ofInt
 obtain ⟨rfl,ia8⟩:=a8.ofInt
 obtain ⟨p9,c9,rfl⟩:=a9.form
 obtain ⟨p10,c10,rfl⟩:=a10.form
 rw [show tcnt [.row x0,.row x1,.row x2,.row x3,.row x4,.row x5,.row x6,.int z7,.int z8,.row x9,.row x10]=Dt.cS x0+Dt.cS x1+Dt.cS x2+Dt.cS x3+Dt.cS x4+Dt.cS x5+Dt.cS x6+Dt.cS x9+Dt.cS x10 from by simp [tcnt]; try omega] at hb ⊢
 rw [show tmk [.row x0,.row x1,.row x2,.row x3,.row x4,.row x5,.row x6,.int z7,.int z8,.row x9,.row x10] k=[.row (Dt.mkS x0 (k)),.row (Dt.mkS x1 (k+(Dt.cS x0:Int))),.row (Dt.mkS x2 (k+(Dt.cS x0:Int)+(Dt.cS x1:Int))),.row (Dt.mkS x3 (k+(Dt.cS x0:Int)+(Dt.cS x1:Int)+(Dt.cS x2:Int))),.row (Dt.mkS x4 (k+(Dt.cS x0:Int)+(Dt.cS x1:Int)+(Dt.cS x2:Int)+(Dt.cS x3:Int))),.row (Dt.mkS x5 (k+(Dt.cS x0:Int)+(Dt.cS x1:Int)+(Dt.cS x2:Int)+(Dt.cS x3:Int)+(Dt.cS x4:Int))),.row (Dt.mkS x6 (k+(Dt.cS x0:Int)+(Dt.cS x1:Int)+(Dt.cS x2:Int)+(Dt.cS x3:Int)+(Dt.cS x4:Int)+(Dt.cS x5:Int))),.int z7,.int z8,.row (Dt.mkS x9 (k+(Dt.cS x0:Int)+(Dt.cS x1:Int)+(Dt.cS x2:Int)+(Dt.cS x3:Int)+(Dt.cS x4:Int)+(Dt.cS x5:Int)+(Dt.cS x6:Int))),.row (Dt.mkS x10 (k+(Dt.cS x0:Int)+(Dt.cS x1:Int)+(Dt.cS x2:Int)+(Dt.cS x3:Int)+(Dt.cS x4:Int)+(Dt.cS x5:Int)+(Dt.cS x6:Int)+(Dt.cS x9:Int)))] from rfl]
 clear hat a0 a1 a2 a3 a4 a5 a6 a7 a8 a9 a10
 have h:=h.dom
 obtain ⟨X',hX'⟩:∃ X':Nat→Prop,X'=fun b=>X b∧b<w.heap.size:=⟨_,rfl⟩
 rw [← hX'] at h
 have HN:Hid (¬ X' w.heap.size∧∀ b,X' b→X b):=by rw [hX']; exact ⟨fun hx=>Nat.lt_irrefl _ hx.2,fun b hx=>hx.1⟩
 clear hX'
 obtain ⟨Z0,R0,zz0,r0,d0,o0,h⟩:=OFs.split (vs:=[.slice p0 x0.length c0,.slice p1 x1.length c1,.slice p2 x2.length c2,.slice p3 x3.length c3,.slice p4 x4.length c4,.slice p5 x5.length c5,.slice p6 x6.length c6]) (us:=[.int .i64 z7,.int .i64 z8,.slice p9 x9.length c9,.slice p10 x10.length c10]) (ds:=[.row x0,.row x1,.row x2,.row x3,.row x4,.row x5,.row x6]) (es:=[.int z7,.int z8,.row x9,.row x10]) rfl h
 obtain ⟨Z1,R1,zz1,r1,d1,o1,h⟩:=OFs.split (vs:=[.int .i64 z7,.int .i64 z8,.slice p9 x9.length c9,.slice p10 x10.length c10]) (us:=[]) (ds:=[.int z7,.int z8,.row x9,.row x10]) (es:=[]) rfl h
 have B0:Below w.heap.size w (w.alloc (.cells #[.slice p0 x0.length c0,.slice p1 x1.length c1,.slice p2 x2.length c2,.slice p3 x3.length c3,.slice p4 x4.length c4,.slice p5 x5.length c5,.slice p6 x6.length c6,.int .i64 z7,.int .i64 z8,.slice p9 x9.length c9,.slice p10 x10.length c10] 51)):=(Below.refl _ w).alloc (Nat.le_refl _) _
 have O0:(w.alloc (.cells #[.slice p0 x0.length c0,.slice p1 x1.length c1,.slice p2 x2.length c2,.slice p3 x3.length c3,.slice p4 x4.length c4,.slice p5 x5.length c5,.slice p6 x6.length c6,.int .i64 z7,.int .i64 z8,.slice p9 x9.length c9,.slice p10 x10.length c10] 51)).heap[w.heap.size]? = some (.cells #[.slice p0 x0.length c0,.slice p1 x1.length c1,.slice p2 x2.length c2,.slice p3 x3.length c3,.slice p4 x4.length c4,.slice p5 x5.length c5,.slice p6 x6.length c6,.int .i64 z7,.int .i64 z8,.slice p9 x9.length c9,.slice p10 x10.length c10] 51):=(MapKept.heap_alloc w _).1
 have o0:=OFs.up o0 B0
 have o1:=OFs.up o1 B0
 have KB0:KB X' w (w.alloc (.cells #[.slice p0 x0.length c0,.slice p1 x1.length c1,.slice p2 x2.length c2,.slice p3 x3.length c3,.slice p4 x4.length c4,.slice p5 x5.length c5,.slice p6 x6.length c6,.int .i64 z7,.int .i64 z8,.slice p9 x9.length c9,.slice p10 x10.length c10] 51)):=KB.of_below B0
 have HS:=(show Hid (_∧_∧_∧_∧_) from ⟨O0,KB0,o0,o1,trivial⟩)
 have HT:=(show Hid (_∧_∧_∧_∧_∧_∧_) from ⟨zz0,r0,d0,zz1,r1,d1,h⟩)
 clear B0 O0 KB0 h o0 zz0 r0 d0 o1 zz1 r1 d1
 go_enter Tryz.func10,Tryz.ntmps10
 go_wp2_with fail
 refine (markMachine_dt [.slice p0 x0.length c0,.slice p1 x1.length c1,.slice p2 x2.length c2,.slice p3 x3.length c3,.slice p4 x4.length c4,.slice p5 x5.length c5,.slice p6 x6.length c6] [.row x0,.row x1,.row x2,.row x3,.row x4,.row x5,.row x6] Z0 _ _ ⟨_,_,_,_,_,_,_,rfl,q0,q1,q2,q3,q4,q5,q6⟩ HS.out.2.2.1 (by omega) (by rw [show tcnt [.row x0,.row x1,.row x2,.row x3,.row x4,.row x5,.row x6]=Dt.cS x0+Dt.cS x1+Dt.cS x2+Dt.cS x3+Dt.cS x4+Dt.cS x5+Dt.cS x6 from by simp [tcnt]; try omega]; omega)).mono ?_
 rintro e w1 ⟨rfl,n0,kb⟩
 rw [show tcnt [.row x0,.row x1,.row x2,.row x3,.row x4,.row x5,.row x6]=Dt.cS x0+Dt.cS x1+Dt.cS x2+Dt.cS x3+Dt.cS x4+Dt.cS x5+Dt.cS x6 from by simp [tcnt]; try omega]
 rw [show k+((Dt.cS x0+Dt.cS x1+Dt.cS x2+Dt.cS x3+Dt.cS x4+Dt.cS x5+Dt.cS x6:Nat):Int)=k+(Dt.cS x0:Int)+(Dt.cS x1:Int)+(Dt.cS x2:Int)+(Dt.cS x3:Int)+(Dt.cS x4:Int)+(Dt.cS x5:Int)+(Dt.cS x6:Int) from by omega]
 obtain ⟨O0,KB0,o0,o1,-⟩:=HS.out
 obtain ⟨zz0,r0,d0,zz1,r1,d1,hE⟩:=HT.out
 have hzx:∀ b,Z0 b→X' b:=fun b hb=>(zz0 b hb)
 have o1:=OFs.moved o1 (fun b hb hlt=>kb.block b hlt (fun hy=>d0 b hy (zz1 b hb)))
 have o0:=n0
 clear n0
 have O0:=(kb.block _ (lh O0) (fun hy=>HN.out.1 (hzx _ hy))).trans O0
 have KB0:=KB0.trans (kb.more (fun b _ hy=>hzx b hy))
 have y7:=cb O0 7 (.int .i64 z7) rfl
 have y8:=cb O0 8 (.int .i64 z8) rfl
 have y9:=cb O0 9 (.slice p9 x9.length c9) rfl
 have y10:=cb O0 10 (.slice p10 x10.length c10) rfl
 have HU:=(show Hid (_∧_∧_∧_∧_) from ⟨O0,KB0,o0,o1,trivial⟩)
 clear HS kb hzx O0 KB0 hE o0 zz0 r0 d0 o1 zz1 r1 d1
 have HS:=HU
 clear HU
 go_wp2_with fail
 refine (markLink_dt [.int .i64 z7,.int .i64 z8,.slice p9 x9.length c9,.slice p10 x10.length c10] [.int z7,.int z8,.row x9,.row x10] Z1 _ _ ⟨_,_,_,_,rfl,q9,q10⟩ HS.out.2.2.2.1 (by omega) (by rw [show tcnt [.int z7,.int z8,.row x9,.row x10]=Dt.cS x9+Dt.cS x10 from by simp [tcnt]; try omega]; omega)).mono ?_
 rintro e w2 ⟨rfl,n1,kb⟩
 rw [show tcnt [.int z7,.int z8,.row x9,.row x10]=Dt.cS x9+Dt.cS x10 from by simp [tcnt]; try omega]
 rw [show k+(Dt.cS x0:Int)+(Dt.cS x1:Int)+(Dt.cS x2:Int)+(Dt.cS x3:Int)+(Dt.cS x4:Int)+(Dt.cS x5:Int)+(Dt.cS x6:Int)+((Dt.cS x9+Dt.cS x10:Nat):Int)=k+(Dt.cS x0:Int)+(Dt.cS x1:Int)+(Dt.cS x2:Int)+(Dt.cS x3:Int)+(Dt.cS x4:Int)+(Dt.cS x5:Int)+(Dt.cS x6:Int)+(Dt.cS x9:Int)+(Dt.cS x10:Int) from by omega]
 obtain ⟨O0,KB0,o0,o1,-⟩:=HS.out
 obtain ⟨zz0,r0,d0,zz1,r1,d1,hE⟩:=HT.out
 have hzx:∀ b,Z1 b→X' b:=fun b hb=>(r0 b (zz1 b hb))
 have o0:=OFs.moved o0 (fun b hb hlt=>kb.block b hlt (fun hy=>d0 b hb (zz1 b hy)))
 have o1:=n1
 clear n1
 have O0:=(kb.block _ (lh O0) (fun hy=>HN.out.1 (hzx _ hy))).trans O0
 have KB0:=KB0.trans (kb.more (fun b _ hy=>hzx b hy))
 clear y7 y8 y9 y10
 have HU:=(show Hid (_∧_∧_∧_∧_) from ⟨O0,KB0,o0,o1,trivial⟩)
 clear HS kb hzx O0 KB0 hE o0 zz0 r0 d0 o1 zz1 r1 d1
 have HS:=HU
 clear HU
 go_wp2
 go_ret
 obtain ⟨O0,KB0,o0,o1,-⟩:=HS.out
 obtain ⟨zz0,r0,d0,zz1,r1,d1,hE⟩:=HT.out
 have hfin:OFs _ [.slice p0 x0.length c0,.slice p1 x1.length c1,.slice p2 x2.length c2,.slice p3 x3.length c3,.slice p4 x4.length c4,.slice p5 x5.length c5,.slice p6 x6.length c6,.int .i64 z7,.int .i64 z8,.slice p9 x9.length c9,.slice p10 x10.length c10] [.row (Dt.mkS x0 (k)),.row (Dt.mkS x1 (k+(Dt.cS x0:Int))),.row (Dt.mkS x2 (k+(Dt.cS x0:Int)+(Dt.cS x1:Int))),.row (Dt.mkS x3 (k+(Dt.cS x0:Int)+(Dt.cS x1:Int)+(Dt.cS x2:Int))),.row (Dt.mkS x4 (k+(Dt.cS x0:Int)+(Dt.cS x1:Int)+(Dt.cS x2:Int)+(Dt.cS x3:Int))),.row (Dt.mkS x5 (k+(Dt.cS x0:Int)+(Dt.cS x1:Int)+(Dt.cS x2:Int)+(Dt.cS x3:Int)+(Dt.cS x4:Int))),.row (Dt.mkS x6 (k+(Dt.cS x0:Int)+(Dt.cS x1:Int)+(Dt.cS x2:Int)+(Dt.cS x3:Int)+(Dt.cS x4:Int)+(Dt.cS x5:Int))),.int z7,.int z8,.row (Dt.mkS x9 (k+(Dt.cS x0:Int)+(Dt.cS x1:Int)+(Dt.cS x2:Int)+(Dt.cS x3:Int)+(Dt.cS x4:Int)+(Dt.cS x5:Int)+(Dt.cS x6:Int))),.row (Dt.mkS x10 (k+(Dt.cS x0:Int)+(Dt.cS x1:Int)+(Dt.cS x2:Int)+(Dt.cS x3:Int)+(Dt.cS x4:Int)+(Dt.cS x5:Int)+(Dt.cS x6:Int)+(Dt.cS x9:Int)))] X':=(OFs.join (vs:=[.slice p0 x0.length c0,.slice p1 x1.length c1,.slice p2 x2.length c2,.slice p3 x3.length c3,.slice p4 x4.length c4,.slice p5 x5.length c5,.slice p6 x6.length c6]) (ds:=[.row (Dt.mkS x0 (k)),.row (Dt.mkS x1 (k+(Dt.cS x0:Int))),.row (Dt.mkS x2 (k+(Dt.cS x0:Int)+(Dt.cS x1:Int))),.row (Dt.mkS x3 (k+(Dt.cS x0:Int)+(Dt.cS x1:Int)+(Dt.cS x2:Int))),.row (Dt.mkS x4 (k+(Dt.cS x0:Int)+(Dt.cS x1:Int)+(Dt.cS x2:Int)+(Dt.cS x3:Int))),.row (Dt.mkS x5 (k+(Dt.cS x0:Int)+(Dt.cS x1:Int)+(Dt.cS x2:Int)+(Dt.cS x3:Int)+(Dt.cS x4:Int))),.row (Dt.mkS x6 (k+(Dt.cS x0:Int)+(Dt.cS x1:Int)+(Dt.cS x2:Int)+(Dt.cS x3:Int)+(Dt.cS x4:Int)+(Dt.cS x5:Int)))]) zz0 r0 d0 o0 (OFs.join (vs:=[.int .i64 z7,.int .i64 z8,.slice p9 x9.length c9,.slice p10 x10.length c10]) (ds:=[.int z7,.int z8,.row (Dt.mkS x9 (k+(Dt.cS x0:Int)+(Dt.cS x1:Int)+(Dt.cS x2:Int)+(Dt.cS x3:Int)+(Dt.cS x4:Int)+(Dt.cS x5:Int)+(Dt.cS x6:Int))),.row (Dt.mkS x10 (k+(Dt.cS x0:Int)+(Dt.cS x1:Int)+(Dt.cS x2:Int)+(Dt.cS x3:Int)+(Dt.cS x4:Int)+(Dt.cS x5:Int)+(Dt.cS x6:Int)+(Dt.cS x9:Int)))]) zz1 r1 d1 o1 hE))
 exact ⟨int_ret (by omega),hfin.mono HN.out.2,KB0.more (fun b _ hb=>HN.out.2 b hb)⟩
end Go.Proofs.YtmmadoabejgffaaGreatDoor
