/-
  Proofs.
-/
import Derived.Test.YtmmadoabejgffaaGreatDoorA
import Derived.Test.YtmmadoabejgffaaGreatDoorFlushP
namespace Go.Proofs.YtmmadoabejgffaaGreatDoor
open Go.RowKit Go.Joins
set_option maxRecDepth 100000
set_option maxHeartbeats 6400000 in
theorem implFlush_any (vs:List Value) (r:List Dt) (S:Nat→Prop) (e0 e1 e2:Addr) (w:World) (hP:PeerR r) (h:FsAt w S vs r) (hb:Dt.bR r≤1048576) (hET:ET w) (hEG:EG e0 e1 e2 w) :
  Calls Tryz.prog 7 #[.agg vs.toArray] w (FlAns r w):=by
 obtain ⟨x0,x1,x2,x3,x4,x5,x6,z7,z8,x9,x10,rfl,q0,q1,q2,q3,q4,q5,q6,q9,q10⟩:=hP
 obtain ⟨v0,v1,v2,v3,v4,v5,v6,v7,v8,v9,v10,rfl,a0,a1,a2,a3,a4,a5,a6,a7,a8,a9,a10⟩:=fs11 h
 obtain ⟨p0,c0,rfl⟩:=a0.form
 obtain ⟨p1,c1,rfl⟩:=a1.form
 obtain ⟨p2,c2,rfl⟩:=a2.form
 obtain ⟨p3,c3,rfl⟩:=a3.form
 obtain ⟨p4,c4,rfl⟩:=a4.form
 obtain ⟨p5,c5,rfl⟩:=a5.form
 obtain ⟨p6,c6,rfl⟩:=a6.form
 obtain ⟨rfl,ia7⟩:=a7.ofInt
 obtain ⟨rfl,ia8⟩:=a8.ofInt
 obtain ⟨p9,c9,rfl⟩:=a9.form
 obtain ⟨p10,c10,rfl⟩:=a10.form
 have hP:PeerR [.row x0,.row x1,.row x2,.row x3,.row x4,.row x5,.row x6,.int z7,.int z8,.row x9,.row x10]:=⟨_,_,_,_,_,_,_,_,_,_,_,rfl,q0,q1,q2,q3,q4,q5,q6,q9,q10⟩
 have hbk:=hb
 rw [show Dt.bR [.row x0,.row x1,.row x2,.row x3,.row x4,.row x5,.row x6,.int z7,.int z8,.row x9,.row x10]=Dt.bS x0+Dt.bS x1+Dt.bS x2+Dt.bS x3+Dt.bS x4+Dt.bS x5+Dt.bS x6+Dt.bS x9+Dt.bS x10 from by simp [Dt.bR,Dt.bulk]; try omega] at hbk
 obtain ⟨W0,hW0⟩:∃ W0,W0=(w.alloc (.cells #[.slice p0 x0.length c0,.slice p1 x1.length c1,.slice p2 x2.length c2,.slice p3 x3.length c3,.slice p4 x4.length c4,.slice p5 x5.length c5,.slice p6 x6.length c6,.int .i64 z7,.int .i64 z8,.slice p9 x9.length c9,.slice p10 x10.length c10] 51)).alloc (.cells #[.slice none 0 0,.slice none 0 0,.slice none 0 0,.slice none 0 0,.slice none 0 0,.slice none 0 0,.slice none 0 0,.int .i64 0,.int .i64 0,.slice none 0 0,.slice none 0 0] 51):=⟨_,rfl⟩
 have B:Below w.heap.size w W0:=by rw [hW0]; exact ((Below.refl _ w).alloc (Nat.le_refl _) _).alloc (by simp) _
 have SZ:W0.heap.size=w.heap.size+2:=by rw [hW0]; simp
 have O1:W0.heap[w.heap.size+1]? = some (.cells #[.slice none 0 0,.slice none 0 0,.slice none 0 0,.slice none 0 0,.slice none 0 0,.slice none 0 0,.slice none 0 0,.int .i64 0,.int .i64 0,.slice none 0 0,.slice none 0 0] 51):=by
  rw [hW0]
  have:=(MapKept.heap_alloc (w.alloc (.cells #[.slice p0 x0.length c0,.slice p1 x1.length c1,.slice p2 x2.length c2,.slice p3 x3.length c3,.slice p4 x4.length c4,.slice p5 x5.length c5,.slice p6 x6.length c6,.int .i64 z7,.int .i64 z8,.slice p9 x9.length c9,.slice p10 x10.length c10] 51)) (.cells #[.slice none 0 0,.slice none 0 0,.slice none 0 0,.slice none 0 0,.slice none 0 0,.slice none 0 0,.slice none 0 0,.int .i64 0,.int .i64 0,.slice none 0 0,.slice none 0 0] 51)).1
  simpa using this
 have HA:=(show Hid (_∧_∧_∧_∧_∧_∧_) from ⟨FsAt.up h B,hP,hb,B,O1,hET.below B,hEG.below B⟩)
 have HQ:=(show Hid (_∧_∧_∧_) from ⟨q6,q9,q10,ia7⟩)
 have Hbk:=(show Hid (_∧True) from ⟨hbk,trivial⟩)
 have HW:=(show Hid (_∧_) from ⟨hW0,SZ⟩)
 clear B O1 hW0 h hP hb hbk SZ hET hEG a0 a1 a2 a3 a4 a5 a6 a7 a8 a9 a10 q0 q1 q2 q3 q4 q5 q6 q9 q10
 go_enter Tryz.func7,Tryz.ntmps7
 go_wp2_with fail
 rw [← HW.out.1]
 have HC:Calls Tryz.prog 20 #[.agg #[.slice p0 x0.length c0,.slice p1 x1.length c1,.slice p2 x2.length c2,.slice p3 x3.length c3,.slice p4 x4.length c4,.slice p5 x5.length c5,.slice p6 x6.length c6,.int .i64 z7,.int .i64 z8,.slice p9 x9.length c9,.slice p10 x10.length c10]] W0 (fun e w'=>∃ (mu:List Value) (m1 nb:Nat) (ov sv:Value) (rs:List (Se×Value)),e = .returned (.pointer (some ⟨nb,0,none⟩))∧w'.heap[nb]? = some (.cells (([.int .i32 0,.int .u32 0]:List Value) ++ mu ++ ([.int .i64 z7,.int .i64 z8,ov,sv]:List Value)).toArray 110)∧mu.length=7∧W0.heap.size+2≤m1∧m1≤nb∧OFs w' mu [.row x0,.row x1,.row x2,.row x3,.row x4,.row x5,.row x6] (Btw (W0.heap.size+2) m1)∧LkOwn w' m1 (.agg #[.int .i64 z7,.int .i64 z8,ov,sv]) (lkOf z7 z8 x9 x10) ov sv rs∧Below W0.heap.size W0 w'):=nodeOf_any [.slice p0 x0.length c0,.slice p1 x1.length c1,.slice p2 x2.length c2,.slice p3 x3.length c3,.slice p4 x4.length c4,.slice p5 x5.length c5,.slice p6 x6.length c6,.int .i64 z7,.int .i64 z8,.slice p9 x9.length c9,.slice p10 x10.length c10] [.row x0,.row x1,.row x2,.row x3,.row x4,.row x5,.row x6,.int z7,.int z8,.row x9,.row x10] S W0 HA.out.2.1 HA.out.1 HA.out.2.2.1
 refine HC.mono ?_
 clear HC
 rintro e w1 ⟨mu,m1,nb,ov,sv,rs,rfl,hN,hmu,hm1,hnb,N,L,b1⟩
 obtain ⟨v0,v1,v2,v3,v4,v5,v6,rfl,k0,k1,k2,k3,k4,k5,k6⟩:=fs7 N.at
 obtain ⟨s0,t0,rfl⟩:=k0.form
 obtain ⟨s1,t1,rfl⟩:=k1.form
 obtain ⟨s2,t2,rfl⟩:=k2.form
 obtain ⟨s3,t3,rfl⟩:=k3.form
 obtain ⟨s4,t4,rfl⟩:=k4.form
 obtain ⟨s5,t5,rfl⟩:=k5.form
 obtain ⟨s6,t6,rfl⟩:=k6.form
 obtain ⟨oa,oc,rfl⟩:=L.out.at.form
 have g10:=L.seen.at.form
 rw [L.is] at g10
 obtain ⟨sa,sc,rfl⟩:=g10
 have F1:FuSt W0 w1 x0 x1 x2 x3 x4 x5 x6 z7 (lkOf z7 z8 x9 x10) m1 0 x6 (lkOf z7 z8 x9 x10) [] [.slice s0 x0.length t0,.slice s1 x1.length t1,.slice s2 x2.length t2,.slice s3 x3.length t3,.slice s4 x4.length t4,.slice s5 x5.length t5] (.slice s6 x6.length t6) (.slice oa (lkOf z7 z8 x9 x10).out.length oc) (.slice sa (lkOf z7 z8 x9 x10).seen.length sc) (.slice none 0 0) rs :=
  ⟨FlSt.start _ _ _,b1,N,L,⟨rfl,.inl ⟨rfl,rfl⟩⟩,⟨hm1,by have:=lh hN; omega⟩,(by rw [lk_bulk HQ.out.2.1 HQ.out.2.2.1]; have:=Hbk.out.1; omega),rfl,fun _ hb=>by cases hb⟩
 have O2:=(b1.block _ (lh HA.out.2.2.2.2.1)).trans HA.out.2.2.2.2.1
 have H1:=(show Hid (_∧_∧_∧_∧_) from ⟨F1,hN,hnb,O2,b1⟩)
 clear F1 hN hmu hm1 hnb N L b1 O2 k0 k1 k2 k3 k4 k5 k6
 go_wp2_with fail
 refine (nodeFlush_any W0 w1 x0 x1 x2 x3 x4 x5 x6 z7 z8 x9 x10 nb m1 s0 s1 s2 s3 s4 s5 s6 t0 t1 t2 t3 t4 t5 t6 oa sa oc sc rs e0 e1 e2 H1.out.1 H1.out.2.1 H1.out.2.2.1 HQ.out.1 (by have:=Hbk.out.1; omega) HQ.out.2.2.2 HA.out.2.2.2.2.2.1 HA.out.2.2.2.2.2.2).mono ?_
 rintro e w2 ⟨us,v,X,Y,rfl,hX,hY,hd,hXY,b2,hB⟩
 obtain ⟨l,hl⟩:∃ l,l=flushL z7 (lkOf z7 z8 x9 x10) (x6.map msOf):=⟨_,rfl⟩
 have hX':OFs w2 us ([.row x0,.row x1,.row x2,.row x3,.row x4,.row x5,.row (x6.drop (flK [.row x0,.row x1,.row x2,.row x3,.row x4,.row x5,.row x6,.int z7,.int z8,.row x9,.row x10]))] ++ lkD l) X:=by rw [hl]; exact hX
 obtain ⟨v0,v1,v2,v3,v4,v5,v6,v7,v8,v9,v10,rfl,g0,g1,g2,g3,g4,g5,g6,g7,g8,g9,g10⟩:=fs11 (d0:=.row x0) (d1:=.row x1) (d2:=.row x2) (d3:=.row x3) (d4:=.row x4) (d5:=.row x5) (d6:=.row (x6.drop (flK [.row x0,.row x1,.row x2,.row x3,.row x4,.row x5,.row x6,.int z7,.int z8,.row x9,.row x10]))) (d7:=.int l.id) (d8:=.int l.next) (d9:=.row (l.out.map snD)) (d10:=.row (l.seen.map seD)) hX'.at
 obtain ⟨r0,u0,rfl⟩:=g0.form
 obtain ⟨r1,u1,rfl⟩:=g1.form
 obtain ⟨r2,u2,rfl⟩:=g2.form
 obtain ⟨r3,u3,rfl⟩:=g3.form
 obtain ⟨r4,u4,rfl⟩:=g4.form
 obtain ⟨r5,u5,rfl⟩:=g5.form
 obtain ⟨r6,u6,rfl⟩:=g6.form
 obtain ⟨r9,u9,rfl⟩:=g9.form
 obtain ⟨r10,u10,rfl⟩:=g10.form
 obtain ⟨rfl,-⟩:=g7.ofInt
 obtain ⟨rfl,-⟩:=g8.ofInt
 clear g0 g1 g2 g3 g4 g5 g6 g9 g10
 have O3:=(b2.block _ (lh HA.out.2.2.2.2.1)).trans HA.out.2.2.2.2.1
 have D0:=cb O3 0 (.slice none 0 0) rfl
 have G0:=ub O3 0
 have D1:=cb O3 1 (.slice none 0 0) rfl
 have G1:=ub O3 1
 have D2:=cb O3 2 (.slice none 0 0) rfl
 have G2:=ub O3 2
 have D3:=cb O3 3 (.slice none 0 0) rfl
 have G3:=ub O3 3
 have D4:=cb O3 4 (.slice none 0 0) rfl
 have G4:=ub O3 4
 have D5:=cb O3 5 (.slice none 0 0) rfl
 have G5:=ub O3 5
 have D6:=cb O3 6 (.slice none 0 0) rfl
 have G6:=ub O3 6
 have D7:=cb O3 7 (.int .i64 0) rfl
 have G7:=ub O3 7
 have D8:=cb O3 8 (.int .i64 0) rfl
 have G8:=ub O3 8
 have D9:=cb O3 9 (.slice none 0 0) rfl
 have G9:=ub O3 9
 have D10:=cb O3 10 (.slice none 0 0) rfl
 have G10:=ub O3 10
 have hsz:=HW.out.2
 have H2:=(show Hid (_∧_∧_∧_∧_∧_∧_) from ⟨hX,hY,hd,hXY,b2,hsz,hB⟩)
 clear hX' hX hY hd hXY b2 O3 hl hsz hB HW
 go_wp2_with fail
 refine bodyPost_ret (v:=.tuple #[.agg #[.slice r0 x0.length u0,.slice r1 x1.length u1,.slice r2 x2.length u2,.slice r3 x3.length u3,.slice r4 x4.length u4,.slice r5 x5.length u5,.slice r6 (x6.drop (flK [.row x0,.row x1,.row x2,.row x3,.row x4,.row x5,.row x6,.int z7,.int z8,.row x9,.row x10])).length u6,.int .i64 l.id,.int .i64 l.next,.slice r9 (l.out.map snD).length u9,.slice r10 (l.seen.map seD).length u10],v]) (by simp [results,Tryz.results7,go_sem,D0,D1,D2,D3,D4,D5,D6,D7,D8,D9,D10]) rfl ⟨[.slice r0 x0.length u0,.slice r1 x1.length u1,.slice r2 x2.length u2,.slice r3 x3.length u3,.slice r4 x4.length u4,.slice r5 x5.length u5,.slice r6 (x6.drop (flK [.row x0,.row x1,.row x2,.row x3,.row x4,.row x5,.row x6,.int z7,.int z8,.row x9,.row x10])).length u6,.int .i64 l.id,.int .i64 l.next,.slice r9 (l.out.map snD).length u9,.slice r10 (l.seen.map seD).length u10],v,X,Y,rfl,?_,?_,H2.out.2.2.1,fun b hb => ?_,?_,H2.out.2.2.2.2.2.2⟩
 ·refine OFs.moved H2.out.1 (fun b hb _ => ?_)
  have h1:=H2.out.2.2.2.1 b (.inl hb)
  have h2:=H2.out.2.2.2.2.2.1
  have e1:∀ (j:Nat) (u:Value) (W:World),(W.setCell ⟨w.heap.size+1,j,none⟩ u).heap[b]? = W.heap[b]? := fun j u W=>Below.heap_setCell W _ u b (by show b≠w.heap.size+1; omega)
  simp only [e1]
 ·refine H2.out.2.1.moved (fun b hb _ => ?_)
  have h1:=H2.out.2.2.2.1 b (.inr hb)
  have h2:=H2.out.2.2.2.2.2.1
  have e1:∀ (j:Nat) (u:Value) (W:World),(W.setCell ⟨w.heap.size+1,j,none⟩ u).heap[b]? = W.heap[b]? := fun j u W=>Below.heap_setCell W _ u b (by show b≠w.heap.size+1; omega)
  simp only [e1]
 ·have h1:=H2.out.2.2.2.1 b hb
  have h2:=H2.out.2.2.2.2.2.1
  simp
  omega
 ·iterate 11 refine Below.setCell ?_ (by simp) _
  exact HA.out.2.2.2.1.trans (H2.out.2.2.2.2.1.mono HA.out.2.2.2.1.size)
end Go.Proofs.YtmmadoabejgffaaGreatDoor
