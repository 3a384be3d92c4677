/-
  Proofs.
-/
import Derived.Test.YtmmadoabejgffaaGreatDoorA
import Derived.Test.YtmmadoabejgffaaGreatDoorFlushI
import Derived.Test.YtmmadoabejgffaaGreatDoorSA
import Derived.Test.YtmmadoabejgffaaGreatDoorTC
import Derived.Test.YtmmadoabejgffaaGreatDoorEB
import Derived.Test.YtmmadoabejgffaaGreatDoorKB
import Derived.Test.YtmmadoabejgffaaGreatDoorHB
import Derived.Test.YtmmadoabejgffaaGreatDoorKA
import Derived.Test.YtmmadoabejgffaaGreatDoorHA
namespace Go.Proofs.YtmmadoabejgffaaGreatDoor
open Go.RowKit Go.Joins
set_option maxRecDepth 100000
theorem cnt_rows {P:List Dt→Prop} (hP:∀ r,P r→Dt.cntR r≤16+16 * Dt.bR r):∀ xs:List (List Dt),AllR P xs→Dt.cS xs≤16 * Dt.bS xs
 | [],_=>by rw [Dt.cS]; omega
 | r :: t,h=>by
  have h1:=hP r (h 0 r rfl)
  have h2:=cnt_rows hP t (fun i r' hr=>h (i+1) r' (by simpa using hr))
  rw [Dt.cS,Dt.bS]
  omega
theorem cntInt (xs:List (List Dt)) (h:AllR IntR xs):Dt.cS xs≤16 * Dt.bS xs:=cnt_rows (fun r hr=>by obtain ⟨z,rfl⟩:=hr; simp [Dt.cntR,Dt.cnt,Dt.bR,Dt.bulk]) xs h
theorem cntCode (xs:List (List Dt)) (h:AllR CodeR xs):Dt.cS xs≤16 * Dt.bS xs:=cnt_rows (fun r hr=>by obtain ⟨z0,z1,b2,x3,rfl,q3⟩:=hr; have:=cntInt x3 q3; simp [Dt.cntR,Dt.cnt,Dt.bR,Dt.bulk]; omega) xs h
theorem cntCell (xs:List (List Dt)) (h:AllR CellR xs):Dt.cS xs≤16 * Dt.bS xs:=cnt_rows (fun r hr=>by obtain ⟨z0,z1,z2,x3,rfl,q3⟩:=hr; have:=cntInt x3 q3; simp [Dt.cntR,Dt.cnt,Dt.bR,Dt.bulk]; omega) xs h
theorem cntFrame (xs:List (List Dt)) (h:AllR FrameR xs):Dt.cS xs≤16 * Dt.bS xs:=cnt_rows (fun r hr=>by obtain ⟨z0,z1,z2,x3,rfl,q3⟩:=hr; have:=cntInt x3 q3; simp [Dt.cntR,Dt.cnt,Dt.bR,Dt.bulk]; omega) xs h
theorem cntThread (xs:List (List Dt)) (h:AllR ThreadR xs):Dt.cS xs≤16 * Dt.bS xs:=cnt_rows (fun r hr=>by obtain ⟨z0,z1,x2,x3,b4,rfl,q2,q3⟩:=hr; have:=cntInt x2 q2; have:=cntFrame x3 q3; simp [Dt.cntR,Dt.cnt,Dt.bR,Dt.bulk]; omega) xs h
theorem cntMsg (xs:List (List Dt)) (h:AllR MsgR xs):Dt.cS xs≤16 * Dt.bS xs:=cnt_rows (fun r hr=>by obtain ⟨z0,z1,z2,z3,z4,z5,z6,z7,x8,rfl,q8⟩:=hr; have:=cntInt x8 q8; simp [Dt.cntR,Dt.cnt,Dt.bR,Dt.bulk]; omega) xs h
theorem cntSent (xs:List (List Dt)) (h:AllR SentR xs):Dt.cS xs≤16 * Dt.bS xs:=cnt_rows (fun r hr=>by obtain ⟨z0,z1,b2,rfl⟩:=hr; simp [Dt.cntR,Dt.cnt,Dt.bR,Dt.bulk]; omega) xs h
theorem cntSeen (xs:List (List Dt)) (h:AllR SeenR xs):Dt.cS xs≤16 * Dt.bS xs:=cnt_rows (fun r hr=>by obtain ⟨z0,x1,rfl,q1⟩:=hr; have:=cntInt x1 q1; simp [Dt.cntR,Dt.cnt,Dt.bR,Dt.bulk]; omega) xs h
theorem cntPeer {r:List Dt} (h:PeerR r):tcnt r≤16 * Dt.bR r:=by
 obtain ⟨x0,x1,x2,x3,x4,x5,x6,z7,z8,x9,x10,rfl,q0,q1,q2,q3,q4,q5,q6,q9,q10⟩:=h
 have h0:=cntCode _ q0
 have h1:=cntInt _ q1
 have h2:=cntCell _ q2
 have h3:=cntThread _ q3
 have h4:=cntInt _ q4
 have h5:=cntInt _ q5
 have h6:=cntMsg _ q6
 have h9:=cntSent _ q9
 have h10:=cntSeen _ q10
 simp [tcnt,Dt.bR,Dt.bulk]
 omega
theorem flP_all (r:List Dt):AllR StringR (flP r):=fun i q hq=>by
 unfold flP at hq
 rw [List.getElem?_map] at hq
 obtain ⟨b,-,rfl⟩:=Option.map_eq_some_iff.1 hq
 exact ⟨b,rfl⟩
theorem flP_len (r:List Dt) (x6:List (List Dt)) (h:(r[6]? : Option Dt)=some (.row x6)):(flP r).length≤x6.length:=by
 unfold flP
 rw [List.length_map,flushP_len]
 refine Nat.le_trans (flushN_le _ _ _) ?_
 unfold msL
 rw [h]
 simp
theorem strs_cnt:∀ ps:List ByteArray,Dt.cS (ps.map fun b=>[Dt.str b])=ps.length
 | []=>by simp [Dt.cS]
 | b :: t=>by rw [List.map_cons,Dt.cS,strs_cnt t]; simp [Dt.cntR,Dt.cnt]; omega
theorem flP_cnt (r:List Dt):Dt.cS (flP r)=(flP r).length:=by
 unfold flP
 rw [strs_cnt,List.length_map]
theorem bulk_drop:∀ (xs:List (List Dt)) (k:Nat),Dt.bS (xs.drop k)≤Dt.bS xs
 | [],k=>by simp
 | r :: t,0=>by simp
 | r :: t,k+1=>by
  have:=bulk_drop t k
  rw [List.drop_succ_cons,Dt.bS]
  omega
theorem lkD_bulk (l:Lk):Dt.bS (l.out.map snD)+Dt.bS (l.seen.map seD)=l.bulk:=by
 have:=lk_bulk (snD_all l.out) (seD_all l.seen) l.id l.next
 rw [← this]
 have e1:(l.out.map snD).map snOf=l.out:=by rw [List.map_map]; exact (List.map_congr_left (fun s _=>rfl)).trans (List.map_id _)
 have e2:(l.seen.map seD).map seOf=l.seen:=by
  rw [List.map_map]
  refine (List.map_congr_left (fun s _ => ?_)).trans (List.map_id _)
  show (⟨s.low,intsOf (intsD s.ids)⟩:Se)=s
  rw [show intsOf (intsD s.ids)=s.ids from by unfold intsOf intsD; rw [List.map_map]; exact (List.map_congr_left (fun z _=>rfl)).trans (List.map_id _)]
 unfold lkOf
 rw [e1,e2]
theorem flush_bounds {x0 x1 x2 x3 x4 x5 x6 x9 x10 y6 so se pk:List (List Dt)} {z7 z8:Int} {l:Lk} (hP:PeerR [.row x0,.row x1,.row x2,.row x3,.row x4,.row x5,.row x6,.int z7,.int z8,.row x9,.row x10]) (hD:PeerR [.row x0,.row x1,.row x2,.row x3,.row x4,.row x5,.row y6,.int l.id,.int l.next,.row so,.row se]) (hb:Dt.bR [.row x0,.row x1,.row x2,.row x3,.row x4,.row x5,.row x6,.int z7,.int z8,.row x9,.row x10]≤1048576) (h6:Dt.bS y6≤Dt.bS x6) (hs:Dt.bS so+Dt.bS se=l.bulk) (hl:l.bulk≤1048576) (hp:pk.length≤x6.length):Dt.bR [.row x0,.row x1,.row x2,.row x3,.row x4,.row x5,.row y6,.int l.id,.int l.next,.row so,.row se]≤4194304∧(tcnt [.row x0,.row x1,.row x2,.row x3,.row x4,.row x5,.row x6,.int z7,.int z8,.row x9,.row x10]:Int)≤40000000∧(tcnt [.row x0,.row x1,.row x2,.row x3,.row x4,.row x5,.row y6,.int l.id,.int l.next,.row so,.row se]:Int)≤40000000∧(pk.length:Int)≤1048576:=by
 have h1:=cntPeer hP
 have h2:=cntPeer hD
 have h3:=bulkS_len x6
 have h4:Dt.bR [.row x0,.row x1,.row x2,.row x3,.row x4,.row x5,.row y6,.int l.id,.int l.next,.row so,.row se]≤2097152:=by simp [Dt.bR,Dt.bulk] at hb ⊢; omega
 have h5:Dt.bS x6≤1048576:=by simp [Dt.bR,Dt.bulk] at hb; omega
 omega
set_option maxHeartbeats 25600000 in
theorem lawFlush_walk (vs:List Value) (r:List Dt) (w:World) (e0 e1 e2:Addr) (hP:PeerR r) (h:FsAt w (fun _=>True) vs r) (hET:ET w) (hEG:EG e0 e1 e2 w) :
  Calls Tryz.prog 3 #[.agg vs.toArray] w fun e w'=>e = .returned (.bool true)∧Below w.heap.size w w':=by
 have HP:Hid (PeerR r):=hP
 obtain ⟨x0,x1,x2,x3,x4,x5,x6,z7,z8,x9,x10,rfl,Q0,Q1,Q2,Q3,Q4,Q5,Q6,Q9,Q10⟩:=hP
 have HQ6:Hid (AllR MsgR x6):=Q6
 obtain ⟨y6,hy6⟩:∃ y,y=x6.drop (flK [.row x0,.row x1,.row x2,.row x3,.row x4,.row x5,.row x6,.int z7,.int z8,.row x9,.row x10]):=⟨_,rfl⟩
 obtain ⟨l,hl⟩:∃ l,l=flushL (peL [.row x0,.row x1,.row x2,.row x3,.row x4,.row x5,.row x6,.int z7,.int z8,.row x9,.row x10]).id (peL [.row x0,.row x1,.row x2,.row x3,.row x4,.row x5,.row x6,.int z7,.int z8,.row x9,.row x10]) (msL [.row x0,.row x1,.row x2,.row x3,.row x4,.row x5,.row x6,.int z7,.int z8,.row x9,.row x10]):=⟨_,rfl⟩
 obtain ⟨so,hso⟩:∃ s,s=l.out.map snD:=⟨_,rfl⟩
 obtain ⟨se,hse⟩:∃ s,s=l.seen.map seD:=⟨_,rfl⟩
 obtain ⟨pk,hpk⟩:∃ p,p=flP [.row x0,.row x1,.row x2,.row x3,.row x4,.row x5,.row x6,.int z7,.int z8,.row x9,.row x10]:=⟨_,rfl⟩
 have HD:Hid (PeerR [.row x0,.row x1,.row x2,.row x3,.row x4,.row x5,.row y6,.int l.id,.int l.next,.row so,.row se]):=⟨_,_,_,_,_,_,_,_,_,_,_,rfl,Q0,Q1,Q2,Q3,Q4,Q5,(by rw [hy6]; exact fun i q hq=>Q6 _ q (by rw [List.getElem?_drop] at hq; exact hq)),(by rw [hso]; exact snD_all _),(by rw [hse]; exact seD_all _)⟩
 have HPK:Hid (AllR StringR pk):=by rw [hpk]; exact flP_all _
 have HAN:Hid (∀ (w1:World) (e:Ending) (w2:World),FlAns [.row x0,.row x1,.row x2,.row x3,.row x4,.row x5,.row x6,.int z7,.int z8,.row x9,.row x10] w1 e w2→∃ (us:List Value) (v:Value) (X Y:Nat→Prop),e = .returned (.tuple #[.agg us.toArray,v])∧OFs w2 us [.row x0,.row x1,.row x2,.row x3,.row x4,.row x5,.row y6,.int l.id,.int l.next,.row so,.row se] X∧Own w2 v (.row pk) Y∧(∀ b,X b→Y b→False)∧(∀ b,X b∨Y b→w1.heap.size≤b∧b<w2.heap.size)∧Below w1.heap.size w1 w2∧l.bulk≤1048576):=by
  intro w1 e w2 ⟨us,v,X,Y,h1,h2,h3,h4,h5,h6,h7⟩
  exact ⟨us,v,X,Y,h1,by rw [hso,hse,hy6,hl]; exact h2,by rw [hpk]; exact h3,h4,h5,h6,by rw [hl]; exact h7⟩
 have HLB:Hid (pk.length≤x6.length∧Dt.bS y6≤Dt.bS x6∧Dt.bS so+Dt.bS se=l.bulk∧(Dt.cS pk=pk.length)):=by
  refine ⟨by rw [hpk]; exact flP_len [.row x0,.row x1,.row x2,.row x3,.row x4,.row x5,.row x6,.int z7,.int z8,.row x9,.row x10] x6 rfl,by rw [hy6]; exact bulk_drop x6 _,by rw [hso,hse]; exact lkD_bulk l,by rw [hpk]; exact flP_cnt _⟩
 have HA:=(show Hid (_∧_∧_) from ⟨h,hET,hEG⟩)
 obtain ⟨v0,v1,v2,v3,v4,v5,v6,v7,v8,v9,v10,rfl,a0,a1,a2,a3,a4,a5,a6,a7,a8,a9,a10⟩:=fs11 h
 obtain ⟨p0,c0,rfl⟩:=a0.form
 obtain ⟨p1,c1,rfl⟩:=a1.form
 obtain ⟨p2,c2,rfl⟩:=a2.form
 obtain ⟨p3,c3,rfl⟩:=a3.form
 obtain ⟨p4,c4,rfl⟩:=a4.form
 obtain ⟨p5,c5,rfl⟩:=a5.form
 obtain ⟨p6,c6,rfl⟩:=a6.form
 obtain ⟨rfl,ia7⟩:=a7.ofInt
 obtain ⟨rfl,ia8⟩:=a8.ofInt
 obtain ⟨p9,c9,rfl⟩:=a9.form
 obtain ⟨p10,c10,rfl⟩:=a10.form
 clear h hET hEG hy6 hl hso hse hpk Q0 Q1 Q2 Q3 Q4 Q5 Q6 Q9 Q10 a0 a1 a2 a3 a4 a5 a6 a7 a8 a9 a10
 obtain ⟨W0,hW⟩:∃ W,W=w.alloc (.cells #[.slice p0 x0.length c0,.slice p1 x1.length c1,.slice p2 x2.length c2,.slice p3 x3.length c3,.slice p4 x4.length c4,.slice p5 x5.length c5,.slice p6 x6.length c6,.int .i64 z7,.int .i64 z8,.slice p9 x9.length c9,.slice p10 x10.length c10] 36):=⟨_,rfl⟩
 have bx:Below w.heap.size w W0:=by rw [hW]; exact (Below.refl _ w).alloc (Nat.le_refl _) _
 have AR:W0.heap[w.heap.size]? = some (.cells #[.slice p0 x0.length c0,.slice p1 x1.length c1,.slice p2 x2.length c2,.slice p3 x3.length c3,.slice p4 x4.length c4,.slice p5 x5.length c5,.slice p6 x6.length c6,.int .i64 z7,.int .i64 z8,.slice p9 x9.length c9,.slice p10 x10.length c10] 36):=by rw [hW]; exact (MapKept.heap_alloc w _).1
 have zW0:W0.heap.size=w.heap.size+1:=by rw [hW]; simp
 have HWW0:=(show Hid (_∧_) from ⟨hW,zW0⟩)
 have yW0:w.heap.size<W0.heap.size:=by omega
 clear hW zW0
 have BB:=bx
 clear bx
 have H:=(show Hid (_∧_∧_) from ⟨AR,BB,trivial⟩)
 clear AR BB
 go_enter Tryz.func3,Tryz.ntmps3
 go_wp2_with fail
 rw [← HWW0.out.1]
 refine (szPeer_dt [.slice p0 x0.length c0,.slice p1 x1.length c1,.slice p2 x2.length c2,.slice p3 x3.length c3,.slice p4 x4.length c4,.slice p5 x5.length c5,.slice p6 x6.length c6,.int .i64 z7,.int .i64 z8,.slice p9 x9.length c9,.slice p10 x10.length c10] [.row x0,.row x1,.row x2,.row x3,.row x4,.row x5,.row x6,.int z7,.int z8,.row x9,.row x10] _ _ _ HP.out (HA.out.1.up H.out.2.1) (by omega) (by omega)).mono ?_
 rintro e w1 ⟨rfl,b1⟩
 obtain ⟨AR,BB,-⟩:=H.out
 clear H
 have AR:=(b1.block _ (lh AR)).trans AR
 have BB:=BB.trans (b1.mono BB.size)
 have z1:w.heap.size<w1.heap.size:=by have:=b1.size; have:=HWW0.out.2; omega
 clear b1
 obtain ⟨nn,hn⟩:∃ nn,nn=Dt.bR [.row x0,.row x1,.row x2,.row x3,.row x4,.row x5,.row x6,.int z7,.int z8,.row x9,.row x10]:=⟨_,rfl⟩
 rw [← hn]
 by_cases hx:¬ nn≤1048576
 ·have hr:szR 1048576 nn = -1:=by unfold szR; rw [if_neg (by omega)]
  rw [hr]
  clear AR
  have HBB:=(show Hid (_∧True) from ⟨BB,trivial⟩)
  clear BB
  go_wp2
  go_ret
  exact ⟨rfl,HBB.out.1⟩
 have hx:nn≤1048576:=by omega
 have hr:szR 1048576 nn=1048576 - nn:=by unfold szR; rw [if_pos (by omega)]
 rw [hr]
 have hr0:¬ (1048576:Int) - nn<0:=by omega
 have HN:Hid (Dt.bR [.row x0,.row x1,.row x2,.row x3,.row x4,.row x5,.row x6,.int z7,.int z8,.row x9,.row x10]≤1048576):=by rw [hn] at hx; exact hx
 clear hr hn hx
 have ar_0:=cb AR 0 (.slice p0 x0.length c0) rfl
 have ar_1:=cb AR 1 (.slice p1 x1.length c1) rfl
 have ar_2:=cb AR 2 (.slice p2 x2.length c2) rfl
 have ar_3:=cb AR 3 (.slice p3 x3.length c3) rfl
 have ar_4:=cb AR 4 (.slice p4 x4.length c4) rfl
 have ar_5:=cb AR 5 (.slice p5 x5.length c5) rfl
 have ar_6:=cb AR 6 (.slice p6 x6.length c6) rfl
 have ar_7:=cb AR 7 (.int .i64 z7) rfl
 have ar_8:=cb AR 8 (.int .i64 z8) rfl
 have ar_9:=cb AR 9 (.slice p9 x9.length c9) rfl
 have ar_10:=cb AR 10 (.slice p10 x10.length c10) rfl
 have H:=(show Hid (_∧_∧_) from ⟨AR,BB,trivial⟩)
 clear AR BB
 go_wp2_with fail
 clear ar_0 ar_1 ar_2 ar_3 ar_4 ar_5 ar_6 ar_7 ar_8 ar_9 ar_10
 refine (toPeer_dt [.slice p0 x0.length c0,.slice p1 x1.length c1,.slice p2 x2.length c2,.slice p3 x3.length c3,.slice p4 x4.length c4,.slice p5 x5.length c5,.slice p6 x6.length c6,.int .i64 z7,.int .i64 z8,.slice p9 x9.length c9,.slice p10 x10.length c10] [.row x0,.row x1,.row x2,.row x3,.row x4,.row x5,.row x6,.int z7,.int z8,.row x9,.row x10] _ _ HP.out (HA.out.1.up H.out.2.1) HN.out).mono ?_
 rintro e w2 ⟨us,rfl,O2,b2⟩
 obtain ⟨AR,BB,-⟩:=H.out
 clear H
 have AR:=(b2.block _ (lh AR)).trans AR
 have BB:=BB.trans (b2.mono BB.size)
 have z2:w1.heap.size≤w2.heap.size:=b2.size
 clear b2
 obtain ⟨v0,v1,v2,v3,v4,v5,v6,v7,v8,v9,v10,rfl,k0,k1,k2,k3,k4,k5,k6,k7,k8,k9,k10⟩:=fs11 (OFs.at O2)
 obtain ⟨g0,h0,rfl⟩:=k0.form
 obtain ⟨g1,h1,rfl⟩:=k1.form
 obtain ⟨g2,h2,rfl⟩:=k2.form
 obtain ⟨g3,h3,rfl⟩:=k3.form
 obtain ⟨g4,h4,rfl⟩:=k4.form
 obtain ⟨g5,h5,rfl⟩:=k5.form
 obtain ⟨g6,h6,rfl⟩:=k6.form
 obtain ⟨rfl,-⟩:=k7.ofInt
 obtain ⟨rfl,-⟩:=k8.ofInt
 obtain ⟨g9,h9,rfl⟩:=k9.form
 obtain ⟨g10,h10,rfl⟩:=k10.form
 clear k0 k1 k2 k3 k4 k5 k6 k9 k10
 have H:=(show Hid (_∧_∧_∧_) from ⟨AR,BB,O2,trivial⟩)
 clear AR BB O2
 go_wp2_with fail
 refine (specFlush_any _ [.row x0,.row x1,.row x2,.row x3,.row x4,.row x5,.row x6,.int z7,.int z8,.row x9,.row x10] _ _ HP.out (OFs.at H.out.2.2.1) HN.out).mono ?_
 rintro e w3 hans
 obtain ⟨us,v,X3,Y3,rfl,hX,hY,hd,hXY,bb,hlb⟩:=HAN.out _ _ _ hans
 clear hans
 have HLK:Hid (l.bulk≤1048576):=hlb
 clear hlb
 have HM:Hid (Dt.bR [.row x0,.row x1,.row x2,.row x3,.row x4,.row x5,.row y6,.int l.id,.int l.next,.row so,.row se]≤4194304∧(tcnt [.row x0,.row x1,.row x2,.row x3,.row x4,.row x5,.row x6,.int z7,.int z8,.row x9,.row x10]:Int)≤40000000∧(tcnt [.row x0,.row x1,.row x2,.row x3,.row x4,.row x5,.row y6,.int l.id,.int l.next,.row so,.row se]:Int)≤40000000∧(pk.length:Int)≤1048576):=flush_bounds HP.out HD.out HN.out HLB.out.2.1 HLB.out.2.2.1 HLK.out HLB.out.1
 obtain ⟨AR,BB,O2,-⟩:=H.out
 clear H
 have AR:=(bb.block _ (lh AR)).trans AR
 have BB:=BB.trans (bb.mono BB.size)
 have O2:=OFs.up O2 bb
 have O3:OFs w3 us [.row x0,.row x1,.row x2,.row x3,.row x4,.row x5,.row y6,.int l.id,.int l.next,.row so,.row se] (Btw w2.heap.size w3.heap.size):=hX.mono (fun b hb=>hXY b (.inl hb))
 have G3:Own w3 v (.row pk) (Btw w2.heap.size w3.heap.size):=hY.mono (fun b hb=>hXY b (.inr hb))
 have z3:w2.heap.size≤w3.heap.size:=bb.size
 clear bb hX hY hd hXY O2
 obtain ⟨v0,v1,v2,v3,v4,v5,v6,v7,v8,v9,v10,rfl,k0,k1,k2,k3,k4,k5,k6,k7,k8,k9,k10⟩:=fs11 (OFs.at O3)
 obtain ⟨s0,t0,rfl⟩:=k0.form
 obtain ⟨s1,t1,rfl⟩:=k1.form
 obtain ⟨s2,t2,rfl⟩:=k2.form
 obtain ⟨s3,t3,rfl⟩:=k3.form
 obtain ⟨s4,t4,rfl⟩:=k4.form
 obtain ⟨s5,t5,rfl⟩:=k5.form
 obtain ⟨s6,t6,rfl⟩:=k6.form
 obtain ⟨rfl,-⟩:=k7.ofInt
 obtain ⟨rfl,-⟩:=k8.ofInt
 obtain ⟨s9,t9,rfl⟩:=k9.form
 obtain ⟨s10,t10,rfl⟩:=k10.form
 clear k0 k1 k2 k3 k4 k5 k6 k9 k10
 obtain ⟨s11,t11,rfl⟩:=G3.form
 have ar_0:=cb AR 0 (.slice p0 x0.length c0) rfl
 have ar_1:=cb AR 1 (.slice p1 x1.length c1) rfl
 have ar_2:=cb AR 2 (.slice p2 x2.length c2) rfl
 have ar_3:=cb AR 3 (.slice p3 x3.length c3) rfl
 have ar_4:=cb AR 4 (.slice p4 x4.length c4) rfl
 have ar_5:=cb AR 5 (.slice p5 x5.length c5) rfl
 have ar_6:=cb AR 6 (.slice p6 x6.length c6) rfl
 have ar_7:=cb AR 7 (.int .i64 z7) rfl
 have ar_8:=cb AR 8 (.int .i64 z8) rfl
 have ar_9:=cb AR 9 (.slice p9 x9.length c9) rfl
 have ar_10:=cb AR 10 (.slice p10 x10.length c10) rfl
 have zz3:w.heap.size<w3.heap.size:=by omega
 obtain ⟨W3,hW⟩:∃ W,W=w3.alloc (.cells #[.slice s0 x0.length t0,.slice s1 x1.length t1,.slice s2 x2.length t2,.slice s3 x3.length t3,.slice s4 x4.length t4,.slice s5 x5.length t5,.slice s6 y6.length t6,.int .i64 l.id,.int .i64 l.next,.slice s9 so.length t9,.slice s10 se.length t10] 51):=⟨_,rfl⟩
 have bx:Below w3.heap.size w3 W3:=by rw [hW]; exact (Below.refl _ w3).alloc (Nat.le_refl _) _
 have B6:W3.heap[w3.heap.size]? = some (.cells #[.slice s0 x0.length t0,.slice s1 x1.length t1,.slice s2 x2.length t2,.slice s3 x3.length t3,.slice s4 x4.length t4,.slice s5 x5.length t5,.slice s6 y6.length t6,.int .i64 l.id,.int .i64 l.next,.slice s9 so.length t9,.slice s10 se.length t10] 51):=by rw [hW]; exact (MapKept.heap_alloc w3 _).1
 have zW3:W3.heap.size=w3.heap.size+1:=by rw [hW]; simp
 have HWW3:=(show Hid (_∧_) from ⟨hW,zW3⟩)
 have yW3:w3.heap.size<W3.heap.size:=by omega
 clear hW zW3
 have AR:=(bx.block _ (lh AR)).trans AR
 have BB:=BB.trans (bx.mono BB.size)
 have O3:=OFs.up O3 bx
 have G3:=Own.up G3 bx
 clear bx
 have H:=(show Hid (_∧_∧_∧_∧_∧_) from ⟨AR,BB,O3,G3,B6,trivial⟩)
 clear AR BB O3 G3 B6
 go_wp2_with fail
 rw [← HWW3.out.1]
 clear ar_0 ar_1 ar_2 ar_3 ar_4 ar_5 ar_6 ar_7 ar_8 ar_9 ar_10
 refine (toPeer_dt [.slice p0 x0.length c0,.slice p1 x1.length c1,.slice p2 x2.length c2,.slice p3 x3.length c3,.slice p4 x4.length c4,.slice p5 x5.length c5,.slice p6 x6.length c6,.int .i64 z7,.int .i64 z8,.slice p9 x9.length c9,.slice p10 x10.length c10] [.row x0,.row x1,.row x2,.row x3,.row x4,.row x5,.row x6,.int z7,.int z8,.row x9,.row x10] _ _ HP.out (HA.out.1.up H.out.2.1) HN.out).mono ?_
 rintro e w4 ⟨us,rfl,O4,b4⟩
 obtain ⟨AR,BB,O3,G3,B6,-⟩:=H.out
 clear H
 have AR:=(b4.block _ (lh AR)).trans AR
 have BB:=BB.trans (b4.mono BB.size)
 have O3:=OFs.up O3 b4
 have G3:=Own.up G3 b4
 have B6:=(b4.block _ (lh B6)).trans B6
 have z4:W3.heap.size≤w4.heap.size:=b4.size
 clear b4
 obtain ⟨v0,v1,v2,v3,v4,v5,v6,v7,v8,v9,v10,rfl,k0,k1,k2,k3,k4,k5,k6,k7,k8,k9,k10⟩:=fs11 (OFs.at O4)
 obtain ⟨P0,C0,rfl⟩:=k0.form
 obtain ⟨P1,C1,rfl⟩:=k1.form
 obtain ⟨P2,C2,rfl⟩:=k2.form
 obtain ⟨P3,C3,rfl⟩:=k3.form
 obtain ⟨P4,C4,rfl⟩:=k4.form
 obtain ⟨P5,C5,rfl⟩:=k5.form
 obtain ⟨P6,C6,rfl⟩:=k6.form
 obtain ⟨rfl,-⟩:=k7.ofInt
 obtain ⟨rfl,-⟩:=k8.ofInt
 obtain ⟨P9,C9,rfl⟩:=k9.form
 obtain ⟨P10,C10,rfl⟩:=k10.form
 clear k0 k1 k2 k3 k4 k5 k6 k9 k10
 obtain ⟨W4,hW⟩:∃ W,W=w4.alloc (.cells #[.slice P0 x0.length C0,.slice P1 x1.length C1,.slice P2 x2.length C2,.slice P3 x3.length C3,.slice P4 x4.length C4,.slice P5 x5.length C5,.slice P6 x6.length C6,.int .i64 z7,.int .i64 z8,.slice P9 x9.length C9,.slice P10 x10.length C10] 51):=⟨_,rfl⟩
 have bx:Below w4.heap.size w4 W4:=by rw [hW]; exact (Below.refl _ w4).alloc (Nat.le_refl _) _
 have B7:W4.heap[w4.heap.size]? = some (.cells #[.slice P0 x0.length C0,.slice P1 x1.length C1,.slice P2 x2.length C2,.slice P3 x3.length C3,.slice P4 x4.length C4,.slice P5 x5.length C5,.slice P6 x6.length C6,.int .i64 z7,.int .i64 z8,.slice P9 x9.length C9,.slice P10 x10.length C10] 51):=by rw [hW]; exact (MapKept.heap_alloc w4 _).1
 have zW4:W4.heap.size=w4.heap.size+1:=by rw [hW]; simp
 have HWW4:=(show Hid (_∧_) from ⟨hW,zW4⟩)
 have yW4:w4.heap.size<W4.heap.size:=by omega
 clear hW zW4
 have AR:=(bx.block _ (lh AR)).trans AR
 have BB:=BB.trans (bx.mono BB.size)
 have O3:=OFs.up O3 bx
 have G3:=Own.up G3 bx
 have B6:=(bx.block _ (lh B6)).trans B6
 have O4:=OFs.up O4 bx
 clear bx
 have H:=(show Hid (_∧_∧_∧_∧_∧_∧_∧_) from ⟨AR,BB,O3,G3,B6,O4,B7,trivial⟩)
 clear AR BB O3 G3 B6 O4 B7
 go_wp2_with fail
 rw [← HWW4.out.1]
 refine (implFlush_any _ [.row x0,.row x1,.row x2,.row x3,.row x4,.row x5,.row x6,.int z7,.int z8,.row x9,.row x10] _ e0 e1 e2 _ HP.out (OFs.at H.out.2.2.2.2.2.1) HN.out (HA.out.2.1.below H.out.2.1) (HA.out.2.2.below H.out.2.1)).mono ?_
 rintro e w5 hans
 obtain ⟨us,v,X5,Y5,rfl,hX,hY,hd,hXY,bb,hlb⟩:=HAN.out _ _ _ hans
 clear hans
 obtain ⟨AR,BB,O3,G3,B6,O4,B7,-⟩:=H.out
 clear H
 have AR:=(bb.block _ (lh AR)).trans AR
 have BB:=BB.trans (bb.mono BB.size)
 have O3:=OFs.up O3 bb
 have G3:=Own.up G3 bb
 have B6:=(bb.block _ (lh B6)).trans B6
 have O4:=OFs.up O4 bb
 have B7:=(bb.block _ (lh B7)).trans B7
 have HXY:=(show Hid ((∀ b,X5 b→Y5 b→False)∧∀ b,X5 b∨Y5 b→W4.heap.size≤b∧b<w5.heap.size) from ⟨hd,hXY⟩)
 have O5:=hX
 have G5:=hY
 have z5:W4.heap.size≤w5.heap.size:=bb.size
 clear bb hX hY hd hXY hlb
 obtain ⟨v0,v1,v2,v3,v4,v5,v6,v7,v8,v9,v10,rfl,k0,k1,k2,k3,k4,k5,k6,k7,k8,k9,k10⟩:=fs11 (OFs.at O5)
 obtain ⟨S0,T0,rfl⟩:=k0.form
 obtain ⟨S1,T1,rfl⟩:=k1.form
 obtain ⟨S2,T2,rfl⟩:=k2.form
 obtain ⟨S3,T3,rfl⟩:=k3.form
 obtain ⟨S4,T4,rfl⟩:=k4.form
 obtain ⟨S5,T5,rfl⟩:=k5.form
 obtain ⟨S6,T6,rfl⟩:=k6.form
 obtain ⟨rfl,-⟩:=k7.ofInt
 obtain ⟨rfl,-⟩:=k8.ofInt
 obtain ⟨S9,T9,rfl⟩:=k9.form
 obtain ⟨S10,T10,rfl⟩:=k10.form
 clear k0 k1 k2 k3 k4 k5 k6 k9 k10
 obtain ⟨S11,T11,rfl⟩:=G5.form
 have b6_0:=cb B6 0 (.slice s0 x0.length t0) rfl
 have b6_1:=cb B6 1 (.slice s1 x1.length t1) rfl
 have b6_2:=cb B6 2 (.slice s2 x2.length t2) rfl
 have b6_3:=cb B6 3 (.slice s3 x3.length t3) rfl
 have b6_4:=cb B6 4 (.slice s4 x4.length t4) rfl
 have b6_5:=cb B6 5 (.slice s5 x5.length t5) rfl
 have b6_6:=cb B6 6 (.slice s6 y6.length t6) rfl
 have b6_7:=cb B6 7 (.int .i64 l.id) rfl
 have b6_8:=cb B6 8 (.int .i64 l.next) rfl
 have b6_9:=cb B6 9 (.slice s9 so.length t9) rfl
 have b6_10:=cb B6 10 (.slice s10 se.length t10) rfl
 have zz5:w3.heap.size<w5.heap.size:=by omega
 obtain ⟨W5,hW⟩:∃ W,W=w5.alloc (.cells #[.slice S0 x0.length T0,.slice S1 x1.length T1,.slice S2 x2.length T2,.slice S3 x3.length T3,.slice S4 x4.length T4,.slice S5 x5.length T5,.slice S6 y6.length T6,.int .i64 l.id,.int .i64 l.next,.slice S9 so.length T9,.slice S10 se.length T10] 51):=⟨_,rfl⟩
 have bx:Below w5.heap.size w5 W5:=by rw [hW]; exact (Below.refl _ w5).alloc (Nat.le_refl _) _
 have B8:W5.heap[w5.heap.size]? = some (.cells #[.slice S0 x0.length T0,.slice S1 x1.length T1,.slice S2 x2.length T2,.slice S3 x3.length T3,.slice S4 x4.length T4,.slice S5 x5.length T5,.slice S6 y6.length T6,.int .i64 l.id,.int .i64 l.next,.slice S9 so.length T9,.slice S10 se.length T10] 51):=by rw [hW]; exact (MapKept.heap_alloc w5 _).1
 have zW5:W5.heap.size=w5.heap.size+1:=by rw [hW]; simp
 have HWW5:=(show Hid (_∧_) from ⟨hW,zW5⟩)
 have yW5:w5.heap.size<W5.heap.size:=by omega
 clear hW zW5
 have AR:=(bx.block _ (lh AR)).trans AR
 have BB:=BB.trans (bx.mono BB.size)
 have O3:=OFs.up O3 bx
 have G3:=Own.up G3 bx
 have B6:=(bx.block _ (lh B6)).trans B6
 have O4:=OFs.up O4 bx
 have B7:=(bx.block _ (lh B7)).trans B7
 have O5:=OFs.up O5 bx
 have G5:=Own.up G5 bx
 clear bx
 have H:=(show Hid (_∧_∧_∧_∧_∧_∧_∧_∧_∧_∧_) from ⟨AR,BB,O3,G3,B6,O4,B7,O5,G5,B8,trivial⟩)
 clear AR BB O3 G3 B6 O4 B7 O5 G5 B8
 have hnot:=ex_not
 go_wp2_with fail
 rw [← HWW5.out.1]
 clear b6_0 b6_1 b6_2 b6_3 b6_4 b6_5 b6_6 b6_7 b6_8 b6_9 b6_10
 refine (eqPeer_dt _ _ [.row x0,.row x1,.row x2,.row x3,.row x4,.row x5,.row y6,.int l.id,.int l.next,.row so,.row se] _ _ _ HD.out (OFs.at H.out.2.2.2.2.2.2.2.1) (OFs.at H.out.2.2.1) HM.out.1).mono ?_
 rintro e w6 ⟨rfl,b_⟩
 obtain ⟨AR,BB,O3,G3,B6,O4,B7,O5,G5,B8,-⟩:=H.out
 clear H
 have AR:=(b_.block _ (lh AR)).trans AR
 have BB:=BB.trans (b_.mono BB.size)
 have O3:=OFs.up O3 b_
 have G3:=Own.up G3 b_
 have B6:=(b_.block _ (lh B6)).trans B6
 have O4:=OFs.up O4 b_
 have B7:=(b_.block _ (lh B7)).trans B7
 have O5:=OFs.up O5 b_
 have G5:=Own.up G5 b_
 have B8:=(b_.block _ (lh B8)).trans B8
 have z6:=b_.size
 clear b_
 have H:=(show Hid (_∧_∧_∧_∧_∧_∧_∧_∧_∧_∧_) from ⟨AR,BB,O3,G3,B6,O4,B7,O5,G5,B8,trivial⟩)
 clear AR BB O3 G3 B6 O4 B7 O5 G5 B8
 go_wp2_with fail
 refine (eqStringS_len _ _ pk _ _ _ HPK.out (Own.at H.out.2.2.2.2.2.2.2.2.1) (Own.at H.out.2.2.2.1) (by have:=HM.out.2.2.2; omega)).mono ?_
 rintro e w6' ⟨rfl,b_⟩
 obtain ⟨AR,BB,O3,G3,B6,O4,B7,O5,G5,B8,-⟩:=H.out
 clear H
 have AR:=(b_.block _ (lh AR)).trans AR
 have BB:=BB.trans (b_.mono BB.size)
 have O3:=OFs.up O3 b_
 have G3:=Own.up G3 b_
 have B6:=(b_.block _ (lh B6)).trans B6
 have O4:=OFs.up O4 b_
 have B7:=(b_.block _ (lh B7)).trans B7
 have O5:=OFs.up O5 b_
 have G5:=Own.up G5 b_
 have B8:=(b_.block _ (lh B8)).trans B8
 have z6':=b_.size
 clear b_
 have b7_0:=cb B7 0 (.slice P0 x0.length C0) rfl
 have b7_1:=cb B7 1 (.slice P1 x1.length C1) rfl
 have b7_2:=cb B7 2 (.slice P2 x2.length C2) rfl
 have b7_3:=cb B7 3 (.slice P3 x3.length C3) rfl
 have b7_4:=cb B7 4 (.slice P4 x4.length C4) rfl
 have b7_5:=cb B7 5 (.slice P5 x5.length C5) rfl
 have b7_6:=cb B7 6 (.slice P6 x6.length C6) rfl
 have b7_7:=cb B7 7 (.int .i64 z7) rfl
 have b7_8:=cb B7 8 (.int .i64 z8) rfl
 have b7_9:=cb B7 9 (.slice P9 x9.length C9) rfl
 have b7_10:=cb B7 10 (.slice P10 x10.length C10) rfl
 have ar_0:=cb AR 0 (.slice p0 x0.length c0) rfl
 have ar_1:=cb AR 1 (.slice p1 x1.length c1) rfl
 have ar_2:=cb AR 2 (.slice p2 x2.length c2) rfl
 have ar_3:=cb AR 3 (.slice p3 x3.length c3) rfl
 have ar_4:=cb AR 4 (.slice p4 x4.length c4) rfl
 have ar_5:=cb AR 5 (.slice p5 x5.length c5) rfl
 have ar_6:=cb AR 6 (.slice p6 x6.length c6) rfl
 have ar_7:=cb AR 7 (.int .i64 z7) rfl
 have ar_8:=cb AR 8 (.int .i64 z8) rfl
 have ar_9:=cb AR 9 (.slice p9 x9.length c9) rfl
 have ar_10:=cb AR 10 (.slice p10 x10.length c10) rfl
 have H:=(show Hid (_∧_∧_∧_∧_∧_∧_∧_∧_∧_∧_) from ⟨AR,BB,O3,G3,B6,O4,B7,O5,G5,B8,trivial⟩)
 clear AR BB O3 G3 B6 O4 B7 O5 G5 B8
 have hl7:w4.heap.size<w6'.heap.size:=by omega
 go_wp2_with fail
 go_region_with (first
  | (go_at_call 6; refine (toPeer_dt [.slice p0 x0.length c0,.slice p1 x1.length c1,.slice p2 x2.length c2,.slice p3 x3.length c3,.slice p4 x4.length c4,.slice p5 x5.length c5,.slice p6 x6.length c6,.int .i64 z7,.int .i64 z8,.slice p9 x9.length c9,.slice p10 x10.length c10] [.row x0,.row x1,.row x2,.row x3,.row x4,.row x5,.row x6,.int z7,.int z8,.row x9,.row x10] _ _ HP.out (HA.out.1.up H.out.2.1.drew) HN.out).mono ?_; rintro e w7 ⟨us,rfl,O7,d7⟩; have D7:Below w6'.heap.size w6' w7:=(Below.refl _ w6').drew.trans d7; have H7:=(show Hid (_∧_) from ⟨OFs.at O7,D7⟩); obtain ⟨v0,v1,v2,v3,v4,v5,v6,v7,v8,v9,v10,rfl,k0,k1,k2,k3,k4,k5,k6,k7,k8,k9,k10⟩:=fs11 (OFs.at O7); obtain ⟨q0,r0,rfl⟩:=k0.form; obtain ⟨q1,r1,rfl⟩:=k1.form; obtain ⟨q2,r2,rfl⟩:=k2.form; obtain ⟨q3,r3,rfl⟩:=k3.form; obtain ⟨q4,r4,rfl⟩:=k4.form; obtain ⟨q5,r5,rfl⟩:=k5.form; obtain ⟨q6,r6,rfl⟩:=k6.form; obtain ⟨rfl,-⟩:=k7.ofInt; obtain ⟨rfl,-⟩:=k8.ofInt; obtain ⟨q9,r9,rfl⟩:=k9.form; obtain ⟨q10,r10,rfl⟩:=k10.form; have zb0:w7.cell? ⟨w4.heap.size,0,none⟩=some (.slice P0 x0.length C0):=((D7.cell (p:=⟨w4.heap.size,0,none⟩) hl7).trans b7_0); have zb1:w7.cell? ⟨w4.heap.size,1,none⟩=some (.slice P1 x1.length C1):=((D7.cell (p:=⟨w4.heap.size,1,none⟩) hl7).trans b7_1); have zb2:w7.cell? ⟨w4.heap.size,2,none⟩=some (.slice P2 x2.length C2):=((D7.cell (p:=⟨w4.heap.size,2,none⟩) hl7).trans b7_2); have zb3:w7.cell? ⟨w4.heap.size,3,none⟩=some (.slice P3 x3.length C3):=((D7.cell (p:=⟨w4.heap.size,3,none⟩) hl7).trans b7_3); have zb4:w7.cell? ⟨w4.heap.size,4,none⟩=some (.slice P4 x4.length C4):=((D7.cell (p:=⟨w4.heap.size,4,none⟩) hl7).trans b7_4); have zb5:w7.cell? ⟨w4.heap.size,5,none⟩=some (.slice P5 x5.length C5):=((D7.cell (p:=⟨w4.heap.size,5,none⟩) hl7).trans b7_5); have zb6:w7.cell? ⟨w4.heap.size,6,none⟩=some (.slice P6 x6.length C6):=((D7.cell (p:=⟨w4.heap.size,6,none⟩) hl7).trans b7_6); have zb7:w7.cell? ⟨w4.heap.size,7,none⟩=some (.int .i64 z7):=((D7.cell (p:=⟨w4.heap.size,7,none⟩) hl7).trans b7_7); have zb8:w7.cell? ⟨w4.heap.size,8,none⟩=some (.int .i64 z8):=((D7.cell (p:=⟨w4.heap.size,8,none⟩) hl7).trans b7_8); have zb9:w7.cell? ⟨w4.heap.size,9,none⟩=some (.slice P9 x9.length C9):=((D7.cell (p:=⟨w4.heap.size,9,none⟩) hl7).trans b7_9); have zb10:w7.cell? ⟨w4.heap.size,10,none⟩=some (.slice P10 x10.length C10):=((D7.cell (p:=⟨w4.heap.size,10,none⟩) hl7).trans b7_10); clear O7 d7 D7 k0 k1 k2 k3 k4 k5 k6 k9 k10)
  | (go_at_call 8; refine (eqPeer_dt _ _ [.row x0,.row x1,.row x2,.row x3,.row x4,.row x5,.row x6,.int z7,.int z8,.row x9,.row x10] _ _ _ HP.out (OFs.at (OFs.up H.out.2.2.2.2.2.1 H7.out.2)) H7.out.1 (by have:=HN.out; omega)).mono ?_; rintro e w8 ⟨rfl,d8⟩; have H8:=(show Hid (_∧True) from ⟨H7.out.2.trans (d8.mono H7.out.2.size),trivial⟩); clear d8))
 all_goals
  have b8:=H8.out.1
  clear H8 H7
  obtain ⟨AR,BB,O3,G3,B6,O4,B7,O5,G5,B8,-⟩:=H.out
  clear H
  have AR:=(b8.block _ (lh AR)).trans AR
  have BB:=BB.trans (b8.mono BB.size)
  have O3:=OFs.up O3 b8
  have G3:=Own.up G3 b8
  have B6:=(b8.block _ (lh B6)).trans B6
  have O4:=OFs.up O4 b8
  have B7:=(b8.block _ (lh B7)).trans B7
  have O5:=OFs.up O5 b8
  have G5:=Own.up G5 b8
  have B8:=(b8.block _ (lh B8)).trans B8
  have zs8:w6'.heap.size≤w8.heap.size:=b8.size
  clear b8
  have b7_0:=cb B7 0 (.slice P0 x0.length C0) rfl
  have b7_1:=cb B7 1 (.slice P1 x1.length C1) rfl
  have b7_2:=cb B7 2 (.slice P2 x2.length C2) rfl
  have b7_3:=cb B7 3 (.slice P3 x3.length C3) rfl
  have b7_4:=cb B7 4 (.slice P4 x4.length C4) rfl
  have b7_5:=cb B7 5 (.slice P5 x5.length C5) rfl
  have b7_6:=cb B7 6 (.slice P6 x6.length C6) rfl
  have b7_7:=cb B7 7 (.int .i64 z7) rfl
  have b7_8:=cb B7 8 (.int .i64 z8) rfl
  have b7_9:=cb B7 9 (.slice P9 x9.length C9) rfl
  have b7_10:=cb B7 10 (.slice P10 x10.length C10) rfl
  have H:=(show Hid (_∧_∧_∧_∧_∧_∧_∧_∧_∧_∧_) from ⟨AR,BB,O3,G3,B6,O4,B7,O5,G5,B8,trivial⟩)
  clear AR BB O3 G3 B6 O4 B7 O5 G5 B8
  go_wp2_with fail
  clear b7_0 b7_1 b7_2 b7_3 b7_4 b7_5 b7_6 b7_7 b7_8 b7_9 b7_10
  refine (markPeer_dt _ [.row x0,.row x1,.row x2,.row x3,.row x4,.row x5,.row x6,.int z7,.int z8,.row x9,.row x10] _ _ 1 HP.out H.out.2.2.2.2.2.1 (by omega) (by have:=HM.out.2.1; omega)).mono ?_
  rintro e w9 ⟨rfl,O4',kb9⟩
  clear O4'
  obtain ⟨AR,BB,O3,G3,B6,O4,B7,O5,G5,B8,-⟩:=H.out
  clear H
  clear O4
  have zA:=HWW3.out.2
  have zB:=HWW4.out.2
  have zC:=HWW5.out.2
  have zD:=HWW0.out.2
  have AR:=kb9.heap AR (fun hx=>by have h1:=hx.1; have h2:=hx.2; omega)
  have BB:=BB.trans (kb9.below (fun b hx=>by have h1:=hx.1; have h2:=hx.2; omega) BB.size)
  have O3:=OFs.moved O3 (fun b hb hlt=>kb9.block b hlt (fun hx=>by have h1:=hx.1; have h2:=hx.2; have h3:=hb.1; have h4:=hb.2; omega))
  have G3:=Own.moved G3 (fun b hb hlt=>kb9.block b hlt (fun hx=>by have h1:=hx.1; have h2:=hx.2; have h3:=hb.1; have h4:=hb.2; omega))
  have B6:=kb9.heap B6 (fun hx=>by have h1:=hx.1; have h2:=hx.2; omega)
  have B7:=kb9.heap B7 (fun hx=>by have h1:=hx.1; have h2:=hx.2; omega)
  have O5:=OFs.moved O5 (fun b hb hlt=>kb9.block b hlt (fun hx=>by have h34:=HXY.out.2 _ (.inl hb); have h1:=hx.1; have h2:=hx.2; omega))
  have G5:=Own.moved G5 (fun b hb hlt=>kb9.block b hlt (fun hx=>by have h34:=HXY.out.2 _ (.inr hb); have h1:=hx.1; have h2:=hx.2; omega))
  have B8:=kb9.heap B8 (fun hx=>by have h1:=hx.1; have h2:=hx.2; omega)
  have z9:w8.heap.size≤w9.heap.size:=kb9.size
  clear kb9 zA zB zC zD
  have hk9:¬ 1+(tcnt [.row x0,.row x1,.row x2,.row x3,.row x4,.row x5,.row x6,.int z7,.int z8,.row x9,.row x10]:Int)<0:=by omega
  have hk9':decide (1+(tcnt [.row x0,.row x1,.row x2,.row x3,.row x4,.row x5,.row x6,.int z7,.int z8,.row x9,.row x10]:Int)<0)=false:=by simp; omega
  have b6_0:=cb B6 0 (.slice s0 x0.length t0) rfl
  have b6_1:=cb B6 1 (.slice s1 x1.length t1) rfl
  have b6_2:=cb B6 2 (.slice s2 x2.length t2) rfl
  have b6_3:=cb B6 3 (.slice s3 x3.length t3) rfl
  have b6_4:=cb B6 4 (.slice s4 x4.length t4) rfl
  have b6_5:=cb B6 5 (.slice s5 x5.length t5) rfl
  have b6_6:=cb B6 6 (.slice s6 y6.length t6) rfl
  have b6_7:=cb B6 7 (.int .i64 l.id) rfl
  have b6_8:=cb B6 8 (.int .i64 l.next) rfl
  have b6_9:=cb B6 9 (.slice s9 so.length t9) rfl
  have b6_10:=cb B6 10 (.slice s10 se.length t10) rfl
  have b8_0:=cb B8 0 (.slice S0 x0.length T0) rfl
  have b8_1:=cb B8 1 (.slice S1 x1.length T1) rfl
  have b8_2:=cb B8 2 (.slice S2 x2.length T2) rfl
  have b8_3:=cb B8 3 (.slice S3 x3.length T3) rfl
  have b8_4:=cb B8 4 (.slice S4 x4.length T4) rfl
  have b8_5:=cb B8 5 (.slice S5 x5.length T5) rfl
  have b8_6:=cb B8 6 (.slice S6 y6.length T6) rfl
  have b8_7:=cb B8 7 (.int .i64 l.id) rfl
  have b8_8:=cb B8 8 (.int .i64 l.next) rfl
  have b8_9:=cb B8 9 (.slice S9 so.length T9) rfl
  have b8_10:=cb B8 10 (.slice S10 se.length T10) rfl
  have H:=(show Hid (_∧_∧_∧_∧_∧_∧_∧_∧_∧_) from ⟨AR,BB,O3,G3,B6,B7,O5,G5,B8,trivial⟩)
  clear AR BB O3 G3 B6 B7 O5 G5 B8
  go_wp2_with fail
  clear b6_0 b6_1 b6_2 b6_3 b6_4 b6_5 b6_6 b6_7 b6_8 b6_9 b6_10 b8_0 b8_1 b8_2 b8_3 b8_4 b8_5 b8_6 b8_7 b8_8 b8_9 b8_10
  refine (eqPeer_dt _ _ [.row x0,.row x1,.row x2,.row x3,.row x4,.row x5,.row y6,.int l.id,.int l.next,.row so,.row se] _ _ _ HD.out (OFs.at H.out.2.2.2.2.2.2.1) (OFs.at H.out.2.2.1) HM.out.1).mono ?_
  rintro e w10 ⟨rfl,b_⟩
  obtain ⟨AR,BB,O3,G3,B6,B7,O5,G5,B8,-⟩:=H.out
  clear H
  have AR:=(b_.block _ (lh AR)).trans AR
  have BB:=BB.trans (b_.mono BB.size)
  have O3:=OFs.up O3 b_
  have G3:=Own.up G3 b_
  have B6:=(b_.block _ (lh B6)).trans B6
  have B7:=(b_.block _ (lh B7)).trans B7
  have O5:=OFs.up O5 b_
  have G5:=Own.up G5 b_
  have B8:=(b_.block _ (lh B8)).trans B8
  have z10:=b_.size
  clear b_
  have H:=(show Hid (_∧_∧_∧_∧_∧_∧_∧_∧_∧_) from ⟨AR,BB,O3,G3,B6,B7,O5,G5,B8,trivial⟩)
  clear AR BB O3 G3 B6 B7 O5 G5 B8
  go_wp2_with fail
  refine (eqStringS_len _ _ pk _ _ _ HPK.out (Own.at H.out.2.2.2.2.2.2.2.1) (Own.at H.out.2.2.2.1) (by have:=HM.out.2.2.2; omega)).mono ?_
  rintro e w10' ⟨rfl,b_⟩
  obtain ⟨AR,BB,O3,G3,B6,B7,O5,G5,B8,-⟩:=H.out
  clear H
  have AR:=(b_.block _ (lh AR)).trans AR
  have BB:=BB.trans (b_.mono BB.size)
  have O3:=OFs.up O3 b_
  have G3:=Own.up G3 b_
  have B6:=(b_.block _ (lh B6)).trans B6
  have B7:=(b_.block _ (lh B7)).trans B7
  have O5:=OFs.up O5 b_
  have G5:=Own.up G5 b_
  have B8:=(b_.block _ (lh B8)).trans B8
  have z10':=b_.size
  clear b_
  have b8_0:=cb B8 0 (.slice S0 x0.length T0) rfl
  have b8_1:=cb B8 1 (.slice S1 x1.length T1) rfl
  have b8_2:=cb B8 2 (.slice S2 x2.length T2) rfl
  have b8_3:=cb B8 3 (.slice S3 x3.length T3) rfl
  have b8_4:=cb B8 4 (.slice S4 x4.length T4) rfl
  have b8_5:=cb B8 5 (.slice S5 x5.length T5) rfl
  have b8_6:=cb B8 6 (.slice S6 y6.length T6) rfl
  have b8_7:=cb B8 7 (.int .i64 l.id) rfl
  have b8_8:=cb B8 8 (.int .i64 l.next) rfl
  have b8_9:=cb B8 9 (.slice S9 so.length T9) rfl
  have b8_10:=cb B8 10 (.slice S10 se.length T10) rfl
  have H:=(show Hid (_∧_∧_∧_∧_∧_∧_∧_∧_∧_) from ⟨AR,BB,O3,G3,B6,B7,O5,G5,B8,trivial⟩)
  clear AR BB O3 G3 B6 B7 O5 G5 B8
  go_wp2_with fail
  clear b8_0 b8_1 b8_2 b8_3 b8_4 b8_5 b8_6 b8_7 b8_8 b8_9 b8_10
  refine (markPeer_dt _ [.row x0,.row x1,.row x2,.row x3,.row x4,.row x5,.row y6,.int l.id,.int l.next,.row so,.row se] _ _ 1 HD.out H.out.2.2.2.2.2.2.1 (by omega) (by have:=HM.out.2.2.1; omega)).mono ?_
  rintro e w11 ⟨rfl,N5,kb11⟩
  obtain ⟨AR,BB,O3,G3,B6,B7,O5,G5,B8,-⟩:=H.out
  clear H
  clear O5
  have zA:=HWW3.out.2
  have zB:=HWW4.out.2
  have zC:=HWW5.out.2
  have zD:=HWW0.out.2
  have AR:=kb11.heap AR (fun hx=>by have h12:=HXY.out.2 _ (.inl hx); have h1:=h12.1; have h2:=h12.2; omega)
  have BB:=BB.trans (kb11.below (fun b hx=>by have h12:=HXY.out.2 _ (.inl hx); have h1:=h12.1; have h2:=h12.2; omega) BB.size)
  have O3:=OFs.moved O3 (fun b hb hlt=>kb11.block b hlt (fun hx=>by have h12:=HXY.out.2 _ (.inl hx); have h1:=h12.1; have h2:=h12.2; have h3:=hb.1; have h4:=hb.2; omega))
  have G3:=Own.moved G3 (fun b hb hlt=>kb11.block b hlt (fun hx=>by have h12:=HXY.out.2 _ (.inl hx); have h1:=h12.1; have h2:=h12.2; have h3:=hb.1; have h4:=hb.2; omega))
  have B6:=kb11.heap B6 (fun hx=>by have h12:=HXY.out.2 _ (.inl hx); have h1:=h12.1; have h2:=h12.2; omega)
  have B7:=kb11.heap B7 (fun hx=>by have h12:=HXY.out.2 _ (.inl hx); have h1:=h12.1; have h2:=h12.2; omega)
  have G5:=Own.moved G5 (fun b hb hlt=>kb11.block b hlt (fun hx=>by exact HXY.out.1 b hx hb))
  have B8:=kb11.heap B8 (fun hx=>by have h12:=HXY.out.2 _ (.inl hx); have h1:=h12.1; have h2:=h12.2; omega)
  have z11:w10'.heap.size≤w11.heap.size:=kb11.size
  clear kb11 zA zB zC zD
  have H:=(show Hid (_∧_∧_∧_∧_∧_∧_∧_∧_∧_) from ⟨AR,BB,O3,G3,B6,B7,G5,B8,N5,trivial⟩)
  clear AR BB O3 G3 B6 B7 G5 B8 N5
  obtain ⟨K1,hK1⟩:∃ K:Int,K=1+(tcnt [.row x0,.row x1,.row x2,.row x3,.row x4,.row x5,.row y6,.int l.id,.int l.next,.row so,.row se]:Int):=⟨_,rfl⟩
  rw [← hK1]
  have hK1b:1≤K1∧K1≤50000000:=by have:=HM.out.2.2.1; omega
  have hK1n:¬ K1<0:=by omega
  have HK1:Hid (K1=1+(tcnt [.row x0,.row x1,.row x2,.row x3,.row x4,.row x5,.row y6,.int l.id,.int l.next,.row so,.row se]:Int)):=hK1
  clear hK1
  go_wp2_with fail
  refine (markStringS_dt _ pk _ _ K1 HPK.out H.out.2.2.2.2.2.2.1 (by omega) (by have:=HM.out.2.2.2; have:=HLB.out.2.2.2; omega)).mono ?_
  rintro e w11' ⟨rfl,M5,kb12⟩
  obtain ⟨AR,BB,O3,G3,B6,B7,G5,B8,N5,-⟩:=H.out
  clear H
  clear G5
  have zA:=HWW3.out.2
  have zB:=HWW4.out.2
  have zC:=HWW5.out.2
  have zD:=HWW0.out.2
  have AR:=kb12.heap AR (fun hx=>by have h12:=HXY.out.2 _ (.inr hx); have h1:=h12.1; have h2:=h12.2; omega)
  have BB:=BB.trans (kb12.below (fun b hx=>by have h12:=HXY.out.2 _ (.inr hx); have h1:=h12.1; have h2:=h12.2; omega) BB.size)
  have O3:=OFs.moved O3 (fun b hb hlt=>kb12.block b hlt (fun hx=>by have h12:=HXY.out.2 _ (.inr hx); have h1:=h12.1; have h2:=h12.2; have h3:=hb.1; have h4:=hb.2; omega))
  have G3:=Own.moved G3 (fun b hb hlt=>kb12.block b hlt (fun hx=>by have h12:=HXY.out.2 _ (.inr hx); have h1:=h12.1; have h2:=h12.2; have h3:=hb.1; have h4:=hb.2; omega))
  have B6:=kb12.heap B6 (fun hx=>by have h12:=HXY.out.2 _ (.inr hx); have h1:=h12.1; have h2:=h12.2; omega)
  have B7:=kb12.heap B7 (fun hx=>by have h12:=HXY.out.2 _ (.inr hx); have h1:=h12.1; have h2:=h12.2; omega)
  have B8:=kb12.heap B8 (fun hx=>by have h12:=HXY.out.2 _ (.inr hx); have h1:=h12.1; have h2:=h12.2; omega)
  have N5:=OFs.moved N5 (fun b hb hlt=>kb12.block b hlt (fun hx=>by exact HXY.out.1 b hb hx))
  have z11':w11.heap.size≤w11'.heap.size:=kb12.size
  clear kb12 zA zB zC zD
  have b8_0:=cb B8 0 (.slice S0 x0.length T0) rfl
  have b8_1:=cb B8 1 (.slice S1 x1.length T1) rfl
  have b8_2:=cb B8 2 (.slice S2 x2.length T2) rfl
  have b8_3:=cb B8 3 (.slice S3 x3.length T3) rfl
  have b8_4:=cb B8 4 (.slice S4 x4.length T4) rfl
  have b8_5:=cb B8 5 (.slice S5 x5.length T5) rfl
  have b8_6:=cb B8 6 (.slice S6 y6.length T6) rfl
  have b8_7:=cb B8 7 (.int .i64 l.id) rfl
  have b8_8:=cb B8 8 (.int .i64 l.next) rfl
  have b8_9:=cb B8 9 (.slice S9 so.length T9) rfl
  have b8_10:=cb B8 10 (.slice S10 se.length T10) rfl
  have H:=(show Hid (_∧_∧_∧_∧_∧_∧_∧_∧_∧_) from ⟨AR,BB,O3,G3,B6,B7,B8,N5,M5,trivial⟩)
  clear AR BB O3 G3 B6 B7 B8 N5 M5
  obtain ⟨K2,hK2⟩:∃ K:Int,K=K1+(Dt.cS pk:Int):=⟨_,rfl⟩
  rw [← hK2]
  have hK2b:1≤K2∧K2≤100000000:=by have:=HM.out.2.2.2; have:=HLB.out.2.2.2; omega
  have hK2n:¬ K2<0:=by omega
  have hKe:(K2 != K2)=false:=by simp
  have HK2:Hid (K2=K1+(Dt.cS pk:Int)):=hK2
  clear hK2
  go_wp2_with fail
  clear b8_0 b8_1 b8_2 b8_3 b8_4 b8_5 b8_6 b8_7 b8_8 b8_9 b8_10
  refine (heldPeer_dt _ [.row x0,.row x1,.row x2,.row x3,.row x4,.row x5,.row y6,.int l.id,.int l.next,.row so,.row se] _ _ 1 HD.out (OFs.at H.out.2.2.2.2.2.2.2.1) (by omega) (by have:=HK1.out; omega)).mono ?_
  rintro e w12 ⟨rfl,b_⟩
  rw [← HK1.out]
  obtain ⟨AR,BB,O3,G3,B6,B7,B8,N5,M5,-⟩:=H.out
  clear H
  have AR:=(b_.block _ (lh AR)).trans AR
  have BB:=BB.trans (b_.mono BB.size)
  have O3:=OFs.up O3 b_
  have G3:=Own.up G3 b_
  have B6:=(b_.block _ (lh B6)).trans B6
  have B7:=(b_.block _ (lh B7)).trans B7
  have B8:=(b_.block _ (lh B8)).trans B8
  have N5:=OFs.up N5 b_
  have M5:=Own.up M5 b_
  have z12:=b_.size
  clear b_
  have H:=(show Hid (_∧_∧_∧_∧_∧_∧_∧_∧_∧_) from ⟨AR,BB,O3,G3,B6,B7,B8,N5,M5,trivial⟩)
  clear AR BB O3 G3 B6 B7 B8 N5 M5
  go_wp2_with fail
  refine (heldStringS_dt _ pk _ _ K1 HPK.out (Own.at H.out.2.2.2.2.2.2.2.2.1) (by omega) (by have:=HK2.out; omega)).mono ?_
  rintro e w12' ⟨rfl,b_⟩
  rw [← HK2.out]
  obtain ⟨AR,BB,O3,G3,B6,B7,B8,N5,M5,-⟩:=H.out
  clear H
  have AR:=(b_.block _ (lh AR)).trans AR
  have BB:=BB.trans (b_.mono BB.size)
  have O3:=OFs.up O3 b_
  have G3:=Own.up G3 b_
  have B6:=(b_.block _ (lh B6)).trans B6
  have B7:=(b_.block _ (lh B7)).trans B7
  have B8:=(b_.block _ (lh B8)).trans B8
  have N5:=OFs.up N5 b_
  have M5:=Own.up M5 b_
  have z12':=b_.size
  clear b_
  have ar_0:=cb AR 0 (.slice p0 x0.length c0) rfl
  have ar_1:=cb AR 1 (.slice p1 x1.length c1) rfl
  have ar_2:=cb AR 2 (.slice p2 x2.length c2) rfl
  have ar_3:=cb AR 3 (.slice p3 x3.length c3) rfl
  have ar_4:=cb AR 4 (.slice p4 x4.length c4) rfl
  have ar_5:=cb AR 5 (.slice p5 x5.length c5) rfl
  have ar_6:=cb AR 6 (.slice p6 x6.length c6) rfl
  have ar_7:=cb AR 7 (.int .i64 z7) rfl
  have ar_8:=cb AR 8 (.int .i64 z8) rfl
  have ar_9:=cb AR 9 (.slice p9 x9.length c9) rfl
  have ar_10:=cb AR 10 (.slice p10 x10.length c10) rfl
  have H:=(show Hid (_∧_∧_∧_∧_∧_∧_∧_∧_∧_) from ⟨AR,BB,O3,G3,B6,B7,B8,N5,M5,trivial⟩)
  clear AR BB O3 G3 B6 B7 B8 N5 M5
  go_wp2_with fail
  clear ar_0 ar_1 ar_2 ar_3 ar_4 ar_5 ar_6 ar_7 ar_8 ar_9 ar_10
  refine (toPeer_dt [.slice p0 x0.length c0,.slice p1 x1.length c1,.slice p2 x2.length c2,.slice p3 x3.length c3,.slice p4 x4.length c4,.slice p5 x5.length c5,.slice p6 x6.length c6,.int .i64 z7,.int .i64 z8,.slice p9 x9.length c9,.slice p10 x10.length c10] [.row x0,.row x1,.row x2,.row x3,.row x4,.row x5,.row x6,.int z7,.int z8,.row x9,.row x10] _ _ HP.out (HA.out.1.up H.out.2.1) HN.out).mono ?_
  rintro e w13 ⟨us,rfl,O13,b13⟩
  obtain ⟨AR,BB,O3,G3,B6,B7,B8,N5,M5,-⟩:=H.out
  clear H
  have AR:=(b13.block _ (lh AR)).trans AR
  have BB:=BB.trans (b13.mono BB.size)
  have O3:=OFs.up O3 b13
  have G3:=Own.up G3 b13
  have B6:=(b13.block _ (lh B6)).trans B6
  have B7:=(b13.block _ (lh B7)).trans B7
  have B8:=(b13.block _ (lh B8)).trans B8
  have N5:=OFs.up N5 b13
  have M5:=Own.up M5 b13
  have z13:w12'.heap.size≤w13.heap.size:=b13.size
  clear b13
  obtain ⟨v0,v1,v2,v3,v4,v5,v6,v7,v8,v9,v10,rfl,k0,k1,k2,k3,k4,k5,k6,k7,k8,k9,k10⟩:=fs11 (OFs.at O13)
  obtain ⟨g'0,h'0,rfl⟩:=k0.form
  obtain ⟨g'1,h'1,rfl⟩:=k1.form
  obtain ⟨g'2,h'2,rfl⟩:=k2.form
  obtain ⟨g'3,h'3,rfl⟩:=k3.form
  obtain ⟨g'4,h'4,rfl⟩:=k4.form
  obtain ⟨g'5,h'5,rfl⟩:=k5.form
  obtain ⟨g'6,h'6,rfl⟩:=k6.form
  obtain ⟨rfl,-⟩:=k7.ofInt
  obtain ⟨rfl,-⟩:=k8.ofInt
  obtain ⟨g'9,h'9,rfl⟩:=k9.form
  obtain ⟨g'10,h'10,rfl⟩:=k10.form
  clear k0 k1 k2 k3 k4 k5 k6 k9 k10
  have H:=(show Hid (_∧_∧_∧_∧_∧_∧_∧_∧_∧_∧_) from ⟨AR,BB,O3,G3,B6,B7,B8,N5,M5,O13,trivial⟩)
  clear AR BB O3 G3 B6 B7 B8 N5 M5 O13
  go_wp2_with fail
  refine (implFlush_any _ [.row x0,.row x1,.row x2,.row x3,.row x4,.row x5,.row x6,.int z7,.int z8,.row x9,.row x10] _ e0 e1 e2 _ HP.out (OFs.at H.out.2.2.2.2.2.2.2.2.2.1) HN.out (HA.out.2.1.below H.out.2.1) (HA.out.2.2.below H.out.2.1)).mono ?_
  rintro e w14 hans
  obtain ⟨us,v,X14,Y14,rfl,hX,hY,hd,hXY,bb,hlb⟩:=HAN.out _ _ _ hans
  clear hans
  obtain ⟨AR,BB,O3,G3,B6,B7,B8,N5,M5,O13,-⟩:=H.out
  clear H
  have AR:=(bb.block _ (lh AR)).trans AR
  have BB:=BB.trans (bb.mono BB.size)
  have O3:=OFs.up O3 bb
  have G3:=Own.up G3 bb
  have B6:=(bb.block _ (lh B6)).trans B6
  have B7:=(bb.block _ (lh B7)).trans B7
  have B8:=(bb.block _ (lh B8)).trans B8
  have N5:=OFs.up N5 bb
  have M5:=Own.up M5 bb
  have O13:=OFs.up O13 bb
  have O14:OFs w14 us [.row x0,.row x1,.row x2,.row x3,.row x4,.row x5,.row y6,.int l.id,.int l.next,.row so,.row se] (Btw w13.heap.size w14.heap.size):=hX.mono (fun b hb=>hXY b (.inl hb))
  have G14:Own w14 v (.row pk) (Btw w13.heap.size w14.heap.size):=hY.mono (fun b hb=>hXY b (.inr hb))
  have z14:w13.heap.size≤w14.heap.size:=bb.size
  clear bb hX hY hd hXY hlb O13
  obtain ⟨v0,v1,v2,v3,v4,v5,v6,v7,v8,v9,v10,rfl,k0,k1,k2,k3,k4,k5,k6,k7,k8,k9,k10⟩:=fs11 (OFs.at O14)
  obtain ⟨e0,f0,rfl⟩:=k0.form
  obtain ⟨e1,f1,rfl⟩:=k1.form
  obtain ⟨e2,f2,rfl⟩:=k2.form
  obtain ⟨e3,f3,rfl⟩:=k3.form
  obtain ⟨e4,f4,rfl⟩:=k4.form
  obtain ⟨e5,f5,rfl⟩:=k5.form
  obtain ⟨e6,f6,rfl⟩:=k6.form
  obtain ⟨rfl,-⟩:=k7.ofInt
  obtain ⟨rfl,-⟩:=k8.ofInt
  obtain ⟨e9,f9,rfl⟩:=k9.form
  obtain ⟨e10,f10,rfl⟩:=k10.form
  clear k0 k1 k2 k3 k4 k5 k6 k9 k10
  obtain ⟨e11,f11,rfl⟩:=G14.form
  have b6_0:=cb B6 0 (.slice s0 x0.length t0) rfl
  have b6_1:=cb B6 1 (.slice s1 x1.length t1) rfl
  have b6_2:=cb B6 2 (.slice s2 x2.length t2) rfl
  have b6_3:=cb B6 3 (.slice s3 x3.length t3) rfl
  have b6_4:=cb B6 4 (.slice s4 x4.length t4) rfl
  have b6_5:=cb B6 5 (.slice s5 x5.length t5) rfl
  have b6_6:=cb B6 6 (.slice s6 y6.length t6) rfl
  have b6_7:=cb B6 7 (.int .i64 l.id) rfl
  have b6_8:=cb B6 8 (.int .i64 l.next) rfl
  have b6_9:=cb B6 9 (.slice s9 so.length t9) rfl
  have b6_10:=cb B6 10 (.slice s10 se.length t10) rfl
  have zz14:w3.heap.size<w14.heap.size:=by omega
  obtain ⟨W14,hW⟩:∃ W,W=w14.alloc (.cells #[.slice e0 x0.length f0,.slice e1 x1.length f1,.slice e2 x2.length f2,.slice e3 x3.length f3,.slice e4 x4.length f4,.slice e5 x5.length f5,.slice e6 y6.length f6,.int .i64 l.id,.int .i64 l.next,.slice e9 so.length f9,.slice e10 se.length f10] 51):=⟨_,rfl⟩
  have bx:Below w14.heap.size w14 W14:=by rw [hW]; exact (Below.refl _ w14).alloc (Nat.le_refl _) _
  have B9:W14.heap[w14.heap.size]? = some (.cells #[.slice e0 x0.length f0,.slice e1 x1.length f1,.slice e2 x2.length f2,.slice e3 x3.length f3,.slice e4 x4.length f4,.slice e5 x5.length f5,.slice e6 y6.length f6,.int .i64 l.id,.int .i64 l.next,.slice e9 so.length f9,.slice e10 se.length f10] 51):=by rw [hW]; exact (MapKept.heap_alloc w14 _).1
  have zW14:W14.heap.size=w14.heap.size+1:=by rw [hW]; simp
  have HWW14:=(show Hid (_∧_) from ⟨hW,zW14⟩)
  have yW14:w14.heap.size<W14.heap.size:=by omega
  clear hW zW14
  have AR:=(bx.block _ (lh AR)).trans AR
  have BB:=BB.trans (bx.mono BB.size)
  have O3:=OFs.up O3 bx
  have G3:=Own.up G3 bx
  have B6:=(bx.block _ (lh B6)).trans B6
  have B7:=(bx.block _ (lh B7)).trans B7
  have B8:=(bx.block _ (lh B8)).trans B8
  have N5:=OFs.up N5 bx
  have M5:=Own.up M5 bx
  have O14:=OFs.up O14 bx
  have G14:=Own.up G14 bx
  clear bx
  have H:=(show Hid (_∧_∧_∧_∧_∧_∧_∧_∧_∧_∧_∧_∧_) from ⟨AR,BB,O3,G3,B6,B7,B8,N5,M5,O14,G14,B9,trivial⟩)
  clear AR BB O3 G3 B6 B7 B8 N5 M5 O14 G14 B9
  go_wp2_with fail
  rw [← HWW14.out.1]
  clear b6_0 b6_1 b6_2 b6_3 b6_4 b6_5 b6_6 b6_7 b6_8 b6_9 b6_10
  refine (eqPeer_dt _ _ [.row x0,.row x1,.row x2,.row x3,.row x4,.row x5,.row y6,.int l.id,.int l.next,.row so,.row se] _ _ _ HD.out (OFs.at H.out.2.2.2.2.2.2.2.2.2.1) (OFs.at H.out.2.2.1) HM.out.1).mono ?_
  rintro e w15 ⟨rfl,b_⟩
  obtain ⟨AR,BB,O3,G3,B6,B7,B8,N5,M5,O14,G14,B9,-⟩:=H.out
  clear H
  have AR:=(b_.block _ (lh AR)).trans AR
  have BB:=BB.trans (b_.mono BB.size)
  have O3:=OFs.up O3 b_
  have G3:=Own.up G3 b_
  have B6:=(b_.block _ (lh B6)).trans B6
  have B7:=(b_.block _ (lh B7)).trans B7
  have B8:=(b_.block _ (lh B8)).trans B8
  have N5:=OFs.up N5 b_
  have M5:=Own.up M5 b_
  have O14:=OFs.up O14 b_
  have G14:=Own.up G14 b_
  have B9:=(b_.block _ (lh B9)).trans B9
  have z15:=b_.size
  clear b_
  have H:=(show Hid (_∧_∧_∧_∧_∧_∧_∧_∧_∧_∧_∧_∧_) from ⟨AR,BB,O3,G3,B6,B7,B8,N5,M5,O14,G14,B9,trivial⟩)
  clear AR BB O3 G3 B6 B7 B8 N5 M5 O14 G14 B9
  go_wp2_with fail
  refine (eqStringS_len _ _ pk _ _ _ HPK.out (Own.at H.out.2.2.2.2.2.2.2.2.2.2.1) (Own.at H.out.2.2.2.1) (by have:=HM.out.2.2.2; omega)).mono ?_
  rintro e w15' ⟨rfl,b_⟩
  obtain ⟨AR,BB,O3,G3,B6,B7,B8,N5,M5,O14,G14,B9,-⟩:=H.out
  clear H
  have AR:=(b_.block _ (lh AR)).trans AR
  have BB:=BB.trans (b_.mono BB.size)
  have O3:=OFs.up O3 b_
  have G3:=Own.up G3 b_
  have B6:=(b_.block _ (lh B6)).trans B6
  have B7:=(b_.block _ (lh B7)).trans B7
  have B8:=(b_.block _ (lh B8)).trans B8
  have N5:=OFs.up N5 b_
  have M5:=Own.up M5 b_
  have O14:=OFs.up O14 b_
  have G14:=Own.up G14 b_
  have B9:=(b_.block _ (lh B9)).trans B9
  have z15':=b_.size
  clear b_
  have b8_0:=cb B8 0 (.slice S0 x0.length T0) rfl
  have b8_1:=cb B8 1 (.slice S1 x1.length T1) rfl
  have b8_2:=cb B8 2 (.slice S2 x2.length T2) rfl
  have b8_3:=cb B8 3 (.slice S3 x3.length T3) rfl
  have b8_4:=cb B8 4 (.slice S4 x4.length T4) rfl
  have b8_5:=cb B8 5 (.slice S5 x5.length T5) rfl
  have b8_6:=cb B8 6 (.slice S6 y6.length T6) rfl
  have b8_7:=cb B8 7 (.int .i64 l.id) rfl
  have b8_8:=cb B8 8 (.int .i64 l.next) rfl
  have b8_9:=cb B8 9 (.slice S9 so.length T9) rfl
  have b8_10:=cb B8 10 (.slice S10 se.length T10) rfl
  have H:=(show Hid (_∧_∧_∧_∧_∧_∧_∧_∧_∧_∧_∧_∧_) from ⟨AR,BB,O3,G3,B6,B7,B8,N5,M5,O14,G14,B9,trivial⟩)
  clear AR BB O3 G3 B6 B7 B8 N5 M5 O14 G14 B9
  go_wp2_with fail
  clear b8_0 b8_1 b8_2 b8_3 b8_4 b8_5 b8_6 b8_7 b8_8 b8_9 b8_10
  refine (heldPeer_dt _ [.row x0,.row x1,.row x2,.row x3,.row x4,.row x5,.row y6,.int l.id,.int l.next,.row so,.row se] _ _ 1 HD.out (OFs.at H.out.2.2.2.2.2.2.2.1) (by omega) (by have:=HK1.out; omega)).mono ?_
  rintro e w16 ⟨rfl,b_⟩
  rw [← HK1.out]
  obtain ⟨AR,BB,O3,G3,B6,B7,B8,N5,M5,O14,G14,B9,-⟩:=H.out
  clear H
  have AR:=(b_.block _ (lh AR)).trans AR
  have BB:=BB.trans (b_.mono BB.size)
  have O3:=OFs.up O3 b_
  have G3:=Own.up G3 b_
  have B6:=(b_.block _ (lh B6)).trans B6
  have B7:=(b_.block _ (lh B7)).trans B7
  have B8:=(b_.block _ (lh B8)).trans B8
  have N5:=OFs.up N5 b_
  have M5:=Own.up M5 b_
  have O14:=OFs.up O14 b_
  have G14:=Own.up G14 b_
  have B9:=(b_.block _ (lh B9)).trans B9
  have z16:=b_.size
  clear b_
  have H:=(show Hid (_∧_∧_∧_∧_∧_∧_∧_∧_∧_∧_∧_∧_) from ⟨AR,BB,O3,G3,B6,B7,B8,N5,M5,O14,G14,B9,trivial⟩)
  clear AR BB O3 G3 B6 B7 B8 N5 M5 O14 G14 B9
  go_wp2_with fail
  refine (heldStringS_dt _ pk _ _ K1 HPK.out (Own.at H.out.2.2.2.2.2.2.2.2.1) (by omega) (by have:=HK2.out; omega)).mono ?_
  rintro e w16' ⟨rfl,b_⟩
  rw [← HK2.out]
  obtain ⟨AR,BB,O3,G3,B6,B7,B8,N5,M5,O14,G14,B9,-⟩:=H.out
  clear H
  have AR:=(b_.block _ (lh AR)).trans AR
  have BB:=BB.trans (b_.mono BB.size)
  have O3:=OFs.up O3 b_
  have G3:=Own.up G3 b_
  have B6:=(b_.block _ (lh B6)).trans B6
  have B7:=(b_.block _ (lh B7)).trans B7
  have B8:=(b_.block _ (lh B8)).trans B8
  have N5:=OFs.up N5 b_
  have M5:=Own.up M5 b_
  have O14:=OFs.up O14 b_
  have G14:=Own.up G14 b_
  have B9:=(b_.block _ (lh B9)).trans B9
  have z16':=b_.size
  clear b_
  have H:=(show Hid (_∧_∧_∧_∧_∧_∧_∧_∧_∧_∧_∧_∧_) from ⟨AR,BB,O3,G3,B6,B7,B8,N5,M5,O14,G14,B9,trivial⟩)
  clear AR BB O3 G3 B6 B7 B8 N5 M5 O14 G14 B9
  go_wp2
  go_ret
  exact ⟨rfl,H.out.2.1⟩
end Go.Proofs.YtmmadoabejgffaaGreatDoor
