/-
  Proofs.
-/
import Derived.Test.YtmmadoabejgffaaGreatDoorA
import Derived.Test.YtmmadoabejgffaaGreatDoorP
import Derived.Test.YtmmadoabejgffaaGreatDoorPeerCopyS
import Derived.Deep.RegionHeld3
import Derived.Deep.CutBlock
namespace Go.Proofs.YtmmadoabejgffaaGreatDoor
open Go.RowKit Go.Joins
set_option maxRecDepth 100000
theorem infoStr:(Tryz.prog.info? 9).map (fun i=>(i.zero,i.size,i.bytes))=some (some (.string ByteArray.empty),1,16):=by kernel_rfl
def slLen:Value→Nat
 | .slice _ n _=>n
 | _=>0
set_option maxHeartbeats 6400000 in
theorem specFlush_any (vs:List Value) (r:List Dt) (S:Nat→Prop) (w:World) (hP:PeerR r) (h:FsAt w S vs r) (hb:Dt.bR r≤1048576) :
  Calls Tryz.prog 5 #[.agg vs.toArray] w (FlAns r w):=by
 obtain ⟨x0,x1,x2,x3,x4,x5,x6,z7,z8,x9,x10,rfl,q0,q1,q2,q3,q4,q5,q6,q9,q10⟩:=hP
 obtain ⟨v0,v1,v2,v3,v4,v5,v6,v7,v8,v9,v10,rfl,a0,a1,a2,a3,a4,a5,a6,a7,a8,a9,a10⟩:=fs11 h
 obtain ⟨p0,c0,rfl⟩:=a0.form
 obtain ⟨p1,c1,rfl⟩:=a1.form
 obtain ⟨p2,c2,rfl⟩:=a2.form
 obtain ⟨p3,c3,rfl⟩:=a3.form
 obtain ⟨p4,c4,rfl⟩:=a4.form
 obtain ⟨p5,c5,rfl⟩:=a5.form
 obtain ⟨p6,c6,rfl⟩:=a6.form
 obtain ⟨rfl,ia7⟩:=a7.ofInt
 obtain ⟨rfl,ia8⟩:=a8.ofInt
 obtain ⟨p9,c9,rfl⟩:=a9.form
 obtain ⟨p10,c10,rfl⟩:=a10.form
 have hP:PeerR [.row x0,.row x1,.row x2,.row x3,.row x4,.row x5,.row x6,.int z7,.int z8,.row x9,.row x10]:=⟨_,_,_,_,_,_,_,_,_,_,_,rfl,q0,q1,q2,q3,q4,q5,q6,q9,q10⟩
 have hbk:=hb
 rw [show Dt.bR [.row x0,.row x1,.row x2,.row x3,.row x4,.row x5,.row x6,.int z7,.int z8,.row x9,.row x10]=Dt.bS x0+Dt.bS x1+Dt.bS x2+Dt.bS x3+Dt.bS x4+Dt.bS x5+Dt.bS x6+Dt.bS x9+Dt.bS x10 from by simp [Dt.bR,Dt.bulk]; try omega] at hbk
 have hl6:=bulkS_len x6
 obtain ⟨iX,hiX,hzX0,hzX1,hzX2⟩:=info_parts infoStr
 obtain ⟨W0,hW0⟩:∃ W0,W0=(w.alloc (.cells #[.slice p0 x0.length c0,.slice p1 x1.length c1,.slice p2 x2.length c2,.slice p3 x3.length c3,.slice p4 x4.length c4,.slice p5 x5.length c5,.slice p6 x6.length c6,.int .i64 z7,.int .i64 z8,.slice p9 x9.length c9,.slice p10 x10.length c10] 51)).alloc (.cells #[.slice none 0 0,.slice none 0 0,.slice none 0 0,.slice none 0 0,.slice none 0 0,.slice none 0 0,.slice none 0 0,.int .i64 0,.int .i64 0,.slice none 0 0,.slice none 0 0] 51):=⟨_,rfl⟩
 have B:Below w.heap.size w W0:=by rw [hW0]; exact ((Below.refl _ w).alloc (Nat.le_refl _) _).alloc (by simp) _
 have SZ:W0.heap.size=w.heap.size+2:=by rw [hW0]; simp
 have O0:W0.heap[w.heap.size]? = some (.cells #[.slice p0 x0.length c0,.slice p1 x1.length c1,.slice p2 x2.length c2,.slice p3 x3.length c3,.slice p4 x4.length c4,.slice p5 x5.length c5,.slice p6 x6.length c6,.int .i64 z7,.int .i64 z8,.slice p9 x9.length c9,.slice p10 x10.length c10] 51):=by rw [hW0]; exact (Below.heap_alloc _ _ _ (by simp)).trans (MapKept.heap_alloc w _).1
 have O1:W0.heap[w.heap.size+1]? = some (.cells #[.slice none 0 0,.slice none 0 0,.slice none 0 0,.slice none 0 0,.slice none 0 0,.slice none 0 0,.slice none 0 0,.int .i64 0,.int .i64 0,.slice none 0 0,.slice none 0 0] 51):=by
  rw [hW0]
  have:=(MapKept.heap_alloc (w.alloc (.cells #[.slice p0 x0.length c0,.slice p1 x1.length c1,.slice p2 x2.length c2,.slice p3 x3.length c3,.slice p4 x4.length c4,.slice p5 x5.length c5,.slice p6 x6.length c6,.int .i64 z7,.int .i64 z8,.slice p9 x9.length c9,.slice p10 x10.length c10] 51)) (.cells #[.slice none 0 0,.slice none 0 0,.slice none 0 0,.slice none 0 0,.slice none 0 0,.slice none 0 0,.slice none 0 0,.int .i64 0,.int .i64 0,.slice none 0 0,.slice none 0 0] 51)).1
  simpa using this
 have HA:=(show Hid (_∧_∧_) from ⟨FsAt.up h B,hP,hb⟩)
 have HS:=(show Hid (_∧_∧_∧_) from ⟨B,SZ,O0,O1⟩)
 have HW:=(show Hid (_∧True) from ⟨hW0,trivial⟩)
 have HQ:=(show Hid (AllR MsgR x6) from q6)
 have Hbk:=(show Hid (_∧_∧_) from ⟨hbk,q9,q10⟩)
 have hsz:=SZ
 clear B SZ O0 O1 hW0 h hP hb hbk a0 a1 a2 a3 a4 a5 a6 a7 a8 a9 a10 q0 q1 q2 q3 q4 q5 q6 q9 q10
 go_enter Tryz.func5,Tryz.ntmps5
 go_wp2_with fail
 rw [← HW.out.1]
 clear HW
 have HC:Calls Tryz.prog 16 #[.agg #[.slice p0 x0.length c0,.slice p1 x1.length c1,.slice p2 x2.length c2,.slice p3 x3.length c3,.slice p4 x4.length c4,.slice p5 x5.length c5,.slice p6 x6.length c6,.int .i64 z7,.int .i64 z8,.slice p9 x9.length c9,.slice p10 x10.length c10]] W0 (fun e w'=>∃ (mu:List Value) (m1:Nat) (ov sv:Value) (rs:List (Se×Value)),e = .returned (.agg (mu ++ [.int .i64 z7,.int .i64 z8,ov,sv]).toArray)∧W0.heap.size+2≤m1∧m1≤w'.heap.size∧OFs w' mu [.row x0,.row x1,.row x2,.row x3,.row x4,.row x5,.row x6] (Btw (W0.heap.size+2) m1)∧LkOwn w' m1 (.agg #[.int .i64 z7,.int .i64 z8,ov,sv]) (lkOf z7 z8 x9 x10) ov sv rs∧Below W0.heap.size W0 w'):=l09Copy_any [.slice p0 x0.length c0,.slice p1 x1.length c1,.slice p2 x2.length c2,.slice p3 x3.length c3,.slice p4 x4.length c4,.slice p5 x5.length c5,.slice p6 x6.length c6,.int .i64 z7,.int .i64 z8,.slice p9 x9.length c9,.slice p10 x10.length c10] [.row x0,.row x1,.row x2,.row x3,.row x4,.row x5,.row x6,.int z7,.int z8,.row x9,.row x10] S W0 HA.out.2.1 HA.out.1 HA.out.2.2
 refine HC.mono ?_
 clear HC
 rintro e w1 ⟨mu,m1,ov,sv,rs,rfl,hm1,hle1,N,L,b1⟩
 obtain ⟨v0,v1,v2,v3,v4,v5,v6,rfl,k0,k1,k2,k3,k4,k5,k6⟩:=fs7 N.at
 obtain ⟨s0,t0,rfl⟩:=k0.form
 obtain ⟨s1,t1,rfl⟩:=k1.form
 obtain ⟨s2,t2,rfl⟩:=k2.form
 obtain ⟨s3,t3,rfl⟩:=k3.form
 obtain ⟨s4,t4,rfl⟩:=k4.form
 obtain ⟨s5,t5,rfl⟩:=k5.form
 obtain ⟨s6,t6,rfl⟩:=k6.form
 obtain ⟨oa,oc,rfl⟩:=L.out.at.form
 have g10:=L.seen.at.form
 rw [L.is] at g10
 obtain ⟨sa,sc,rfl⟩:=g10
 have hzw1:W0.heap.size≤w1.heap.size:=b1.size
 have P0:=(b1.block _ (lh HS.out.2.2.1)).trans HS.out.2.2.1
 have P1:=(b1.block _ (lh HS.out.2.2.2)).trans HS.out.2.2.2
 obtain ⟨W1,hW1⟩:∃ W1,W1=(w1.alloc (.cells #[.slice s0 x0.length t0,.slice s1 x1.length t1,.slice s2 x2.length t2,.slice s3 x3.length t3,.slice s4 x4.length t4,.slice s5 x5.length t5,.slice s6 x6.length t6,.int .i64 z7,.int .i64 z8,.slice oa (lkOf z7 z8 x9 x10).out.length oc,.slice sa (lkOf z7 z8 x9 x10).seen.length sc] 51)).alloc (.cells #[] 9):=⟨_,rfl⟩
 have B1:Below w1.heap.size w1 W1:=by rw [hW1]; exact ((Below.refl _ w1).alloc (Nat.le_refl _) _).alloc (by simp) _
 have OB:W1.heap[w1.heap.size]? = some (.cells #[.slice s0 x0.length t0,.slice s1 x1.length t1,.slice s2 x2.length t2,.slice s3 x3.length t3,.slice s4 x4.length t4,.slice s5 x5.length t5,.slice s6 x6.length t6,.int .i64 z7,.int .i64 z8,.slice oa (lkOf z7 z8 x9 x10).out.length oc,.slice sa (lkOf z7 z8 x9 x10).seen.length sc] 51):=by rw [hW1]; exact (Below.heap_alloc _ _ _ (by simp)).trans (MapKept.heap_alloc w1 _).1
 have RW:W1.ownsRow m1 9 1 (.slice (some ⟨w1.heap.size+1,0,none⟩) 0 0) 0 []:=by
  have:=row_empty (w:=W1) (g:=w1.heap.size+1) (B:=m1) (e:=9) (by rw [hW1]; have:=(MapKept.heap_alloc (w1.alloc (.cells #[.slice s0 x0.length t0,.slice s1 x1.length t1,.slice s2 x2.length t2,.slice s3 x3.length t3,.slice s4 x4.length t4,.slice s5 x5.length t5,.slice s6 x6.length t6,.int .i64 z7,.int .i64 z8,.slice oa (lkOf z7 z8 x9 x10).out.length oc,.slice sa (lkOf z7 z8 x9 x10).seen.length sc] 51)) (.cells #[] 9)).1; simpa using this) (by omega)
  exact this
 have F1:FuSt w W1 x0 x1 x2 x3 x4 x5 x6 z7 (lkOf z7 z8 x9 x10) m1 0 (x6.drop 0) (lkOf z7 z8 x9 x10) [] [.slice s0 x0.length t0,.slice s1 x1.length t1,.slice s2 x2.length t2,.slice s3 x3.length t3,.slice s4 x4.length t4,.slice s5 x5.length t5] (.slice s6 x6.length t6) (.slice oa (lkOf z7 z8 x9 x10).out.length oc) (.slice sa (lkOf z7 z8 x9 x10).seen.length sc) (.slice (some ⟨w1.heap.size+1,0,none⟩) 0 0) rs :=
  ⟨FlSt.start _ _ _,(HS.out.1.trans (b1.mono HS.out.1.size)).trans (B1.mono (by omega)),(OFs.up N B1).mono (fun b hb=>⟨by have:=hb.1; omega,hb.2⟩),L.below B1,RW,⟨by omega,by have:=B1.size; omega⟩,(by rw [lk_bulk Hbk.out.2.1 Hbk.out.2.2]; have:=Hbk.out.1; omega),rfl,fun _ hb=>by cases hb⟩
 have HF:=(show Hid (_∧_∧_∧_) from ⟨F1,OB,(B1.block _ (lh P0)).trans P0,(B1.block _ (lh P1)).trans P1⟩)
 have HW1:=(show Hid (_∧True) from ⟨hW1,trivial⟩)
 clear F1 OB P0 P1 RW B1 N L b1 hW1 HS HA k0 k1 k2 k3 k4 k5 k6
 go_wp2_with fail
 rw [← HW1.out.1]
 go_loopw [5] (fun pv wr=>∃ (k:Nat) (l:Lk) (ps:List ByteArray) (s6 oa sa pa:Option Addr) (t6 oc sc pc:Nat) (rs:List (Se×Value)),pv = .slice pa k pc∧k≤x6.length∧Hid (FuSt w wr x0 x1 x2 x3 x4 x5 x6 z7 (lkOf z7 z8 x9 x10) m1 k (x6.drop k) l ps [.slice s0 x0.length t0,.slice s1 x1.length t1,.slice s2 x2.length t2,.slice s3 x3.length t3,.slice s4 x4.length t4,.slice s5 x5.length t5] (.slice s6 (x6.length - k) t6) (.slice oa l.out.length oc) (.slice sa l.seen.length sc) (.slice pa k pc) rs)∧Hid (wr.heap[w1.heap.size]? = some (.cells #[.slice s0 x0.length t0,.slice s1 x1.length t1,.slice s2 x2.length t2,.slice s3 x3.length t3,.slice s4 x4.length t4,.slice s5 x5.length t5,.slice s6 (x6.length - k) t6,.int .i64 l.id,.int .i64 l.next,.slice oa l.out.length oc,.slice sa l.seen.length sc] 51))∧Hid (wr.heap[w.heap.size]? = some (.cells #[.slice p0 x0.length c0,.slice p1 x1.length c1,.slice p2 x2.length c2,.slice p3 x3.length c3,.slice p4 x4.length c4,.slice p5 x5.length c5,.slice p6 x6.length c6,.int .i64 z7,.int .i64 z8,.slice p9 x9.length c9,.slice p10 x10.length c10] 51))∧Hid (wr.heap[w.heap.size+1]? = some (.cells #[.slice none 0 0,.slice none 0 0,.slice none 0 0,.slice none 0 0,.slice none 0 0,.slice none 0 0,.slice none 0 0,.int .i64 0,.int .i64 0,.slice none 0 0,.slice none 0 0] 51))) (fun pv _=>x6.length - slLen pv)
 case atStart=>exact ⟨0,_,[],s6,_,_,_,t6,_,_,_,rs,rfl,Nat.zero_le _,HF.out.1,HF.out.2.1,HF.out.2.2.1,HF.out.2.2.2⟩
 case round =>
  clear HF HW1
  obtain ⟨k,l,ps,s6',oa',sa',pa,t6',oc',sc',pc,rs',rfl,hk,HF,HO,HP,HR⟩:=hrel
  have hF:=HF.out
  have o6:=cb HO.out 6 (.slice s6' (x6.length - k) t6') rfl
  have oL7:=cb HO.out 7 (.int .i64 l.id) rfl
  have oL8:=cb HO.out 8 (.int .i64 l.next) rfl
  have oL9:=cb HO.out 9 (.slice oa' l.out.length oc') rfl
  have oL10:=cb HO.out 10 (.slice sa' l.seen.length sc') rfl
  have pL7:=cb HP.out 7 (.int .i64 z7) rfl
  have hlw1:w1.heap.size<wr.heap.size:=lh HO.out
  have hlw0:w.heap.size<wr.heap.size:=lh HP.out
  by_cases hkl:k<x6.length
  ·have hd:x6.drop k=x6[k] :: x6.drop (k+1):=List.drop_eq_getElem_cons hkl
   have he:=List.getElem?_eq_getElem hkl
   generalize x6[k]=rr at *
   obtain ⟨y0,y1,y2,y3,y4,y5,y6,y7,y8,rfl,qm⟩:=HQ.out k rr he
   have aS:FAt wr _ (.slice s6' (x6.length - k) t6') (.row (x6.drop k)):=(OFs.at hF.mach).2.2.2.2.2.2.1
   rw [hd] at aS
   obtain ⟨b,off,hS6,-,hlb,us,hus⟩:=aS.at (k:=0) rfl
   have c0:wr.cell? ⟨b,off,none⟩=some (us 0):=by have:=(hus 0 _ rfl).1; simpa using this
   have a0:=(hus 0 _ rfl).2
   have c1:wr.cell? ⟨b,off+1,none⟩=some (us 1):=by have:=(hus 1 _ rfl).1; simpa using this
   have a1:=(hus 1 _ rfl).2
   have c2:wr.cell? ⟨b,off+2,none⟩=some (us 2):=by have:=(hus 2 _ rfl).1; simpa using this
   have a2:=(hus 2 _ rfl).2
   have c3:wr.cell? ⟨b,off+3,none⟩=some (us 3):=by have:=(hus 3 _ rfl).1; simpa using this
   have a3:=(hus 3 _ rfl).2
   have c4:wr.cell? ⟨b,off+4,none⟩=some (us 4):=by have:=(hus 4 _ rfl).1; simpa using this
   have a4:=(hus 4 _ rfl).2
   have c5:wr.cell? ⟨b,off+5,none⟩=some (us 5):=by have:=(hus 5 _ rfl).1; simpa using this
   have a5:=(hus 5 _ rfl).2
   have c6:wr.cell? ⟨b,off+6,none⟩=some (us 6):=by have:=(hus 6 _ rfl).1; simpa using this
   have a6:=(hus 6 _ rfl).2
   have c7:wr.cell? ⟨b,off+7,none⟩=some (us 7):=by have:=(hus 7 _ rfl).1; simpa using this
   have a7:=(hus 7 _ rfl).2
   have c8:wr.cell? ⟨b,off+8,none⟩=some (us 8):=by have:=(hus 8 _ rfl).1; simpa using this
   have a8:=(hus 8 _ rfl).2
   obtain ⟨u0,i0⟩:=a0.ofInt
   rw [u0] at c0
   clear u0 a0
   obtain ⟨u1,i1⟩:=a1.ofInt
   rw [u1] at c1
   clear u1 a1
   obtain ⟨u2,i2⟩:=a2.ofInt
   rw [u2] at c2
   clear u2 a2
   obtain ⟨u3,i3⟩:=a3.ofInt
   rw [u3] at c3
   clear u3 a3
   obtain ⟨u4,i4⟩:=a4.ofInt
   rw [u4] at c4
   clear u4 a4
   obtain ⟨u5,i5⟩:=a5.ofInt
   rw [u5] at c5
   clear u5 a5
   obtain ⟨u6,i6⟩:=a6.ofInt
   rw [u6] at c6
   clear u6 a6
   obtain ⟨u7,i7⟩:=a7.ofInt
   rw [u7] at c7
   clear u7 a7
   obtain ⟨sk,tk,u8⟩:=a8.form
   rw [u8] at c8 a8
   clear u8 hus aS
   have HM:=(show Hid (MsAt wr _ (.agg #[.int .i64 y0,.int .i64 z7,.int .i64 y2,.int .i64 y3,.int .i64 y4,.int .i64 y5,.int .i64 y6,.int .i64 y7,.slice sk y8.length tk]) ((msOf [.int y0,.int y1,.int y2,.int y3,.int y4,.int y5,.int y6,.int y7,.row y8]).off z7)) from ms_of_fs (vs:=[.int .i64 y0,.int .i64 z7,.int .i64 y2,.int .i64 y3,.int .i64 y4,.int .i64 y5,.int .i64 y6,.int .i64 y7,.slice sk y8.length tk]) (r:=[.int y0,.int z7,.int y2,.int y3,.int y4,.int y5,.int y6,.int y7,.row y8]) ⟨_,_,_,_,_,_,_,_,_,rfl,qm⟩ ⟨.int _ i0,.int _ ia7,.int _ i2,.int _ i3,.int _ i4,.int _ i5,.int _ i6,.int _ i7,a8,trivial⟩)
   have hpos:(0:Int)<(((x6.length - k:Nat)):Int):=by omega
   subst hS6
   clear a8 hF i0 i1 i2 i3 i4 i5 i6 i7
   go_wp2_with fail
   obtain ⟨W2,hW2⟩:∃ W2,W2=wr.alloc (.cells #[.int .i64 y0,.int .i64 z7,.int .i64 y2,.int .i64 y3,.int .i64 y4,.int .i64 y5,.int .i64 y6,.int .i64 y7,.slice sk y8.length tk] 67):=⟨_,rfl⟩
   rw [← hW2]
   have b2:Below wr.heap.size wr W2:=by rw [hW2]; exact (Below.refl _ wr).alloc (Nat.le_refl _) _
   have hsW2:wr.heap.size≤W2.heap.size:=b2.size
   obtain ⟨M,hM⟩:∃ M,M=(msOf [.int y0,.int y1,.int y2,.int y3,.int y4,.int y5,.int y6,.int y7,.row y8]).off z7:=⟨_,rfl⟩
   have HM2:=HM.out.below b2
   rw [← hM] at HM2
   have hkl8:y8.length≤1048576:=by have:=bulkS_at he; have:=Hbk.out.1; rw [show Dt.bR [.int y0,.int y1,.int y2,.int y3,.int y4,.int y5,.int y6,.int y7,.row y8]=Dt.bS y8 from by simp [Dt.bR,Dt.bulk]] at *; have:=bulkS_len y8; omega
   have hkM:M.cell.kids.length≤1048576:=by rw [hM]; show (intsOf y8).length≤_; rw [show (intsOf y8).length=y8.length from List.length_map _]; exact hkl8
   have hMat:(x6.map msOf)[k]? = some (msOf [.int y0,.int y1,.int y2,.int y3,.int y4,.int y5,.int y6,.int y7,.row y8]):=by rw [List.getElem?_map,he]; rfl
   refine (specLinkSend_any _ _ l M _ _ W2 (HF.out.link.at.below b2) HM2 HF.out.lb (by omega)).mono ?_
   rintro e w5 ⟨v5,ov5,sv5,rs5,rfl,L5,b5⟩
   obtain rfl:=L5.val
   obtain ⟨oa5,oc5,rfl⟩:=L5.out.at.form
   have g10:=L5.seen.at.form
   rw [L5.is] at g10
   obtain ⟨sa5,sc5,rfl⟩:=g10
   have hfit:=ms_fitsS HM2
   have b25:Below wr.heap.size wr w5:=b2.trans (b5.mono hsW2)
   have hs5:W2.heap.size≤w5.heap.size:=b5.size
   have F5:=HF.out.below b25
   have O5:=(b25.block _ (lh HO.out)).trans HO.out
   have P5:=(b25.block _ (lh HP.out)).trans HP.out
   have R5:=(b25.block _ (lh HR.out)).trans HR.out
   have hlid:=HF.out.lid
   have hpv0:∀ g,Value.ownBlock (.slice pa k pc)=some g→g<wr.heap.size:=fun g hg=>own_lt HF.out.pks g hg
   have hord:=HF.out.ord
   have HG:=(show Hid (_∧_∧_∧_∧_∧_) from ⟨F5,O5,P5,R5,L5,b5⟩)
   have HM5:=(show Hid (_∧_∧_∧_) from ⟨hfit,hM,hMat,hkM⟩)
   have Hd:=(show Hid (_∧_) from ⟨hd,he⟩)
   clear F5 O5 P5 R5 L5 b5 b25 b2 hW2 HM2 HM hfit hM hMat hkl8 hkM o6 oL7 oL8 oL9 oL10 pL7 HF HO HP HR hd he hlid c0 c1 c2 c3 c4 c5 c6 c7 c8
   rcases (show l.goes M=true∨l.goes M=false from by cases l.goes M <;> simp) with hgo | hgo
   ·rw [hgo]
    obtain ⟨W6,hW6⟩:∃ W6,W6=w5.alloc (.cells #[.int .i64 (l.send M).id,.int .i64 (l.send M).next,.slice oa5 (l.send M).out.length oc5,.slice sa5 (l.send M).seen.length sc5] 49):=⟨_,rfl⟩
    have b6:Below w5.heap.size w5 W6:=by rw [hW6]; exact (Below.refl _ w5).alloc (Nat.le_refl _) _
    have F6:=HG.out.1.below b6
    have O6:=(b6.block _ (lh HG.out.2.1)).trans HG.out.2.1
    have LB:W6.heap[w5.heap.size]? = some (.cells #[.int .i64 (l.send M).id,.int .i64 (l.send M).next,.slice oa5 (l.send M).out.length oc5,.slice sa5 (l.send M).seen.length sc5] 49):=by rw [hW6]; exact (MapKept.heap_alloc w5 _).1
    go_upto_region 9 with fail
    rw [← hW6]
    have l0:=cb LB 0 (.int .i64 (l.send M).id) rfl
    have l1:=cb LB 1 (.int .i64 (l.send M).next) rfl
    have l2:=cb LB 2 (.slice oa5 (l.send M).out.length oc5) rfl
    have l3:=cb LB 3 (.slice sa5 (l.send M).seen.length sc5) rfl
    have o7:=cb O6 7 (.int .i64 l.id) rfl
    have f7:=ub O6 7
    have o8:=cb O6 8 (.int .i64 l.next) rfl
    have f8:=ub O6 8
    have o9:=cb O6 9 (.slice oa' l.out.length oc') rfl
    have f9:=ub O6 9
    have o10:=cb O6 10 (.slice sa' l.seen.length sc') rfl
    have f10:=ub O6 10
    have hw16:w1.heap.size<W6.heap.size:=lh O6
    have hpv:∀ g,Value.ownBlock (.slice pa k pc)=some g→g<wr.heap.size:=hpv0
    have hs6:w5.heap.size≤W6.heap.size:=b6.size
    have H6:=(show Hid (_∧_∧_) from ⟨F6,O6,b6⟩)
    clear F6 O6 b6 hW6 LB
    go_upto_region 10 with fail
    obtain ⟨W7,hW7⟩:∃ W7,W7=((((W6.setCell ⟨w1.heap.size,7,none⟩ (.int .i64 (l.send M).id)).setCell ⟨w1.heap.size,8,none⟩ (.int .i64 (l.send M).next)).setCell ⟨w1.heap.size,9,none⟩ (.slice oa5 (l.send M).out.length oc5)).setCell ⟨w1.heap.size,10,none⟩ (.slice sa5 (l.send M).seen.length sc5)):=⟨_,rfl⟩
    rw [← hW7]
    have e7:∀ b,b≠w1.heap.size→W7.heap[b]? = W6.heap[b]? := fun b hb=>by
     rw [hW7]
     simp only [Below.heap_setCell _ _ _ b (show b≠(⟨w1.heap.size,_,none⟩:Addr).block from hb)]
    have s7:W7.heap.size=W6.heap.size:=by rw [hW7]; simp
    have b7:Below w.heap.size w W7:=by
     rw [hW7]
     iterate 4 refine Below.setCell ?_ (by simp; omega) _
     exact H6.out.1.base
    have O7:W7.heap[w1.heap.size]? = some (.cells #[.slice s0 x0.length t0,.slice s1 x1.length t1,.slice s2 x2.length t2,.slice s3 x3.length t3,.slice s4 x4.length t4,.slice s5 x5.length t5,.slice (some ⟨b,off,none⟩) (x6.length - k) t6',.int .i64 (l.send M).id,.int .i64 (l.send M).next,.slice oa5 (l.send M).out.length oc5,.slice sa5 (l.send M).seen.length sc5] 51):=by
     rw [hW7]
     have:=(block_setCell (i:=10) (block_setCell (i:=9) (block_setCell (i:=8) (block_setCell (i:=7) H6.out.2.1 (.int .i64 (l.send M).id)) (.int .i64 (l.send M).next)) (.slice oa5 (l.send M).out.length oc5)) (.slice sa5 (l.send M).seen.length sc5))
     simpa only [List.setIfInBounds_toArray,List.set_cons_zero,List.set_cons_succ] using this
    have hpob:∀ g,Value.ownBlock (.slice pa k pc)=some g→g≠w1.heap.size∧m1≤g∧g<wr.heap.size:=fun g hg=>by
     have h1:=(own_type H6.out.1.pks g hg)
     refine ⟨fun e => ?_,h1.1,hpv g hg⟩
     obtain ⟨_,cs,h2⟩:=h1
     rw [e,H6.out.2.1] at h2
     cases h2
    have ow7:W7.ownsRow m1 9 1 (.slice pa k pc) k (ps.map Value.string):=own_moved H6.out.1.pks (fun g hg=>e7 g (hpob g hg).1)
    have ow8:(W7.alloc (.cells #[.string (l.sendText M)] 9)).ownsRow m1 9 1 (.slice pa k pc) k (ps.map Value.string):=own_moved ow7 (fun g hg=>Below.heap_alloc _ _ _ (own_lt ow7 g hg))
    have hnews:∀ (j:Nat) (u:Value),([.string (l.sendText M)]:List Value)[j]? = some u→(W7.alloc (.cells #[.string (l.sendText M)] 9)).cell? ((⟨W7.heap.size,0,none⟩:Addr).add j)=some u:=by
     intro j u hj
     rw [addr_addI,Nat.zero_add,cell_of_block (MapKept.heap_alloc W7 _).1]
     simpa using hj
    have hone:∀ u ∈ ([.string (l.sendText M)]:List Value),u.oneCell'=true:=by intro u hu; simp at hu; subst hu; rfl
    have hm17:m1≤(W7.alloc (.cells #[.string (l.sendText M)] 9)).heap.size:=by simp; omega
    have hk1:k≤1048576:=by have:=Hbk.out.1; omega
    have H7:=(show Hid (_∧_∧_∧_∧_∧_∧_∧_) from ⟨ow8,hnews,hone,O7,e7,hpob,s7,b7⟩)
    clear ow7 ow8 hnews hone O7 e7 hpob s7 b7 hW7 l0 o7 f7 l1 o8 f8 l2 o9 f9 l3 o10 f10
    go_upto_region 11 with (at_builtin; (refine wpList_append_own_at _ rfl _ _ 52 rfl m1 9 iX _ 1 16 Tryz.underlying52 hiX hzX0 hzX1 hzX2 rfl (by decide) (.slice pa k pc) k _ rfl H7.out.1 ⟨W7.heap.size,0,none⟩ 1 1 [.string (l.sendText M)] rfl rfl H7.out.2.1 H7.out.2.2.1 (by unfold maxLen; omega) (by omega) hm17 ?_); intro v9 w9 hown9 hgrow9 hnil9 hat9; obtain ⟨a9,c9,rfl⟩:=own_form hown9; have H9:=(show Hid (_∧_∧_) from ⟨hown9,hgrow9,hat9⟩); clear hown9 hgrow9 hnil9 hat9)
    have O9:w9.heap[w1.heap.size]? = some (.cells #[.slice s0 x0.length t0,.slice s1 x1.length t1,.slice s2 x2.length t2,.slice s3 x3.length t3,.slice s4 x4.length t4,.slice s5 x5.length t5,.slice (some ⟨b,off,none⟩) (x6.length - k) t6',.int .i64 (l.send M).id,.int .i64 (l.send M).next,.slice oa5 (l.send M).out.length oc5,.slice sa5 (l.send M).seen.length sc5] 51):=(H9.out.2.1.block _ (by have:=lh H7.out.2.2.2.1; simp; omega) (fun e=>(H7.out.2.2.2.2.2.1 _ e.symm).1 rfl)).trans ((Below.heap_alloc _ _ _ (lh H7.out.2.2.2.1)).trans H7.out.2.2.2.1)
    have o6:=cb O9 6 (.slice (some ⟨b,off,none⟩) (x6.length - k) t6') rfl
    have f6:=ub O9 6
    have HC:=OFs.cutLast (vs:=[.slice s0 x0.length t0,.slice s1 x1.length t1,.slice s2 x2.length t2,.slice s3 x3.length t3,.slice s4 x4.length t4,.slice s5 x5.length t5]) (ds:=[.row x0,.row x1,.row x2,.row x3,.row x4,.row x5]) (r:=[.int y0,.int y1,.int y2,.int y3,.int y4,.int y5,.int y6,.int y7,.row y8]) (xs:=x6.drop (k+1)) rfl (by rw [← Hd.out.1]; exact H6.out.1.mach) rfl
    have hcap:x6.length - k≤t6':=HC.2.1
    have H10:=(show Hid (_∧_) from ⟨HC.1,O9⟩)
    have h1i:(1:Int)≤((x6.length - k:Nat):Int):=by omega
    clear HC O9
    go_wp2_with fail
    rw [show x6.length - k - 1=x6.length - (k+1) from by omega]
    obtain ⟨W10,hW10⟩:∃ W10,W10=w9.setCell ⟨w1.heap.size,6,none⟩ (.slice (if t6'=1 then some ⟨b,off,none⟩ else some ⟨b,off+9,none⟩) (x6.length - (k+1)) (t6' - 1)):=⟨_,rfl⟩
    rw [← hW10]
    have e10:∀ b,b≠w1.heap.size→W10.heap[b]? = w9.heap[b]? := fun b hb=>by rw [hW10]; exact Below.heap_setCell _ _ _ b hb
    have e9:∀ b,b<W7.heap.size→Value.ownBlock (.slice pa k pc)≠some b→w9.heap[b]? = W7.heap[b]? := fun b hb hn=>(H9.out.2.1.block b (by simp; omega) (fun e=>hn e.symm)).trans (Below.heap_alloc _ _ _ hb)
    have s67:=H7.out.2.2.2.2.2.2.1
    have hob:=H7.out.2.2.2.2.2.1
    have hsz9:W7.heap.size<w9.heap.size:=by have:=H9.out.2.1.size; simp at this; omega
    have low6:∀ b,b<m1→W10.heap[b]? = W6.heap[b]? := fun b hb=>(e10 b (by omega)).trans ((e9 b (by omega) (fun e=>by have:=(hob b e).2.1; omega)).trans (H7.out.2.2.2.2.1 b (by omega)))
    have up6:∀ b,W2.heap.size≤b→b<w5.heap.size→W10.heap[b]? = w5.heap[b]? := fun b h1 h2=>(e10 b (by omega)).trans ((e9 b (by omega) (fun e=>by have:=(hob b e).2.2; omega)).trans ((H7.out.2.2.2.2.1 b (by omega)).trans (H6.out.2.2.block b h2)))
    have s10:W10.heap.size=w9.heap.size:=by rw [hW10]; simp
    have b10:Below w.heap.size w W10:=by
     rw [hW10]
     refine Below.setCell (Below.grown (H7.out.2.2.2.2.2.2.2.alloc H7.out.2.2.2.2.2.2.2.size _) H9.out.2.1 (fun g hg=>by have:=(hob g hg).2.1; omega) (by have:=H7.out.2.2.2.2.2.2.2.size; simp; omega)) (by show w.heap.size≤w1.heap.size; omega) _
    have gk:=goes_ok hgo
    have hF10:FuSt w W10 x0 x1 x2 x3 x4 x5 x6 z7 (lkOf z7 z8 x9 x10) m1 (k+1) (x6.drop (k+1)) (l.send M) (ps ++ [l.sendText M]) [.slice s0 x0.length t0,.slice s1 x1.length t1,.slice s2 x2.length t2,.slice s3 x3.length t3,.slice s4 x4.length t4,.slice s5 x5.length t5] (.slice (if t6'=1 then some ⟨b,off,none⟩ else some ⟨b,off+9,none⟩) (x6.length - (k+1)) (t6' - 1)) (.slice oa5 (l.send M).out.length oc5) (.slice sa5 (l.send M).seen.length sc5) (.slice a9 (k+1) c9) rs5:=by
     refine ⟨?_,b10,?_,(HG.out.2.2.2.2.1.moved (fun b hb => ?_)).base (by omega),?_,⟨hord.1,by omega⟩,?_,?_,fun t ht => ?_⟩
     ·have:=FlSt.next H6.out.1.st HM5.out.2.2.1 (by rw [← HM5.out.2.1]; exact hgo)
      rw [← HM5.out.2.1] at this
      exact this
     ·have:=OFs.moved H10.out.1 (w':=W10) (fun b hb _=>low6 b hb.2)
      rw [show x6.length - k - 1=x6.length - (k+1) from by omega] at this
      exact this
     ·have:=HG.out.2.2.2.2.1.own hb
      exact up6 b this.1 this.2
     ·rw [List.map_append]
      refine own_moved H9.out.1 (fun g hg=>e10 g (fun e => ?_))
      obtain ⟨_,cs,h2⟩:=own_type H9.out.1 g hg
      rw [e,H10.out.2] at h2
      cases h2
     ·rw [gk.2.2]
      exact Nat.le_trans (push_bulk gk.1 gk.2.1 HM5.out.1) (by decide)
     ·rw [gk.2.2]
      exact HG.out.1.lid
     ·rcases List.mem_append.1 ht with ht | ht
      ·exact H6.out.1.fit t ht
      ·rw [List.mem_singleton] at ht; subst ht; exact text_len HM5.out.2.2.2
    refine ⟨⟨k+1,l.send M,ps ++ [l.sendText M],_,oa5,sa5,a9,t6' - 1,oc5,sc5,c9,rs5,rfl,by omega,hF10,?_,?_,?_⟩,by simp [slLen]; omega⟩
    ·have:=block_setCell (i:=6) H10.out.2 (.slice (if t6'=1 then some ⟨b,off,none⟩ else some ⟨b,off+9,none⟩) (x6.length - (k+1)) (t6' - 1))
     rw [← hW10] at this
     simp only [List.setIfInBounds_toArray,List.set_cons_zero,List.set_cons_succ] at this
     exact this
    ·exact (low6 _ (by omega)).trans ((H6.out.2.2.block _ (lh HG.out.2.2.1)).trans HG.out.2.2.1)
    ·exact (low6 _ (by omega)).trans ((H6.out.2.2.block _ (lh HG.out.2.2.2.1)).trans HG.out.2.2.2.1)
   ·rw [hgo]
    obtain ⟨W6,hW6⟩:∃ W6,W6=w5.alloc (.cells #[.int .i64 (l.send M).id,.int .i64 (l.send M).next,.slice oa5 (l.send M).out.length oc5,.slice sa5 (l.send M).seen.length sc5] 49):=⟨_,rfl⟩
    have b6:Below w5.heap.size w5 W6:=by rw [hW6]; exact (Below.refl _ w5).alloc (Nat.le_refl _) _
    go_upto_region 8 with fail
    rw [← hW6]
    have F6:=HG.out.1.below b6
    have O6:=(b6.block _ (lh HG.out.2.1)).trans HG.out.2.1
    have R6:=(b6.block _ (lh HG.out.2.2.2.1)).trans HG.out.2.2.2.1
    have o0:=cb O6 0 (.slice s0 x0.length t0) rfl
    have D0:=cb R6 0 (.slice none 0 0) rfl
    have G0:=ub R6 0
    have o1:=cb O6 1 (.slice s1 x1.length t1) rfl
    have D1:=cb R6 1 (.slice none 0 0) rfl
    have G1:=ub R6 1
    have o2:=cb O6 2 (.slice s2 x2.length t2) rfl
    have D2:=cb R6 2 (.slice none 0 0) rfl
    have G2:=ub R6 2
    have o3:=cb O6 3 (.slice s3 x3.length t3) rfl
    have D3:=cb R6 3 (.slice none 0 0) rfl
    have G3:=ub R6 3
    have o4:=cb O6 4 (.slice s4 x4.length t4) rfl
    have D4:=cb R6 4 (.slice none 0 0) rfl
    have G4:=ub R6 4
    have o5:=cb O6 5 (.slice s5 x5.length t5) rfl
    have D5:=cb R6 5 (.slice none 0 0) rfl
    have G5:=ub R6 5
    have o6:=cb O6 6 (.slice (some ⟨b,off,none⟩) (x6.length - k) t6') rfl
    have D6:=cb R6 6 (.slice none 0 0) rfl
    have G6:=ub R6 6
    have o7:=cb O6 7 (.int .i64 l.id) rfl
    have D7:=cb R6 7 (.int .i64 0) rfl
    have G7:=ub R6 7
    have o8:=cb O6 8 (.int .i64 l.next) rfl
    have D8:=cb R6 8 (.int .i64 0) rfl
    have G8:=ub R6 8
    have o9:=cb O6 9 (.slice oa' l.out.length oc') rfl
    have D9:=cb R6 9 (.slice none 0 0) rfl
    have G9:=ub R6 9
    have o10:=cb O6 10 (.slice sa' l.seen.length sc') rfl
    have D10:=cb R6 10 (.slice none 0 0) rfl
    have G10:=ub R6 10
    have HE:=(show Hid (_∧_) from ⟨F6,FlSt.stop F6.st HM5.out.2.2.1 (by rw [← HM5.out.2.1]; exact hgo)⟩)
    clear F6 O6 R6 hW6 b6
    go_wp2_with fail
    refine bodyPost_ret (v:=.tuple #[.agg #[.slice s0 x0.length t0,.slice s1 x1.length t1,.slice s2 x2.length t2,.slice s3 x3.length t3,.slice s4 x4.length t4,.slice s5 x5.length t5,.slice (some ⟨b,off,none⟩) (x6.length - k) t6',.int .i64 l.id,.int .i64 l.next,.slice oa' l.out.length oc',.slice sa' l.seen.length sc'],.slice pa k pc]) (by simp [results,Tryz.results5,go_sem,D0,D1,D2,D3,D4,D5,D6,D7,D8,D9,D10]) rfl ?_
    refine FuSt.ans HE.out.1 HE.out.2 (fun q hq => ?_) (by simp) ?_
    ·have hq2:w.heap.size+2≤q:=by
      rcases hq with hq | hq | hq
      ·exact hq.1
      ·have:=HE.out.1.link.own hq; have:=HE.out.1.ord; omega
      ·have:=(own_type HE.out.1.pks q hq).1; have:=HE.out.1.ord; omega
     have e1:∀ (j:Nat) (u:Value) (W:World),(W.setCell ⟨w.heap.size+1,j,none⟩ u).heap[q]? = W.heap[q]? := fun j u W=>Below.heap_setCell W _ u q (by show q≠w.heap.size+1; omega)
     simp only [e1]
    ·iterate 11 refine Below.setCell ?_ (by simp) _
     exact HE.out.1.base
  ·obtain rfl:k=x6.length:=by omega
   have hnp:¬ (0:Int)<(((x6.length - x6.length:Nat)):Int):=by omega
   have hF:=HF.out
   have hO:=HO.out
   have hR:=HR.out
   clear oL7 oL8 oL9 oL10 pL7
   have o0:=cb hO 0 (.slice s0 x0.length t0) rfl
   have D0:=cb hR 0 (.slice none 0 0) rfl
   have G0:=ub hR 0
   have o1:=cb hO 1 (.slice s1 x1.length t1) rfl
   have D1:=cb hR 1 (.slice none 0 0) rfl
   have G1:=ub hR 1
   have o2:=cb hO 2 (.slice s2 x2.length t2) rfl
   have D2:=cb hR 2 (.slice none 0 0) rfl
   have G2:=ub hR 2
   have o3:=cb hO 3 (.slice s3 x3.length t3) rfl
   have D3:=cb hR 3 (.slice none 0 0) rfl
   have G3:=ub hR 3
   have o4:=cb hO 4 (.slice s4 x4.length t4) rfl
   have D4:=cb hR 4 (.slice none 0 0) rfl
   have G4:=ub hR 4
   have o5:=cb hO 5 (.slice s5 x5.length t5) rfl
   have D5:=cb hR 5 (.slice none 0 0) rfl
   have G5:=ub hR 5
   have o6:=cb hO 6 (.slice s6' (x6.length - x6.length) t6') rfl
   have D6:=cb hR 6 (.slice none 0 0) rfl
   have G6:=ub hR 6
   have o7:=cb hO 7 (.int .i64 l.id) rfl
   have D7:=cb hR 7 (.int .i64 0) rfl
   have G7:=ub hR 7
   have o8:=cb hO 8 (.int .i64 l.next) rfl
   have D8:=cb hR 8 (.int .i64 0) rfl
   have G8:=ub hR 8
   have o9:=cb hO 9 (.slice oa' l.out.length oc') rfl
   have D9:=cb hR 9 (.slice none 0 0) rfl
   have G9:=ub hR 9
   have o10:=cb hO 10 (.slice sa' l.seen.length sc') rfl
   have D10:=cb hR 10 (.slice none 0 0) rfl
   have G10:=ub hR 10
   have HE:=(show Hid (_∧_) from ⟨hF,FlSt.done hF.st (by rw [List.length_map])⟩)
   clear hF hO hR HF HO HP HR
   go_wp2_with fail
   refine bodyPost_ret (v:=.tuple #[.agg #[.slice s0 x0.length t0,.slice s1 x1.length t1,.slice s2 x2.length t2,.slice s3 x3.length t3,.slice s4 x4.length t4,.slice s5 x5.length t5,.slice s6' (x6.length - x6.length) t6',.int .i64 l.id,.int .i64 l.next,.slice oa' l.out.length oc',.slice sa' l.seen.length sc'],.slice pa x6.length pc]) (by simp [results,Tryz.results5,go_sem,D0,D1,D2,D3,D4,D5,D6,D7,D8,D9,D10]) rfl ?_
   refine FuSt.ans HE.out.1 HE.out.2 (fun q hq => ?_) (by simp) ?_
   ·have hq2:w.heap.size+2≤q:=by
     rcases hq with hq | hq | hq
     ·exact hq.1
     ·have:=HE.out.1.link.own hq; have:=HE.out.1.ord; omega
     ·have:=(own_type HE.out.1.pks q hq).1; have:=HE.out.1.ord; omega
    have e1:∀ (j:Nat) (u:Value) (W:World),(W.setCell ⟨w.heap.size+1,j,none⟩ u).heap[q]? = W.heap[q]? := fun j u W=>Below.heap_setCell W _ u q (by show q≠w.heap.size+1; omega)
    simp only [e1]
   ·iterate 11 refine Below.setCell ?_ (by simp) _
    exact HE.out.1.base
end Go.Proofs.YtmmadoabejgffaaGreatDoor
