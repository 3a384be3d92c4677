/-
  Proofs.
-/
import Derived.Test.YtmmadoabejgffaaGreatDoorD
import Derived.Test.YtmmadoabejgffaaGreatDoorA
namespace Go.Proofs.YtmmadoabejgffaaGreatDoor
open Go.RowKit Go.Joins
set_option maxRecDepth 100000
set_option maxHeartbeats 51200000
theorem markIntS_dt:MkSl 63 IntR:=by
 intro v xs X w k0 hP h h0 hb
 rw [cntS_eq] at hb ⊢
 have hL:=preC_le xs
 have hl:=h.at.len
 unfold maxLen at hl
 obtain ⟨a,cap,rfl⟩:=h.form
 have HC:Hid (AllR IntR xs):=hP
 have HO:Hid (Own w (.slice a xs.length cap) (.row (mids xs k0 0)) X):=h
 clear h hP
 go_enter Tryz.func63,Tryz.ntmps63
 go_wp2
 go_loopw [1,5] (fun kv i wr=>∃ j:Nat,j≤xs.length∧i = .int .i64 j∧kv = .int .i64 (k0+(preC xs j:Int))∧Hid (Own wr (.slice a xs.length cap) (.row (mids xs k0 j)) X)∧Hid (KB X w wr)) (fun _ i _=>xs.length - (intOf i).toNat)
 case atStart=>exact ⟨0,Nat.zero_le _,rfl,by simp [preC],HO,KB.refl _ _⟩
 case round =>
  clear HO
  obtain ⟨k,hk,rfl,rfl,HO,HKB⟩:=hrel
  by_cases hkl:k<xs.length
  ·have he:=List.getElem?_eq_getElem hkl
   have hps:=preC_succ he
   have hpk:=hL (k+1)
   generalize xs[k]=r at *
   obtain ⟨z0,rfl⟩:=HC.out k r he
   have hsh:=mids_succ k0 he
   have hM:=(mids_later xs k0 k k (Nat.le_refl _)).trans he
   have hkM:k<(mids xs k0 k).length:=by rw [mids_len]; exact hkl
   rw [show Dt.cntR [.int z0]=1 from by simp [Dt.cntR,Dt.cnt]; try omega] at hps
   obtain ⟨K,hK⟩:∃ K:Int,K=k0+(preC xs k:Int):=⟨_,rfl⟩
   rw [← hK] at hsh ⊢
   have hKb:0≤K∧K+((1:Nat):Int)≤100000000:=by omega
   have hO:=HO.out
   have hKB:=HKB.out
   obtain ⟨M,hMe⟩:∃ M,M=mids xs k0 k:=⟨_,rfl⟩
   rw [← hMe] at hsh hM hO hkM
   have hfin:∀ W:World,Own W (.slice a xs.length cap) (.row (M.set k [.int (K)])) X→Own W (.slice a xs.length cap) (.row (mids xs k0 (k+1))) X:=fun W hW=>by rw [hsh]; exact hW
   have HK:Hid (K=k0+(preC xs k:Int)):=hK
   have hlt':((k:Nat):Int)<((xs.length:Nat):Int):=by omega
   clear HO HKB hK hMe hsh HC he
   obtain ⟨g0,off,hg0,hX0,cur,te,hblk⟩:=Own.head hO hM
   obtain rfl:=hg0
   have hXg:=hX0
   clear hX0
   obtain ⟨u0,Y0,c0',f0',o0,-,-,-⟩:=Own.slotAt hO hM (j:=0) rfl
   have c0:wr.cell? ⟨g0,off+k,none⟩=some u0:=by have:=c0'; simpa using this
   have f0:wr.frozen? ⟨g0,off+k,none⟩=false:=by have:=f0'; simpa using this
   clear c0' f0' o0
   obtain ⟨_,_,-,-,-,-,pt,-⟩:=Own.slotAt hO hM (j:=0) rfl
   have h1:Own (wr.setCell ⟨g0,off+k,none⟩ (.int .i64 (K))) (.slice (some ⟨g0,off,none⟩) xs.length cap) (.row (M.set k [.int (K)])) X:=by have:=pt (.int .i64 (K)) (.int (K)) (fun _ => .int _ ⟨by omega,by omega⟩ _); simpa using this
   have hM1:(M.set k [.int (K)])[k]? = some [.int (K)]:=List.getElem?_set_self hkM
   have kb1:KB X w (wr.setCell ⟨g0,off+k,none⟩ (.int .i64 (K))):=hKB.setCell (p:=⟨g0,off+k,none⟩) hXg _
   have HX1:=(show Hid (_∧_) from ⟨hfin _ h1,kb1⟩)
   clear hfin hblk pt h1 hM1 kb1 hO hKB hM
   go_wp2
   refine ⟨⟨k+1,by omega,by go_num,int_val (by have:=HK.out; omega),HX1.out.1,HX1.out.2⟩,by simp [intOf]; omega⟩
  ·obtain rfl:k=xs.length:=by omega
   have HF:=(show Hid (_∧_) from ⟨HO.out,HKB.out⟩)
   clear HO HKB HC
   go_wp2
   go_ret
   exact ⟨rfl,by rw [← mids_all]; exact HF.out.1,HF.out.2⟩
theorem markCodeS_dt:MkSl 111 CodeR:=by
 intro v xs X w k0 hP h h0 hb
 rw [cntS_eq] at hb ⊢
 have hL:=preC_le xs
 have hl:=h.at.len
 unfold maxLen at hl
 obtain ⟨a,cap,rfl⟩:=h.form
 have HC:Hid (AllR CodeR xs):=hP
 have HO:Hid (Own w (.slice a xs.length cap) (.row (mids xs k0 0)) X):=h
 clear h hP
 go_enter Tryz.func111,Tryz.ntmps111
 go_wp2
 go_loopw [1,5] (fun kv i wr=>∃ j:Nat,j≤xs.length∧i = .int .i64 j∧kv = .int .i64 (k0+(preC xs j:Int))∧Hid (Own wr (.slice a xs.length cap) (.row (mids xs k0 j)) X)∧Hid (KB X w wr)) (fun _ i _=>xs.length - (intOf i).toNat)
 case atStart=>exact ⟨0,Nat.zero_le _,rfl,by simp [preC],HO,KB.refl _ _⟩
 case round =>
  clear HO
  obtain ⟨k,hk,rfl,rfl,HO,HKB⟩:=hrel
  by_cases hkl:k<xs.length
  ·have he:=List.getElem?_eq_getElem hkl
   have hps:=preC_succ he
   have hpk:=hL (k+1)
   generalize xs[k]=r at *
   obtain ⟨z0,z1,b2,x3,rfl,q3⟩:=HC.out k r he
   have hsh:=mids_succ k0 he
   have hM:=(mids_later xs k0 k k (Nat.le_refl _)).trans he
   have hkM:k<(mids xs k0 k).length:=by rw [mids_len]; exact hkl
   rw [show Dt.cntR [.int z0,.int z1,.str b2,.row x3]=1+1+1+Dt.cS x3 from by simp [Dt.cntR,Dt.cnt]; try omega] at hps
   obtain ⟨K,hK⟩:∃ K:Int,K=k0+(preC xs k:Int):=⟨_,rfl⟩
   rw [← hK] at hsh ⊢
   have hKb:0≤K∧K+((1+1+1+Dt.cS x3:Nat):Int)≤100000000:=by omega
   have hO:=HO.out
   have hKB:=HKB.out
   obtain ⟨M,hMe⟩:∃ M,M=mids xs k0 k:=⟨_,rfl⟩
   rw [← hMe] at hsh hM hO hkM
   have hfin:∀ W:World,Own W (.slice a xs.length cap) (.row (M.set k [.int (K),.int (K+1),.str (markT (K+1+1)),.row (Dt.mkS x3 (K+1+1+1))])) X→Own W (.slice a xs.length cap) (.row (mids xs k0 (k+1))) X:=fun W hW=>by rw [hsh]; exact hW
   have HK:Hid (K=k0+(preC xs k:Int)):=hK
   have hlt':((k:Nat):Int)<((xs.length:Nat):Int):=by omega
   clear HO HKB hK hMe hsh HC he
   obtain ⟨g0,off,hg0,hX0,cur,te,hblk⟩:=Own.head hO hM
   obtain rfl:=hg0
   have hXg:=hX0
   clear hX0
   obtain ⟨u0,Y0,c0',f0',o0,-,-,-⟩:=Own.slotAt hO hM (j:=0) rfl
   have c0:wr.cell? ⟨g0,off+k * 4,none⟩=some u0:=c0'
   have f0:wr.frozen? ⟨g0,off+k * 4,none⟩=false:=f0'
   clear c0' f0' o0
   obtain ⟨u1,Y1,c1',f1',o1,-,-,-⟩:=Own.slotAt hO hM (j:=1) rfl
   have c1:wr.cell? ⟨g0,off+k * 4+1,none⟩=some u1:=c1'
   have f1:wr.frozen? ⟨g0,off+k * 4+1,none⟩=false:=f1'
   clear c1' f1' o1
   obtain ⟨_,_,-,-,-,-,pt,-⟩:=Own.slotAt hO hM (j:=0) rfl
   have h1:Own (wr.setCell ⟨g0,off+k * 4,none⟩ (.int .i64 (K))) (.slice (some ⟨g0,off,none⟩) xs.length cap) (.row (M.set k [.int (K),.int z1,.str b2,.row x3])) X:=by have:=pt (.int .i64 (K)) (.int (K)) (fun _ => .int _ ⟨by omega,by omega⟩ _); exact this
   have hM1:(M.set k [.int (K),.int z1,.str b2,.row x3])[k]? = some [.int (K),.int z1,.str b2,.row x3]:=List.getElem?_set_self hkM
   have kb1:KB X w (wr.setCell ⟨g0,off+k * 4,none⟩ (.int .i64 (K))):=hKB.setCell (p:=⟨g0,off+k * 4,none⟩) hXg _
   obtain ⟨_,_,-,-,-,-,pt,-⟩:=Own.slotAt h1 hM1 (j:=1) rfl
   have h2:Own ((wr.setCell ⟨g0,off+k * 4,none⟩ (.int .i64 (K))).setCell ⟨g0,off+k * 4+1,none⟩ (.int .i64 (K+1))) (.slice (some ⟨g0,off,none⟩) xs.length cap) (.row (M.set k [.int (K),.int (K+1),.str b2,.row x3])) X:=by have:=pt (.int .i64 (K+1)) (.int (K+1)) (fun _ => .int _ ⟨by omega,by omega⟩ _); rw [List.set_set] at this; exact this
   have hM2:(M.set k [.int (K),.int (K+1),.str b2,.row x3])[k]? = some [.int (K),.int (K+1),.str b2,.row x3]:=List.getElem?_set_self hkM
   have kb2:KB X w ((wr.setCell ⟨g0,off+k * 4,none⟩ (.int .i64 (K))).setCell ⟨g0,off+k * 4+1,none⟩ (.int .i64 (K+1))):=kb1.setCell (p:=⟨g0,off+k * 4+1,none⟩) hXg _
   have HX1:=(show Hid (_∧_) from ⟨h2,kb2⟩)
   clear hblk pt h1 hM1 kb1 h2 hM2 kb2 hO hKB
   go_wp2_with fail
   refine (markText_any _ _ (by omega)).mono ?_
   rintro e w1 ⟨rfl,b1⟩
   have g_1:=HX1.out.1.up b1
   have gM_1:(M.set k [.int (K),.int (K+1),.str b2,.row x3])[k]? = some [.int (K),.int (K+1),.str b2,.row x3]:=List.getElem?_set_self hkM
   have gk_1:KB X w w1:=HX1.out.2.trans (KB.of_below b1)
   clear b1 HX1 c0 f0 c1 f1
   obtain ⟨g1,off1,hg1,hX1,cur,te,hblk⟩:=Own.head g_1 gM_1
   obtain ⟨rfl,rfl⟩:g0=g1∧off=off1:=by simpa using hg1
   clear hX1 hg1
   obtain ⟨u2,Y2,c2',f2',o2,-,-,-⟩:=Own.slotAt g_1 gM_1 (j:=2) rfl
   have c2:w1.cell? ⟨g0,off+k * 4+2,none⟩=some u2:=c2'
   have f2:w1.frozen? ⟨g0,off+k * 4+2,none⟩=false:=f2'
   clear c2' f2' o2
   obtain ⟨u3,Y3,c3',f3',o3,-,-,-⟩:=Own.slotAt g_1 gM_1 (j:=3) rfl
   have c3:w1.cell? ⟨g0,off+k * 4+3,none⟩=some u3:=c3'
   have f3:w1.frozen? ⟨g0,off+k * 4+3,none⟩=false:=f3'
   obtain ⟨s3,t3,rfl⟩:=o3.form
   clear c3' f3' o3
   obtain ⟨_,_,-,-,-,-,pt,-⟩:=Own.slotAt g_1 gM_1 (j:=2) rfl
   have h3:Own (w1.setCell ⟨g0,off+k * 4+2,none⟩ (.string (markT (K+1+1)))) (.slice (some ⟨g0,off,none⟩) xs.length cap) (.row (M.set k [.int (K),.int (K+1),.str (markT (K+1+1)),.row x3])) X:=by have:=pt (.string (markT (K+1+1))) (.str (markT (K+1+1))) (fun _ => .str _ (markT_len _ (by omega)) _); rw [List.set_set] at this; exact this
   have hM3:(M.set k [.int (K),.int (K+1),.str (markT (K+1+1)),.row x3])[k]? = some [.int (K),.int (K+1),.str (markT (K+1+1)),.row x3]:=List.getElem?_set_self hkM
   have kb3:KB X w (w1.setCell ⟨g0,off+k * 4+2,none⟩ (.string (markT (K+1+1)))):=gk_1.setCell (p:=⟨g0,off+k * 4+2,none⟩) hXg _
   obtain ⟨u',Y',c',-,o',ys',-,kd⟩:=Own.slotAt h3 hM3 (j:=3) rfl
   obtain rfl:u' = .slice s3 x3.length t3:=by
    have e1:=c3
    rw [cell_of_block hblk] at e1
    have e2:(w1.setCell ⟨g0,off+k * 4+2,none⟩ (.string (markT (K+1+1)))).cell? ⟨g0,off+k * 4+3,none⟩=some u':=c'
    rw [cell_of_block (block_setCell hblk _),Array.getElem?_setIfInBounds_ne (by omega),e1] at e2
    exact (Option.some.inj e2).symm
   have HX2:=(show Hid (_∧_∧_∧_) from ⟨o',ys',kd,kb3⟩)
   clear c' o' ys' kd hblk pt h3 hM3 kb3 g_1 gk_1 gM_1
   go_wp2_with fail
   refine (markIntS_dt _ x3 Y' _ _ q3 HX2.out.1 (by omega) (by omega)).mono ?_
   rintro e w2 ⟨rfl,o1,kb1⟩
   have g_2:Own w2 (.slice (some ⟨g0,off,none⟩) xs.length cap) (.row (M.set k [.int (K),.int (K+1),.str (markT (K+1+1)),.row (Dt.mkS x3 (K+1+1+1))])) X:=by have:=HX2.out.2.2.1 w2 (.row (Dt.mkS x3 (K+1+1+1))) kb1 o1; rw [List.set_set] at this; exact this
   have gM_2:(M.set k [.int (K),.int (K+1),.str (markT (K+1+1)),.row (Dt.mkS x3 (K+1+1+1))])[k]? = some [.int (K),.int (K+1),.str (markT (K+1+1)),.row (Dt.mkS x3 (K+1+1+1))]:=List.getElem?_set_self hkM
   have gk_2:KB X w w2:=HX2.out.2.2.2.trans (kb1.more (fun b _ hy=>(HX2.out.2.1 b hy).1))
   clear o1 kb1 HX2 c2 f2 c3 f3
   have HX:=(show Hid (_∧_) from ⟨hfin _ g_2,gk_2⟩)
   clear hfin g_2 gk_2 gM_2
   go_wp2
   refine ⟨⟨k+1,by omega,by go_num,int_val (by have:=HK.out; omega),HX.out.1,HX.out.2⟩,by simp [intOf]; omega⟩
  ·obtain rfl:k=xs.length:=by omega
   have HF:=(show Hid (_∧_) from ⟨HO.out,HKB.out⟩)
   clear HO HKB HC
   go_wp2
   go_ret
   exact ⟨rfl,by rw [← mids_all]; exact HF.out.1,HF.out.2⟩
theorem markTable_dt:MkC 60 TableR:=by
 rintro vs r X w k ⟨x0,x1,rfl,q0,q1⟩ h h0 hb
 have hat:=h.at
 obtain ⟨v0,v1,rfl,a0,a1⟩:=fs2 hat
 obtain ⟨p0,c0,rfl⟩:=a0.form
 obtain ⟨p1,c1,rfl⟩:=a1.form
 rw [show tcnt [.row x0,.row x1]=Dt.cS x0+Dt.cS x1 from by simp [tcnt]; try omega] at hb ⊢
 rw [show tmk [.row x0,.row x1] k=[.row (Dt.mkS x0 (k)),.row (Dt.mkS x1 (k+(Dt.cS x0:Int)))] from rfl]
 clear hat a0 a1
 have h:=h.dom
 obtain ⟨X',hX'⟩:∃ X':Nat→Prop,X'=fun b=>X b∧b<w.heap.size:=⟨_,rfl⟩
 rw [← hX'] at h
 have HN:Hid (¬ X' w.heap.size∧∀ b,X' b→X b):=by rw [hX']; exact ⟨fun hx=>Nat.lt_irrefl _ hx.2,fun b hx=>hx.1⟩
 clear hX'
 obtain ⟨Z0,R0,zz0,r0,d0,o0,h⟩:=h
 obtain ⟨Z1,R1,zz1,r1,d1,o1,h⟩:=h
 have B0:Below w.heap.size w (w.alloc (.cells #[.slice p0 x0.length c0,.slice p1 x1.length c1] 40)):=(Below.refl _ w).alloc (Nat.le_refl _) _
 have O0:(w.alloc (.cells #[.slice p0 x0.length c0,.slice p1 x1.length c1] 40)).heap[w.heap.size]? = some (.cells #[.slice p0 x0.length c0,.slice p1 x1.length c1] 40):=(MapKept.heap_alloc w _).1
 have o0:=Own.up o0 B0
 have o1:=Own.up o1 B0
 have KB0:KB X' w (w.alloc (.cells #[.slice p0 x0.length c0,.slice p1 x1.length c1] 40)):=KB.of_below B0
 have HS:=(show Hid (_∧_∧_∧_∧_) from ⟨O0,KB0,o0,o1,trivial⟩)
 have HT:=(show Hid (_∧_∧_∧_∧_∧_∧_) from ⟨zz0,r0,d0,zz1,r1,d1,h⟩)
 clear B0 O0 KB0 h o0 zz0 r0 d0 o1 zz1 r1 d1
 go_enter Tryz.func60,Tryz.ntmps60
 go_wp2_with fail
 refine (markCodeS_dt _ x0 Z0 _ _ q0 HS.out.2.2.1 (by omega) (by omega)).mono ?_
 rintro e w1 ⟨rfl,n0,kb⟩
 obtain ⟨O0,KB0,o0,o1,-⟩:=HS.out
 obtain ⟨zz0,r0,d0,zz1,r1,d1,hE⟩:=HT.out
 have hzx:∀ b,Z0 b→X' b:=fun b hb=>(zz0 b hb)
 have o1:=Own.moved o1 (fun b hb hlt=>kb.block b hlt (fun hy=>d0 b hy (zz1 b hb)))
 have o0:=n0
 clear n0
 have O0:=(kb.block _ (lh O0) (fun hy=>HN.out.1 (hzx _ hy))).trans O0
 have KB0:=KB0.trans (kb.more (fun b _ hy=>hzx b hy))
 have y1:=cb O0 1 (.slice p1 x1.length c1) rfl
 have HU:=(show Hid (_∧_∧_∧_∧_) from ⟨O0,KB0,o0,o1,trivial⟩)
 clear HS kb hzx O0 KB0 hE o0 zz0 r0 d0 o1 zz1 r1 d1
 have HS:=HU
 clear HU
 go_wp2_with fail
 refine (markIntS_dt _ x1 Z1 _ _ q1 HS.out.2.2.2.1 (by omega) (by omega)).mono ?_
 rintro e w2 ⟨rfl,n1,kb⟩
 obtain ⟨O0,KB0,o0,o1,-⟩:=HS.out
 obtain ⟨zz0,r0,d0,zz1,r1,d1,hE⟩:=HT.out
 have hzx:∀ b,Z1 b→X' b:=fun b hb=>(r0 b (zz1 b hb))
 have o0:=Own.moved o0 (fun b hb hlt=>kb.block b hlt (fun hy=>d0 b hb (zz1 b hy)))
 have o1:=n1
 clear n1
 have O0:=(kb.block _ (lh O0) (fun hy=>HN.out.1 (hzx _ hy))).trans O0
 have KB0:=KB0.trans (kb.more (fun b _ hy=>hzx b hy))
 clear y1
 have HU:=(show Hid (_∧_∧_∧_∧_) from ⟨O0,KB0,o0,o1,trivial⟩)
 clear HS kb hzx O0 KB0 hE o0 zz0 r0 d0 o1 zz1 r1 d1
 have HS:=HU
 clear HU
 go_wp2
 go_ret
 obtain ⟨O0,KB0,o0,o1,-⟩:=HS.out
 obtain ⟨zz0,r0,d0,zz1,r1,d1,hE⟩:=HT.out
 have hfin:OFs _ [.slice p0 x0.length c0,.slice p1 x1.length c1] [.row (Dt.mkS x0 (k)),.row (Dt.mkS x1 (k+(Dt.cS x0:Int)))] X':=⟨Z0,R0,zz0,r0,d0,o0,⟨Z1,R1,zz1,r1,d1,o1,hE⟩⟩
 exact ⟨int_ret (by omega),hfin.mono HN.out.2,KB0.more (fun b _ hb=>HN.out.2 b hb)⟩
theorem markCellS_dt:MkSl 61 CellR:=by
 intro v xs X w k0 hP h h0 hb
 rw [cntS_eq] at hb ⊢
 have hL:=preC_le xs
 have hl:=h.at.len
 unfold maxLen at hl
 obtain ⟨a,cap,rfl⟩:=h.form
 have HC:Hid (AllR CellR xs):=hP
 have HO:Hid (Own w (.slice a xs.length cap) (.row (mids xs k0 0)) X):=h
 clear h hP
 go_enter Tryz.func61,Tryz.ntmps61
 go_wp2
 go_loopw [1,5] (fun kv i wr=>∃ j:Nat,j≤xs.length∧i = .int .i64 j∧kv = .int .i64 (k0+(preC xs j:Int))∧Hid (Own wr (.slice a xs.length cap) (.row (mids xs k0 j)) X)∧Hid (KB X w wr)) (fun _ i _=>xs.length - (intOf i).toNat)
 case atStart=>exact ⟨0,Nat.zero_le _,rfl,by simp [preC],HO,KB.refl _ _⟩
 case round =>
  clear HO
  obtain ⟨k,hk,rfl,rfl,HO,HKB⟩:=hrel
  by_cases hkl:k<xs.length
  ·have he:=List.getElem?_eq_getElem hkl
   have hps:=preC_succ he
   have hpk:=hL (k+1)
   generalize xs[k]=r at *
   obtain ⟨z0,z1,z2,x3,rfl,q3⟩:=HC.out k r he
   have hsh:=mids_succ k0 he
   have hM:=(mids_later xs k0 k k (Nat.le_refl _)).trans he
   have hkM:k<(mids xs k0 k).length:=by rw [mids_len]; exact hkl
   rw [show Dt.cntR [.int z0,.int z1,.int z2,.row x3]=1+1+1+Dt.cS x3 from by simp [Dt.cntR,Dt.cnt]; try omega] at hps
   obtain ⟨K,hK⟩:∃ K:Int,K=k0+(preC xs k:Int):=⟨_,rfl⟩
   rw [← hK] at hsh ⊢
   have hKb:0≤K∧K+((1+1+1+Dt.cS x3:Nat):Int)≤100000000:=by omega
   have hO:=HO.out
   have hKB:=HKB.out
   obtain ⟨M,hMe⟩:∃ M,M=mids xs k0 k:=⟨_,rfl⟩
   rw [← hMe] at hsh hM hO hkM
   have hfin:∀ W:World,Own W (.slice a xs.length cap) (.row (M.set k [.int (K),.int (K+1),.int (K+1+1),.row (Dt.mkS x3 (K+1+1+1))])) X→Own W (.slice a xs.length cap) (.row (mids xs k0 (k+1))) X:=fun W hW=>by rw [hsh]; exact hW
   have HK:Hid (K=k0+(preC xs k:Int)):=hK
   have hlt':((k:Nat):Int)<((xs.length:Nat):Int):=by omega
   clear HO HKB hK hMe hsh HC he
   obtain ⟨g0,off,hg0,hX0,cur,te,hblk⟩:=Own.head hO hM
   obtain rfl:=hg0
   have hXg:=hX0
   clear hX0
   obtain ⟨u0,Y0,c0',f0',o0,-,-,-⟩:=Own.slotAt hO hM (j:=0) rfl
   have c0:wr.cell? ⟨g0,off+k * 4,none⟩=some u0:=c0'
   have f0:wr.frozen? ⟨g0,off+k * 4,none⟩=false:=f0'
   clear c0' f0' o0
   obtain ⟨u1,Y1,c1',f1',o1,-,-,-⟩:=Own.slotAt hO hM (j:=1) rfl
   have c1:wr.cell? ⟨g0,off+k * 4+1,none⟩=some u1:=c1'
   have f1:wr.frozen? ⟨g0,off+k * 4+1,none⟩=false:=f1'
   clear c1' f1' o1
   obtain ⟨u2,Y2,c2',f2',o2,-,-,-⟩:=Own.slotAt hO hM (j:=2) rfl
   have c2:wr.cell? ⟨g0,off+k * 4+2,none⟩=some u2:=c2'
   have f2:wr.frozen? ⟨g0,off+k * 4+2,none⟩=false:=f2'
   clear c2' f2' o2
   obtain ⟨u3,Y3,c3',f3',o3,-,-,-⟩:=Own.slotAt hO hM (j:=3) rfl
   have c3:wr.cell? ⟨g0,off+k * 4+3,none⟩=some u3:=c3'
   have f3:wr.frozen? ⟨g0,off+k * 4+3,none⟩=false:=f3'
   obtain ⟨s3,t3,rfl⟩:=o3.form
   clear c3' f3' o3
   obtain ⟨_,_,-,-,-,-,pt,-⟩:=Own.slotAt hO hM (j:=0) rfl
   have h1:Own (wr.setCell ⟨g0,off+k * 4,none⟩ (.int .i64 (K))) (.slice (some ⟨g0,off,none⟩) xs.length cap) (.row (M.set k [.int (K),.int z1,.int z2,.row x3])) X:=by have:=pt (.int .i64 (K)) (.int (K)) (fun _ => .int _ ⟨by omega,by omega⟩ _); exact this
   have hM1:(M.set k [.int (K),.int z1,.int z2,.row x3])[k]? = some [.int (K),.int z1,.int z2,.row x3]:=List.getElem?_set_self hkM
   have kb1:KB X w (wr.setCell ⟨g0,off+k * 4,none⟩ (.int .i64 (K))):=hKB.setCell (p:=⟨g0,off+k * 4,none⟩) hXg _
   obtain ⟨_,_,-,-,-,-,pt,-⟩:=Own.slotAt h1 hM1 (j:=1) rfl
   have h2:Own ((wr.setCell ⟨g0,off+k * 4,none⟩ (.int .i64 (K))).setCell ⟨g0,off+k * 4+1,none⟩ (.int .i64 (K+1))) (.slice (some ⟨g0,off,none⟩) xs.length cap) (.row (M.set k [.int (K),.int (K+1),.int z2,.row x3])) X:=by have:=pt (.int .i64 (K+1)) (.int (K+1)) (fun _ => .int _ ⟨by omega,by omega⟩ _); rw [List.set_set] at this; exact this
   have hM2:(M.set k [.int (K),.int (K+1),.int z2,.row x3])[k]? = some [.int (K),.int (K+1),.int z2,.row x3]:=List.getElem?_set_self hkM
   have kb2:KB X w ((wr.setCell ⟨g0,off+k * 4,none⟩ (.int .i64 (K))).setCell ⟨g0,off+k * 4+1,none⟩ (.int .i64 (K+1))):=kb1.setCell (p:=⟨g0,off+k * 4+1,none⟩) hXg _
   obtain ⟨_,_,-,-,-,-,pt,-⟩:=Own.slotAt h2 hM2 (j:=2) rfl
   have h3:Own (((wr.setCell ⟨g0,off+k * 4,none⟩ (.int .i64 (K))).setCell ⟨g0,off+k * 4+1,none⟩ (.int .i64 (K+1))).setCell ⟨g0,off+k * 4+2,none⟩ (.int .i64 (K+1+1))) (.slice (some ⟨g0,off,none⟩) xs.length cap) (.row (M.set k [.int (K),.int (K+1),.int (K+1+1),.row x3])) X:=by have:=pt (.int .i64 (K+1+1)) (.int (K+1+1)) (fun _ => .int _ ⟨by omega,by omega⟩ _); rw [List.set_set] at this; exact this
   have hM3:(M.set k [.int (K),.int (K+1),.int (K+1+1),.row x3])[k]? = some [.int (K),.int (K+1),.int (K+1+1),.row x3]:=List.getElem?_set_self hkM
   have kb3:KB X w (((wr.setCell ⟨g0,off+k * 4,none⟩ (.int .i64 (K))).setCell ⟨g0,off+k * 4+1,none⟩ (.int .i64 (K+1))).setCell ⟨g0,off+k * 4+2,none⟩ (.int .i64 (K+1+1))):=kb2.setCell (p:=⟨g0,off+k * 4+2,none⟩) hXg _
   obtain ⟨u',Y',c',-,o',ys',-,kd⟩:=Own.slotAt h3 hM3 (j:=3) rfl
   obtain rfl:u' = .slice s3 x3.length t3:=by
    have e1:=c3
    rw [cell_of_block hblk] at e1
    have e2:(((wr.setCell ⟨g0,off+k * 4,none⟩ (.int .i64 (K))).setCell ⟨g0,off+k * 4+1,none⟩ (.int .i64 (K+1))).setCell ⟨g0,off+k * 4+2,none⟩ (.int .i64 (K+1+1))).cell? ⟨g0,off+k * 4+3,none⟩=some u':=c'
    rw [cell_of_block (block_setCell (block_setCell (block_setCell hblk _) _) _),Array.getElem?_setIfInBounds_ne (by omega),Array.getElem?_setIfInBounds_ne (by omega),Array.getElem?_setIfInBounds_ne (by omega),e1] at e2
    exact (Option.some.inj e2).symm
   have HX1:=(show Hid (_∧_∧_∧_) from ⟨o',ys',kd,kb3⟩)
   clear c' o' ys' kd hblk pt h1 hM1 kb1 h2 hM2 kb2 h3 hM3 kb3 hO hKB
   go_wp2_with fail
   refine (markIntS_dt _ x3 Y' _ _ q3 HX1.out.1 (by omega) (by omega)).mono ?_
   rintro e w1 ⟨rfl,o1,kb1⟩
   have g_1:Own w1 (.slice (some ⟨g0,off,none⟩) xs.length cap) (.row (M.set k [.int (K),.int (K+1),.int (K+1+1),.row (Dt.mkS x3 (K+1+1+1))])) X:=by have:=HX1.out.2.2.1 w1 (.row (Dt.mkS x3 (K+1+1+1))) kb1 o1; rw [List.set_set] at this; exact this
   have gM_1:(M.set k [.int (K),.int (K+1),.int (K+1+1),.row (Dt.mkS x3 (K+1+1+1))])[k]? = some [.int (K),.int (K+1),.int (K+1+1),.row (Dt.mkS x3 (K+1+1+1))]:=List.getElem?_set_self hkM
   have gk_1:KB X w w1:=HX1.out.2.2.2.trans (kb1.more (fun b _ hy=>(HX1.out.2.1 b hy).1))
   clear o1 kb1 HX1 c0 f0 c1 f1 c2 f2 c3 f3
   have HX:=(show Hid (_∧_) from ⟨hfin _ g_1,gk_1⟩)
   clear hfin g_1 gk_1 gM_1
   go_wp2
   refine ⟨⟨k+1,by omega,by go_num,int_val (by have:=HK.out; omega),HX.out.1,HX.out.2⟩,by simp [intOf]; omega⟩
  ·obtain rfl:k=xs.length:=by omega
   have HF:=(show Hid (_∧_) from ⟨HO.out,HKB.out⟩)
   clear HO HKB HC
   go_wp2
   go_ret
   exact ⟨rfl,by rw [← mids_all]; exact HF.out.1,HF.out.2⟩
theorem markFrameS_dt:MkSl 112 FrameR:=by
 intro v xs X w k0 hP h h0 hb
 rw [cntS_eq] at hb ⊢
 have hL:=preC_le xs
 have hl:=h.at.len
 unfold maxLen at hl
 obtain ⟨a,cap,rfl⟩:=h.form
 have HC:Hid (AllR FrameR xs):=hP
 have HO:Hid (Own w (.slice a xs.length cap) (.row (mids xs k0 0)) X):=h
 clear h hP
 go_enter Tryz.func112,Tryz.ntmps112
 go_wp2
 go_loopw [1,5] (fun kv i wr=>∃ j:Nat,j≤xs.length∧i = .int .i64 j∧kv = .int .i64 (k0+(preC xs j:Int))∧Hid (Own wr (.slice a xs.length cap) (.row (mids xs k0 j)) X)∧Hid (KB X w wr)) (fun _ i _=>xs.length - (intOf i).toNat)
 case atStart=>exact ⟨0,Nat.zero_le _,rfl,by simp [preC],HO,KB.refl _ _⟩
 case round =>
  clear HO
  obtain ⟨k,hk,rfl,rfl,HO,HKB⟩:=hrel
  by_cases hkl:k<xs.length
  ·have he:=List.getElem?_eq_getElem hkl
   have hps:=preC_succ he
   have hpk:=hL (k+1)
   generalize xs[k]=r at *
   obtain ⟨z0,z1,z2,x3,rfl,q3⟩:=HC.out k r he
   have hsh:=mids_succ k0 he
   have hM:=(mids_later xs k0 k k (Nat.le_refl _)).trans he
   have hkM:k<(mids xs k0 k).length:=by rw [mids_len]; exact hkl
   rw [show Dt.cntR [.int z0,.int z1,.int z2,.row x3]=1+1+1+Dt.cS x3 from by simp [Dt.cntR,Dt.cnt]; try omega] at hps
   obtain ⟨K,hK⟩:∃ K:Int,K=k0+(preC xs k:Int):=⟨_,rfl⟩
   rw [← hK] at hsh ⊢
   have hKb:0≤K∧K+((1+1+1+Dt.cS x3:Nat):Int)≤100000000:=by omega
   have hO:=HO.out
   have hKB:=HKB.out
   obtain ⟨M,hMe⟩:∃ M,M=mids xs k0 k:=⟨_,rfl⟩
   rw [← hMe] at hsh hM hO hkM
   have hfin:∀ W:World,Own W (.slice a xs.length cap) (.row (M.set k [.int (K),.int (K+1),.int (K+1+1),.row (Dt.mkS x3 (K+1+1+1))])) X→Own W (.slice a xs.length cap) (.row (mids xs k0 (k+1))) X:=fun W hW=>by rw [hsh]; exact hW
   have HK:Hid (K=k0+(preC xs k:Int)):=hK
   have hlt':((k:Nat):Int)<((xs.length:Nat):Int):=by omega
   clear HO HKB hK hMe hsh HC he
   obtain ⟨g0,off,hg0,hX0,cur,te,hblk⟩:=Own.head hO hM
   obtain rfl:=hg0
   have hXg:=hX0
   clear hX0
   obtain ⟨u0,Y0,c0',f0',o0,-,-,-⟩:=Own.slotAt hO hM (j:=0) rfl
   have c0:wr.cell? ⟨g0,off+k * 4,none⟩=some u0:=c0'
   have f0:wr.frozen? ⟨g0,off+k * 4,none⟩=false:=f0'
   clear c0' f0' o0
   obtain ⟨u1,Y1,c1',f1',o1,-,-,-⟩:=Own.slotAt hO hM (j:=1) rfl
   have c1:wr.cell? ⟨g0,off+k * 4+1,none⟩=some u1:=c1'
   have f1:wr.frozen? ⟨g0,off+k * 4+1,none⟩=false:=f1'
   clear c1' f1' o1
   obtain ⟨u2,Y2,c2',f2',o2,-,-,-⟩:=Own.slotAt hO hM (j:=2) rfl
   have c2:wr.cell? ⟨g0,off+k * 4+2,none⟩=some u2:=c2'
   have f2:wr.frozen? ⟨g0,off+k * 4+2,none⟩=false:=f2'
   clear c2' f2' o2
   obtain ⟨u3,Y3,c3',f3',o3,-,-,-⟩:=Own.slotAt hO hM (j:=3) rfl
   have c3:wr.cell? ⟨g0,off+k * 4+3,none⟩=some u3:=c3'
   have f3:wr.frozen? ⟨g0,off+k * 4+3,none⟩=false:=f3'
   obtain ⟨s3,t3,rfl⟩:=o3.form
   clear c3' f3' o3
   obtain ⟨_,_,-,-,-,-,pt,-⟩:=Own.slotAt hO hM (j:=0) rfl
   have h1:Own (wr.setCell ⟨g0,off+k * 4,none⟩ (.int .i64 (K))) (.slice (some ⟨g0,off,none⟩) xs.length cap) (.row (M.set k [.int (K),.int z1,.int z2,.row x3])) X:=by have:=pt (.int .i64 (K)) (.int (K)) (fun _ => .int _ ⟨by omega,by omega⟩ _); exact this
   have hM1:(M.set k [.int (K),.int z1,.int z2,.row x3])[k]? = some [.int (K),.int z1,.int z2,.row x3]:=List.getElem?_set_self hkM
   have kb1:KB X w (wr.setCell ⟨g0,off+k * 4,none⟩ (.int .i64 (K))):=hKB.setCell (p:=⟨g0,off+k * 4,none⟩) hXg _
   obtain ⟨_,_,-,-,-,-,pt,-⟩:=Own.slotAt h1 hM1 (j:=1) rfl
   have h2:Own ((wr.setCell ⟨g0,off+k * 4,none⟩ (.int .i64 (K))).setCell ⟨g0,off+k * 4+1,none⟩ (.int .i64 (K+1))) (.slice (some ⟨g0,off,none⟩) xs.length cap) (.row (M.set k [.int (K),.int (K+1),.int z2,.row x3])) X:=by have:=pt (.int .i64 (K+1)) (.int (K+1)) (fun _ => .int _ ⟨by omega,by omega⟩ _); rw [List.set_set] at this; exact this
   have hM2:(M.set k [.int (K),.int (K+1),.int z2,.row x3])[k]? = some [.int (K),.int (K+1),.int z2,.row x3]:=List.getElem?_set_self hkM
   have kb2:KB X w ((wr.setCell ⟨g0,off+k * 4,none⟩ (.int .i64 (K))).setCell ⟨g0,off+k * 4+1,none⟩ (.int .i64 (K+1))):=kb1.setCell (p:=⟨g0,off+k * 4+1,none⟩) hXg _
   obtain ⟨_,_,-,-,-,-,pt,-⟩:=Own.slotAt h2 hM2 (j:=2) rfl
   have h3:Own (((wr.setCell ⟨g0,off+k * 4,none⟩ (.int .i64 (K))).setCell ⟨g0,off+k * 4+1,none⟩ (.int .i64 (K+1))).setCell ⟨g0,off+k * 4+2,none⟩ (.int .i64 (K+1+1))) (.slice (some ⟨g0,off,none⟩) xs.length cap) (.row (M.set k [.int (K),.int (K+1),.int (K+1+1),.row x3])) X:=by have:=pt (.int .i64 (K+1+1)) (.int (K+1+1)) (fun _ => .int _ ⟨by omega,by omega⟩ _); rw [List.set_set] at this; exact this
   have hM3:(M.set k [.int (K),.int (K+1),.int (K+1+1),.row x3])[k]? = some [.int (K),.int (K+1),.int (K+1+1),.row x3]:=List.getElem?_set_self hkM
   have kb3:KB X w (((wr.setCell ⟨g0,off+k * 4,none⟩ (.int .i64 (K))).setCell ⟨g0,off+k * 4+1,none⟩ (.int .i64 (K+1))).setCell ⟨g0,off+k * 4+2,none⟩ (.int .i64 (K+1+1))):=kb2.setCell (p:=⟨g0,off+k * 4+2,none⟩) hXg _
   obtain ⟨u',Y',c',-,o',ys',-,kd⟩:=Own.slotAt h3 hM3 (j:=3) rfl
   obtain rfl:u' = .slice s3 x3.length t3:=by
    have e1:=c3
    rw [cell_of_block hblk] at e1
    have e2:(((wr.setCell ⟨g0,off+k * 4,none⟩ (.int .i64 (K))).setCell ⟨g0,off+k * 4+1,none⟩ (.int .i64 (K+1))).setCell ⟨g0,off+k * 4+2,none⟩ (.int .i64 (K+1+1))).cell? ⟨g0,off+k * 4+3,none⟩=some u':=c'
    rw [cell_of_block (block_setCell (block_setCell (block_setCell hblk _) _) _),Array.getElem?_setIfInBounds_ne (by omega),Array.getElem?_setIfInBounds_ne (by omega),Array.getElem?_setIfInBounds_ne (by omega),e1] at e2
    exact (Option.some.inj e2).symm
   have HX1:=(show Hid (_∧_∧_∧_) from ⟨o',ys',kd,kb3⟩)
   clear c' o' ys' kd hblk pt h1 hM1 kb1 h2 hM2 kb2 h3 hM3 kb3 hO hKB
   go_wp2_with fail
   refine (markIntS_dt _ x3 Y' _ _ q3 HX1.out.1 (by omega) (by omega)).mono ?_
   rintro e w1 ⟨rfl,o1,kb1⟩
   have g_1:Own w1 (.slice (some ⟨g0,off,none⟩) xs.length cap) (.row (M.set k [.int (K),.int (K+1),.int (K+1+1),.row (Dt.mkS x3 (K+1+1+1))])) X:=by have:=HX1.out.2.2.1 w1 (.row (Dt.mkS x3 (K+1+1+1))) kb1 o1; rw [List.set_set] at this; exact this
   have gM_1:(M.set k [.int (K),.int (K+1),.int (K+1+1),.row (Dt.mkS x3 (K+1+1+1))])[k]? = some [.int (K),.int (K+1),.int (K+1+1),.row (Dt.mkS x3 (K+1+1+1))]:=List.getElem?_set_self hkM
   have gk_1:KB X w w1:=HX1.out.2.2.2.trans (kb1.more (fun b _ hy=>(HX1.out.2.1 b hy).1))
   clear o1 kb1 HX1 c0 f0 c1 f1 c2 f2 c3 f3
   have HX:=(show Hid (_∧_) from ⟨hfin _ g_1,gk_1⟩)
   clear hfin g_1 gk_1 gM_1
   go_wp2
   refine ⟨⟨k+1,by omega,by go_num,int_val (by have:=HK.out; omega),HX.out.1,HX.out.2⟩,by simp [intOf]; omega⟩
  ·obtain rfl:k=xs.length:=by omega
   have HF:=(show Hid (_∧_) from ⟨HO.out,HKB.out⟩)
   clear HO HKB HC
   go_wp2
   go_ret
   exact ⟨rfl,by rw [← mids_all]; exact HF.out.1,HF.out.2⟩
theorem markThreadS_dt:MkSl 62 ThreadR:=by
 intro v xs X w k0 hP h h0 hb
 rw [cntS_eq] at hb ⊢
 have hL:=preC_le xs
 have hl:=h.at.len
 unfold maxLen at hl
 obtain ⟨a,cap,rfl⟩:=h.form
 have HC:Hid (AllR ThreadR xs):=hP
 have HO:Hid (Own w (.slice a xs.length cap) (.row (mids xs k0 0)) X):=h
 clear h hP
 go_enter Tryz.func62,Tryz.ntmps62
 go_wp2
 go_loopw [1,5] (fun kv i wr=>∃ j:Nat,j≤xs.length∧i = .int .i64 j∧kv = .int .i64 (k0+(preC xs j:Int))∧Hid (Own wr (.slice a xs.length cap) (.row (mids xs k0 j)) X)∧Hid (KB X w wr)) (fun _ i _=>xs.length - (intOf i).toNat)
 case atStart=>exact ⟨0,Nat.zero_le _,rfl,by simp [preC],HO,KB.refl _ _⟩
 case round =>
  clear HO
  obtain ⟨k,hk,rfl,rfl,HO,HKB⟩:=hrel
  by_cases hkl:k<xs.length
  ·have he:=List.getElem?_eq_getElem hkl
   have hps:=preC_succ he
   have hpk:=hL (k+1)
   generalize xs[k]=r at *
   obtain ⟨z0,z1,x2,x3,b4,rfl,q2,q3⟩:=HC.out k r he
   have hsh:=mids_succ k0 he
   have hM:=(mids_later xs k0 k k (Nat.le_refl _)).trans he
   have hkM:k<(mids xs k0 k).length:=by rw [mids_len]; exact hkl
   rw [show Dt.cntR [.int z0,.int z1,.row x2,.row x3,.str b4]=1+1+Dt.cS x2+Dt.cS x3+1 from by simp [Dt.cntR,Dt.cnt]; try omega] at hps
   obtain ⟨K,hK⟩:∃ K:Int,K=k0+(preC xs k:Int):=⟨_,rfl⟩
   rw [← hK] at hsh ⊢
   have hKb:0≤K∧K+((1+1+Dt.cS x2+Dt.cS x3+1:Nat):Int)≤100000000:=by omega
   have hO:=HO.out
   have hKB:=HKB.out
   obtain ⟨M,hMe⟩:∃ M,M=mids xs k0 k:=⟨_,rfl⟩
   rw [← hMe] at hsh hM hO hkM
   have hfin:∀ W:World,Own W (.slice a xs.length cap) (.row (M.set k [.int (K),.int (K+1),.row (Dt.mkS x2 (K+1+1)),.row (Dt.mkS x3 (K+1+1+(Dt.cS x2:Int))),.str (markT (K+1+1+(Dt.cS x2:Int)+(Dt.cS x3:Int)))])) X→Own W (.slice a xs.length cap) (.row (mids xs k0 (k+1))) X:=fun W hW=>by rw [hsh]; exact hW
   have HK:Hid (K=k0+(preC xs k:Int)):=hK
   have hlt':((k:Nat):Int)<((xs.length:Nat):Int):=by omega
   clear HO HKB hK hMe hsh HC he
   obtain ⟨g0,off,hg0,hX0,cur,te,hblk⟩:=Own.head hO hM
   obtain rfl:=hg0
   have hXg:=hX0
   clear hX0
   obtain ⟨u0,Y0,c0',f0',o0,-,-,-⟩:=Own.slotAt hO hM (j:=0) rfl
   have c0:wr.cell? ⟨g0,off+k * 5,none⟩=some u0:=c0'
   have f0:wr.frozen? ⟨g0,off+k * 5,none⟩=false:=f0'
   clear c0' f0' o0
   obtain ⟨u1,Y1,c1',f1',o1,-,-,-⟩:=Own.slotAt hO hM (j:=1) rfl
   have c1:wr.cell? ⟨g0,off+k * 5+1,none⟩=some u1:=c1'
   have f1:wr.frozen? ⟨g0,off+k * 5+1,none⟩=false:=f1'
   clear c1' f1' o1
   obtain ⟨u2,Y2,c2',f2',o2,-,-,-⟩:=Own.slotAt hO hM (j:=2) rfl
   have c2:wr.cell? ⟨g0,off+k * 5+2,none⟩=some u2:=c2'
   have f2:wr.frozen? ⟨g0,off+k * 5+2,none⟩=false:=f2'
   obtain ⟨s2,t2,rfl⟩:=o2.form
   clear c2' f2' o2
   obtain ⟨_,_,-,-,-,-,pt,-⟩:=Own.slotAt hO hM (j:=0) rfl
   have h1:Own (wr.setCell ⟨g0,off+k * 5,none⟩ (.int .i64 (K))) (.slice (some ⟨g0,off,none⟩) xs.length cap) (.row (M.set k [.int (K),.int z1,.row x2,.row x3,.str b4])) X:=by have:=pt (.int .i64 (K)) (.int (K)) (fun _ => .int _ ⟨by omega,by omega⟩ _); exact this
   have hM1:(M.set k [.int (K),.int z1,.row x2,.row x3,.str b4])[k]? = some [.int (K),.int z1,.row x2,.row x3,.str b4]:=List.getElem?_set_self hkM
   have kb1:KB X w (wr.setCell ⟨g0,off+k * 5,none⟩ (.int .i64 (K))):=hKB.setCell (p:=⟨g0,off+k * 5,none⟩) hXg _
   obtain ⟨_,_,-,-,-,-,pt,-⟩:=Own.slotAt h1 hM1 (j:=1) rfl
   have h2:Own ((wr.setCell ⟨g0,off+k * 5,none⟩ (.int .i64 (K))).setCell ⟨g0,off+k * 5+1,none⟩ (.int .i64 (K+1))) (.slice (some ⟨g0,off,none⟩) xs.length cap) (.row (M.set k [.int (K),.int (K+1),.row x2,.row x3,.str b4])) X:=by have:=pt (.int .i64 (K+1)) (.int (K+1)) (fun _ => .int _ ⟨by omega,by omega⟩ _); rw [List.set_set] at this; exact this
   have hM2:(M.set k [.int (K),.int (K+1),.row x2,.row x3,.str b4])[k]? = some [.int (K),.int (K+1),.row x2,.row x3,.str b4]:=List.getElem?_set_self hkM
   have kb2:KB X w ((wr.setCell ⟨g0,off+k * 5,none⟩ (.int .i64 (K))).setCell ⟨g0,off+k * 5+1,none⟩ (.int .i64 (K+1))):=kb1.setCell (p:=⟨g0,off+k * 5+1,none⟩) hXg _
   obtain ⟨u',Y',c',-,o',ys',-,kd⟩:=Own.slotAt h2 hM2 (j:=2) rfl
   obtain rfl:u' = .slice s2 x2.length t2:=by
    have e1:=c2
    rw [cell_of_block hblk] at e1
    have e2:((wr.setCell ⟨g0,off+k * 5,none⟩ (.int .i64 (K))).setCell ⟨g0,off+k * 5+1,none⟩ (.int .i64 (K+1))).cell? ⟨g0,off+k * 5+2,none⟩=some u':=c'
    rw [cell_of_block (block_setCell (block_setCell hblk _) _),Array.getElem?_setIfInBounds_ne (by omega),Array.getElem?_setIfInBounds_ne (by omega),e1] at e2
    exact (Option.some.inj e2).symm
   have HX1:=(show Hid (_∧_∧_∧_) from ⟨o',ys',kd,kb2⟩)
   clear c' o' ys' kd hblk pt h1 hM1 kb1 h2 hM2 kb2 hO hKB
   go_wp2_with fail
   refine (markIntS_dt _ x2 Y' _ _ q2 HX1.out.1 (by omega) (by omega)).mono ?_
   rintro e w1 ⟨rfl,o1,kb1⟩
   have g_1:Own w1 (.slice (some ⟨g0,off,none⟩) xs.length cap) (.row (M.set k [.int (K),.int (K+1),.row (Dt.mkS x2 (K+1+1)),.row x3,.str b4])) X:=by have:=HX1.out.2.2.1 w1 (.row (Dt.mkS x2 (K+1+1))) kb1 o1; rw [List.set_set] at this; exact this
   have gM_1:(M.set k [.int (K),.int (K+1),.row (Dt.mkS x2 (K+1+1)),.row x3,.str b4])[k]? = some [.int (K),.int (K+1),.row (Dt.mkS x2 (K+1+1)),.row x3,.str b4]:=List.getElem?_set_self hkM
   have gk_1:KB X w w1:=HX1.out.2.2.2.trans (kb1.more (fun b _ hy=>(HX1.out.2.1 b hy).1))
   clear o1 kb1 HX1 c0 f0 c1 f1 c2 f2
   obtain ⟨g1,off1,hg1,hX1,cur,te,hblk⟩:=Own.head g_1 gM_1
   obtain ⟨rfl,rfl⟩:g0=g1∧off=off1:=by simpa using hg1
   clear hX1 hg1
   obtain ⟨u3,Y3,c3',f3',o3,-,-,-⟩:=Own.slotAt g_1 gM_1 (j:=3) rfl
   have c3:w1.cell? ⟨g0,off+k * 5+3,none⟩=some u3:=c3'
   have f3:w1.frozen? ⟨g0,off+k * 5+3,none⟩=false:=f3'
   obtain ⟨s3,t3,rfl⟩:=o3.form
   clear c3' f3' o3
   obtain ⟨u',Y',c',-,o',ys',-,kd⟩:=Own.slotAt g_1 gM_1 (j:=3) rfl
   obtain rfl:u' = .slice s3 x3.length t3:=Option.some.inj ((show w1.cell? ⟨g0,off+k * 5+3,none⟩=some u' from (c')).symm.trans c3)
   have HX2:=(show Hid (_∧_∧_∧_) from ⟨o',ys',kd,gk_1⟩)
   clear c' o' ys' kd hblk  g_1 gk_1 gM_1
   go_wp2_with fail
   refine (markFrameS_dt _ x3 Y' _ _ q3 HX2.out.1 (by omega) (by omega)).mono ?_
   rintro e w2 ⟨rfl,o1,kb1⟩
   have g_2:Own w2 (.slice (some ⟨g0,off,none⟩) xs.length cap) (.row (M.set k [.int (K),.int (K+1),.row (Dt.mkS x2 (K+1+1)),.row (Dt.mkS x3 (K+1+1+(Dt.cS x2:Int))),.str b4])) X:=by have:=HX2.out.2.2.1 w2 (.row (Dt.mkS x3 (K+1+1+(Dt.cS x2:Int)))) kb1 o1; rw [List.set_set] at this; exact this
   have gM_2:(M.set k [.int (K),.int (K+1),.row (Dt.mkS x2 (K+1+1)),.row (Dt.mkS x3 (K+1+1+(Dt.cS x2:Int))),.str b4])[k]? = some [.int (K),.int (K+1),.row (Dt.mkS x2 (K+1+1)),.row (Dt.mkS x3 (K+1+1+(Dt.cS x2:Int))),.str b4]:=List.getElem?_set_self hkM
   have gk_2:KB X w w2:=HX2.out.2.2.2.trans (kb1.more (fun b _ hy=>(HX2.out.2.1 b hy).1))
   clear o1 kb1 HX2 c3 f3
   obtain ⟨g2,off2,hg2,hX2,cur,te,hblk⟩:=Own.head g_2 gM_2
   obtain ⟨rfl,rfl⟩:g0=g2∧off=off2:=by simpa using hg2
   clear hX2 hg2
   have HX3:=(show Hid (_∧_) from ⟨g_2,gk_2⟩)
   clear hblk  g_2 gk_2 gM_2
   go_wp2_with fail
   refine (markText_any _ _ (by omega)).mono ?_
   rintro e w3 ⟨rfl,b1⟩
   have g_3:=HX3.out.1.up b1
   have gM_3:(M.set k [.int (K),.int (K+1),.row (Dt.mkS x2 (K+1+1)),.row (Dt.mkS x3 (K+1+1+(Dt.cS x2:Int))),.str b4])[k]? = some [.int (K),.int (K+1),.row (Dt.mkS x2 (K+1+1)),.row (Dt.mkS x3 (K+1+1+(Dt.cS x2:Int))),.str b4]:=List.getElem?_set_self hkM
   have gk_3:KB X w w3:=HX3.out.2.trans (KB.of_below b1)
   clear b1 HX3
   obtain ⟨g3,off3,hg3,hX3,cur,te,hblk⟩:=Own.head g_3 gM_3
   obtain ⟨rfl,rfl⟩:g0=g3∧off=off3:=by simpa using hg3
   clear hX3 hg3
   obtain ⟨u4,Y4,c4',f4',o4,-,-,-⟩:=Own.slotAt g_3 gM_3 (j:=4) rfl
   have c4:w3.cell? ⟨g0,off+k * 5+4,none⟩=some u4:=c4'
   have f4:w3.frozen? ⟨g0,off+k * 5+4,none⟩=false:=f4'
   clear c4' f4' o4
   obtain ⟨_,_,-,-,-,-,pt,-⟩:=Own.slotAt g_3 gM_3 (j:=4) rfl
   have h3:Own (w3.setCell ⟨g0,off+k * 5+4,none⟩ (.string (markT (K+1+1+(Dt.cS x2:Int)+(Dt.cS x3:Int))))) (.slice (some ⟨g0,off,none⟩) xs.length cap) (.row (M.set k [.int (K),.int (K+1),.row (Dt.mkS x2 (K+1+1)),.row (Dt.mkS x3 (K+1+1+(Dt.cS x2:Int))),.str (markT (K+1+1+(Dt.cS x2:Int)+(Dt.cS x3:Int)))])) X:=by have:=pt (.string (markT (K+1+1+(Dt.cS x2:Int)+(Dt.cS x3:Int)))) (.str (markT (K+1+1+(Dt.cS x2:Int)+(Dt.cS x3:Int)))) (fun _ => .str _ (markT_len _ (by omega)) _); rw [List.set_set] at this; exact this
   have hM3:(M.set k [.int (K),.int (K+1),.row (Dt.mkS x2 (K+1+1)),.row (Dt.mkS x3 (K+1+1+(Dt.cS x2:Int))),.str (markT (K+1+1+(Dt.cS x2:Int)+(Dt.cS x3:Int)))])[k]? = some [.int (K),.int (K+1),.row (Dt.mkS x2 (K+1+1)),.row (Dt.mkS x3 (K+1+1+(Dt.cS x2:Int))),.str (markT (K+1+1+(Dt.cS x2:Int)+(Dt.cS x3:Int)))]:=List.getElem?_set_self hkM
   have kb3:KB X w (w3.setCell ⟨g0,off+k * 5+4,none⟩ (.string (markT (K+1+1+(Dt.cS x2:Int)+(Dt.cS x3:Int))))):=gk_3.setCell (p:=⟨g0,off+k * 5+4,none⟩) hXg _
   have HX4:=(show Hid (_∧_) from ⟨hfin _ h3,kb3⟩)
   clear hfin hblk pt h3 hM3 kb3 g_3 gk_3 gM_3
   go_wp2
   refine ⟨⟨k+1,by omega,by go_num,int_val (by have:=HK.out; omega),HX4.out.1,HX4.out.2⟩,by simp [intOf]; omega⟩
  ·obtain rfl:k=xs.length:=by omega
   have HF:=(show Hid (_∧_) from ⟨HO.out,HKB.out⟩)
   clear HO HKB HC
   go_wp2
   go_ret
   exact ⟨rfl,by rw [← mids_all]; exact HF.out.1,HF.out.2⟩
theorem markMsgS_dt:MkSl 64 MsgR:=by
 intro v xs X w k0 hP h h0 hb
 rw [cntS_eq] at hb ⊢
 have hL:=preC_le xs
 have hl:=h.at.len
 unfold maxLen at hl
 obtain ⟨a,cap,rfl⟩:=h.form
 have HC:Hid (AllR MsgR xs):=hP
 have HO:Hid (Own w (.slice a xs.length cap) (.row (mids xs k0 0)) X):=h
 clear h hP
 go_enter Tryz.func64,Tryz.ntmps64
 go_wp2
 go_loopw [1,5] (fun kv i wr=>∃ j:Nat,j≤xs.length∧i = .int .i64 j∧kv = .int .i64 (k0+(preC xs j:Int))∧Hid (Own wr (.slice a xs.length cap) (.row (mids xs k0 j)) X)∧Hid (KB X w wr)) (fun _ i _=>xs.length - (intOf i).toNat)
 case atStart=>exact ⟨0,Nat.zero_le _,rfl,by simp [preC],HO,KB.refl _ _⟩
 case round =>
  clear HO
  obtain ⟨k,hk,rfl,rfl,HO,HKB⟩:=hrel
  by_cases hkl:k<xs.length
  ·have he:=List.getElem?_eq_getElem hkl
   have hps:=preC_succ he
   have hpk:=hL (k+1)
   generalize xs[k]=r at *
   obtain ⟨z0,z1,z2,z3,z4,z5,z6,z7,x8,rfl,q8⟩:=HC.out k r he
   have hsh:=mids_succ k0 he
   have hM:=(mids_later xs k0 k k (Nat.le_refl _)).trans he
   have hkM:k<(mids xs k0 k).length:=by rw [mids_len]; exact hkl
   rw [show Dt.cntR [.int z0,.int z1,.int z2,.int z3,.int z4,.int z5,.int z6,.int z7,.row x8]=1+1+1+1+1+1+1+1+Dt.cS x8 from by simp [Dt.cntR,Dt.cnt]; try omega] at hps
   obtain ⟨K,hK⟩:∃ K:Int,K=k0+(preC xs k:Int):=⟨_,rfl⟩
   rw [← hK] at hsh ⊢
   have hKb:0≤K∧K+((1+1+1+1+1+1+1+1+Dt.cS x8:Nat):Int)≤100000000:=by omega
   have hO:=HO.out
   have hKB:=HKB.out
   obtain ⟨M,hMe⟩:∃ M,M=mids xs k0 k:=⟨_,rfl⟩
   rw [← hMe] at hsh hM hO hkM
   have hfin:∀ W:World,Own W (.slice a xs.length cap) (.row (M.set k [.int (K),.int (K+1),.int (K+1+1),.int (K+1+1+1),.int (K+1+1+1+1),.int (K+1+1+1+1+1),.int (K+1+1+1+1+1+1),.int (K+1+1+1+1+1+1+1),.row (Dt.mkS x8 (K+1+1+1+1+1+1+1+1))])) X→Own W (.slice a xs.length cap) (.row (mids xs k0 (k+1))) X:=fun W hW=>by rw [hsh]; exact hW
   have HK:Hid (K=k0+(preC xs k:Int)):=hK
   have hlt':((k:Nat):Int)<((xs.length:Nat):Int):=by omega
   clear HO HKB hK hMe hsh HC he
   obtain ⟨g0,off,hg0,hX0,cur,te,hblk⟩:=Own.head hO hM
   obtain rfl:=hg0
   have hXg:=hX0
   clear hX0
   obtain ⟨u0,Y0,c0',f0',o0,-,-,-⟩:=Own.slotAt hO hM (j:=0) rfl
   have c0:wr.cell? ⟨g0,off+k * 9,none⟩=some u0:=c0'
   have f0:wr.frozen? ⟨g0,off+k * 9,none⟩=false:=f0'
   clear c0' f0' o0
   obtain ⟨u1,Y1,c1',f1',o1,-,-,-⟩:=Own.slotAt hO hM (j:=1) rfl
   have c1:wr.cell? ⟨g0,off+k * 9+1,none⟩=some u1:=c1'
   have f1:wr.frozen? ⟨g0,off+k * 9+1,none⟩=false:=f1'
   clear c1' f1' o1
   obtain ⟨u2,Y2,c2',f2',o2,-,-,-⟩:=Own.slotAt hO hM (j:=2) rfl
   have c2:wr.cell? ⟨g0,off+k * 9+2,none⟩=some u2:=c2'
   have f2:wr.frozen? ⟨g0,off+k * 9+2,none⟩=false:=f2'
   clear c2' f2' o2
   obtain ⟨u3,Y3,c3',f3',o3,-,-,-⟩:=Own.slotAt hO hM (j:=3) rfl
   have c3:wr.cell? ⟨g0,off+k * 9+3,none⟩=some u3:=c3'
   have f3:wr.frozen? ⟨g0,off+k * 9+3,none⟩=false:=f3'
   clear c3' f3' o3
   obtain ⟨u4,Y4,c4',f4',o4,-,-,-⟩:=Own.slotAt hO hM (j:=4) rfl
   have c4:wr.cell? ⟨g0,off+k * 9+4,none⟩=some u4:=c4'
   have f4:wr.frozen? ⟨g0,off+k * 9+4,none⟩=false:=f4'
   clear c4' f4' o4
   obtain ⟨u5,Y5,c5',f5',o5,-,-,-⟩:=Own.slotAt hO hM (j:=5) rfl
   have c5:wr.cell? ⟨g0,off+k * 9+5,none⟩=some u5:=c5'
   have f5:wr.frozen? ⟨g0,off+k * 9+5,none⟩=false:=f5'
   clear c5' f5' o5
   obtain ⟨u6,Y6,c6',f6',o6,-,-,-⟩:=Own.slotAt hO hM (j:=6) rfl
   have c6:wr.cell? ⟨g0,off+k * 9+6,none⟩=some u6:=c6'
   have f6:wr.frozen? ⟨g0,off+k * 9+6,none⟩=false:=f6'
   clear c6' f6' o6
   obtain ⟨u7,Y7,c7',f7',o7,-,-,-⟩:=Own.slotAt hO hM (j:=7) rfl
   have c7:wr.cell? ⟨g0,off+k * 9+7,none⟩=some u7:=c7'
   have f7:wr.frozen? ⟨g0,off+k * 9+7,none⟩=false:=f7'
   clear c7' f7' o7
   obtain ⟨u8,Y8,c8',f8',o8,-,-,-⟩:=Own.slotAt hO hM (j:=8) rfl
   have c8:wr.cell? ⟨g0,off+k * 9+8,none⟩=some u8:=c8'
   have f8:wr.frozen? ⟨g0,off+k * 9+8,none⟩=false:=f8'
   obtain ⟨s8,t8,rfl⟩:=o8.form
   clear c8' f8' o8
   obtain ⟨_,_,-,-,-,-,pt,-⟩:=Own.slotAt hO hM (j:=0) rfl
   have h1:Own (wr.setCell ⟨g0,off+k * 9,none⟩ (.int .i64 (K))) (.slice (some ⟨g0,off,none⟩) xs.length cap) (.row (M.set k [.int (K),.int z1,.int z2,.int z3,.int z4,.int z5,.int z6,.int z7,.row x8])) X:=by have:=pt (.int .i64 (K)) (.int (K)) (fun _ => .int _ ⟨by omega,by omega⟩ _); exact this
   have hM1:(M.set k [.int (K),.int z1,.int z2,.int z3,.int z4,.int z5,.int z6,.int z7,.row x8])[k]? = some [.int (K),.int z1,.int z2,.int z3,.int z4,.int z5,.int z6,.int z7,.row x8]:=List.getElem?_set_self hkM
   have kb1:KB X w (wr.setCell ⟨g0,off+k * 9,none⟩ (.int .i64 (K))):=hKB.setCell (p:=⟨g0,off+k * 9,none⟩) hXg _
   obtain ⟨_,_,-,-,-,-,pt,-⟩:=Own.slotAt h1 hM1 (j:=1) rfl
   have h2:Own ((wr.setCell ⟨g0,off+k * 9,none⟩ (.int .i64 (K))).setCell ⟨g0,off+k * 9+1,none⟩ (.int .i64 (K+1))) (.slice (some ⟨g0,off,none⟩) xs.length cap) (.row (M.set k [.int (K),.int (K+1),.int z2,.int z3,.int z4,.int z5,.int z6,.int z7,.row x8])) X:=by have:=pt (.int .i64 (K+1)) (.int (K+1)) (fun _ => .int _ ⟨by omega,by omega⟩ _); rw [List.set_set] at this; exact this
   have hM2:(M.set k [.int (K),.int (K+1),.int z2,.int z3,.int z4,.int z5,.int z6,.int z7,.row x8])[k]? = some [.int (K),.int (K+1),.int z2,.int z3,.int z4,.int z5,.int z6,.int z7,.row x8]:=List.getElem?_set_self hkM
   have kb2:KB X w ((wr.setCell ⟨g0,off+k * 9,none⟩ (.int .i64 (K))).setCell ⟨g0,off+k * 9+1,none⟩ (.int .i64 (K+1))):=kb1.setCell (p:=⟨g0,off+k * 9+1,none⟩) hXg _
   obtain ⟨_,_,-,-,-,-,pt,-⟩:=Own.slotAt h2 hM2 (j:=2) rfl
   have h3:Own (((wr.setCell ⟨g0,off+k * 9,none⟩ (.int .i64 (K))).setCell ⟨g0,off+k * 9+1,none⟩ (.int .i64 (K+1))).setCell ⟨g0,off+k * 9+2,none⟩ (.int .i64 (K+1+1))) (.slice (some ⟨g0,off,none⟩) xs.length cap) (.row (M.set k [.int (K),.int (K+1),.int (K+1+1),.int z3,.int z4,.int z5,.int z6,.int z7,.row x8])) X:=by have:=pt (.int .i64 (K+1+1)) (.int (K+1+1)) (fun _ => .int _ ⟨by omega,by omega⟩ _); rw [List.set_set] at this; exact this
   have hM3:(M.set k [.int (K),.int (K+1),.int (K+1+1),.int z3,.int z4,.int z5,.int z6,.int z7,.row x8])[k]? = some [.int (K),.int (K+1),.int (K+1+1),.int z3,.int z4,.int z5,.int z6,.int z7,.row x8]:=List.getElem?_set_self hkM
   have kb3:KB X w (((wr.setCell ⟨g0,off+k * 9,none⟩ (.int .i64 (K))).setCell ⟨g0,off+k * 9+1,none⟩ (.int .i64 (K+1))).setCell ⟨g0,off+k * 9+2,none⟩ (.int .i64 (K+1+1))):=kb2.setCell (p:=⟨g0,off+k * 9+2,none⟩) hXg _
   obtain ⟨_,_,-,-,-,-,pt,-⟩:=Own.slotAt h3 hM3 (j:=3) rfl
   have h4:Own ((((wr.setCell ⟨g0,off+k * 9,none⟩ (.int .i64 (K))).setCell ⟨g0,off+k * 9+1,none⟩ (.int .i64 (K+1))).setCell ⟨g0,off+k * 9+2,none⟩ (.int .i64 (K+1+1))).setCell ⟨g0,off+k * 9+3,none⟩ (.int .i64 (K+1+1+1))) (.slice (some ⟨g0,off,none⟩) xs.length cap) (.row (M.set k [.int (K),.int (K+1),.int (K+1+1),.int (K+1+1+1),.int z4,.int z5,.int z6,.int z7,.row x8])) X:=by have:=pt (.int .i64 (K+1+1+1)) (.int (K+1+1+1)) (fun _ => .int _ ⟨by omega,by omega⟩ _); rw [List.set_set] at this; exact this
   have hM4:(M.set k [.int (K),.int (K+1),.int (K+1+1),.int (K+1+1+1),.int z4,.int z5,.int z6,.int z7,.row x8])[k]? = some [.int (K),.int (K+1),.int (K+1+1),.int (K+1+1+1),.int z4,.int z5,.int z6,.int z7,.row x8]:=List.getElem?_set_self hkM
   have kb4:KB X w ((((wr.setCell ⟨g0,off+k * 9,none⟩ (.int .i64 (K))).setCell ⟨g0,off+k * 9+1,none⟩ (.int .i64 (K+1))).setCell ⟨g0,off+k * 9+2,none⟩ (.int .i64 (K+1+1))).setCell ⟨g0,off+k * 9+3,none⟩ (.int .i64 (K+1+1+1))):=kb3.setCell (p:=⟨g0,off+k * 9+3,none⟩) hXg _
   obtain ⟨_,_,-,-,-,-,pt,-⟩:=Own.slotAt h4 hM4 (j:=4) rfl
   have h5:Own (((((wr.setCell ⟨g0,off+k * 9,none⟩ (.int .i64 (K))).setCell ⟨g0,off+k * 9+1,none⟩ (.int .i64 (K+1))).setCell ⟨g0,off+k * 9+2,none⟩ (.int .i64 (K+1+1))).setCell ⟨g0,off+k * 9+3,none⟩ (.int .i64 (K+1+1+1))).setCell ⟨g0,off+k * 9+4,none⟩ (.int .i64 (K+1+1+1+1))) (.slice (some ⟨g0,off,none⟩) xs.length cap) (.row (M.set k [.int (K),.int (K+1),.int (K+1+1),.int (K+1+1+1),.int (K+1+1+1+1),.int z5,.int z6,.int z7,.row x8])) X:=by have:=pt (.int .i64 (K+1+1+1+1)) (.int (K+1+1+1+1)) (fun _ => .int _ ⟨by omega,by omega⟩ _); rw [List.set_set] at this; exact this
   have hM5:(M.set k [.int (K),.int (K+1),.int (K+1+1),.int (K+1+1+1),.int (K+1+1+1+1),.int z5,.int z6,.int z7,.row x8])[k]? = some [.int (K),.int (K+1),.int (K+1+1),.int (K+1+1+1),.int (K+1+1+1+1),.int z5,.int z6,.int z7,.row x8]:=List.getElem?_set_self hkM
   have kb5:KB X w (((((wr.setCell ⟨g0,off+k * 9,none⟩ (.int .i64 (K))).setCell ⟨g0,off+k * 9+1,none⟩ (.int .i64 (K+1))).setCell ⟨g0,off+k * 9+2,none⟩ (.int .i64 (K+1+1))).setCell ⟨g0,off+k * 9+3,none⟩ (.int .i64 (K+1+1+1))).setCell ⟨g0,off+k * 9+4,none⟩ (.int .i64 (K+1+1+1+1))):=kb4.setCell (p:=⟨g0,off+k * 9+4,none⟩) hXg _
   obtain ⟨_,_,-,-,-,-,pt,-⟩:=Own.slotAt h5 hM5 (j:=5) rfl
   have h6:Own ((((((wr.setCell ⟨g0,off+k * 9,none⟩ (.int .i64 (K))).setCell ⟨g0,off+k * 9+1,none⟩ (.int .i64 (K+1))).setCell ⟨g0,off+k * 9+2,none⟩ (.int .i64 (K+1+1))).setCell ⟨g0,off+k * 9+3,none⟩ (.int .i64 (K+1+1+1))).setCell ⟨g0,off+k * 9+4,none⟩ (.int .i64 (K+1+1+1+1))).setCell ⟨g0,off+k * 9+5,none⟩ (.int .i64 (K+1+1+1+1+1))) (.slice (some ⟨g0,off,none⟩) xs.length cap) (.row (M.set k [.int (K),.int (K+1),.int (K+1+1),.int (K+1+1+1),.int (K+1+1+1+1),.int (K+1+1+1+1+1),.int z6,.int z7,.row x8])) X:=by have:=pt (.int .i64 (K+1+1+1+1+1)) (.int (K+1+1+1+1+1)) (fun _ => .int _ ⟨by omega,by omega⟩ _); rw [List.set_set] at this; exact this
   have hM6:(M.set k [.int (K),.int (K+1),.int (K+1+1),.int (K+1+1+1),.int (K+1+1+1+1),.int (K+1+1+1+1+1),.int z6,.int z7,.row x8])[k]? = some [.int (K),.int (K+1),.int (K+1+1),.int (K+1+1+1),.int (K+1+1+1+1),.int (K+1+1+1+1+1),.int z6,.int z7,.row x8]:=List.getElem?_set_self hkM
   have kb6:KB X w ((((((wr.setCell ⟨g0,off+k * 9,none⟩ (.int .i64 (K))).setCell ⟨g0,off+k * 9+1,none⟩ (.int .i64 (K+1))).setCell ⟨g0,off+k * 9+2,none⟩ (.int .i64 (K+1+1))).setCell ⟨g0,off+k * 9+3,none⟩ (.int .i64 (K+1+1+1))).setCell ⟨g0,off+k * 9+4,none⟩ (.int .i64 (K+1+1+1+1))).setCell ⟨g0,off+k * 9+5,none⟩ (.int .i64 (K+1+1+1+1+1))):=kb5.setCell (p:=⟨g0,off+k * 9+5,none⟩) hXg _
   obtain ⟨_,_,-,-,-,-,pt,-⟩:=Own.slotAt h6 hM6 (j:=6) rfl
   have h7:Own (((((((wr.setCell ⟨g0,off+k * 9,none⟩ (.int .i64 (K))).setCell ⟨g0,off+k * 9+1,none⟩ (.int .i64 (K+1))).setCell ⟨g0,off+k * 9+2,none⟩ (.int .i64 (K+1+1))).setCell ⟨g0,off+k * 9+3,none⟩ (.int .i64 (K+1+1+1))).setCell ⟨g0,off+k * 9+4,none⟩ (.int .i64 (K+1+1+1+1))).setCell ⟨g0,off+k * 9+5,none⟩ (.int .i64 (K+1+1+1+1+1))).setCell ⟨g0,off+k * 9+6,none⟩ (.int .i64 (K+1+1+1+1+1+1))) (.slice (some ⟨g0,off,none⟩) xs.length cap) (.row (M.set k [.int (K),.int (K+1),.int (K+1+1),.int (K+1+1+1),.int (K+1+1+1+1),.int (K+1+1+1+1+1),.int (K+1+1+1+1+1+1),.int z7,.row x8])) X:=by have:=pt (.int .i64 (K+1+1+1+1+1+1)) (.int (K+1+1+1+1+1+1)) (fun _ => .int _ ⟨by omega,by omega⟩ _); rw [List.set_set] at this; exact this
   have hM7:(M.set k [.int (K),.int (K+1),.int (K+1+1),.int (K+1+1+1),.int (K+1+1+1+1),.int (K+1+1+1+1+1),.int (K+1+1+1+1+1+1),.int z7,.row x8])[k]? = some [.int (K),.int (K+1),.int (K+1+1),.int (K+1+1+1),.int (K+1+1+1+1),.int (K+1+1+1+1+1),.int (K+1+1+1+1+1+1),.int z7,.row x8]:=List.getElem?_set_self hkM
   have kb7:KB X w (((((((wr.setCell ⟨g0,off+k * 9,none⟩ (.int .i64 (K))).setCell ⟨g0,off+k * 9+1,none⟩ (.int .i64 (K+1))).setCell ⟨g0,off+k * 9+2,none⟩ (.int .i64 (K+1+1))).setCell ⟨g0,off+k * 9+3,none⟩ (.int .i64 (K+1+1+1))).setCell ⟨g0,off+k * 9+4,none⟩ (.int .i64 (K+1+1+1+1))).setCell ⟨g0,off+k * 9+5,none⟩ (.int .i64 (K+1+1+1+1+1))).setCell ⟨g0,off+k * 9+6,none⟩ (.int .i64 (K+1+1+1+1+1+1))):=kb6.setCell (p:=⟨g0,off+k * 9+6,none⟩) hXg _
   obtain ⟨_,_,-,-,-,-,pt,-⟩:=Own.slotAt h7 hM7 (j:=7) rfl
   have h8:Own ((((((((wr.setCell ⟨g0,off+k * 9,none⟩ (.int .i64 (K))).setCell ⟨g0,off+k * 9+1,none⟩ (.int .i64 (K+1))).setCell ⟨g0,off+k * 9+2,none⟩ (.int .i64 (K+1+1))).setCell ⟨g0,off+k * 9+3,none⟩ (.int .i64 (K+1+1+1))).setCell ⟨g0,off+k * 9+4,none⟩ (.int .i64 (K+1+1+1+1))).setCell ⟨g0,off+k * 9+5,none⟩ (.int .i64 (K+1+1+1+1+1))).setCell ⟨g0,off+k * 9+6,none⟩ (.int .i64 (K+1+1+1+1+1+1))).setCell ⟨g0,off+k * 9+7,none⟩ (.int .i64 (K+1+1+1+1+1+1+1))) (.slice (some ⟨g0,off,none⟩) xs.length cap) (.row (M.set k [.int (K),.int (K+1),.int (K+1+1),.int (K+1+1+1),.int (K+1+1+1+1),.int (K+1+1+1+1+1),.int (K+1+1+1+1+1+1),.int (K+1+1+1+1+1+1+1),.row x8])) X:=by have:=pt (.int .i64 (K+1+1+1+1+1+1+1)) (.int (K+1+1+1+1+1+1+1)) (fun _ => .int _ ⟨by omega,by omega⟩ _); rw [List.set_set] at this; exact this
   have hM8:(M.set k [.int (K),.int (K+1),.int (K+1+1),.int (K+1+1+1),.int (K+1+1+1+1),.int (K+1+1+1+1+1),.int (K+1+1+1+1+1+1),.int (K+1+1+1+1+1+1+1),.row x8])[k]? = some [.int (K),.int (K+1),.int (K+1+1),.int (K+1+1+1),.int (K+1+1+1+1),.int (K+1+1+1+1+1),.int (K+1+1+1+1+1+1),.int (K+1+1+1+1+1+1+1),.row x8]:=List.getElem?_set_self hkM
   have kb8:KB X w ((((((((wr.setCell ⟨g0,off+k * 9,none⟩ (.int .i64 (K))).setCell ⟨g0,off+k * 9+1,none⟩ (.int .i64 (K+1))).setCell ⟨g0,off+k * 9+2,none⟩ (.int .i64 (K+1+1))).setCell ⟨g0,off+k * 9+3,none⟩ (.int .i64 (K+1+1+1))).setCell ⟨g0,off+k * 9+4,none⟩ (.int .i64 (K+1+1+1+1))).setCell ⟨g0,off+k * 9+5,none⟩ (.int .i64 (K+1+1+1+1+1))).setCell ⟨g0,off+k * 9+6,none⟩ (.int .i64 (K+1+1+1+1+1+1))).setCell ⟨g0,off+k * 9+7,none⟩ (.int .i64 (K+1+1+1+1+1+1+1))):=kb7.setCell (p:=⟨g0,off+k * 9+7,none⟩) hXg _
   obtain ⟨u',Y',c',-,o',ys',-,kd⟩:=Own.slotAt h8 hM8 (j:=8) rfl
   obtain rfl:u' = .slice s8 x8.length t8:=by
    have e1:=c8
    rw [cell_of_block hblk] at e1
    have e2:((((((((wr.setCell ⟨g0,off+k * 9,none⟩ (.int .i64 (K))).setCell ⟨g0,off+k * 9+1,none⟩ (.int .i64 (K+1))).setCell ⟨g0,off+k * 9+2,none⟩ (.int .i64 (K+1+1))).setCell ⟨g0,off+k * 9+3,none⟩ (.int .i64 (K+1+1+1))).setCell ⟨g0,off+k * 9+4,none⟩ (.int .i64 (K+1+1+1+1))).setCell ⟨g0,off+k * 9+5,none⟩ (.int .i64 (K+1+1+1+1+1))).setCell ⟨g0,off+k * 9+6,none⟩ (.int .i64 (K+1+1+1+1+1+1))).setCell ⟨g0,off+k * 9+7,none⟩ (.int .i64 (K+1+1+1+1+1+1+1))).cell? ⟨g0,off+k * 9+8,none⟩=some u':=c'
    rw [cell_of_block (block_setCell (block_setCell (block_setCell (block_setCell (block_setCell (block_setCell (block_setCell (block_setCell hblk _) _) _) _) _) _) _) _),Array.getElem?_setIfInBounds_ne (by omega),Array.getElem?_setIfInBounds_ne (by omega),Array.getElem?_setIfInBounds_ne (by omega),Array.getElem?_setIfInBounds_ne (by omega),Array.getElem?_setIfInBounds_ne (by omega),Array.getElem?_setIfInBounds_ne (by omega),Array.getElem?_setIfInBounds_ne (by omega),Array.getElem?_setIfInBounds_ne (by omega),e1] at e2
    exact (Option.some.inj e2).symm
   have HX1:=(show Hid (_∧_∧_∧_) from ⟨o',ys',kd,kb8⟩)
   clear c' o' ys' kd hblk pt h1 hM1 kb1 h2 hM2 kb2 h3 hM3 kb3 h4 hM4 kb4 h5 hM5 kb5 h6 hM6 kb6 h7 hM7 kb7 h8 hM8 kb8 hO hKB
   go_wp2_with fail
   refine (markIntS_dt _ x8 Y' _ _ q8 HX1.out.1 (by omega) (by omega)).mono ?_
   rintro e w1 ⟨rfl,o1,kb1⟩
   have g_1:Own w1 (.slice (some ⟨g0,off,none⟩) xs.length cap) (.row (M.set k [.int (K),.int (K+1),.int (K+1+1),.int (K+1+1+1),.int (K+1+1+1+1),.int (K+1+1+1+1+1),.int (K+1+1+1+1+1+1),.int (K+1+1+1+1+1+1+1),.row (Dt.mkS x8 (K+1+1+1+1+1+1+1+1))])) X:=by have:=HX1.out.2.2.1 w1 (.row (Dt.mkS x8 (K+1+1+1+1+1+1+1+1))) kb1 o1; rw [List.set_set] at this; exact this
   have gM_1:(M.set k [.int (K),.int (K+1),.int (K+1+1),.int (K+1+1+1),.int (K+1+1+1+1),.int (K+1+1+1+1+1),.int (K+1+1+1+1+1+1),.int (K+1+1+1+1+1+1+1),.row (Dt.mkS x8 (K+1+1+1+1+1+1+1+1))])[k]? = some [.int (K),.int (K+1),.int (K+1+1),.int (K+1+1+1),.int (K+1+1+1+1),.int (K+1+1+1+1+1),.int (K+1+1+1+1+1+1),.int (K+1+1+1+1+1+1+1),.row (Dt.mkS x8 (K+1+1+1+1+1+1+1+1))]:=List.getElem?_set_self hkM
   have gk_1:KB X w w1:=HX1.out.2.2.2.trans (kb1.more (fun b _ hy=>(HX1.out.2.1 b hy).1))
   clear o1 kb1 HX1 c0 f0 c1 f1 c2 f2 c3 f3 c4 f4 c5 f5 c6 f6 c7 f7 c8 f8
   have HX:=(show Hid (_∧_) from ⟨hfin _ g_1,gk_1⟩)
   clear hfin g_1 gk_1 gM_1
   go_wp2
   refine ⟨⟨k+1,by omega,by go_num,int_val (by have:=HK.out; omega),HX.out.1,HX.out.2⟩,by simp [intOf]; omega⟩
  ·obtain rfl:k=xs.length:=by omega
   have HF:=(show Hid (_∧_) from ⟨HO.out,HKB.out⟩)
   clear HO HKB HC
   go_wp2
   go_ret
   exact ⟨rfl,by rw [← mids_all]; exact HF.out.1,HF.out.2⟩
theorem markStringS_dt:MkSl 11 StringR:=by
 intro v xs X w k0 hP h h0 hb
 rw [cntS_eq] at hb ⊢
 have hL:=preC_le xs
 have hl:=h.at.len
 unfold maxLen at hl
 obtain ⟨a,cap,rfl⟩:=h.form
 have HC:Hid (AllR StringR xs):=hP
 have HO:Hid (Own w (.slice a xs.length cap) (.row (mids xs k0 0)) X):=h
 clear h hP
 go_enter Tryz.func11,Tryz.ntmps11
 go_wp2
 go_loopw [1,5] (fun kv i wr=>∃ j:Nat,j≤xs.length∧i = .int .i64 j∧kv = .int .i64 (k0+(preC xs j:Int))∧Hid (Own wr (.slice a xs.length cap) (.row (mids xs k0 j)) X)∧Hid (KB X w wr)) (fun _ i _=>xs.length - (intOf i).toNat)
 case atStart=>exact ⟨0,Nat.zero_le _,rfl,by simp [preC],HO,KB.refl _ _⟩
 case round =>
  clear HO
  obtain ⟨k,hk,rfl,rfl,HO,HKB⟩:=hrel
  by_cases hkl:k<xs.length
  ·have he:=List.getElem?_eq_getElem hkl
   have hps:=preC_succ he
   have hpk:=hL (k+1)
   generalize xs[k]=r at *
   obtain ⟨b0,rfl⟩:=HC.out k r he
   have hsh:=mids_succ k0 he
   have hM:=(mids_later xs k0 k k (Nat.le_refl _)).trans he
   have hkM:k<(mids xs k0 k).length:=by rw [mids_len]; exact hkl
   rw [show Dt.cntR [.str b0]=1 from by simp [Dt.cntR,Dt.cnt]; try omega] at hps
   obtain ⟨K,hK⟩:∃ K:Int,K=k0+(preC xs k:Int):=⟨_,rfl⟩
   rw [← hK] at hsh ⊢
   have hKb:0≤K∧K+((1:Nat):Int)≤100000000:=by omega
   have hO:=HO.out
   have hKB:=HKB.out
   obtain ⟨M,hMe⟩:∃ M,M=mids xs k0 k:=⟨_,rfl⟩
   rw [← hMe] at hsh hM hO hkM
   have hfin:∀ W:World,Own W (.slice a xs.length cap) (.row (M.set k [.str (markT (K))])) X→Own W (.slice a xs.length cap) (.row (mids xs k0 (k+1))) X:=fun W hW=>by rw [hsh]; exact hW
   have HK:Hid (K=k0+(preC xs k:Int)):=hK
   have hlt':((k:Nat):Int)<((xs.length:Nat):Int):=by omega
   clear HO HKB hK hMe hsh HC he
   obtain ⟨g0,off,hg0,hX0,cur,te,hblk⟩:=Own.head hO hM
   obtain rfl:=hg0
   have hXg:=hX0
   clear hX0
   have HX1:=(show Hid (_∧_) from ⟨hO,hKB⟩)
   clear hblk  hO hKB
   go_wp2_with fail
   refine (markText_any _ _ (by omega)).mono ?_
   rintro e w1 ⟨rfl,b1⟩
   have g_1:=HX1.out.1.up b1
   have gM_1:(M)[k]? = some [.str b0]:=hM
   have gk_1:KB X w w1:=HX1.out.2.trans (KB.of_below b1)
   clear b1 HX1
   obtain ⟨g1,off1,hg1,hX1,cur,te,hblk⟩:=Own.head g_1 gM_1
   obtain ⟨rfl,rfl⟩:g0=g1∧off=off1:=by simpa using hg1
   clear hX1 hg1
   obtain ⟨u0,Y0,c0',f0',o0,-,-,-⟩:=Own.slotAt g_1 gM_1 (j:=0) rfl
   have c0:w1.cell? ⟨g0,off+k,none⟩=some u0:=by have:=c0'; simpa using this
   have f0:w1.frozen? ⟨g0,off+k,none⟩=false:=by have:=f0'; simpa using this
   clear c0' f0' o0
   obtain ⟨_,_,-,-,-,-,pt,-⟩:=Own.slotAt g_1 gM_1 (j:=0) rfl
   have h1:Own (w1.setCell ⟨g0,off+k,none⟩ (.string (markT (K)))) (.slice (some ⟨g0,off,none⟩) xs.length cap) (.row (M.set k [.str (markT (K))])) X:=by have:=pt (.string (markT (K))) (.str (markT (K))) (fun _ => .str _ (markT_len _ (by omega)) _); simpa using this
   have hM1:(M.set k [.str (markT (K))])[k]? = some [.str (markT (K))]:=List.getElem?_set_self hkM
   have kb1:KB X w (w1.setCell ⟨g0,off+k,none⟩ (.string (markT (K)))):=gk_1.setCell (p:=⟨g0,off+k,none⟩) hXg _
   have HX2:=(show Hid (_∧_) from ⟨hfin _ h1,kb1⟩)
   clear hfin hblk pt h1 hM1 kb1 g_1 gk_1 gM_1
   go_wp2
   refine ⟨⟨k+1,by omega,by go_num,int_val (by have:=HK.out; omega),HX2.out.1,HX2.out.2⟩,by simp [intOf]; omega⟩
  ·obtain rfl:k=xs.length:=by omega
   have HF:=(show Hid (_∧_) from ⟨HO.out,HKB.out⟩)
   clear HO HKB HC
   go_wp2
   go_ret
   exact ⟨rfl,by rw [← mids_all]; exact HF.out.1,HF.out.2⟩
end Go.Proofs.YtmmadoabejgffaaGreatDoor
