/-
  Proofs.
  Proofs.
  Proofs.
  Proofs.
-/
import Derived.Test.YtljdgmfcgkimoaaGreatDoorJ41
namespace Go.Proofs.YtljdgmfcgkimoaaGreatDoor
open Go.RowKit Go.Joins
set_option maxRecDepth 100000
set_option maxHeartbeats 3200000 in
theorem takeApart_any (P:List Ex) (bv:Value) (rb d b:Nat) (hE:EvI P bv rb d b) (S:Nat→Prop) (f:Nat) (e:Ex) (env:List Clo) (kb ko m:Nat) (sv:Value) (w:World)
  (hf:f≤b) (hr:RunI w rb bv f) (hs:SvI w S d rb bv P) (hx:ExP w S d rb kb ko e) (hv:ScAt w S d rb m sv env) (hg:Ok P e env) (hk:e.kind=9) :
  Calls Tryz.prog 58 #[.pointer (some ⟨rb,0,none⟩),.pointer (some ⟨kb,ko,none⟩),sv] w fun r w'=>∃ v,r = .returned v∧AftI P S d rb bv w w' v (onList (ev P b f (kidN e 0) env) (fun f'=>ev P b f' (kidN e 1) env) (fun h t f'=>ev P b f' (kidN e 2) (env ++ [h,t]))):=by
 have hrl:rb<w.heap.size:=lh hr
 have hsv:∃ a,sv = .pointer a:=by rcases hv.form with ⟨-,rfl⟩ | ⟨_,_,_,_,_,-,rfl,-⟩ <;> exact ⟨_,rfl⟩
 obtain ⟨sa,rfl⟩:=hsv
 have hln:env.length≤90:=hg.len
 obtain ⟨ka,kc,hSb,hlb,hcell,i1,i2,i3,hkd,hkr⟩:=hx
 obtain ⟨k0,k1,k2,hks⟩:∃ k0 k1 k2,e.kids=[k0,k1,k2]:=by obtain ⟨⟨deep,h⟩,-⟩:=hg; exact kids3 (by rw [kids_of h,hk]; rfl)
 have e0:kidN e 0=k0:=by unfold kidN; rw [hks]; rfl
 have e1:kidN e 1=k1:=by unfold kidN; rw [hks]; rfl
 have e2:kidN e 2=k2:=by unfold kidN; rw [hks]; rfl
 try rw [e0]
 try rw [e1]
 try rw [e2]
 have hkl:e.kids.length=3:=by rw [hks]; rfl
 rw [hks] at hkd
 obtain ⟨kb2,ko2,rfl⟩:=kid_row hkd (by simp)
 have xp0:ExP w S d rb kb2 (ko2+0 * 4) k0:=by obtain ⟨a,c,h1,h2,h3,h4⟩:=kid_at hkd (i:=0) (k:=k0) rfl; obtain ⟨j1,j2,j3,j4⟩:=h4.parts; exact ⟨a,c,h2.1,h3,h1,j1,j2,j3,j4,h2.2⟩
 simp only [Nat.zero_mul,Nat.add_zero] at xp0
 have xp1:ExP w S d rb kb2 (ko2+1 * 4) k1:=by obtain ⟨a,c,h1,h2,h3,h4⟩:=kid_at hkd (i:=1) (k:=k1) rfl; obtain ⟨j1,j2,j3,j4⟩:=h4.parts; exact ⟨a,c,h2.1,h3,h1,j1,j2,j3,j4,h2.2⟩
 simp only [Nat.one_mul] at xp1
 have xp2:ExP w S d rb kb2 (ko2+2 * 4) k2:=by obtain ⟨a,c,h1,h2,h3,h4⟩:=kid_at hkd (i:=2) (k:=k2) rfl; obtain ⟨j1,j2,j3,j4⟩:=h4.parts; exact ⟨a,c,h2.1,h3,h1,j1,j2,j3,j4,h2.2⟩
 simp only [Nat.reduceMul] at xp2
 have m1:Mv w w S S:=Mv.refl w S
 have kb1:KB (· = rb) w w:=KB.refl _ w
 have run1:RunI w rb bv f:=hr
 have s1:w.heap.size=w.heap.size:=rfl
 have hs1:SvI w S d rb _ P:=hs.move m1 (by rw [s1]; exact hs.new) hs.rb
 have hv1:=hv.move m1
 have cc:=hcell.move (m1.block kb hSb hlb)
 obtain ⟨p0,p1,p2,p3⟩:=cc
 rw [hk] at p0
 rw [hkl] at p3
 have xq0:=xp0.move m1
 have xq1:=xp1.move m1
 have xq2:=xp2.move m1
 have g0:Ok P k0 env:=hg.kid (i:=0) (by rw [hks]; rfl) (by unfold moreN; simp [hk])
 have g1:Ok P k1 env:=hg.kid (i:=1) (by rw [hks]; rfl) (by unfold moreN; simp [hk])
 have hcall:=hE S f k0 env kb2 ko2 m _ w hf run1 hs1 xq0 hv1 g0
 have t0:=asNilNil
 have t1:=asNilPair
 have t2:=asPairNil
 have t3:=asPairPair
 have t4:=asNumNil
 have t5:=asNumPair
 have t6:=asFunNil
 have t7:=asFunPair
 have t8:=asEndNil
 have t9:=asEndPair
 have tS:=fun (fn:Fn) (x y:Array Value) (a:Addr) (w:World)=>run_store Tryz.prog w a (.func fn x y) .plain rfl
 have hk1:∀ (w3:World) (f':Nat),f'≤f→RunI w3 rb bv f'→Mv w w3 S S→Calls Tryz.prog 31 #[.pointer (some ⟨rb,0,none⟩),.pointer (some ⟨kb2,ko2+4,none⟩),.pointer sa] w3 fun r w'=>∃ v,r = .returned v∧AftI P S d rb bv w3 w' v (ev P b f' k1 env):=fun w3 f' h1 h2 h3=>hE S f' k1 env kb2 (ko2+4) m _ w3 (Nat.le_trans h1 hf) h2 (hs1.move h3 (fun x hx=>hs1.new x (by have:=h3.size; omega)) hs1.rb) (xq1.move h3) (hv1.move h3) g1
 have HC1:=(show Hid _ from hk1)
 have gk2:∀ h t:Clo,h.good (P.length:Int)→t.good (P.length:Int)→Ok P k2 (env ++ [h,t]):=fun h t g1 g2=>hg.kidm (i:=2) (by rw [hks]; rfl) (by unfold moreN; simp [hk]) (by rw [goodL_iff]; intro c hc; simp at hc; rcases hc with rfl | rfl <;> assumption)
 have HK:=(show Hid (_∧_∧_∧_∧_) from ⟨hcall,hE,hf,gk2,kb1⟩)
 have HX:=(show Hid (_∧_∧_∧_) from ⟨hs1,hv1,xq2,hln⟩)
 clear gk2
 have HB:=(show Hid (_∧_∧_) from ⟨hSb,hlb,s1⟩)
 have hsl:=hs1.rb
 have HN:=(show Hid (_∧True) from ⟨hsl,trivial⟩)
 clear hsl
 clear hE hf hr hs hv hg hk hcell i1 i2 i3 hkd hkr hln kb1 run1 s1 hs1 hv1 m1 hSb hlb hks hkl e0 xp0 xq0 e1 xp1 xq1 e2 xp2 xq2 hcall g0 g1 hk1
 obtain ⟨RR,hRR⟩:∃ RR,(onList (ev P b f (k0) env) (fun f'=>ev P b f' (k1) env) (fun h t f'=>ev P b f' (k2) (env ++ [h,t])))=RR:=⟨_,rfl⟩
 rw [hRR]
 have HRR0:=(show Hid (_∧True) from ⟨hRR,trivial⟩)
 clear hRR
 go_enter Tryz.func58,Tryz.ntmps58
 go_wp2_with fail
 refine HK.out.1.mono ?_
 rintro r w3 ⟨v,rfl,haf⟩
 obtain ⟨R,hR⟩:∃ R,ev P b f k0 env=R:=⟨_,rfl⟩
 rw [hR] at haf
 obtain ⟨R,rf⟩:=R
 have hfu:=ev_less P b f k0 env
 rw [hR] at hfu
 have hm3:Mv w w3 S S:=Mv.kb haf.kb (fun x hx h=>HN.out.1 (hx ▸ h))
 have HM:=(show Hid (_∧_∧_) from ⟨hm3,(hfu:rf≤f),haf⟩)
 have q3:w3.cell? ⟨kb,ko+3,none⟩=some (.slice (some ⟨kb2,ko2,none⟩) 3 kc):=(World.cell?_of_block (hm3.block kb HB.out.1 HB.out.2.1)).trans p3
 have hlk3:kb<w3.heap.size:=Nat.lt_of_lt_of_le HB.out.2.1 hm3.size
 clear p0 p1 p2 p3 hm3 hfu
 have hRR:=HRR0.out.1
 rw [hR] at hRR
 have HRR:=(show Hid _ from hRR)
 clear hRR hR
 cases R with
 | err c =>
  obtain ⟨rfl,hc⟩:=haf.vr
  have HC:=(show Hid (_∧True) from ⟨hc,trivial⟩)
  clear haf hc hlk3
  unfold endV
  go_wp2_with fail
  refine (unfit_end c _).mono ?_
  rintro r w4 ⟨rfl,b4⟩
  have B4:=(show Hid _ from b4)
  clear b4
  go_wp2_with fail
  go_ret
  refine ⟨_,rfl,?_⟩
  rw [← HRR.out]
  obtain ⟨x,hx,-⟩:=HM.out.2.2.run
  exact ⟨HK.out.2.2.2.2.trans (HM.out.2.2.kb.trans (KB.of_below B4.out)),⟨rfl,HC.out.1⟩,⟨x,(B4.out.block rb (lh hx)).trans hx,fun h=>absurd h HC.out.1⟩⟩
 | ok xv =>
  cases xv with
  | nil =>
   obtain rfl:v = .iface 109 (.agg #[]):=haf.vr.1
   have hrun:=haf.runI rfl
   have hlr:=lh hrun
   obtain ⟨W4,hW4⟩:∃ W4,W4=w3.alloc (.cells #[] 109):=⟨_,rfl⟩
   have b4:Below w3.heap.size w3 W4:=by rw [hW4]; exact (Below.refl _ w3).alloc (Nat.le_refl _) _
   have q4:W4.cell? ⟨kb,ko+3,none⟩=some (.slice (some ⟨kb2,ko2,none⟩) 3 kc):=(b4.cell (p:=⟨kb,ko+3,none⟩) hlk3).trans q3
   have HF:=(show Hid (_∧_) from ⟨hrun.move (b4.block rb hlr),b4⟩)
   clear haf hrun b4 hlr q3 hlk3
   go_upto_region 6 with fail
   rw [← hW4]
   clear hW4
   go_wp2_with fail
   refine (HC1.out W4 rf HM.out.2.1 HF.out.1 (HM.out.1.trans (Mv.kb (KB.of_below (X:=fun _=>False) HF.out.2) (fun _ h=>h.elim)))).mono ?_
   rintro r w9 ⟨v9,rfl,haf9⟩
   have HA:=(show Hid _ from haf9)
   clear haf9
   go_wp2_with fail
   go_ret
   refine ⟨_,rfl,?_⟩
   rw [← HRR.out]
   exact HA.out.sub (HK.out.2.2.2.2.trans (HM.out.2.2.kb.trans (KB.of_below HF.out.2))) (fun _ h=>h)
  | pair ch ct =>
   obtain ⟨⟨fh,ft,rfl,⟨ev1,m1',cap1,sc1⟩,⟨ev2,m2',cap2,sc2⟩,o1,o2⟩,gh,gt⟩:=haf.vr
   have hf1:∃ fn a c,fh = .func fn a c:=by obtain ⟨b0,b1,b2,kb,ko,h,-⟩:=cap1; exact ⟨_,_,_,h⟩
   have hf2:∃ fn a c,ft = .func fn a c:=by obtain ⟨b0,b1,b2,kb,ko,h,-⟩:=cap2; exact ⟨_,_,_,h⟩
   obtain ⟨fn1,a1,c1,rfl⟩:=hf1
   obtain ⟨fn2,a2,c2,rfl⟩:=hf2
   have hrun:=haf.runI rfl
   have hlr:=lh hrun
   obtain ⟨W4,hW4⟩:∃ W4,W4=w3.alloc (.cells #[.func fn1 a1 c1,.func fn2 a2 c2] 116):=⟨_,rfl⟩
   have b4:Below w3.heap.size w3 W4:=by rw [hW4]; exact (Below.refl _ w3).alloc (Nat.le_refl _) _
   have n4:W4.heap[w3.heap.size]? = some (.cells #[.func fn1 a1 c1,.func fn2 a2 c2] 116):=by rw [hW4]; exact block_alloc
   have s4:W4.heap.size=w3.heap.size+1:=by rw [hW4]; simp
   have mD:Mv w3 W4.drew S S:=(Mv.kb (KB.of_below (X:=fun _=>False) b4) (fun _ h=>h.elim)).trans (Mv.drew _ _)
   have m0D:=HM.out.1.trans mD
   have keep:∀ W:World,KB (· = rb) W4 W→W.cell? ⟨w3.heap.size,0,none⟩=some (.func fn1 a1 c1)∧W.cell? ⟨w3.heap.size,1,none⟩=some (.func fn2 a2 c2)∧W.cell? ⟨kb,ko+3,none⟩=some (.slice (some ⟨kb2,ko2,none⟩) 3 kc):=fun W h=>by
    have c:=(h.block _ (lh n4) (by omega)).trans n4
    exact ⟨by rw [cell_of_block c]; rfl,by rw [cell_of_block c]; rfl,(World.cell?_of_block ((h.block kb (by omega) (fun e=>HN.out.1 (e ▸ HB.out.1))).trans (b4.block kb hlk3))).trans q3⟩
   have hwi1:=with_any S d rb m (.pointer sa) (.func fn1 a1 c1) env W4.drew (HX.out.2.1.move m0D) (by have:=HX.out.2.2.2; omega) (Or.inl ⟨_,_,_,rfl⟩)
   obtain ⟨W5,hW5⟩:∃ W5,W5=W4.drew.alloc (.cells #[.pointer sa,.int .i64 (env.length:Int),.func fn1 a1 c1] 159):=⟨_,rfl⟩
   rw [← hW5] at hwi1
   have hSn:∀ x,w3.heap.size≤x→S x:=fun x hx=>HX.out.1.new x (by have:=HM.out.1.size; omega)
   obtain ⟨M1,hM1⟩:=ScAt.put (c:=ch) hW5 (HX.out.2.1.move m0D) (hSn _ (by rw [drew_heap]; omega)) (cap1.move mD) o1 (by have:=sc1.move mD; unfold Clo.scope at this; rw [if_neg (by rw [o1]; simp)] at this; exact this)
   have s5:W5.heap.size=w3.heap.size+2:=by rw [hW5]; simp [s4]
   have m5:Mv W4.drew W5 S S:=by rw [hW5]; exact Mv.kb ((KB.refl (fun _=>False) _).alloc _) (fun _ h=>h.elim)
   have hwi2:=with_any S d rb M1 (.pointer (some ⟨W4.drew.heap.size,0,none⟩)) (.func fn2 a2 c2) (env ++ [ch]) W5 hM1 (by have:=HX.out.2.2.2; rw [List.length_append]; simp; omega) (Or.inl ⟨_,_,_,rfl⟩)
   obtain ⟨W6,hW6⟩:∃ W6,W6=W5.alloc (.cells #[.pointer (some ⟨W4.drew.heap.size,0,none⟩),.int .i64 ((env ++ [ch]).length:Int),.func fn2 a2 c2] 159):=⟨_,rfl⟩
   rw [← hW6] at hwi2
   obtain ⟨M2,hM2⟩:=ScAt.put (c:=ct) hW6 hM1 (hSn _ (by omega)) (cap2.move (mD.trans m5)) o2 (by have:=sc2.move (mD.trans m5); unfold Clo.scope at this; rw [if_neg (by rw [o2]; simp)] at this; exact this)
   have m6:Mv W5 W6 S S:=by rw [hW6]; exact Mv.kb ((KB.refl (fun _=>False) _).alloc _) (fun _ h=>h.elim)
   have m06:=m0D.trans (m5.trans m6)
   have b56:KB (fun _=>False) W4 W5:=by rw [hW5]; exact ((KB.refl _ _).drew).alloc _
   have b66:KB (fun _=>False) W4 W6:=b56.trans (by rw [hW6]; exact (KB.refl _ _).alloc _)
   have hcl:=HK.out.2.1 S rf k2 (env ++ [ch] ++ [ct]) kb2 (ko2+8) M2 _ W6 (Nat.le_trans HM.out.2.1 HK.out.2.2.1) (hrun.move ((b66.block rb (by omega) (fun h=>h)).trans (b4.block rb hlr))) (HX.out.1.move m06 (fun x hx=>HX.out.1.new x (by have:=m06.size; omega)) HX.out.1.rb) (HX.out.2.2.1.move m06) hM2 (by rw [List.append_assoc]; exact HK.out.2.2.2.1 ch ct gh gt)
   rw [show env ++ [ch] ++ [ct]=env ++ [ch,ct] by simp] at hcl
   have HQ:=(show Hid (_∧_∧_∧_∧_∧_) from ⟨keep,hwi1,hwi2,hcl,b56,b66⟩)
   have HKP:=(show Hid (_∧_∧_∧_) from ⟨keep W4.drew (KB.refl _ _).drew,keep W5 (b56.more (fun _ _ h=>h.elim)),keep W6 (b66.more (fun _ _ h=>h.elim)),fun (w9:World) (h:KB (· = rb) W6 w9)=>keep w9 ((b66.more (fun _ _ h=>h.elim)).trans h)⟩)
   have HF:=(show Hid (_∧_) from ⟨(HM.out.2.2.kb.trans (KB.of_below b4)).trans (b66.more (fun _ _ h=>h.elim)),trivial⟩)
   clear haf hrun hlr b4 n4 s4 mD m0D keep hwi1 hW5 hSn hM1 s5 m5 hwi2 hW6 hM2 m6 m06 b56 b66 hcl q3 hlk3 cap1 sc1 cap2 sc2 o1 o2 gh gt
   go_upto_region 9 with fail
   rw [← hW4]
   clear hW4
   go_region_held3 (fun W=>W.cell? ⟨w3.heap.size,0,none⟩=some (.func fn1 a1 c1)∧W.cell? ⟨w3.heap.size,1,none⟩=some (.func fn2 a2 c2)∧W.cell? ⟨kb,ko+3,none⟩=some (.slice (some ⟨kb2,ko2,none⟩) 3 kc)) (first | with_reducible exact HKP.out.1 | with_reducible exact HKP.out.2.1 | with_reducible exact HKP.out.2.2.1 | with_reducible exact HK9.out.1) (first
    | (go_at_call 86; have HZ:=HW5.out; refine HQ.out.2.2.1.mono ?_; rintro r W6 ⟨rfl,rfl⟩)
    | (go_at_call 86; refine HQ.out.2.1.mono ?_; rintro r W5 ⟨rfl,rfl⟩; have HW5:=(show Hid (True∧True) from ⟨trivial,trivial⟩))
    | (go_at_call 31; refine HQ.out.2.2.2.1.mono ?_; rintro r w9 ⟨v9,rfl,haf9⟩; have HK9:=(show Hid (_∧True) from ⟨HKP.out.2.2.2 w9 haf9.kb,trivial⟩); have HH:=(show Hid _ from haf9); clear haf9))
   all_goals
    go_wp2_with fail
    go_ret
    refine ⟨_,rfl,?_⟩
    rw [← HRR.out]
    exact HH.out.sub (HK.out.2.2.2.2.trans HF.out.1) (fun _ h=>h)
  | num n =>
   have hu:=fun W=>unfit_val (v:=v) W haf.vr.1
   obtain rfl:v = .iface 103 (.int .i64 n):=haf.vr.1
   have HU:=(show Hid (_∧True) from ⟨hu,trivial⟩)
   clear haf hlk3 hu
   go_wp2_with fail
   refine (HU.out.1 _).mono ?_
   unfold endV
   rintro r w4 ⟨rfl,b4⟩
   have B4:=(show Hid _ from b4)
   clear b4
   go_wp2_with fail
   go_ret
   refine ⟨_,rfl,?_⟩
   rw [← HRR.out]
   obtain ⟨x,hx,-⟩:=HM.out.2.2.run
   exact ⟨HK.out.2.2.2.2.trans (HM.out.2.2.kb.trans (KB.of_below B4.out)),⟨rfl,by decide⟩,⟨x,(B4.out.block rb (lh hx)).trans hx,fun h=>absurd (show (2:Int)=0 from h) (by decide)⟩⟩
  | fn l x en =>
   have hu:=fun W=>unfit_val (v:=v) W haf.vr.1
   obtain ⟨xb,xo,yv,my,rfl,-,hxs⟩:=haf.vr.1
   have hyv:∃ a,yv = .pointer a:=by rcases hxs.form with ⟨-,rfl⟩ | ⟨_,_,_,_,_,-,rfl,-⟩ <;> exact ⟨_,rfl⟩
   obtain ⟨yv,rfl⟩:=hyv
   clear hxs
   have HU:=(show Hid (_∧True) from ⟨hu,trivial⟩)
   clear haf hlk3 hu
   go_wp2_with fail
   refine (HU.out.1 _).mono ?_
   unfold endV
   rintro r w4 ⟨rfl,b4⟩
   have B4:=(show Hid _ from b4)
   clear b4
   go_wp2_with fail
   go_ret
   refine ⟨_,rfl,?_⟩
   rw [← HRR.out]
   obtain ⟨x,hx,-⟩:=HM.out.2.2.run
   exact ⟨HK.out.2.2.2.2.trans (HM.out.2.2.kb.trans (KB.of_below B4.out)),⟨rfl,by decide⟩,⟨x,(B4.out.block rb (lh hx)).trans hx,fun h=>absurd (show (2:Int)=0 from h) (by decide)⟩⟩
end Go.Proofs.YtljdgmfcgkimoaaGreatDoor

namespace Go.Proofs.YtljdgmfcgkimoaaGreatDoor
open Go.RowKit Go.Joins
set_option maxRecDepth 100000
set_option maxHeartbeats 3200000 in
theorem reckon9 (P:List Ex) (bv:Value) (rb d b:Nat) (hE:EvI P bv rb d b) (hB:b<1000000) (S:Nat→Prop) (f:Nat) (e:Ex) (env:List Clo) (kb ko m:Nat) (sv:Value) (w:World)
  (hf:f≤b) (hr:RunI w rb bv (f+1)) (hs:SvI w S d rb bv P) (hx:ExP w S d rb kb ko e) (hv:ScAt w S d rb m sv env) (hg:Ok P e env) (hk:e.kind=9) :
  Calls Tryz.prog 31 #[.pointer (some ⟨rb,0,none⟩),.pointer (some ⟨kb,ko,none⟩),sv] w fun r w'=>∃ v,r = .returned v∧AftI P S d rb bv w w' v (onList (ev P b f (kidN e 0) env) (fun f'=>ev P b f' (kidN e 1) env) (fun h t f'=>ev P b f' (kidN e 2) (env ++ [h,t]))):=by
 have hrl:rb<w.heap.size:=lh hr
 have hsv:∃ a,sv = .pointer a:=by rcases hv.form with ⟨-,rfl⟩ | ⟨_,_,_,_,_,-,rfl,-⟩ <;> exact ⟨_,rfl⟩
 obtain ⟨sa,rfl⟩:=hsv
 have hln:env.length≤90:=hg.len
 obtain ⟨ka,kc,hSb,hlb,hcell,i1,i2,i3,hkd,hkr⟩:=hx
 have hx00:ExP w S d rb kb ko e:=⟨ka,kc,hSb,hlb,hcell,i1,i2,i3,hkd,hkr⟩
 obtain ⟨z,hz⟩:∃ z:Int,z=((f+1:Nat):Int):=⟨_,rfl⟩
 obtain ⟨z1,hz1⟩:∃ z1:Int,z1=(f:Int):=⟨_,rfl⟩
 have hw:IntKind.i64.wrap (z + -1)=z1:=by rw [IntKind.wrap_i64]; omega
 have hq0:decide (z1<0)=false:=by simp; omega
 obtain ⟨W1,hW1⟩:∃ W1,W1=w.setCell ⟨rb,1,none⟩ (.int .i64 z1):=⟨_,rfl⟩
 have hadd:=add_any rb z z1 w (by rw [hz,cell_of_block hr]; rfl) (unfrozen_of_block hr 1) hw
 rw [← hW1] at hadd
 have m1:Mv w W1 S S:=by rw [hW1]; exact Mv.set w _ hs.rb
 have kb1:KB (· = rb) w W1:=by rw [hW1]; exact kb_set w rb 1 _
 have run1:RunI W1 rb bv f:=by
  rw [hW1,hz1]
  have:=block_setCell (i:=1) hr (.int .i64 (f:Int))
  exact this
 have s1:W1.heap.size=w.heap.size:=by rw [hW1]; simp
 have hs1:SvI W1 S d rb _ P:=hs.move m1 (by rw [s1]; exact hs.new) hs.rb
 have hv1:=hv.move m1
 have cc:=hcell.move (m1.block kb hSb hlb)
 obtain ⟨p0,p1,p2,p3⟩:=cc
 rw [hk] at p0
 have HADD:=(show Hid (_∧True) from ⟨hadd,trivial⟩)
 have hcall:=takeApart_any P bv rb d b hE S f e env kb ko m _ W1 hf run1 hs1 (hx00.move m1) hv1 hg hk
 have HK:=(show Hid (_∧_) from ⟨hcall,kb1⟩)
 clear hcall hx00
 clear hE hB hf hr hs hv hg hk hcell i1 i2 i3 hkd hkr hln kb1 run1 s1 hs1 hv1 m1 hSb hlb hz hz1 hw hW1 hadd
 go_enter Tryz.func31,Tryz.ntmps31
 go_wp2_with fail
 refine HADD.out.1.mono ?_
 rintro r W1 ⟨rfl,rfl⟩
 go_wp2_with fail
 refine HK.out.1.mono ?_
 rintro r w9 ⟨v9,rfl,haf⟩
 have HA:=(show Hid _ from haf)
 clear haf
 go_wp2_with fail
 go_ret
 exact ⟨_,rfl,HA.out.sub HK.out.2 (fun _ h=>h)⟩
end Go.Proofs.YtljdgmfcgkimoaaGreatDoor

namespace Go.Proofs.YtljdgmfcgkimoaaGreatDoor
open Go.RowKit Go.Joins
set_option maxRecDepth 100000
set_option maxHeartbeats 3200000 in
theorem operateOn_any (P:List Ex) (bv:Value) (rb d b:Nat) (hE:EvI P bv rb d b) (S:Nat→Prop) (f:Nat) (e:Ex) (env:List Clo) (kb ko m:Nat) (sv:Value) (w:World)
  (hf:f≤b) (hr:RunI w rb bv f) (hs:SvI w S d rb bv P) (hx:ExP w S d rb kb ko e) (hv:ScAt w S d rb m sv env) (hg:Ok P e env) (hk:e.kind=10) (n0:Int) :
  Calls Tryz.prog 87 #[.pointer (some ⟨rb,0,none⟩),.int .i64 n0,.pointer (some ⟨kb,ko,none⟩),sv] w fun r w'=>∃ v,r = .returned v∧AftI P S d rb bv w w' v (onNum (ev P b f (kidN e 1) env) fun y f'=>(.ok (.num (arith e.text n0 y)),f')):=by
 have hrl:rb<w.heap.size:=lh hr
 have hsv:∃ a,sv = .pointer a:=by rcases hv.form with ⟨-,rfl⟩ | ⟨_,_,_,_,_,-,rfl,-⟩ <;> exact ⟨_,rfl⟩
 obtain ⟨sa,rfl⟩:=hsv
 have hln:env.length≤90:=hg.len
 obtain ⟨ka,kc,hSb,hlb,hcell,i1,i2,i3,hkd,hkr⟩:=hx
 obtain ⟨k0,k1,hks⟩:∃ k0 k1,e.kids=[k0,k1]:=by obtain ⟨⟨deep,h⟩,-⟩:=hg; exact kids2 (by rw [kids_of h,hk]; rfl)
 have e0:kidN e 0=k0:=by unfold kidN; rw [hks]; rfl
 have e1:kidN e 1=k1:=by unfold kidN; rw [hks]; rfl
 try rw [e0]
 try rw [e1]
 have hkl:e.kids.length=2:=by rw [hks]; rfl
 rw [hks] at hkd
 obtain ⟨kb2,ko2,rfl⟩:=kid_row hkd (by simp)
 have xp0:ExP w S d rb kb2 (ko2+0 * 4) k0:=by obtain ⟨a,c,h1,h2,h3,h4⟩:=kid_at hkd (i:=0) (k:=k0) rfl; obtain ⟨j1,j2,j3,j4⟩:=h4.parts; exact ⟨a,c,h2.1,h3,h1,j1,j2,j3,j4,h2.2⟩
 simp only [Nat.zero_mul,Nat.add_zero] at xp0
 have xp1:ExP w S d rb kb2 (ko2+1 * 4) k1:=by obtain ⟨a,c,h1,h2,h3,h4⟩:=kid_at hkd (i:=1) (k:=k1) rfl; obtain ⟨j1,j2,j3,j4⟩:=h4.parts; exact ⟨a,c,h2.1,h3,h1,j1,j2,j3,j4,h2.2⟩
 simp only [Nat.one_mul] at xp1
 have m1:Mv w w S S:=Mv.refl w S
 have kb1:KB (· = rb) w w:=KB.refl _ w
 have run1:RunI w rb bv f:=hr
 have s1:w.heap.size=w.heap.size:=rfl
 have hs1:SvI w S d rb _ P:=hs.move m1 (by rw [s1]; exact hs.new) hs.rb
 have hv1:=hv.move m1
 have cc:=hcell.move (m1.block kb hSb hlb)
 obtain ⟨p0,p1,p2,p3⟩:=cc
 rw [hk] at p0
 rw [hkl] at p3
 have xq0:=xp0.move m1
 have xq1:=xp1.move m1
 have g1:Ok P k1 env:=hg.kid (i:=1) (by rw [hks]; rfl) (by unfold moreN; simp [hk])
 have hcall:=hE S f k1 env kb2 (ko2+4) m _ w hf run1 hs1 xq1 hv1 g1
 have t0:=asNumNum
 have t1:=asFunNum
 have t2:=asNilNum
 have t3:=asPairNum
 have t4:=asEndNum
 have HK:=(show Hid (_∧_∧_∧_∧_) from ⟨hcall,p2,trivial,trivial,kb1⟩)
 have HB:=(show Hid (_∧_∧_) from ⟨hSb,hlb,s1⟩)
 have hsl:=hs1.rb
 have HN:=(show Hid (_∧True) from ⟨hsl,trivial⟩)
 clear hsl
 clear hE hf hr hs hv hg hk hcell i1 i2 i3 hkd hkr hln kb1 run1 s1 hs1 hv1 m1 hSb hlb hks hkl e0 xp0 xq0 e1 xp1 xq1 hcall g1
 obtain ⟨RR,hRR⟩:∃ RR,(onNum (ev P b f (k1) env) fun y f'=>(Rs.ok (.num (arith e.text n0 y)),f'))=RR:=⟨_,rfl⟩
 rw [hRR]
 have HRR0:=(show Hid (_∧True) from ⟨hRR,trivial⟩)
 clear hRR
 go_enter Tryz.func87,Tryz.ntmps87
 go_wp2_with fail
 refine HK.out.1.mono ?_
 rintro r w3 ⟨v,rfl,haf⟩
 obtain ⟨R,hR⟩:∃ R,ev P b f k1 env=R:=⟨_,rfl⟩
 rw [hR] at haf
 obtain ⟨R,rf⟩:=R
 have hfu:=ev_less P b f k1 env
 rw [hR] at hfu
 have hm3:Mv w w3 S S:=Mv.kb haf.kb (fun x hx h=>HN.out.1 (hx ▸ h))
 have HM:=(show Hid (_∧_∧_) from ⟨hm3,(hfu:rf≤f),haf⟩)
 have q3:w3.cell? ⟨kb,ko+3,none⟩=some (.slice (some ⟨kb2,ko2,none⟩) 2 kc):=(World.cell?_of_block (hm3.block kb HB.out.1 HB.out.2.1)).trans p3
 have hlk3:kb<w3.heap.size:=Nat.lt_of_lt_of_le HB.out.2.1 hm3.size
 clear p0 p1 p2 p3 hm3 hfu
 have hRR:=HRR0.out.1
 rw [hR] at hRR
 have HRR:=(show Hid _ from hRR)
 clear hRR hR
 cases R with
 | err c =>
  obtain ⟨rfl,hc⟩:=haf.vr
  have HC:=(show Hid (_∧True) from ⟨hc,trivial⟩)
  clear haf hc hlk3
  unfold endV
  go_wp2_with fail
  refine (unfit_end c _).mono ?_
  rintro r w4 ⟨rfl,b4⟩
  have B4:=(show Hid _ from b4)
  clear b4
  go_wp2_with fail
  go_ret
  refine ⟨_,rfl,?_⟩
  rw [← HRR.out]
  obtain ⟨x,hx,-⟩:=HM.out.2.2.run
  exact ⟨HK.out.2.2.2.2.trans (HM.out.2.2.kb.trans (KB.of_below B4.out)),⟨rfl,HC.out.1⟩,⟨x,(B4.out.block rb (lh hx)).trans hx,fun h=>absurd h HC.out.1⟩⟩
 | ok xv =>
  cases xv with
  | num y =>
   obtain rfl:v = .iface 103 (.int .i64 y):=haf.vr.1
   have hrun:=haf.runI rfl
   have HF:=(show Hid (_∧True) from ⟨hrun,trivial⟩)
   have q2:w3.cell? ⟨kb,ko+2,none⟩=some (.string e.text):=(World.cell?_of_block (HM.out.1.block kb HB.out.1 HB.out.2.1)).trans HK.out.2.1
   clear haf hrun
   go_wp2_with fail
   refine (operation_any _ _ _ _).mono ?_
   rintro r w4 ⟨rfl,rfl⟩
   go_wp2_with fail
   go_ret
   refine ⟨_,rfl,?_⟩
   rw [← HRR.out]
   exact ⟨HK.out.2.2.2.2.trans HM.out.2.2.kb,⟨rfl,arith_in _ _ _⟩,⟨_,HF.out.1,fun _=>rfl⟩⟩
  | nil =>
   have hu:=fun W=>unfit_val (v:=v) W haf.vr.1
   obtain rfl:v = .iface 109 (.agg #[]):=haf.vr.1
   have HU:=(show Hid (_∧True) from ⟨hu,trivial⟩)
   clear haf hlk3 hu
   go_wp2_with fail
   refine (HU.out.1 _).mono ?_
   unfold endV
   rintro r w4 ⟨rfl,b4⟩
   have B4:=(show Hid _ from b4)
   clear b4
   go_wp2_with fail
   go_ret
   refine ⟨_,rfl,?_⟩
   rw [← HRR.out]
   obtain ⟨x,hx,-⟩:=HM.out.2.2.run
   exact ⟨HK.out.2.2.2.2.trans (HM.out.2.2.kb.trans (KB.of_below B4.out)),⟨rfl,by decide⟩,⟨x,(B4.out.block rb (lh hx)).trans hx,fun h=>absurd (show (2:Int)=0 from h) (by decide)⟩⟩
  | pair ch ct =>
   have hu:=fun W=>unfit_val (v:=v) W haf.vr.1
   obtain ⟨fh,ft,rfl,h1,h2,-⟩:=haf.vr.1
   obtain ⟨_,_,⟨_,_,_,_,_,rfl,-⟩,-⟩:=h1
   obtain ⟨_,_,⟨_,_,_,_,_,rfl,-⟩,-⟩:=h2
   have HU:=(show Hid (_∧True) from ⟨hu,trivial⟩)
   clear haf hlk3 hu
   go_wp2_with fail
   refine (HU.out.1 _).mono ?_
   unfold endV
   rintro r w4 ⟨rfl,b4⟩
   have B4:=(show Hid _ from b4)
   clear b4
   go_wp2_with fail
   go_ret
   refine ⟨_,rfl,?_⟩
   rw [← HRR.out]
   obtain ⟨x,hx,-⟩:=HM.out.2.2.run
   exact ⟨HK.out.2.2.2.2.trans (HM.out.2.2.kb.trans (KB.of_below B4.out)),⟨rfl,by decide⟩,⟨x,(B4.out.block rb (lh hx)).trans hx,fun h=>absurd (show (2:Int)=0 from h) (by decide)⟩⟩
  | fn l x en =>
   have hu:=fun W=>unfit_val (v:=v) W haf.vr.1
   obtain ⟨xb,xo,yv,my,rfl,-,hxs⟩:=haf.vr.1
   have hyv:∃ a,yv = .pointer a:=by rcases hxs.form with ⟨-,rfl⟩ | ⟨_,_,_,_,_,-,rfl,-⟩ <;> exact ⟨_,rfl⟩
   obtain ⟨yv,rfl⟩:=hyv
   clear hxs
   have HU:=(show Hid (_∧True) from ⟨hu,trivial⟩)
   clear haf hlk3 hu
   go_wp2_with fail
   refine (HU.out.1 _).mono ?_
   unfold endV
   rintro r w4 ⟨rfl,b4⟩
   have B4:=(show Hid _ from b4)
   clear b4
   go_wp2_with fail
   go_ret
   refine ⟨_,rfl,?_⟩
   rw [← HRR.out]
   obtain ⟨x,hx,-⟩:=HM.out.2.2.run
   exact ⟨HK.out.2.2.2.2.trans (HM.out.2.2.kb.trans (KB.of_below B4.out)),⟨rfl,by decide⟩,⟨x,(B4.out.block rb (lh hx)).trans hx,fun h=>absurd (show (2:Int)=0 from h) (by decide)⟩⟩
end Go.Proofs.YtljdgmfcgkimoaaGreatDoor

namespace Go.Proofs.YtljdgmfcgkimoaaGreatDoor
open Go.RowKit Go.Joins
set_option maxRecDepth 100000
set_option maxHeartbeats 3200000 in
theorem operate_any (P:List Ex) (bv:Value) (rb d b:Nat) (hE:EvI P bv rb d b) (S:Nat→Prop) (f:Nat) (e:Ex) (env:List Clo) (kb ko m:Nat) (sv:Value) (w:World)
  (hf:f≤b) (hr:RunI w rb bv f) (hs:SvI w S d rb bv P) (hx:ExP w S d rb kb ko e) (hv:ScAt w S d rb m sv env) (hg:Ok P e env) (hk:e.kind=10) :
  Calls Tryz.prog 59 #[.pointer (some ⟨rb,0,none⟩),.pointer (some ⟨kb,ko,none⟩),sv] w fun r w'=>∃ v,r = .returned v∧AftI P S d rb bv w w' v (onNum (ev P b f (kidN e 0) env) fun x f'=>onNum (ev P b f' (kidN e 1) env) fun y f''=>(.ok (.num (arith e.text x y)),f'')):=by
 have hrl:rb<w.heap.size:=lh hr
 have hsv:∃ a,sv = .pointer a:=by rcases hv.form with ⟨-,rfl⟩ | ⟨_,_,_,_,_,-,rfl,-⟩ <;> exact ⟨_,rfl⟩
 obtain ⟨sa,rfl⟩:=hsv
 have hln:env.length≤90:=hg.len
 obtain ⟨ka,kc,hSb,hlb,hcell,i1,i2,i3,hkd,hkr⟩:=hx
 obtain ⟨k0,k1,hks⟩:∃ k0 k1,e.kids=[k0,k1]:=by obtain ⟨⟨deep,h⟩,-⟩:=hg; exact kids2 (by rw [kids_of h,hk]; rfl)
 have e0:kidN e 0=k0:=by unfold kidN; rw [hks]; rfl
 have e1:kidN e 1=k1:=by unfold kidN; rw [hks]; rfl
 try rw [e0]
 try rw [e1]
 have hkl:e.kids.length=2:=by rw [hks]; rfl
 rw [hks] at hkd
 obtain ⟨kb2,ko2,rfl⟩:=kid_row hkd (by simp)
 have xp0:ExP w S d rb kb2 (ko2+0 * 4) k0:=by obtain ⟨a,c,h1,h2,h3,h4⟩:=kid_at hkd (i:=0) (k:=k0) rfl; obtain ⟨j1,j2,j3,j4⟩:=h4.parts; exact ⟨a,c,h2.1,h3,h1,j1,j2,j3,j4,h2.2⟩
 simp only [Nat.zero_mul,Nat.add_zero] at xp0
 have xp1:ExP w S d rb kb2 (ko2+1 * 4) k1:=by obtain ⟨a,c,h1,h2,h3,h4⟩:=kid_at hkd (i:=1) (k:=k1) rfl; obtain ⟨j1,j2,j3,j4⟩:=h4.parts; exact ⟨a,c,h2.1,h3,h1,j1,j2,j3,j4,h2.2⟩
 simp only [Nat.one_mul] at xp1
 have hx00:ExP w S d rb kb ko e:=⟨_,kc,hSb,hlb,hcell,i1,i2,i3,(by rw [hks]; exact hkd),hkr⟩
 have m1:Mv w w S S:=Mv.refl w S
 have kb1:KB (· = rb) w w:=KB.refl _ w
 have run1:RunI w rb bv f:=hr
 have s1:w.heap.size=w.heap.size:=rfl
 have hs1:SvI w S d rb _ P:=hs.move m1 (by rw [s1]; exact hs.new) hs.rb
 have hv1:=hv.move m1
 have cc:=hcell.move (m1.block kb hSb hlb)
 obtain ⟨p0,p1,p2,p3⟩:=cc
 rw [hk] at p0
 rw [hkl] at p3
 have xq0:=xp0.move m1
 have xq1:=xp1.move m1
 have g0:Ok P k0 env:=hg.kid (i:=0) (by rw [hks]; rfl) (by unfold moreN; simp [hk])
 have hcall:=hE S f k0 env kb2 ko2 m _ w hf run1 hs1 xq0 hv1 g0
 have t0:=asNumNum
 have t1:=asFunNum
 have t2:=asNilNum
 have t3:=asPairNum
 have t4:=asEndNum
 have hon:∀ (n:Int) (w3:World) (f':Nat),f'≤f→RunI w3 rb bv f'→Mv w w3 S S→Calls Tryz.prog 87 #[.pointer (some ⟨rb,0,none⟩),.int .i64 n,.pointer (some ⟨kb,ko,none⟩),.pointer sa] w3 fun r w'=>∃ v,r = .returned v∧AftI P S d rb bv w3 w' v (onNum (ev P b f' k1 env) fun y f''=>(.ok (.num (arith e.text n y)),f'')):=fun n w3 f' h1 h2 h3=>by
  have:=operateOn_any P bv rb d b hE S f' e env kb ko m (.pointer sa) w3 (Nat.le_trans h1 hf) h2 (hs1.move h3 (fun x hx=>hs1.new x (by have:=h3.size; omega)) hs1.rb) (hx00.move h3) (hv1.move h3) hg hk n
  rw [e1] at this
  exact this
 have HC1:=(show Hid _ from hon)
 have HK:=(show Hid (_∧_∧_∧_∧_) from ⟨hcall,trivial,trivial,trivial,kb1⟩)
 have HB:=(show Hid (_∧_∧_) from ⟨hSb,hlb,s1⟩)
 have hsl:=hs1.rb
 have HN:=(show Hid (_∧True) from ⟨hsl,trivial⟩)
 clear hsl
 clear hE hf hr hs hv hg hk hcell i1 i2 i3 hkd hkr hln kb1 run1 s1 hs1 hv1 m1 hSb hlb hks hkl e0 xp0 xq0 e1 xp1 xq1 hcall g0 hon hx00
 obtain ⟨RR,hRR⟩:∃ RR,(onNum (ev P b f (k0) env) fun x f'=>onNum (ev P b f' (k1) env) fun y f''=>(Rs.ok (.num (arith e.text x y)),f''))=RR:=⟨_,rfl⟩
 rw [hRR]
 have HRR0:=(show Hid (_∧True) from ⟨hRR,trivial⟩)
 clear hRR
 go_enter Tryz.func59,Tryz.ntmps59
 go_wp2_with fail
 refine HK.out.1.mono ?_
 rintro r w3 ⟨v,rfl,haf⟩
 obtain ⟨R,hR⟩:∃ R,ev P b f k0 env=R:=⟨_,rfl⟩
 rw [hR] at haf
 obtain ⟨R,rf⟩:=R
 have hfu:=ev_less P b f k0 env
 rw [hR] at hfu
 have hm3:Mv w w3 S S:=Mv.kb haf.kb (fun x hx h=>HN.out.1 (hx ▸ h))
 have HM:=(show Hid (_∧_∧_) from ⟨hm3,(hfu:rf≤f),haf⟩)
 have q3:w3.cell? ⟨kb,ko+3,none⟩=some (.slice (some ⟨kb2,ko2,none⟩) 2 kc):=(World.cell?_of_block (hm3.block kb HB.out.1 HB.out.2.1)).trans p3
 have hlk3:kb<w3.heap.size:=Nat.lt_of_lt_of_le HB.out.2.1 hm3.size
 clear p0 p1 p2 p3 hm3 hfu
 have hRR:=HRR0.out.1
 rw [hR] at hRR
 have HRR:=(show Hid _ from hRR)
 clear hRR hR
 cases R with
 | err c =>
  obtain ⟨rfl,hc⟩:=haf.vr
  have HC:=(show Hid (_∧True) from ⟨hc,trivial⟩)
  clear haf hc hlk3
  unfold endV
  go_wp2_with fail
  refine (unfit_end c _).mono ?_
  rintro r w4 ⟨rfl,b4⟩
  have B4:=(show Hid _ from b4)
  clear b4
  go_wp2_with fail
  go_ret
  refine ⟨_,rfl,?_⟩
  rw [← HRR.out]
  obtain ⟨x,hx,-⟩:=HM.out.2.2.run
  exact ⟨HK.out.2.2.2.2.trans (HM.out.2.2.kb.trans (KB.of_below B4.out)),⟨rfl,HC.out.1⟩,⟨x,(B4.out.block rb (lh hx)).trans hx,fun h=>absurd h HC.out.1⟩⟩
 | ok xv =>
  cases xv with
  | num n =>
   obtain rfl:v = .iface 103 (.int .i64 n):=haf.vr.1
   have hrun:=haf.runI rfl
   have HF:=(show Hid (_∧True) from ⟨hrun,trivial⟩)
   clear haf hrun
   go_wp2_with fail
   refine (HC1.out n w3 rf HM.out.2.1 HF.out.1 HM.out.1).mono ?_
   rintro r w9 ⟨v9,rfl,haf9⟩
   have HA:=(show Hid _ from haf9)
   clear haf9
   go_wp2_with fail
   go_ret
   refine ⟨_,rfl,?_⟩
   rw [← HRR.out]
   exact HA.out.sub (HK.out.2.2.2.2.trans HM.out.2.2.kb) (fun _ h=>h)
  | nil =>
   have hu:=fun W=>unfit_val (v:=v) W haf.vr.1
   obtain rfl:v = .iface 109 (.agg #[]):=haf.vr.1
   have HU:=(show Hid (_∧True) from ⟨hu,trivial⟩)
   clear haf hlk3 hu
   go_wp2_with fail
   refine (HU.out.1 _).mono ?_
   unfold endV
   rintro r w4 ⟨rfl,b4⟩
   have B4:=(show Hid _ from b4)
   clear b4
   go_wp2_with fail
   go_ret
   refine ⟨_,rfl,?_⟩
   rw [← HRR.out]
   obtain ⟨x,hx,-⟩:=HM.out.2.2.run
   exact ⟨HK.out.2.2.2.2.trans (HM.out.2.2.kb.trans (KB.of_below B4.out)),⟨rfl,by decide⟩,⟨x,(B4.out.block rb (lh hx)).trans hx,fun h=>absurd (show (2:Int)=0 from h) (by decide)⟩⟩
  | pair ch ct =>
   have hu:=fun W=>unfit_val (v:=v) W haf.vr.1
   obtain ⟨fh,ft,rfl,h1,h2,-⟩:=haf.vr.1
   obtain ⟨_,_,⟨_,_,_,_,_,rfl,-⟩,-⟩:=h1
   obtain ⟨_,_,⟨_,_,_,_,_,rfl,-⟩,-⟩:=h2
   have HU:=(show Hid (_∧True) from ⟨hu,trivial⟩)
   clear haf hlk3 hu
   go_wp2_with fail
   refine (HU.out.1 _).mono ?_
   unfold endV
   rintro r w4 ⟨rfl,b4⟩
   have B4:=(show Hid _ from b4)
   clear b4
   go_wp2_with fail
   go_ret
   refine ⟨_,rfl,?_⟩
   rw [← HRR.out]
   obtain ⟨x,hx,-⟩:=HM.out.2.2.run
   exact ⟨HK.out.2.2.2.2.trans (HM.out.2.2.kb.trans (KB.of_below B4.out)),⟨rfl,by decide⟩,⟨x,(B4.out.block rb (lh hx)).trans hx,fun h=>absurd (show (2:Int)=0 from h) (by decide)⟩⟩
  | fn l x en =>
   have hu:=fun W=>unfit_val (v:=v) W haf.vr.1
   obtain ⟨xb,xo,yv,my,rfl,-,hxs⟩:=haf.vr.1
   have hyv:∃ a,yv = .pointer a:=by rcases hxs.form with ⟨-,rfl⟩ | ⟨_,_,_,_,_,-,rfl,-⟩ <;> exact ⟨_,rfl⟩
   obtain ⟨yv,rfl⟩:=hyv
   clear hxs
   have HU:=(show Hid (_∧True) from ⟨hu,trivial⟩)
   clear haf hlk3 hu
   go_wp2_with fail
   refine (HU.out.1 _).mono ?_
   unfold endV
   rintro r w4 ⟨rfl,b4⟩
   have B4:=(show Hid _ from b4)
   clear b4
   go_wp2_with fail
   go_ret
   refine ⟨_,rfl,?_⟩
   rw [← HRR.out]
   obtain ⟨x,hx,-⟩:=HM.out.2.2.run
   exact ⟨HK.out.2.2.2.2.trans (HM.out.2.2.kb.trans (KB.of_below B4.out)),⟨rfl,by decide⟩,⟨x,(B4.out.block rb (lh hx)).trans hx,fun h=>absurd (show (2:Int)=0 from h) (by decide)⟩⟩
end Go.Proofs.YtljdgmfcgkimoaaGreatDoor
