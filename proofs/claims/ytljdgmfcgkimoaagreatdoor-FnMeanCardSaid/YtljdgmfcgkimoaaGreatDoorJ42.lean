/-
  Proofs.
  Proofs.
  Proofs.
  Proofs.
-/
import Derived.Test.YtljdgmfcgkimoaaGreatDoorJ41
namespace Go.Proofs.YtljdgmfcgkimoaaGreatDoor
open Go.RowKit Go.Joins
set_option maxRecDepth 100000
set_option maxHeartbeats 3200000 in
theorem give_any (P:List Ex) (bv:Value) (rb d b:Nat) (hE:EvI P bv rb d b) (S:Nat→Prop) (f:Nat) (e:Ex) (env:List Clo) (kb ko m:Nat) (sv:Value) (w:World)
  (hf:f≤b) (hr:RunI w rb bv f) (hs:SvI w S d rb bv P) (hx:ExP w S d rb kb ko e) (hv:ScAt w S d rb m sv env) (hg:Ok P e env) (hk:e.kind=4) :
  Calls Tryz.prog 55 #[.pointer (some ⟨rb,0,none⟩),.pointer (some ⟨kb,ko,none⟩),sv] w fun r w'=>∃ v,r = .returned v∧AftI P S d rb bv w w' v (onFn (ev P b f (kidN e 0) env) fun l x en f'=>if 1<l then (.ok (.fn (l - 1) x (en ++ [.mk (kidN e 1) env false])),f') else ev P b f' x (en ++ [.mk (kidN e 1) env false])):=by
 have hrl:rb<w.heap.size:=lh hr
 have hsv:∃ a,sv = .pointer a:=by rcases hv.form with ⟨-,rfl⟩ | ⟨_,_,_,_,_,-,rfl,-⟩ <;> exact ⟨_,rfl⟩
 obtain ⟨sa,rfl⟩:=hsv
 have hln:env.length≤90:=hg.len
 obtain ⟨ka,kc,hSb,hlb,hcell,i1,i2,i3,hkd,hkr⟩:=hx
 obtain ⟨k0,k1,hks⟩:∃ k0 k1,e.kids=[k0,k1]:=by obtain ⟨⟨deep,h⟩,-⟩:=hg; exact kids2 (by rw [kids_of h,hk]; rfl)
 have e0:kidN e 0=k0:=by unfold kidN; rw [hks]; rfl
 have e1:kidN e 1=k1:=by unfold kidN; rw [hks]; rfl
 try rw [e0]
 try rw [e1]
 have hkl:e.kids.length=2:=by rw [hks]; rfl
 rw [hks] at hkd
 obtain ⟨kb2,ko2,rfl⟩:=kid_row hkd (by simp)
 have xp0:ExP w S d rb kb2 (ko2+0 * 4) k0:=by obtain ⟨a,c,h1,h2,h3,h4⟩:=kid_at hkd (i:=0) (k:=k0) rfl; obtain ⟨j1,j2,j3,j4⟩:=h4.parts; exact ⟨a,c,h2.1,h3,h1,j1,j2,j3,j4,h2.2⟩
 simp only [Nat.zero_mul,Nat.add_zero] at xp0
 have xp1:ExP w S d rb kb2 (ko2+1 * 4) k1:=by obtain ⟨a,c,h1,h2,h3,h4⟩:=kid_at hkd (i:=1) (k:=k1) rfl; obtain ⟨j1,j2,j3,j4⟩:=h4.parts; exact ⟨a,c,h2.1,h3,h1,j1,j2,j3,j4,h2.2⟩
 simp only [Nat.one_mul] at xp1
 have m1:Mv w w S S:=Mv.refl w S
 have kb1:KB (· = rb) w w:=KB.refl _ w
 have run1:RunI w rb bv f:=hr
 have s1:w.heap.size=w.heap.size:=rfl
 have hs1:SvI w S d rb _ P:=hs.move m1 (by rw [s1]; exact hs.new) hs.rb
 have hv1:=hv.move m1
 have cc:=hcell.move (m1.block kb hSb hlb)
 obtain ⟨p0,p1,p2,p3⟩:=cc
 rw [hk] at p0
 rw [hkl] at p3
 have xq0:=xp0.move m1
 have xq1:=xp1.move m1
 have g0:Ok P k0 env:=hg.kid (i:=0) (by rw [hks]; rfl) (by unfold moreN; simp [hk])
 have g1:Ok P k1 env:=hg.kid (i:=1) (by rw [hks]; rfl) (by unfold moreN; simp [hk])
 have hcall:=hE S f k0 env kb2 ko2 m _ w hf run1 hs1 xq0 hv1 g0
 have t0:=asFunFun
 have t1:=asNumFun
 have t2:=asNilFun
 have t3:=asPairFun
 have t4:=asEndFun
 have hd1:=fun W=>delay_any rb kb2 (ko2+4) (.pointer sa) W ⟨sa,rfl⟩
 have HK:=(show Hid (_∧_∧_∧_∧_) from ⟨hcall,hd1,hE,hf,kb1⟩)
 have HX:=(show Hid (_∧_∧_∧_) from ⟨hs1,hv1,xq1,g1.clo⟩)
 have HB:=(show Hid (_∧_∧_) from ⟨hSb,hlb,s1⟩)
 have hsl:=hs1.rb
 have HN:=(show Hid (_∧True) from ⟨hsl,trivial⟩)
 clear hsl
 clear hE hf hr hs hv hg hk hcell i1 i2 i3 hkd hkr hln kb1 run1 s1 hs1 hv1 m1 hSb hlb hks hkl e0 xp0 xq0 e1 xp1 xq1 hcall hd1 g0 g1
 obtain ⟨RR,hRR⟩:∃ RR,(onFn (ev P b f (k0) env) fun l x en f'=>if 1<l then (Rs.ok (.fn (l - 1) x (en ++ [.mk (k1) env false])),f') else ev P b f' x (en ++ [.mk (k1) env false]))=RR:=⟨_,rfl⟩
 rw [hRR]
 have HRR0:=(show Hid (_∧True) from ⟨hRR,trivial⟩)
 clear hRR
 go_enter Tryz.func55,Tryz.ntmps55
 go_wp2_with fail
 refine HK.out.1.mono ?_
 rintro r w3 ⟨v,rfl,haf⟩
 obtain ⟨R,hR⟩:∃ R,ev P b f k0 env=R:=⟨_,rfl⟩
 rw [hR] at haf
 obtain ⟨R,rf⟩:=R
 have hfu:=ev_less P b f k0 env
 rw [hR] at hfu
 have hm3:Mv w w3 S S:=Mv.kb haf.kb (fun x hx h=>HN.out.1 (hx ▸ h))
 have HM:=(show Hid (_∧_∧_) from ⟨hm3,(hfu:rf≤f),haf⟩)
 have q3:w3.cell? ⟨kb,ko+3,none⟩=some (.slice (some ⟨kb2,ko2,none⟩) 2 kc):=(World.cell?_of_block (hm3.block kb HB.out.1 HB.out.2.1)).trans p3
 have hlk3:kb<w3.heap.size:=Nat.lt_of_lt_of_le HB.out.2.1 hm3.size
 clear p0 p1 p2 p3 hm3 hfu
 have hRR:=HRR0.out.1
 rw [hR] at hRR
 have HRR:=(show Hid _ from hRR)
 clear hRR hR
 cases R with
 | err c =>
  obtain ⟨rfl,hc⟩:=haf.vr
  have HC:=(show Hid (_∧True) from ⟨hc,trivial⟩)
  clear haf hc hlk3
  unfold endV
  go_wp2_with fail
  refine (unfit_end c _).mono ?_
  rintro r w4 ⟨rfl,b4⟩
  have B4:=(show Hid _ from b4)
  clear b4
  go_wp2_with fail
  go_ret
  refine ⟨_,rfl,?_⟩
  rw [← HRR.out]
  obtain ⟨x,hx,-⟩:=HM.out.2.2.run
  exact ⟨HK.out.2.2.2.2.trans (HM.out.2.2.kb.trans (KB.of_below B4.out)),⟨rfl,HC.out.1⟩,⟨x,(B4.out.block rb (lh hx)).trans hx,fun h=>absurd h HC.out.1⟩⟩
 | ok xv =>
  cases xv with
  | fn l x en =>
   obtain ⟨⟨xb,xo,yv,my,rfl,hxp,hxs⟩,hgd⟩:=haf.vr
   have hyv:∃ a,yv = .pointer a:=by rcases hxs.form with ⟨-,rfl⟩ | ⟨_,_,_,_,_,-,rfl,-⟩ <;> exact ⟨_,rfl⟩
   obtain ⟨yv,rfl⟩:=hyv
   have hrun:=haf.runI rfl
   have HF:=(show Hid (_∧_∧_∧_) from ⟨hxp,hxs,hgd,hrun⟩)
   clear haf hxp hxs hgd hrun
   go_upto_region 6 with fail
   obtain ⟨W4,hW4⟩:∃ W4,W4=w3.alloc (.cells #[.pointer (some ⟨xb,xo,none⟩),.pointer yv,.int .i64 l] 112):=⟨_,rfl⟩
   rw [← hW4]
   have n4:W4.heap[w3.heap.size]? = some (.cells #[.pointer (some ⟨xb,xo,none⟩),.pointer yv,.int .i64 l] 112):=by rw [hW4]; exact block_alloc
   have l4:∀ x,x<w3.heap.size→W4.heap[x]? = w3.heap[x]? := fun x hx=>by rw [hW4]; exact Below.heap_alloc _ _ _ hx
   have s4:W4.heap.size=w3.heap.size+1:=by rw [hW4]; simp
   have b4:Below w3.heap.size w3 W4:=by rw [hW4]; exact (Below.refl _ w3).alloc (Nat.le_refl _) _
   have k4:KB (fun _=>False) w3 W4:=KB.of_below b4
   have m4:Mv w3 W4 S S:=Mv.kb k4 (fun _ h=>h.elim)
   have hrb3':=lh HF.out.2.2.2
   have keep:∀ W:World,KB (· = rb) W4 W→W.cell? ⟨w3.heap.size,0,none⟩=some (.pointer (some ⟨xb,xo,none⟩))∧W.cell? ⟨w3.heap.size,1,none⟩=some (.pointer yv)∧W.cell? ⟨w3.heap.size,2,none⟩=some (.int .i64 l)∧W.cell? ⟨kb,ko+3,none⟩=some (.slice (some ⟨kb2,ko2,none⟩) 2 kc):=fun W h=>by
    have c:=(h.block _ (lh n4) (by omega)).trans n4
    exact ⟨by rw [cell_of_block c]; rfl,by rw [cell_of_block c]; rfl,by rw [cell_of_block c]; rfl,(World.cell?_of_block ((h.block kb (by omega) (fun e=>HN.out.1 (e ▸ HB.out.1))).trans (l4 kb hlk3))).trans q3⟩
   have fin:∀ (w5:World),Below W4.heap.size W4 w5→Cap w5 S d rb (delV W4.heap.size) k1 (.pointer sa)→Calls Tryz.prog 84 #[.pointer (some ⟨rb,0,none⟩),.agg #[.pointer (some ⟨xb,xo,none⟩),.pointer yv,.int .i64 l],delV W4.heap.size] w5 fun r w'=>∃ v,r = .returned v∧AftI P S d rb bv w5 w' v (if 1<l then (.ok (.fn (l - 1) x (en ++ [.mk k1 env false])),rf) else ev P b rf x (en ++ [.mk k1 env false])):=by
    intro w5 b5 cap
    have m5:Mv w3 w5 S S:=m4.trans (Mv.kb (KB.of_below (X:=fun _=>False) b5) (fun _ h=>h.elim))
    have m05:Mv w w5 S S:=HM.out.1.trans m5
    have hrb3:=lh HF.out.2.2.2
    exact call_any P bv rb d b HK.out.2.2.1 S rf xb xo my m l x en (.mk k1 env false) _ _ (.pointer sa) w5 (Nat.le_trans HM.out.2.1 HK.out.2.2.2.1) (HF.out.2.2.2.move ((b5.block rb (by omega)).trans (l4 rb hrb3))) (HX.out.1.move m05 (fun x hx=>HX.out.1.new x (by have:=m05.size; omega)) HX.out.1.rb) (HF.out.1.move m5) (HF.out.2.1.move m5) cap rfl (HX.out.2.1.move m05) HF.out.2.2.1 HX.out.2.2.2
   have HQ:=(show Hid (_∧_∧_∧_∧_) from ⟨keep,fin,HM.out.2.2.kb.trans (k4.more (fun _ _ h=>h.elim)),s4,m4⟩)
   clear hW4 n4 l4 s4 b4 k4 m4 keep fin q3 hlk3 hrb3'
   go_region_held3 (fun W=>W.cell? ⟨w3.heap.size,0,none⟩=some (.pointer (some ⟨xb,xo,none⟩))∧W.cell? ⟨w3.heap.size,1,none⟩=some (.pointer yv)∧W.cell? ⟨w3.heap.size,2,none⟩=some (.int .i64 l)∧W.cell? ⟨kb,ko+3,none⟩=some (.slice (some ⟨kb2,ko2,none⟩) 2 kc)) (first | exact HQ.out.1 _ ((KB.of_below HB5.out.1).trans HH.out.kb) | exact HQ.out.1 _ (KB.of_below HB5.out.1) | exact HQ.out.1 W4.drew (KB.refl _ _).drew) (first
    | (go_at_call 53; refine (HK.out.2.1 _).mono ?_; rintro r w5 ⟨rfl,bb5,cap5⟩; have HB5:=(show Hid (Below W4.heap.size W4 w5∧_) from ⟨((Below.refl _ _).drew).trans (bb5.mono (by rw [drew_heap]; exact Nat.le_refl _)),cap5⟩); clear bb5 cap5)
    | (go_at_call 84; refine (HQ.out.2.1 _ HB5.out.1 (HB5.out.2 S d k1 (fun x hx=>HX.out.1.new x (by rw [drew_heap,HQ.out.2.2.2.1] at hx; have:=HM.out.1.size; omega)) ((HX.out.2.2.1.move HM.out.1).move (HQ.out.2.2.2.2.trans (Mv.drew _ _))))).mono ?_; rintro r w9 ⟨v9,rfl,haf⟩; have HH:=(show Hid _ from haf); clear haf))
   all_goals
    go_wp2_with fail
    go_ret
    refine ⟨_,rfl,?_⟩
    rw [← HRR.out]
    exact HH.out.sub (HK.out.2.2.2.2.trans (HQ.out.2.2.1.trans (KB.of_below HB5.out.1))) (fun _ h=>h)
  | num n =>
   have hu:=fun W=>unfit_val (v:=v) W haf.vr.1
   obtain rfl:v = .iface 103 (.int .i64 n):=haf.vr.1
   have HU:=(show Hid (_∧True) from ⟨hu,trivial⟩)
   clear haf hlk3 hu
   go_wp2_with fail
   refine (HU.out.1 _).mono ?_
   unfold endV
   rintro r w4 ⟨rfl,b4⟩
   have B4:=(show Hid _ from b4)
   clear b4
   go_wp2_with fail
   go_ret
   refine ⟨_,rfl,?_⟩
   rw [← HRR.out]
   obtain ⟨x,hx,-⟩:=HM.out.2.2.run
   exact ⟨HK.out.2.2.2.2.trans (HM.out.2.2.kb.trans (KB.of_below B4.out)),⟨rfl,by decide⟩,⟨x,(B4.out.block rb (lh hx)).trans hx,fun h=>absurd (show (2:Int)=0 from h) (by decide)⟩⟩
  | nil =>
   have hu:=fun W=>unfit_val (v:=v) W haf.vr.1
   obtain rfl:v = .iface 109 (.agg #[]):=haf.vr.1
   have HU:=(show Hid (_∧True) from ⟨hu,trivial⟩)
   clear haf hlk3 hu
   go_wp2_with fail
   refine (HU.out.1 _).mono ?_
   unfold endV
   rintro r w4 ⟨rfl,b4⟩
   have B4:=(show Hid _ from b4)
   clear b4
   go_wp2_with fail
   go_ret
   refine ⟨_,rfl,?_⟩
   rw [← HRR.out]
   obtain ⟨x,hx,-⟩:=HM.out.2.2.run
   exact ⟨HK.out.2.2.2.2.trans (HM.out.2.2.kb.trans (KB.of_below B4.out)),⟨rfl,by decide⟩,⟨x,(B4.out.block rb (lh hx)).trans hx,fun h=>absurd (show (2:Int)=0 from h) (by decide)⟩⟩
  | pair ch ct =>
   have hu:=fun W=>unfit_val (v:=v) W haf.vr.1
   obtain ⟨fh,ft,rfl,h1,h2,-⟩:=haf.vr.1
   obtain ⟨_,_,⟨_,_,_,_,_,rfl,-⟩,-⟩:=h1
   obtain ⟨_,_,⟨_,_,_,_,_,rfl,-⟩,-⟩:=h2
   have HU:=(show Hid (_∧True) from ⟨hu,trivial⟩)
   clear haf hlk3 hu
   go_wp2_with fail
   refine (HU.out.1 _).mono ?_
   unfold endV
   rintro r w4 ⟨rfl,b4⟩
   have B4:=(show Hid _ from b4)
   clear b4
   go_wp2_with fail
   go_ret
   refine ⟨_,rfl,?_⟩
   rw [← HRR.out]
   obtain ⟨x,hx,-⟩:=HM.out.2.2.run
   exact ⟨HK.out.2.2.2.2.trans (HM.out.2.2.kb.trans (KB.of_below B4.out)),⟨rfl,by decide⟩,⟨x,(B4.out.block rb (lh hx)).trans hx,fun h=>absurd (show (2:Int)=0 from h) (by decide)⟩⟩
end Go.Proofs.YtljdgmfcgkimoaaGreatDoor

namespace Go.Proofs.YtljdgmfcgkimoaaGreatDoor
open Go.RowKit Go.Joins
set_option maxRecDepth 100000
set_option maxHeartbeats 3200000 in
theorem reckon4 (P:List Ex) (bv:Value) (rb d b:Nat) (hE:EvI P bv rb d b) (hB:b<1000000) (S:Nat→Prop) (f:Nat) (e:Ex) (env:List Clo) (kb ko m:Nat) (sv:Value) (w:World)
  (hf:f≤b) (hr:RunI w rb bv (f+1)) (hs:SvI w S d rb bv P) (hx:ExP w S d rb kb ko e) (hv:ScAt w S d rb m sv env) (hg:Ok P e env) (hk:e.kind=4) :
  Calls Tryz.prog 31 #[.pointer (some ⟨rb,0,none⟩),.pointer (some ⟨kb,ko,none⟩),sv] w fun r w'=>∃ v,r = .returned v∧AftI P S d rb bv w w' v (onFn (ev P b f (kidN e 0) env) fun l x en f'=>if 1<l then (.ok (.fn (l - 1) x (en ++ [.mk (kidN e 1) env false])),f') else ev P b f' x (en ++ [.mk (kidN e 1) env false])):=by
 have hrl:rb<w.heap.size:=lh hr
 have hsv:∃ a,sv = .pointer a:=by rcases hv.form with ⟨-,rfl⟩ | ⟨_,_,_,_,_,-,rfl,-⟩ <;> exact ⟨_,rfl⟩
 obtain ⟨sa,rfl⟩:=hsv
 have hln:env.length≤90:=hg.len
 obtain ⟨ka,kc,hSb,hlb,hcell,i1,i2,i3,hkd,hkr⟩:=hx
 have hx00:ExP w S d rb kb ko e:=⟨ka,kc,hSb,hlb,hcell,i1,i2,i3,hkd,hkr⟩
 obtain ⟨z,hz⟩:∃ z:Int,z=((f+1:Nat):Int):=⟨_,rfl⟩
 obtain ⟨z1,hz1⟩:∃ z1:Int,z1=(f:Int):=⟨_,rfl⟩
 have hw:IntKind.i64.wrap (z + -1)=z1:=by rw [IntKind.wrap_i64]; omega
 have hq0:decide (z1<0)=false:=by simp; omega
 obtain ⟨W1,hW1⟩:∃ W1,W1=w.setCell ⟨rb,1,none⟩ (.int .i64 z1):=⟨_,rfl⟩
 have hadd:=add_any rb z z1 w (by rw [hz,cell_of_block hr]; rfl) (unfrozen_of_block hr 1) hw
 rw [← hW1] at hadd
 have m1:Mv w W1 S S:=by rw [hW1]; exact Mv.set w _ hs.rb
 have kb1:KB (· = rb) w W1:=by rw [hW1]; exact kb_set w rb 1 _
 have run1:RunI W1 rb bv f:=by
  rw [hW1,hz1]
  have:=block_setCell (i:=1) hr (.int .i64 (f:Int))
  exact this
 have s1:W1.heap.size=w.heap.size:=by rw [hW1]; simp
 have hs1:SvI W1 S d rb _ P:=hs.move m1 (by rw [s1]; exact hs.new) hs.rb
 have hv1:=hv.move m1
 have cc:=hcell.move (m1.block kb hSb hlb)
 obtain ⟨p0,p1,p2,p3⟩:=cc
 rw [hk] at p0
 have HADD:=(show Hid (_∧True) from ⟨hadd,trivial⟩)
 have hcall:=give_any P bv rb d b hE S f e env kb ko m _ W1 hf run1 hs1 (hx00.move m1) hv1 hg hk
 have HK:=(show Hid (_∧_) from ⟨hcall,kb1⟩)
 clear hcall hx00
 clear hE hB hf hr hs hv hg hk hcell i1 i2 i3 hkd hkr hln kb1 run1 s1 hs1 hv1 m1 hSb hlb hz hz1 hw hW1 hadd
 go_enter Tryz.func31,Tryz.ntmps31
 go_wp2_with fail
 refine HADD.out.1.mono ?_
 rintro r W1 ⟨rfl,rfl⟩
 go_wp2_with fail
 refine HK.out.1.mono ?_
 rintro r w9 ⟨v9,rfl,haf⟩
 have HA:=(show Hid _ from haf)
 clear haf
 go_wp2_with fail
 go_ret
 exact ⟨_,rfl,HA.out.sub HK.out.2 (fun _ h=>h)⟩
end Go.Proofs.YtljdgmfcgkimoaaGreatDoor

namespace Go.Proofs.YtljdgmfcgkimoaaGreatDoor
open Go.RowKit Go.Joins
set_option maxRecDepth 100000
set_option maxHeartbeats 3200000 in
theorem let_any (P:List Ex) (bv:Value) (rb d b:Nat) (hE:EvI P bv rb d b) (S:Nat→Prop) (f:Nat) (e:Ex) (env:List Clo) (kb ko m:Nat) (sv:Value) (w:World)
  (hf:f≤b) (hr:RunI w rb bv f) (hs:SvI w S d rb bv P) (hx:ExP w S d rb kb ko e) (hv:ScAt w S d rb m sv env) (hg:Ok P e env) (hk:e.kind=5) :
  Calls Tryz.prog 56 #[.pointer (some ⟨rb,0,none⟩),.pointer (some ⟨kb,ko,none⟩),sv] w fun r w'=>∃ v,r = .returned v∧AftI P S d rb bv w w' v (ev P b f (kidN e 1) (env ++ [.mk (kidN e 0) env true])):=by
 have hrl:rb<w.heap.size:=lh hr
 have hsv:∃ a,sv = .pointer a:=by rcases hv.form with ⟨-,rfl⟩ | ⟨_,_,_,_,_,-,rfl,-⟩ <;> exact ⟨_,rfl⟩
 obtain ⟨sa,rfl⟩:=hsv
 have hln:env.length≤90:=hg.len
 obtain ⟨ka,kc,hSb,hlb,hcell,i1,i2,i3,hkd,hkr⟩:=hx
 obtain ⟨k0,k1,hks⟩:∃ k0 k1,e.kids=[k0,k1]:=by obtain ⟨⟨deep,h⟩,-⟩:=hg; exact kids2 (by rw [kids_of h,hk]; rfl)
 have e0:kidN e 0=k0:=by unfold kidN; rw [hks]; rfl
 have e1:kidN e 1=k1:=by unfold kidN; rw [hks]; rfl
 try rw [e0]
 try rw [e1]
 have hkl:e.kids.length=2:=by rw [hks]; rfl
 rw [hks] at hkd
 obtain ⟨kb2,ko2,rfl⟩:=kid_row hkd (by simp)
 have xp0:ExP w S d rb kb2 (ko2+0 * 4) k0:=by obtain ⟨a,c,h1,h2,h3,h4⟩:=kid_at hkd (i:=0) (k:=k0) rfl; obtain ⟨j1,j2,j3,j4⟩:=h4.parts; exact ⟨a,c,h2.1,h3,h1,j1,j2,j3,j4,h2.2⟩
 simp only [Nat.zero_mul,Nat.add_zero] at xp0
 have xp1:ExP w S d rb kb2 (ko2+1 * 4) k1:=by obtain ⟨a,c,h1,h2,h3,h4⟩:=kid_at hkd (i:=1) (k:=k1) rfl; obtain ⟨j1,j2,j3,j4⟩:=h4.parts; exact ⟨a,c,h2.1,h3,h1,j1,j2,j3,j4,h2.2⟩
 simp only [Nat.one_mul] at xp1
 have m1:Mv w w S S:=Mv.refl w S
 have kb1:KB (· = rb) w w:=KB.refl _ w
 have run1:RunI w rb bv f:=hr
 have s1:w.heap.size=w.heap.size:=rfl
 have hs1:SvI w S d rb _ P:=hs.move m1 (by rw [s1]; exact hs.new) hs.rb
 have hv1:=hv.move m1
 have cc:=hcell.move (m1.block kb hSb hlb)
 obtain ⟨p0,p1,p2,p3⟩:=cc
 rw [hk] at p0
 rw [hkl] at p3
 have xq0:=xp0.move m1
 have xq1:=xp1.move m1
 have tS:=fun (fn:Fn) (x y:Array Value) (a:Addr) (w:World)=>run_store Tryz.prog w a (.func fn x y) .plain rfl
 have gc:(Clo.mk k0 env true).good (P.length:Int):=hg.rec (i:=0) (by rw [hks]; rfl) (by unfold moreN; simp [hk])
 have g1:Ok P k1 (env ++ [.mk k0 env true]):=hg.kidm (i:=1) (by rw [hks]; rfl) (by unfold moreN; simp [hk]) (goodL_one gc)
 have hwith:=with_any S d rb m (.pointer sa) .nilFunc env w hv1 (by omega) (Or.inr rfl)
 obtain ⟨W2,hW2⟩:∃ W2,W2=w.alloc (.cells #[.pointer sa,.int .i64 (env.length:Int),.nilFunc] 159):=⟨_,rfl⟩
 rw [← hW2] at hwith
 have s2:W2.heap.size=w.heap.size+1:=by rw [hW2]; simp
 have q2:W2.heap[w.heap.size]? = some (.cells #[.pointer sa,.int .i64 (env.length:Int),.nilFunc] 159):=by rw [hW2]; exact block_alloc
 have b2:Below w.heap.size w W2:=by rw [hW2]; exact (Below.refl _ w).alloc (Nat.le_refl _) _
 have m2:Mv w W2 S (but S w.heap.size):=by rw [hW2]; exact Mv.alloc _ _ _
 have hdel:=delay_any rb kb2 ko2 (.pointer (some ⟨w.heap.size,0,none⟩)) W2 ⟨_,rfl⟩
 have y3:W2.cell? ⟨kb,ko+3,none⟩=some (.slice (some ⟨kb2,ko2,none⟩) 2 kc):=(b2.cell (p:=⟨kb,ko+3,none⟩) hlb).trans p3
 have fin:∀ (w3 W4:World),Below W2.heap.size W2 w3→(∀ (S:Nat→Prop) (d:Nat) (e:Ex),(∀ x,W2.heap.size≤x→S x)→ExP W2 S d rb kb2 ko2 e→Cap w3 S d rb (delV W2.heap.size) e (.pointer (some ⟨w.heap.size,0,none⟩)))→W4=w3.setCell ⟨w.heap.size,2,none⟩ (delV W2.heap.size) →
   KB (· = rb) w W4∧W4.cell? ⟨kb,ko+3,none⟩=some (.slice (some ⟨kb2,ko2,none⟩) 2 kc)∧Calls Tryz.prog 31 #[.pointer (some ⟨rb,0,none⟩),.pointer (some ⟨kb2,ko2+4,none⟩),.pointer (some ⟨w.heap.size,0,none⟩)] W4 fun r w'=>∃ v,r = .returned v∧AftI P S d rb bv W4 w' v (ev P b f k1 (env ++ [.mk k0 env true])):=by
  intro w3 W4 b3 cap hW4
  have k34:KB (· = w.heap.size) w3 W4:=by rw [hW4]; exact kb_set w3 w.heap.size 2 _
  have q3:w3.heap[w.heap.size]? = some (.cells #[.pointer sa,.int .i64 (env.length:Int),.nilFunc] 159):=(b3.block _ (by omega)).trans q2
  have q4:W4.heap[w.heap.size]? = some (.cells #[.pointer sa,.int .i64 (env.length:Int),delV W2.heap.size] 159):=by
   rw [hW4]
   have:=block_setCell (i:=2) q3 (delV W2.heap.size)
   exact this
  have l4:∀ x,x<w.heap.size→W4.heap[x]? = w.heap[x]? := fun x hx=>(k34.block x (by have:=b3.size; omega) (by omega)).trans ((b3.block x (by omega)).trans (b2.block x hx))
  have z4:w.heap.size+1≤W4.heap.size:=by have:=b3.size; have:=k34.size; omega
  have m4:Mv w W4 S S:=⟨fun x _ hx=>l4 x hx,by omega,fun _ h _=>h⟩
  have m34:Mv w3 W4 (but S w.heap.size) S:=⟨fun x hx hl=>k34.block x hl hx.2,k34.size,fun _ h _=>h.1⟩
  have hcap:=(cap (but S w.heap.size) d k0 (fun x hx=>⟨hs1.new x (by omega),by omega⟩) (xq0.move m2)).move m34
  have hkb:KB (· = rb) w W4:=by
   have h1:KB (fun _=>False) w w3:=(KB.of_below b2).trans (KB.of_below b3)
   exact ⟨k34.os.trans h1.os,k34.tape.trans h1.tape,k34.output.trans h1.output,by omega,fun x hx _=>l4 x hx⟩
  have hsc:ScAt W4 S d rb (m+1) (.pointer (some ⟨w.heap.size,0,none⟩)) (env ++ [.mk k0 env true]):=Or.inr ⟨env,.mk k0 env true,_,_,_,_,rfl,rfl,hs1.new _ (Nat.le_refl _),q4,hv1.move m4,hcap,Or.inl ⟨rfl,rfl,rfl⟩⟩
  exact ⟨hkb,(World.cell?_of_block (l4 kb hlb)).trans p3,hE S f k1 _ kb2 (ko2+4) (m+1) _ W4 hf (run1.move (l4 rb hrl)) (hs1.move m4 (fun x hx=>hs1.new x (by omega)) hs1.rb) (xq1.move m4) hsc g1⟩
 have z3:∀ w3:World,Below W2.heap.size W2 w3→w3.cell? ⟨w.heap.size,2,none⟩=some .nilFunc∧w3.frozen? ⟨w.heap.size,2,none⟩=false:=fun w3 h=>by
  have:=(h.block _ (lh q2)).trans q2
  exact ⟨by rw [cell_of_block this]; rfl,unfrozen_of_block this 2⟩
 have HK:=(show Hid (_∧_∧_∧_) from ⟨hwith,hdel,fin,z3⟩)
 clear fin z3
 clear hE hf hr hs hv hg hk hcell i1 i2 i3 hkd hkr hln kb1 run1 s1 hs1 hv1 m1 hSb hlb hks hkl e0 xp0 xq0 e1 xp1 xq1 gc g1 hwith hdel hW2 s2 q2 b2 m2
 obtain ⟨RR,hRR⟩:∃ RR,(ev P b f (k1) (env ++ [.mk (k0) env true]))=RR:=⟨_,rfl⟩
 rw [hRR]
 have HRR0:=(show Hid (_∧True) from ⟨hRR,trivial⟩)
 clear hRR
 go_enter Tryz.func56,Tryz.ntmps56
 go_wp2_with fail
 refine HK.out.1.mono ?_
 rintro r w2 ⟨rfl,rfl⟩
 go_wp2_with fail
 refine HK.out.2.1.mono ?_
 rintro r w3 ⟨rfl,b3,cap3⟩
 obtain ⟨W4,hW4⟩:∃ W4,W4=w3.setCell ⟨w.heap.size,2,none⟩ (delV w2.heap.size):=⟨_,rfl⟩
 obtain ⟨c3,c3f⟩:=HK.out.2.2.2 _ b3
 obtain ⟨hkb,y4,hcall⟩:=HK.out.2.2.1 _ _ b3 cap3 hW4
 have HC:=(show Hid (_∧_) from ⟨hkb,hcall⟩)
 clear b3 cap3 hkb hcall y3 p0 p1 p2 p3
 unfold delV at hW4 ⊢
 go_upto_region 3 with fail
 rw [← hW4]
 clear hW4 c3 c3f
 go_wp2_with fail
 refine HC.out.2.mono ?_
 rintro r w9 ⟨v9,rfl,haf⟩
 have HA:=(show Hid _ from haf)
 clear haf
 go_wp2_with fail
 go_ret
 refine ⟨_,rfl,?_⟩
 rw [← HRR0.out.1]
 exact HA.out.sub HC.out.1 (fun _ h=>h)
end Go.Proofs.YtljdgmfcgkimoaaGreatDoor

namespace Go.Proofs.YtljdgmfcgkimoaaGreatDoor
open Go.RowKit Go.Joins
set_option maxRecDepth 100000
set_option maxHeartbeats 3200000 in
theorem reckon5 (P:List Ex) (bv:Value) (rb d b:Nat) (hE:EvI P bv rb d b) (hB:b<1000000) (S:Nat→Prop) (f:Nat) (e:Ex) (env:List Clo) (kb ko m:Nat) (sv:Value) (w:World)
  (hf:f≤b) (hr:RunI w rb bv (f+1)) (hs:SvI w S d rb bv P) (hx:ExP w S d rb kb ko e) (hv:ScAt w S d rb m sv env) (hg:Ok P e env) (hk:e.kind=5) :
  Calls Tryz.prog 31 #[.pointer (some ⟨rb,0,none⟩),.pointer (some ⟨kb,ko,none⟩),sv] w fun r w'=>∃ v,r = .returned v∧AftI P S d rb bv w w' v (ev P b f (kidN e 1) (env ++ [.mk (kidN e 0) env true])):=by
 have hrl:rb<w.heap.size:=lh hr
 have hsv:∃ a,sv = .pointer a:=by rcases hv.form with ⟨-,rfl⟩ | ⟨_,_,_,_,_,-,rfl,-⟩ <;> exact ⟨_,rfl⟩
 obtain ⟨sa,rfl⟩:=hsv
 have hln:env.length≤90:=hg.len
 obtain ⟨ka,kc,hSb,hlb,hcell,i1,i2,i3,hkd,hkr⟩:=hx
 have hx00:ExP w S d rb kb ko e:=⟨ka,kc,hSb,hlb,hcell,i1,i2,i3,hkd,hkr⟩
 obtain ⟨z,hz⟩:∃ z:Int,z=((f+1:Nat):Int):=⟨_,rfl⟩
 obtain ⟨z1,hz1⟩:∃ z1:Int,z1=(f:Int):=⟨_,rfl⟩
 have hw:IntKind.i64.wrap (z + -1)=z1:=by rw [IntKind.wrap_i64]; omega
 have hq0:decide (z1<0)=false:=by simp; omega
 obtain ⟨W1,hW1⟩:∃ W1,W1=w.setCell ⟨rb,1,none⟩ (.int .i64 z1):=⟨_,rfl⟩
 have hadd:=add_any rb z z1 w (by rw [hz,cell_of_block hr]; rfl) (unfrozen_of_block hr 1) hw
 rw [← hW1] at hadd
 have m1:Mv w W1 S S:=by rw [hW1]; exact Mv.set w _ hs.rb
 have kb1:KB (· = rb) w W1:=by rw [hW1]; exact kb_set w rb 1 _
 have run1:RunI W1 rb bv f:=by
  rw [hW1,hz1]
  have:=block_setCell (i:=1) hr (.int .i64 (f:Int))
  exact this
 have s1:W1.heap.size=w.heap.size:=by rw [hW1]; simp
 have hs1:SvI W1 S d rb _ P:=hs.move m1 (by rw [s1]; exact hs.new) hs.rb
 have hv1:=hv.move m1
 have cc:=hcell.move (m1.block kb hSb hlb)
 obtain ⟨p0,p1,p2,p3⟩:=cc
 rw [hk] at p0
 have HADD:=(show Hid (_∧True) from ⟨hadd,trivial⟩)
 have hcall:=let_any P bv rb d b hE S f e env kb ko m _ W1 hf run1 hs1 (hx00.move m1) hv1 hg hk
 have HK:=(show Hid (_∧_) from ⟨hcall,kb1⟩)
 clear hcall hx00
 clear hE hB hf hr hs hv hg hk hcell i1 i2 i3 hkd hkr hln kb1 run1 s1 hs1 hv1 m1 hSb hlb hz hz1 hw hW1 hadd
 go_enter Tryz.func31,Tryz.ntmps31
 go_wp2_with fail
 refine HADD.out.1.mono ?_
 rintro r W1 ⟨rfl,rfl⟩
 go_wp2_with fail
 refine HK.out.1.mono ?_
 rintro r w9 ⟨v9,rfl,haf⟩
 have HA:=(show Hid _ from haf)
 clear haf
 go_wp2_with fail
 go_ret
 exact ⟨_,rfl,HA.out.sub HK.out.2 (fun _ h=>h)⟩
end Go.Proofs.YtljdgmfcgkimoaaGreatDoor
