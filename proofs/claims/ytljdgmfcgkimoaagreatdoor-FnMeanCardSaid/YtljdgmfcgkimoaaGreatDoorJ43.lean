/-
  Proofs.
  Proofs.
  Proofs.
  Proofs.
-/
import Derived.Test.YtljdgmfcgkimoaaGreatDoorJ41
namespace Go.Proofs.YtljdgmfcgkimoaaGreatDoor
open Go.RowKit Go.Joins
set_option maxRecDepth 100000
set_option maxHeartbeats 3200000 in
theorem choose_any (P:List Ex) (bv:Value) (rb d b:Nat) (hE:EvI P bv rb d b) (S:Nat→Prop) (f:Nat) (e:Ex) (env:List Clo) (kb ko m:Nat) (sv:Value) (w:World)
  (hf:f≤b) (hr:RunI w rb bv f) (hs:SvI w S d rb bv P) (hx:ExP w S d rb kb ko e) (hv:ScAt w S d rb m sv env) (hg:Ok P e env) (hk:e.kind=6) :
  Calls Tryz.prog 57 #[.pointer (some ⟨rb,0,none⟩),.pointer (some ⟨kb,ko,none⟩),sv] w fun r w'=>∃ v,r = .returned v∧AftI P S d rb bv w w' v (onNum (ev P b f (kidN e 0) env) fun n f'=>if n=0 then ev P b f' (kidN e 2) env else ev P b f' (kidN e 1) env):=by
 have hrl:rb<w.heap.size:=lh hr
 have hsv:∃ a,sv = .pointer a:=by rcases hv.form with ⟨-,rfl⟩ | ⟨_,_,_,_,_,-,rfl,-⟩ <;> exact ⟨_,rfl⟩
 obtain ⟨sa,rfl⟩:=hsv
 have hln:env.length≤90:=hg.len
 obtain ⟨ka,kc,hSb,hlb,hcell,i1,i2,i3,hkd,hkr⟩:=hx
 obtain ⟨k0,k1,k2,hks⟩:∃ k0 k1 k2,e.kids=[k0,k1,k2]:=by obtain ⟨⟨deep,h⟩,-⟩:=hg; exact kids3 (by rw [kids_of h,hk]; rfl)
 have e0:kidN e 0=k0:=by unfold kidN; rw [hks]; rfl
 have e1:kidN e 1=k1:=by unfold kidN; rw [hks]; rfl
 have e2:kidN e 2=k2:=by unfold kidN; rw [hks]; rfl
 try rw [e0]
 try rw [e1]
 try rw [e2]
 have hkl:e.kids.length=3:=by rw [hks]; rfl
 rw [hks] at hkd
 obtain ⟨kb2,ko2,rfl⟩:=kid_row hkd (by simp)
 have xp0:ExP w S d rb kb2 (ko2+0 * 4) k0:=by obtain ⟨a,c,h1,h2,h3,h4⟩:=kid_at hkd (i:=0) (k:=k0) rfl; obtain ⟨j1,j2,j3,j4⟩:=h4.parts; exact ⟨a,c,h2.1,h3,h1,j1,j2,j3,j4,h2.2⟩
 simp only [Nat.zero_mul,Nat.add_zero] at xp0
 have xp1:ExP w S d rb kb2 (ko2+1 * 4) k1:=by obtain ⟨a,c,h1,h2,h3,h4⟩:=kid_at hkd (i:=1) (k:=k1) rfl; obtain ⟨j1,j2,j3,j4⟩:=h4.parts; exact ⟨a,c,h2.1,h3,h1,j1,j2,j3,j4,h2.2⟩
 simp only [Nat.one_mul] at xp1
 have xp2:ExP w S d rb kb2 (ko2+2 * 4) k2:=by obtain ⟨a,c,h1,h2,h3,h4⟩:=kid_at hkd (i:=2) (k:=k2) rfl; obtain ⟨j1,j2,j3,j4⟩:=h4.parts; exact ⟨a,c,h2.1,h3,h1,j1,j2,j3,j4,h2.2⟩
 simp only [Nat.reduceMul] at xp2
 have m1:Mv w w S S:=Mv.refl w S
 have kb1:KB (· = rb) w w:=KB.refl _ w
 have run1:RunI w rb bv f:=hr
 have s1:w.heap.size=w.heap.size:=rfl
 have hs1:SvI w S d rb _ P:=hs.move m1 (by rw [s1]; exact hs.new) hs.rb
 have hv1:=hv.move m1
 have cc:=hcell.move (m1.block kb hSb hlb)
 obtain ⟨p0,p1,p2,p3⟩:=cc
 rw [hk] at p0
 rw [hkl] at p3
 have xq0:=xp0.move m1
 have xq1:=xp1.move m1
 have xq2:=xp2.move m1
 have g0:Ok P k0 env:=hg.kid (i:=0) (by rw [hks]; rfl) (by unfold moreN; simp [hk])
 have g1:Ok P k1 env:=hg.kid (i:=1) (by rw [hks]; rfl) (by unfold moreN; simp [hk])
 have g2:Ok P k2 env:=hg.kid (i:=2) (by rw [hks]; rfl) (by unfold moreN; simp [hk])
 have hcall:=hE S f k0 env kb2 ko2 m _ w hf run1 hs1 xq0 hv1 g0
 have t0:=asNumNum
 have t1:=asFunNum
 have t2:=asNilNum
 have t3:=asPairNum
 have t4:=asEndNum
 have hk1:∀ (w3:World) (f':Nat),f'≤f→RunI w3 rb bv f'→Mv w w3 S S→Calls Tryz.prog 31 #[.pointer (some ⟨rb,0,none⟩),.pointer (some ⟨kb2,ko2+4,none⟩),.pointer sa] w3 fun r w'=>∃ v,r = .returned v∧AftI P S d rb bv w3 w' v (ev P b f' k1 env):=fun w3 f' h1 h2 h3=>hE S f' k1 env kb2 (ko2+4) m _ w3 (Nat.le_trans h1 hf) h2 (hs1.move h3 (fun x hx=>hs1.new x (by have:=h3.size; omega)) hs1.rb) (xq1.move h3) (hv1.move h3) g1
 have HC1:=(show Hid _ from hk1)
 have hk2:∀ (w3:World) (f':Nat),f'≤f→RunI w3 rb bv f'→Mv w w3 S S→Calls Tryz.prog 31 #[.pointer (some ⟨rb,0,none⟩),.pointer (some ⟨kb2,ko2+8,none⟩),.pointer sa] w3 fun r w'=>∃ v,r = .returned v∧AftI P S d rb bv w3 w' v (ev P b f' k2 env):=fun w3 f' h1 h2 h3=>hE S f' k2 env kb2 (ko2+8) m _ w3 (Nat.le_trans h1 hf) h2 (hs1.move h3 (fun x hx=>hs1.new x (by have:=h3.size; omega)) hs1.rb) (xq2.move h3) (hv1.move h3) g2
 have HC2:=(show Hid _ from hk2)
 have HK:=(show Hid (_∧_∧_∧_∧_) from ⟨hcall,trivial,trivial,trivial,kb1⟩)
 have HB:=(show Hid (_∧_∧_) from ⟨hSb,hlb,s1⟩)
 have hsl:=hs1.rb
 have HN:=(show Hid (_∧True) from ⟨hsl,trivial⟩)
 clear hsl
 clear hE hf hr hs hv hg hk hcell i1 i2 i3 hkd hkr hln kb1 run1 s1 hs1 hv1 m1 hSb hlb hks hkl e0 xp0 xq0 e1 xp1 xq1 e2 xp2 xq2 hcall g0 g1 g2 hk1 hk2
 obtain ⟨RR,hRR⟩:∃ RR,(onNum (ev P b f (k0) env) fun n f'=>if n=0 then ev P b f' (k2) env else ev P b f' (k1) env)=RR:=⟨_,rfl⟩
 rw [hRR]
 have HRR0:=(show Hid (_∧True) from ⟨hRR,trivial⟩)
 clear hRR
 go_enter Tryz.func57,Tryz.ntmps57
 go_wp2_with fail
 refine HK.out.1.mono ?_
 rintro r w3 ⟨v,rfl,haf⟩
 obtain ⟨R,hR⟩:∃ R,ev P b f k0 env=R:=⟨_,rfl⟩
 rw [hR] at haf
 obtain ⟨R,rf⟩:=R
 have hfu:=ev_less P b f k0 env
 rw [hR] at hfu
 have hm3:Mv w w3 S S:=Mv.kb haf.kb (fun x hx h=>HN.out.1 (hx ▸ h))
 have HM:=(show Hid (_∧_∧_) from ⟨hm3,(hfu:rf≤f),haf⟩)
 have q3:w3.cell? ⟨kb,ko+3,none⟩=some (.slice (some ⟨kb2,ko2,none⟩) 3 kc):=(World.cell?_of_block (hm3.block kb HB.out.1 HB.out.2.1)).trans p3
 have hlk3:kb<w3.heap.size:=Nat.lt_of_lt_of_le HB.out.2.1 hm3.size
 clear p0 p1 p2 p3 hm3 hfu
 have hRR:=HRR0.out.1
 rw [hR] at hRR
 have HRR:=(show Hid _ from hRR)
 clear hRR hR
 cases R with
 | err c =>
  obtain ⟨rfl,hc⟩:=haf.vr
  have HC:=(show Hid (_∧True) from ⟨hc,trivial⟩)
  clear haf hc hlk3
  unfold endV
  go_wp2_with fail
  refine (unfit_end c _).mono ?_
  rintro r w4 ⟨rfl,b4⟩
  have B4:=(show Hid _ from b4)
  clear b4
  go_wp2_with fail
  go_ret
  refine ⟨_,rfl,?_⟩
  rw [← HRR.out]
  obtain ⟨x,hx,-⟩:=HM.out.2.2.run
  exact ⟨HK.out.2.2.2.2.trans (HM.out.2.2.kb.trans (KB.of_below B4.out)),⟨rfl,HC.out.1⟩,⟨x,(B4.out.block rb (lh hx)).trans hx,fun h=>absurd h HC.out.1⟩⟩
 | ok xv =>
  cases xv with
  | num n =>
   obtain rfl:v = .iface 103 (.int .i64 n):=haf.vr.1
   have hrun:=haf.runI rfl
   have HF:=(show Hid (_∧True) from ⟨hrun,trivial⟩)
   clear haf hrun
   by_cases hn:n=0
   ·subst hn
    go_wp2_with fail
    refine (HC2.out w3 rf HM.out.2.1 HF.out.1 HM.out.1).mono ?_
    rintro r w9 ⟨v9,rfl,haf9⟩
    have HA:=(show Hid _ from haf9)
    clear haf9
    go_wp2_with fail
    go_ret
    refine ⟨_,rfl,?_⟩
    rw [← HRR.out]
    rw [show (onNum (Rs.ok (Vl.num 0),rf) fun n f'=>if n=0 then ev P b f' k2 env else ev P b f' k1 env)=ev P b rf k2 env by simp [onNum]]
    exact HA.out.sub (HK.out.2.2.2.2.trans HM.out.2.2.kb) (fun _ h=>h)
   ·have hn2:decide (n=0)=false:=by simpa using hn
    have hn3:(n == 0)=false:=by simpa using hn
    have HNN:=(show Hid (_∧True) from ⟨hn,trivial⟩)
    clear hn
    go_wp2_with fail
    refine (HC1.out w3 rf HM.out.2.1 HF.out.1 HM.out.1).mono ?_
    rintro r w9 ⟨v9,rfl,haf9⟩
    have HA:=(show Hid _ from haf9)
    clear haf9
    go_wp2_with fail
    go_ret
    refine ⟨_,rfl,?_⟩
    rw [← HRR.out]
    rw [show (onNum (Rs.ok (Vl.num n),rf) fun n f'=>if n=0 then ev P b f' k2 env else ev P b f' k1 env)=ev P b rf k1 env by simp [onNum,HNN.out.1]]
    exact HA.out.sub (HK.out.2.2.2.2.trans HM.out.2.2.kb) (fun _ h=>h)
  | nil =>
   have hu:=fun W=>unfit_val (v:=v) W haf.vr.1
   obtain rfl:v = .iface 109 (.agg #[]):=haf.vr.1
   have HU:=(show Hid (_∧True) from ⟨hu,trivial⟩)
   clear haf hlk3 hu
   go_wp2_with fail
   refine (HU.out.1 _).mono ?_
   unfold endV
   rintro r w4 ⟨rfl,b4⟩
   have B4:=(show Hid _ from b4)
   clear b4
   go_wp2_with fail
   go_ret
   refine ⟨_,rfl,?_⟩
   rw [← HRR.out]
   obtain ⟨x,hx,-⟩:=HM.out.2.2.run
   exact ⟨HK.out.2.2.2.2.trans (HM.out.2.2.kb.trans (KB.of_below B4.out)),⟨rfl,by decide⟩,⟨x,(B4.out.block rb (lh hx)).trans hx,fun h=>absurd (show (2:Int)=0 from h) (by decide)⟩⟩
  | pair ch ct =>
   have hu:=fun W=>unfit_val (v:=v) W haf.vr.1
   obtain ⟨fh,ft,rfl,h1,h2,-⟩:=haf.vr.1
   obtain ⟨_,_,⟨_,_,_,_,_,rfl,-⟩,-⟩:=h1
   obtain ⟨_,_,⟨_,_,_,_,_,rfl,-⟩,-⟩:=h2
   have HU:=(show Hid (_∧True) from ⟨hu,trivial⟩)
   clear haf hlk3 hu
   go_wp2_with fail
   refine (HU.out.1 _).mono ?_
   unfold endV
   rintro r w4 ⟨rfl,b4⟩
   have B4:=(show Hid _ from b4)
   clear b4
   go_wp2_with fail
   go_ret
   refine ⟨_,rfl,?_⟩
   rw [← HRR.out]
   obtain ⟨x,hx,-⟩:=HM.out.2.2.run
   exact ⟨HK.out.2.2.2.2.trans (HM.out.2.2.kb.trans (KB.of_below B4.out)),⟨rfl,by decide⟩,⟨x,(B4.out.block rb (lh hx)).trans hx,fun h=>absurd (show (2:Int)=0 from h) (by decide)⟩⟩
  | fn l x en =>
   have hu:=fun W=>unfit_val (v:=v) W haf.vr.1
   obtain ⟨xb,xo,yv,my,rfl,-,hxs⟩:=haf.vr.1
   have hyv:∃ a,yv = .pointer a:=by rcases hxs.form with ⟨-,rfl⟩ | ⟨_,_,_,_,_,-,rfl,-⟩ <;> exact ⟨_,rfl⟩
   obtain ⟨yv,rfl⟩:=hyv
   clear hxs
   have HU:=(show Hid (_∧True) from ⟨hu,trivial⟩)
   clear haf hlk3 hu
   go_wp2_with fail
   refine (HU.out.1 _).mono ?_
   unfold endV
   rintro r w4 ⟨rfl,b4⟩
   have B4:=(show Hid _ from b4)
   clear b4
   go_wp2_with fail
   go_ret
   refine ⟨_,rfl,?_⟩
   rw [← HRR.out]
   obtain ⟨x,hx,-⟩:=HM.out.2.2.run
   exact ⟨HK.out.2.2.2.2.trans (HM.out.2.2.kb.trans (KB.of_below B4.out)),⟨rfl,by decide⟩,⟨x,(B4.out.block rb (lh hx)).trans hx,fun h=>absurd (show (2:Int)=0 from h) (by decide)⟩⟩
end Go.Proofs.YtljdgmfcgkimoaaGreatDoor

namespace Go.Proofs.YtljdgmfcgkimoaaGreatDoor
open Go.RowKit Go.Joins
set_option maxRecDepth 100000
set_option maxHeartbeats 3200000 in
theorem reckon6 (P:List Ex) (bv:Value) (rb d b:Nat) (hE:EvI P bv rb d b) (hB:b<1000000) (S:Nat→Prop) (f:Nat) (e:Ex) (env:List Clo) (kb ko m:Nat) (sv:Value) (w:World)
  (hf:f≤b) (hr:RunI w rb bv (f+1)) (hs:SvI w S d rb bv P) (hx:ExP w S d rb kb ko e) (hv:ScAt w S d rb m sv env) (hg:Ok P e env) (hk:e.kind=6) :
  Calls Tryz.prog 31 #[.pointer (some ⟨rb,0,none⟩),.pointer (some ⟨kb,ko,none⟩),sv] w fun r w'=>∃ v,r = .returned v∧AftI P S d rb bv w w' v (onNum (ev P b f (kidN e 0) env) fun n f'=>if n=0 then ev P b f' (kidN e 2) env else ev P b f' (kidN e 1) env):=by
 have hrl:rb<w.heap.size:=lh hr
 have hsv:∃ a,sv = .pointer a:=by rcases hv.form with ⟨-,rfl⟩ | ⟨_,_,_,_,_,-,rfl,-⟩ <;> exact ⟨_,rfl⟩
 obtain ⟨sa,rfl⟩:=hsv
 have hln:env.length≤90:=hg.len
 obtain ⟨ka,kc,hSb,hlb,hcell,i1,i2,i3,hkd,hkr⟩:=hx
 have hx00:ExP w S d rb kb ko e:=⟨ka,kc,hSb,hlb,hcell,i1,i2,i3,hkd,hkr⟩
 obtain ⟨z,hz⟩:∃ z:Int,z=((f+1:Nat):Int):=⟨_,rfl⟩
 obtain ⟨z1,hz1⟩:∃ z1:Int,z1=(f:Int):=⟨_,rfl⟩
 have hw:IntKind.i64.wrap (z + -1)=z1:=by rw [IntKind.wrap_i64]; omega
 have hq0:decide (z1<0)=false:=by simp; omega
 obtain ⟨W1,hW1⟩:∃ W1,W1=w.setCell ⟨rb,1,none⟩ (.int .i64 z1):=⟨_,rfl⟩
 have hadd:=add_any rb z z1 w (by rw [hz,cell_of_block hr]; rfl) (unfrozen_of_block hr 1) hw
 rw [← hW1] at hadd
 have m1:Mv w W1 S S:=by rw [hW1]; exact Mv.set w _ hs.rb
 have kb1:KB (· = rb) w W1:=by rw [hW1]; exact kb_set w rb 1 _
 have run1:RunI W1 rb bv f:=by
  rw [hW1,hz1]
  have:=block_setCell (i:=1) hr (.int .i64 (f:Int))
  exact this
 have s1:W1.heap.size=w.heap.size:=by rw [hW1]; simp
 have hs1:SvI W1 S d rb _ P:=hs.move m1 (by rw [s1]; exact hs.new) hs.rb
 have hv1:=hv.move m1
 have cc:=hcell.move (m1.block kb hSb hlb)
 obtain ⟨p0,p1,p2,p3⟩:=cc
 rw [hk] at p0
 have HADD:=(show Hid (_∧True) from ⟨hadd,trivial⟩)
 have hcall:=choose_any P bv rb d b hE S f e env kb ko m _ W1 hf run1 hs1 (hx00.move m1) hv1 hg hk
 have HK:=(show Hid (_∧_) from ⟨hcall,kb1⟩)
 clear hcall hx00
 clear hE hB hf hr hs hv hg hk hcell i1 i2 i3 hkd hkr hln kb1 run1 s1 hs1 hv1 m1 hSb hlb hz hz1 hw hW1 hadd
 go_enter Tryz.func31,Tryz.ntmps31
 go_wp2_with fail
 refine HADD.out.1.mono ?_
 rintro r W1 ⟨rfl,rfl⟩
 go_wp2_with fail
 refine HK.out.1.mono ?_
 rintro r w9 ⟨v9,rfl,haf⟩
 have HA:=(show Hid _ from haf)
 clear haf
 go_wp2_with fail
 go_ret
 exact ⟨_,rfl,HA.out.sub HK.out.2 (fun _ h=>h)⟩
end Go.Proofs.YtljdgmfcgkimoaaGreatDoor

namespace Go.Proofs.YtljdgmfcgkimoaaGreatDoor
open Go.RowKit Go.Joins
set_option maxRecDepth 100000
set_option maxHeartbeats 3200000 in
theorem reckon7 (P:List Ex) (bv:Value) (rb d b:Nat) (hB:b<1000000) (S:Nat→Prop) (f:Nat) (e:Ex) (env:List Clo) (kb ko m:Nat) (sv:Value) (w:World)
  (hf:f≤b) (hr:RunI w rb bv (f+1)) (hs:SvI w S d rb bv P) (hx:ExP w S d rb kb ko e) (hv:ScAt w S d rb m sv env) (hg:Ok P e env) (hk:e.kind=7) :
  Calls Tryz.prog 31 #[.pointer (some ⟨rb,0,none⟩),.pointer (some ⟨kb,ko,none⟩),sv] w fun r w'=>∃ v,r = .returned v∧AftI P S d rb bv w w' v ((.ok .nil,f)):=by
 have hrl:rb<w.heap.size:=lh hr
 have hsv:∃ a,sv = .pointer a:=by rcases hv.form with ⟨-,rfl⟩ | ⟨_,_,_,_,_,-,rfl,-⟩ <;> exact ⟨_,rfl⟩
 obtain ⟨sa,rfl⟩:=hsv
 have hln:env.length≤90:=hg.len
 obtain ⟨ka,kc,hSb,hlb,hcell,i1,i2,i3,hkd,hkr⟩:=hx
 obtain ⟨z,hz⟩:∃ z:Int,z=((f+1:Nat):Int):=⟨_,rfl⟩
 obtain ⟨z1,hz1⟩:∃ z1:Int,z1=(f:Int):=⟨_,rfl⟩
 have hw:IntKind.i64.wrap (z + -1)=z1:=by rw [IntKind.wrap_i64]; omega
 have hq0:decide (z1<0)=false:=by simp; omega
 obtain ⟨W1,hW1⟩:∃ W1,W1=w.setCell ⟨rb,1,none⟩ (.int .i64 z1):=⟨_,rfl⟩
 have hadd:=add_any rb z z1 w (by rw [hz,cell_of_block hr]; rfl) (unfrozen_of_block hr 1) hw
 rw [← hW1] at hadd
 have m1:Mv w W1 S S:=by rw [hW1]; exact Mv.set w _ hs.rb
 have kb1:KB (· = rb) w W1:=by rw [hW1]; exact kb_set w rb 1 _
 have run1:RunI W1 rb bv f:=by
  rw [hW1,hz1]
  have:=block_setCell (i:=1) hr (.int .i64 (f:Int))
  exact this
 have s1:W1.heap.size=w.heap.size:=by rw [hW1]; simp
 have hs1:SvI W1 S d rb _ P:=hs.move m1 (by rw [s1]; exact hs.new) hs.rb
 have hv1:=hv.move m1
 have cc:=hcell.move (m1.block kb hSb hlb)
 obtain ⟨p0,p1,p2,p3⟩:=cc
 rw [hk] at p0
 have HADD:=(show Hid (_∧True) from ⟨hadd,trivial⟩)
 have HK:=(show Hid (_∧_) from ⟨kb1,run1⟩)
 clear hB hf hr hs hv hg hk hcell i1 i2 i3 hkd hkr hln kb1 run1 s1 hs1 hv1 m1 hSb hlb hz hz1 hw hW1 hadd
 go_enter Tryz.func31,Tryz.ntmps31
 go_wp2_with fail
 refine HADD.out.1.mono ?_
 rintro r W1 ⟨rfl,rfl⟩
 go_wp2_with fail
 go_ret
 exact ⟨_,rfl,HK.out.1,⟨rfl,trivial⟩,⟨_,HK.out.2,fun _=>rfl⟩⟩
end Go.Proofs.YtljdgmfcgkimoaaGreatDoor

namespace Go.Proofs.YtljdgmfcgkimoaaGreatDoor
open Go.RowKit Go.Joins
set_option maxRecDepth 100000
set_option maxHeartbeats 3200000 in
theorem reckon8 (P:List Ex) (bv:Value) (rb d b:Nat) (hB:b<1000000) (S:Nat→Prop) (f:Nat) (e:Ex) (env:List Clo) (kb ko m:Nat) (sv:Value) (w:World)
  (hf:f≤b) (hr:RunI w rb bv (f+1)) (hs:SvI w S d rb bv P) (hx:ExP w S d rb kb ko e) (hv:ScAt w S d rb m sv env) (hg:Ok P e env) (hk:e.kind=8) :
  Calls Tryz.prog 31 #[.pointer (some ⟨rb,0,none⟩),.pointer (some ⟨kb,ko,none⟩),sv] w fun r w'=>∃ v,r = .returned v∧AftI P S d rb bv w w' v ((.ok (.pair (.mk (kidN e 0) env false) (.mk (kidN e 1) env false)),f)):=by
 have hrl:rb<w.heap.size:=lh hr
 have hsv:∃ a,sv = .pointer a:=by rcases hv.form with ⟨-,rfl⟩ | ⟨_,_,_,_,_,-,rfl,-⟩ <;> exact ⟨_,rfl⟩
 obtain ⟨sa,rfl⟩:=hsv
 have hln:env.length≤90:=hg.len
 obtain ⟨ka,kc,hSb,hlb,hcell,i1,i2,i3,hkd,hkr⟩:=hx
 obtain ⟨k0,k1,hks⟩:∃ k0 k1,e.kids=[k0,k1]:=by obtain ⟨⟨deep,h⟩,-⟩:=hg; exact kids2 (by rw [kids_of h,hk]; rfl)
 have e0:kidN e 0=k0:=by unfold kidN; rw [hks]; rfl
 have e1:kidN e 1=k1:=by unfold kidN; rw [hks]; rfl
 try rw [e0]
 try rw [e1]
 have hkl:e.kids.length=2:=by rw [hks]; rfl
 rw [hks] at hkd
 obtain ⟨kb2,ko2,rfl⟩:=kid_row hkd (by simp)
 have xp0:ExP w S d rb kb2 (ko2+0 * 4) k0:=by obtain ⟨a,c,h1,h2,h3,h4⟩:=kid_at hkd (i:=0) (k:=k0) rfl; obtain ⟨j1,j2,j3,j4⟩:=h4.parts; exact ⟨a,c,h2.1,h3,h1,j1,j2,j3,j4,h2.2⟩
 simp only [Nat.zero_mul,Nat.add_zero] at xp0
 have xp1:ExP w S d rb kb2 (ko2+1 * 4) k1:=by obtain ⟨a,c,h1,h2,h3,h4⟩:=kid_at hkd (i:=1) (k:=k1) rfl; obtain ⟨j1,j2,j3,j4⟩:=h4.parts; exact ⟨a,c,h2.1,h3,h1,j1,j2,j3,j4,h2.2⟩
 simp only [Nat.one_mul] at xp1
 obtain ⟨z,hz⟩:∃ z:Int,z=((f+1:Nat):Int):=⟨_,rfl⟩
 obtain ⟨z1,hz1⟩:∃ z1:Int,z1=(f:Int):=⟨_,rfl⟩
 have hw:IntKind.i64.wrap (z + -1)=z1:=by rw [IntKind.wrap_i64]; omega
 have hq0:decide (z1<0)=false:=by simp; omega
 obtain ⟨W1,hW1⟩:∃ W1,W1=w.setCell ⟨rb,1,none⟩ (.int .i64 z1):=⟨_,rfl⟩
 have hadd:=add_any rb z z1 w (by rw [hz,cell_of_block hr]; rfl) (unfrozen_of_block hr 1) hw
 rw [← hW1] at hadd
 have m1:Mv w W1 S S:=by rw [hW1]; exact Mv.set w _ hs.rb
 have kb1:KB (· = rb) w W1:=by rw [hW1]; exact kb_set w rb 1 _
 have run1:RunI W1 rb bv f:=by
  rw [hW1,hz1]
  have:=block_setCell (i:=1) hr (.int .i64 (f:Int))
  exact this
 have s1:W1.heap.size=w.heap.size:=by rw [hW1]; simp
 have hs1:SvI W1 S d rb _ P:=hs.move m1 (by rw [s1]; exact hs.new) hs.rb
 have hv1:=hv.move m1
 have cc:=hcell.move (m1.block kb hSb hlb)
 obtain ⟨p0,p1,p2,p3⟩:=cc
 rw [hk] at p0
 rw [hkl] at p3
 have xq0:=xp0.move m1
 have xq1:=xp1.move m1
 have HADD:=(show Hid (_∧True) from ⟨hadd,trivial⟩)
 have g0:Ok P k0 env:=hg.kid (i:=0) (by rw [hks]; rfl) (by unfold moreN; simp [hk])
 have g1:Ok P k1 env:=hg.kid (i:=1) (by rw [hks]; rfl) (by unfold moreN; simp [hk])
 have hd1:=fun W=>delay_any rb kb2 ko2 (.pointer sa) W ⟨sa,rfl⟩
 have hd2:=fun W=>delay_any rb kb2 (ko2+4) (.pointer sa) W ⟨sa,rfl⟩
 have keep:∀ W:World,Below W1.heap.size W1 W→W.cell? ⟨kb,ko+3,none⟩=some (.slice (some ⟨kb2,ko2,none⟩) 2 kc):=fun W h=>(h.cell (p:=⟨kb,ko+3,none⟩) (by show kb<W1.heap.size; omega)).trans p3
 have fin:∀ (W2 W3:World),Below W1.heap.size W1 W2→Below W2.heap.size W2 W3→∀ n1 n2:Nat,(∀ (S:Nat→Prop) (d:Nat) (e:Ex),(∀ x,W1.drew.heap.size≤x→S x)→ExP W1.drew S d rb kb2 ko2 e→Cap W2 S d rb (delV n1) e (.pointer sa))→(∀ (S:Nat→Prop) (d:Nat) (e:Ex),(∀ x,W2.heap.size≤x→S x)→ExP W2 S d rb kb2 (ko2+4) e→Cap W3 S d rb (delV n2) e (.pointer sa))→AftI P S d rb bv w W3 (.iface 116 (.agg #[delV n1,delV n2])) (.ok (.pair (.mk k0 env false) (.mk k1 env false)),f):=by
  intro W2 W3 b2 b3 n1 n2 c1 c2
  have g2:Mv W1 W2 S S:=Mv.kb (KB.of_below (X:=fun _=>False) b2) (fun _ h=>h.elim)
  have g3:Mv W2 W3 S S:=Mv.kb (KB.of_below (X:=fun _=>False) b3) (fun _ h=>h.elim)
  have b13:Below W1.heap.size W1 W3:=b2.trans (b3.mono b2.size)
  refine ⟨kb1.trans (KB.of_below b13),⟨⟨_,_,rfl,⟨_,m,(c1 S d k0 (by rw [drew_heap]; exact hs1.new) (xq0.move (Mv.drew _ _))).move g3,hv1.move (g2.trans g3)⟩,⟨_,m,c2 S d k1 (fun x hx=>hs1.new x (by have:=b2.size; omega)) (xq1.move g2),hv1.move (g2.trans g3)⟩,rfl,rfl⟩,g0.clo,g1.clo⟩,⟨_,run1.move (b13.block rb (by omega)),fun _=>rfl⟩⟩
 have HK:=(show Hid (_∧_∧_∧_) from ⟨hd1,hd2,keep,fin⟩)
 clear hB hf hr hs hv hg hk hcell i1 i2 i3 hkd hkr hln kb1 run1 s1 hs1 hv1 m1 hSb hlb hks hkl e0 xp0 xq0 e1 xp1 xq1 hz hz1 hw hW1 hadd hd1 hd2 keep fin g0 g1
 go_enter Tryz.func31,Tryz.ntmps31
 go_wp2_with fail
 refine HADD.out.1.mono ?_
 rintro r W1 ⟨rfl,rfl⟩
 go_upto_region 11 with fail
 go_region_held3 (fun W=>W.cell? ⟨kb,ko+3,none⟩=some (.slice (some ⟨kb2,ko2,none⟩) 2 kc)) (first | exact HK.out.2.2.1 _ HB3.out.1 | exact HK.out.2.2.1 _ HB2.out.1 | exact HK.out.2.2.1 W1.drew (Below.refl _ _).drew) (first
  | (go_at_call 53; refine (HK.out.1 _).mono ?_; rintro r w2 ⟨rfl,bb2,cap2⟩; have HB2:=(show Hid (Below W1.heap.size W1 w2∧_) from ⟨((Below.refl _ _).drew).trans (bb2.mono (by rw [drew_heap]; exact Nat.le_refl _)),cap2⟩); clear bb2 cap2)
  | (go_at_call 53; refine (HK.out.2.1 _).mono ?_; rintro r w3 ⟨rfl,bb3,cap3⟩; have HB3:=(show Hid (Below W1.heap.size W1 w3∧Below w2.heap.size w2 w3∧_) from ⟨HB2.out.1.trans (bb3.mono HB2.out.1.size),bb3,cap3⟩); clear bb3 cap3))
 all_goals
  go_wp2_with fail
  go_ret
  exact ⟨_,rfl,HK.out.2.2.2 _ _ HB2.out.1 HB3.out.2.1 _ _ HB2.out.2 HB3.out.2.2⟩
end Go.Proofs.YtljdgmfcgkimoaaGreatDoor
