/-
  Proofs.
  Proofs.
  Proofs.
-/
import Derived.Test.YtljdgmfcgkimoaaGreatDoorJ27
import Derived.Test.YtljdgmfcgkimoaaGreatDoorJ1
import Derived.Test.YtljdgmfcgkimoaaGreatDoorJ29
import Derived.BigQuiet
import Derived.Deep.QuietTactic
import Derived.Deep.CutBlock
import Derived.Deep.RegionHeld3
import Derived.Test.YtljdgmfcgkimoaaGreatDoorJ31
namespace Go.Proofs.YtljdgmfcgkimoaaGreatDoor
open Go.RowKit Go.Joins
set_option maxRecDepth 100000
set_option maxHeartbeats 3200000 in
theorem l03Arith_any (t:ByteArray) (a b:Int) (w:World):Calls Tryz.prog 103 #[.string t,.int .i64 a,.int .i64 b] w fun r w'=>r = .returned (.int .i64 (arith t a b))∧w'=w:=by
 go_enter Tryz.func103,Tryz.ntmps103
 by_cases h0:t.toList=[43]
 ·have g0:(t.toList == [43])=true:=by simp [h0]
  have hr:arith t a b=IntKind.i64.wrap (a+b):=by unfold arith; simp [h0]
  have HH:=(show Hid (_∧True) from ⟨hr,trivial⟩)
  clear hr h0
  go_wp2; go_ret; exact ⟨by rw [HH.out.1,IntKind.wrap_i64]; show Ending.returned (Value.int IntKind.i64 (wrap64 _))=_; unfold wrap64; rfl,rfl⟩
 have g0:(t.toList == [43])=false:=by simp [h0]
 by_cases h1:t.toList=[45]
 ·have g1:(t.toList == [45])=true:=by simp [h1]
  have hr:arith t a b=IntKind.i64.wrap (a - b):=by unfold arith; simp [h1]
  have HH:=(show Hid (_∧True) from ⟨hr,trivial⟩)
  clear hr h1
  go_wp2; go_ret; exact ⟨by rw [HH.out.1,IntKind.wrap_i64]; show Ending.returned (Value.int IntKind.i64 (wrap64 _))=_; unfold wrap64; rfl,rfl⟩
 have g1:(t.toList == [45])=false:=by simp [h1]
 by_cases h2:t.toList=[42]
 ·have g2:(t.toList == [42])=true:=by simp [h2]
  have hr:arith t a b=IntKind.i64.wrap (a * b):=by unfold arith; simp [h2]
  have HH:=(show Hid (_∧True) from ⟨hr,trivial⟩)
  clear hr h2
  go_wp2; go_ret; exact ⟨by rw [HH.out.1,IntKind.wrap_i64]; show Ending.returned (Value.int IntKind.i64 (wrap64 _))=_; unfold wrap64; rfl,rfl⟩
 have g2:(t.toList == [42])=false:=by simp [h2]
 by_cases h3:t.toList=[61,61]
 ·have g3:(t.toList == [61,61])=true:=by simp [h3]
  have hr:arith t a b=(if a=b then 1 else 0):=by unfold arith; simp [h3]
  have HH:=(show Hid (_∧True) from ⟨hr,trivial⟩)
  clear hr h3
  by_cases hc:a=b
  ·have HC:=(show Hid (_∧True) from ⟨hc,trivial⟩)
   subst hc
   go_wp2; go_ret; exact ⟨by rw [HH.out.1,if_pos (by first | exact HC.out.1 | rfl)]; rfl,rfl⟩
  ·have hc1:(a == b)=false:=by simpa using hc
   have hc2:decide (a=b)=false:=by simpa using hc
   have HC:=(show Hid (_∧True) from ⟨hc,trivial⟩)
   clear hc
   go_wp2; go_ret; exact ⟨by rw [HH.out.1,if_neg (by have:=HC.out.1; omega)]; rfl,rfl⟩
 have g3:(t.toList == [61,61])=false:=by simp [h3]
 have hr:arith t a b=(if a<b then 1 else 0):=by unfold arith; rw [if_neg h0,if_neg h1,if_neg h2,if_neg h3]
 have HH:=(show Hid (_∧True) from ⟨hr,trivial⟩)
 clear hr h0 h1 h2 h3
 by_cases hc:a<b
 ·have hc1:decide (a<b)=true:=by simpa using hc
  have HC:=(show Hid (_∧True) from ⟨hc,trivial⟩)
  clear hc
  go_wp2; go_ret; exact ⟨by rw [HH.out.1,if_pos (by first | exact HC.out.1 | rfl)]; rfl,rfl⟩
 ·have hc1:decide (a<b)=false:=by simpa using hc
  have HC:=(show Hid (¬ a<b∧True) from ⟨hc,trivial⟩)
  clear hc
  go_wp2; go_ret; exact ⟨by rw [HH.out.1,if_neg (by have:=HC.out.1; omega)]; rfl,rfl⟩
end Go.Proofs.YtljdgmfcgkimoaaGreatDoor

namespace Go.Proofs.YtljdgmfcgkimoaaGreatDoor
open Go.RowKit Go.Joins
set_option maxRecDepth 100000
set_option maxHeartbeats 3200000 in
theorem l03Eval_10 (P:List Ex) (nv bv:Value) (rb d b:Nat) (hE:EvS P nv bv rb d b) (hB:b<1000000) (S:Nat→Prop) (f:Nat) (e:Ex) (env:List Clo) (xv envv:Value) (w:World)
  (hf:f≤b) (hr:RunAt w rb nv bv (f+1) 0) (hs:Sv w S d rb bv P) (hx:Cx w S d e env xv envv) (hg:Ok P e env) (hk:e.kind=10) :
  Calls Tryz.prog 88 #[.pointer (some ⟨rb,0,none⟩),xv,envv] w fun r w'=>∃ v,r = .returned v∧Aft P S d rb nv bv w w' v (onNum (ev P b f (kidN e 0) env) fun x f'=>onNum (ev P b f' (kidN e 1) env) fun y f''=>(.ok (.num (arith e.text x y)),f'')):=by
 have hrl:rb<w.heap.size:=(Array.getElem?_eq_some_iff.1 hr).1
 have hd:0<d:=hs.bodies.pos
 have hx0:=hx
 obtain ⟨⟨kv,rfl,i1,i2,i3,hkd⟩,m,hen⟩:=hx0
 obtain ⟨a1,c1,rfl⟩:=hkd.form
 obtain ⟨a2,c2,rfl,hz2⟩:=hen.form
 have hln:env.length≤90:=hg.len
 rw [hk]
 obtain ⟨k0,k1,hks⟩:∃ k0 k1,e.kids=[k0,k1]:=by obtain ⟨⟨deep,h⟩,-⟩:=hg; exact kids2 (by rw [kids_of h,hk]; rfl)
 have e0:kidN e 0=k0:=by unfold kidN; rw [hks]; rfl
 have e1:kidN e 1=k1:=by unfold kidN; rw [hks]; rfl
 try rw [e0]
 try rw [e1]
 have hkl:e.kids.length=2:=by rw [hks]; rfl
 rw [hkl]
 have hks':=hks
 rw [hks] at hkd
 obtain ⟨kb,ko,rfl⟩:=kid_row hkd (by simp)
 obtain ⟨ka0,kc0,kk0,hSb,hlb,x0⟩:=kid_at hkd (i:=0) (k:=k0) rfl
 obtain ⟨ka1,kc1,kk1,-,-,x1⟩:=kid_at hkd (i:=1) (k:=k1) rfl
 obtain ⟨z,hz⟩:∃ z:Int,z=((f+1:Nat):Int):=⟨_,rfl⟩
 obtain ⟨z1,hz1⟩:∃ z1:Int,z1=(f:Int):=⟨_,rfl⟩
 have hw:IntKind.i64.wrap (z - 1)=z1:=by rw [IntKind.wrap_i64]; omega
 have hq0:decide (z=0)=false:=by simp; omega
 have hq1:(z == 0)=false:=by simp; omega
 obtain ⟨W1,hW1⟩:∃ W1,W1=((w.alloc (.cells #[.int .i64 10,.int .i64 e.n,.string e.text,.slice (some ⟨kb,ko,none⟩) 2 c1] 52)).alloc (.cells #[.int .i64 0,.int .i64 0,.int .i64 0,.int .i64 0,.string ⟨#[]⟩,.slice none 0 0,.slice none 0 0] 127)):=⟨_,rfl⟩
 obtain ⟨s1,-,kb1,q1,r1⟩:=two_boxes w S (.cells #[.int .i64 10,.int .i64 e.n,.string e.text,.slice (some ⟨kb,ko,none⟩) 2 c1] 52) (.cells #[.int .i64 0,.int .i64 0,.int .i64 0,.int .i64 0,.string ⟨#[]⟩,.slice none 0 0,.slice none 0 0] 127) W1 hW1 rb
 obtain ⟨W2,hW2⟩:∃ W2,W2=W1.setCell ⟨rb,2,none⟩ (.int .i64 z1):=⟨_,rfl⟩
 obtain ⟨s2,m2,kb2,q2,r2,run2⟩:=ev_boxes w S (.cells #[.int .i64 10,.int .i64 e.n,.string e.text,.slice (some ⟨kb,ko,none⟩) 2 c1] 52) (.cells #[.int .i64 0,.int .i64 0,.int .i64 0,.int .i64 0,.string ⟨#[]⟩,.slice none 0 0,.slice none 0 0] 127) W1 W2 rb f nv _ hW1 (by rw [hW2,hz1]) hr hs.rb
 have y2:W1.cell? ⟨rb,2,none⟩=some (.int .i64 z):=by rw [hz,cell_of_block (hr.move (kb1.low hrl))]; rfl
 have y2f:=ubk (hr.move (kb1.low hrl)) 2
 have y3:=cbk (hr.move (kb1.low hrl)) 3 (.int .i64 0) rfl
 have hs2:Sv W2 (but (but S w.heap.size) (w.heap.size+1)) d rb _ P:=hs.move m2 (by rw [s2]; exact but_new (but_new (new_le hs.new (by omega)) (by omega)) (by omega)) (but_not (but_not hs.rb))
 have hen2:=hen.move m2
 have bx0:W2.cell? ⟨w.heap.size,0,none⟩=some (.int .i64 10):=(by rw [cell_of_block q2]; rfl)
 have bx1:W2.cell? ⟨w.heap.size,1,none⟩=some (.int .i64 e.n):=(by rw [cell_of_block q2]; rfl)
 have bx2:W2.cell? ⟨w.heap.size,2,none⟩=some (.string e.text):=(by rw [cell_of_block q2]; rfl)
 have bx3:W2.cell? ⟨w.heap.size,3,none⟩=some (.slice (some ⟨kb,ko,none⟩) 2 c1):=(by rw [cell_of_block q2]; rfl)
 have u0:W2.cell? ⟨w.heap.size+1,0,none⟩=some (.int .i64 0):=(by rw [cell_of_block r2]; rfl)
 have uf0:=ubk r2 0
 have u1:W2.cell? ⟨w.heap.size+1,1,none⟩=some (.int .i64 0):=(by rw [cell_of_block r2]; rfl)
 have uf1:=ubk r2 1
 have u2:W2.cell? ⟨w.heap.size+1,2,none⟩=some (.int .i64 0):=(by rw [cell_of_block r2]; rfl)
 have uf2:=ubk r2 2
 have u3:W2.cell? ⟨w.heap.size+1,3,none⟩=some (.int .i64 0):=(by rw [cell_of_block r2]; rfl)
 have uf3:=ubk r2 3
 have u4:W2.cell? ⟨w.heap.size+1,4,none⟩=some (.string ⟨#[]⟩):=(by rw [cell_of_block r2]; rfl)
 have uf4:=ubk r2 4
 have u5:W2.cell? ⟨w.heap.size+1,5,none⟩=some (.slice none 0 0):=(by rw [cell_of_block r2]; rfl)
 have uf5:=ubk r2 5
 have u6:W2.cell? ⟨w.heap.size+1,6,none⟩=some (.slice none 0 0):=(by rw [cell_of_block r2]; rfl)
 have uf6:=ubk r2 6
 have kw0:=kk0.move (m2.block kb hSb hlb)
 have xw0:=x0.move m2
 obtain ⟨p00,p01,p02,p03⟩:=kw0
 simp only [Nat.zero_mul,Nat.add_zero] at p00 p01 p02 p03
 have kw1:=kk1.move (m2.block kb hSb hlb)
 have xw1:=x1.move m2
 obtain ⟨p10,p11,p12,p13⟩:=kw1
 simp only [Nat.one_mul] at p10 p11 p12 p13
 have hbk:but (but S w.heap.size) (w.heap.size+1) kb:=m2.sub kb hSb hlb
 have hlk:kb<W2.heap.size:=Nat.lt_of_lt_of_le hlb m2.size
 have hwant:=l03Want_of P nv bv rb d b hE (but (but S w.heap.size) (w.heap.size+1)) f k0 env (exV k0 ka0 kc0) (.slice a2 env.length c2) W2 0 0 0 hf run2 hs2 ⟨xw0,m,hen2⟩ (fun _=>hg.kid (i:=0) (by rw [hks']; rfl) (by unfold moreN; simp [hk]))
 rw [evC_zero] at hwant
 have gk1:Ok P k1 env:=hg.kid (i:=1) (by rw [hks']; rfl) (by unfold moreN; simp [hk])
 have hw2:∀ (W4:World) (g:Nat) (c:Int) (f':Nat),f'≤f→RunAt W4 rb nv bv f' c→Sv W4 (but (but (but S w.heap.size) (w.heap.size+1)) g) d rb bv P→Mv W2 W4 (but (but S w.heap.size) (w.heap.size+1)) (but (but (but S w.heap.size) (w.heap.size+1)) g)→Calls Tryz.prog 102 #[.pointer (some ⟨rb,0,none⟩),exV k1 ka1 kc1,.slice a2 env.length c2,.int .i64 0,.int .i64 0] W4 fun r w'=>∃ v,r = .returned v∧Aft P (but (but (but S w.heap.size) (w.heap.size+1)) g) d rb nv bv W4 w' v (wantK (evC P b c f' k1 env) 0 0) :=
  fun W4 g c f' hf' hr4 hs4 hm=>l03Want_of P nv bv rb d b hE _ f' k1 env _ _ W4 c 0 0 (Nat.le_trans hf' hf) hr4 hs4 ⟨xw1.move hm,m,hen2.move hm⟩ (fun _=>gk1)
 have HC1:=(show Hid _ from hw2)
 have HK1:=(show Hid _ from kk1.move (m2.block kb hSb hlb))
 have HB:=(show Hid (_∧_) from ⟨hlk,(fun e=>hs2.rb (e ▸ hbk):kb≠rb)⟩)
 have HQ:=(show Hid (_∧_) from ⟨q2,r2⟩)
 have HS2:=(show Hid _ from hs2)
 have HKB:=(show Hid (_∧_) from ⟨kb2,hd⟩)
 have HW:=(show Hid (_∧True) from ⟨hwant,trivial⟩)
 clear hE hB hf hr hs hx hg hk hkd hen hz2 hz hz1 s1 kb1 q1 r1 s2 m2 kb2 q2 r2 run2 hs2 hen2 hln i1 i2 i3 hd hks hks' hkl hSb hlb hbk hlk e0 kk0 x0 xw0 e1 kk1 x1 xw1 hwant hw2
 go_enter Tryz.func88,Tryz.ntmps88
 go_upto_region 1 with fail
 rw [← hW1]
 clear hW1
 go_upto_region 7 with fail
 rw [← hW2]
 clear hW2 y2 y2f y3 hq0 hq1 hw
 go_wp2_with fail
 refine HW.out.1.mono ?_
 rintro r w3 ⟨v,rfl,haf⟩
 clear p00 p01 p02 p03 p10 p11 p12 p13 bx0 bx1 bx2 bx3 u0 u1 u2 u3 u4 u5 u6 uf0 uf1 uf2 uf3 uf4 uf5 uf6
 obtain ⟨RR,hRR⟩:∃ RR,(onNum (ev P b f k0 env) fun x f'=>onNum (ev P b f' k1 env) fun y f''=>(.ok (.num (arith e.text x y)),f''))=RR:=⟨_,rfl⟩
 generalize hRW:wantK (ev P b f k0 env) 0 0=RW at haf
 obtain ⟨RW,rf⟩:=RW
 obtain ⟨k,n,x,y,t,b1,l1,q1,b2,l2,q2,rfl,hn⟩:=haf.vr.gen
 have HR:=(show Hid (_∧_∧_∧_∧_) from ⟨hRR,want_fuel hRW,hRW,hn,haf.vr⟩)
 clear hRW hRR hn
 go_upto_region 36 with fail
 obtain ⟨W4,hW4⟩:∃ W4,W4=w3.alloc (.cells #[.int .i64 k,.int .i64 n,.int .i64 x,.int .i64 y,.string t,.slice b1 l1 q1,.slice b2 l2 q2] 127):=⟨_,rfl⟩
 rw [← hW4]
 have H4:=(show Hid _ from after_want haf HS2.out hW4)
 clear hW4
 have HA:=(show Hid _ from haf)
 clear haf
 have q4:=(H4.out.2.2.2.2.2.1 _ (lh HQ.out.1) (by omega)).trans HQ.out.1
 have r4:=(H4.out.2.2.2.2.2.1 _ (lh HQ.out.2) (by omega)).trans HQ.out.2
 have n4:=H4.out.2.2.2.2.1
 have bx0:W4.cell? ⟨w.heap.size,0,none⟩=some (.int .i64 10):=(by rw [cell_of_block q4]; rfl)
 have bx1:W4.cell? ⟨w.heap.size,1,none⟩=some (.int .i64 e.n):=(by rw [cell_of_block q4]; rfl)
 have bx2:W4.cell? ⟨w.heap.size,2,none⟩=some (.string e.text):=(by rw [cell_of_block q4]; rfl)
 have bx3:W4.cell? ⟨w.heap.size,3,none⟩=some (.slice (some ⟨kb,ko,none⟩) 2 c1):=(by rw [cell_of_block q4]; rfl)
 have u0:W4.cell? ⟨w.heap.size+1,0,none⟩=some (.int .i64 0):=(by rw [cell_of_block r4]; rfl)
 have uf0:=ubk r4 0
 have u1:W4.cell? ⟨w.heap.size+1,1,none⟩=some (.int .i64 0):=(by rw [cell_of_block r4]; rfl)
 have uf1:=ubk r4 1
 have u2:W4.cell? ⟨w.heap.size+1,2,none⟩=some (.int .i64 0):=(by rw [cell_of_block r4]; rfl)
 have uf2:=ubk r4 2
 have u3:W4.cell? ⟨w.heap.size+1,3,none⟩=some (.int .i64 0):=(by rw [cell_of_block r4]; rfl)
 have uf3:=ubk r4 3
 have u4:W4.cell? ⟨w.heap.size+1,4,none⟩=some (.string ⟨#[]⟩):=(by rw [cell_of_block r4]; rfl)
 have uf4:=ubk r4 4
 have u5:W4.cell? ⟨w.heap.size+1,5,none⟩=some (.slice none 0 0):=(by rw [cell_of_block r4]; rfl)
 have uf5:=ubk r4 5
 have u6:W4.cell? ⟨w.heap.size+1,6,none⟩=some (.slice none 0 0):=(by rw [cell_of_block r4]; rfl)
 have uf6:=ubk r4 6
 have v0:W4.cell? ⟨w3.heap.size,0,none⟩=some (.int .i64 k):=(by rw [cell_of_block n4]; rfl)
 have v1:W4.cell? ⟨w3.heap.size,1,none⟩=some (.int .i64 n):=(by rw [cell_of_block n4]; rfl)
 have v2:W4.cell? ⟨w3.heap.size,2,none⟩=some (.int .i64 x):=(by rw [cell_of_block n4]; rfl)
 have v3:W4.cell? ⟨w3.heap.size,3,none⟩=some (.int .i64 y):=(by rw [cell_of_block n4]; rfl)
 have v4:W4.cell? ⟨w3.heap.size,4,none⟩=some (.string t):=(by rw [cell_of_block n4]; rfl)
 have v5:W4.cell? ⟨w3.heap.size,5,none⟩=some (.slice b1 l1 q1):=(by rw [cell_of_block n4]; rfl)
 have v6:W4.cell? ⟨w3.heap.size,6,none⟩=some (.slice b2 l2 q2):=(by rw [cell_of_block n4]; rfl)
 obtain ⟨p10,p11,p12,p13⟩:=HK1.out.move (H4.out.2.2.2.2.2.1 kb HB.out.1 HB.out.2)
 simp only [Nat.one_mul] at p10 p11 p12 p13
 go_wp2_with fail
 refine (HC1.out W4 w3.heap.size _ _ HR.out.2.1 H4.out.2.2.2.1 H4.out.1 H4.out.2.1).mono ?_
 rintro r w5 ⟨v5,rfl,haf⟩
 generalize hR2:wantK (evC P b (RW,rf).1.code (RW,rf).2 k1 env) 0 0=R2 at haf
 obtain ⟨R2,rf2⟩:=R2
 obtain ⟨k',n',x',y',t',b1',l1',q1',b2',l2',q2',rfl,hn'⟩:=haf.vr.gen
 have HR2:=(show Hid (_∧_) from ⟨hR2,hn'⟩)
 have hs5:w.heap.size+1<W4.heap.size:=lh r4
 have h35:w3.heap.size<W4.heap.size:=lh n4
 clear hR2 hn' p10 p11 p12 p13 bx0 bx1 bx2 bx3 v0 v1 v2 v3 v4 v5 v6 u0 u1 u2 u3 u4 u5 u6 uf0 uf1 uf2 uf3 uf4 uf5 uf6
 go_upto_region 37 with fail
 obtain ⟨W6,hW6⟩:∃ W6,W6=w5.alloc (.cells #[.int .i64 k',.int .i64 n',.int .i64 x',.int .i64 y',.string t',.slice b1' l1' q1',.slice b2' l2' q2'] 127):=⟨_,rfl⟩
 rw [← hW6]
 have H6:=(show Hid _ from after_want haf H4.out.1 hW6)
 clear hW6
 have HA2:=(show Hid _ from haf)
 clear haf
 have q6:=(H6.out.2.2.2.2.2.1 _ (lh q4) (by omega)).trans q4
 have r6:=(H6.out.2.2.2.2.2.1 _ (lh r4) (by omega)).trans r4
 have n6:=(H6.out.2.2.2.2.2.1 _ (lh n4) (by have:=H4.out.2.2.2.2.2.2.1; have:=HQ.out.2; have:=lh HQ.out.2; omega)).trans n4
 have o6:=H6.out.2.2.2.2.1
 have bx0:W6.cell? ⟨w.heap.size,0,none⟩=some (.int .i64 10):=(by rw [cell_of_block q6]; rfl)
 have bx1:W6.cell? ⟨w.heap.size,1,none⟩=some (.int .i64 e.n):=(by rw [cell_of_block q6]; rfl)
 have bx2:W6.cell? ⟨w.heap.size,2,none⟩=some (.string e.text):=(by rw [cell_of_block q6]; rfl)
 have bx3:W6.cell? ⟨w.heap.size,3,none⟩=some (.slice (some ⟨kb,ko,none⟩) 2 c1):=(by rw [cell_of_block q6]; rfl)
 have u0:W6.cell? ⟨w.heap.size+1,0,none⟩=some (.int .i64 0):=(by rw [cell_of_block r6]; rfl)
 have uf0:=ubk r6 0
 have u1:W6.cell? ⟨w.heap.size+1,1,none⟩=some (.int .i64 0):=(by rw [cell_of_block r6]; rfl)
 have uf1:=ubk r6 1
 have u2:W6.cell? ⟨w.heap.size+1,2,none⟩=some (.int .i64 0):=(by rw [cell_of_block r6]; rfl)
 have uf2:=ubk r6 2
 have u3:W6.cell? ⟨w.heap.size+1,3,none⟩=some (.int .i64 0):=(by rw [cell_of_block r6]; rfl)
 have uf3:=ubk r6 3
 have u4:W6.cell? ⟨w.heap.size+1,4,none⟩=some (.string ⟨#[]⟩):=(by rw [cell_of_block r6]; rfl)
 have uf4:=ubk r6 4
 have u5:W6.cell? ⟨w.heap.size+1,5,none⟩=some (.slice none 0 0):=(by rw [cell_of_block r6]; rfl)
 have uf5:=ubk r6 5
 have u6:W6.cell? ⟨w.heap.size+1,6,none⟩=some (.slice none 0 0):=(by rw [cell_of_block r6]; rfl)
 have uf6:=ubk r6 6
 have v0:W6.cell? ⟨w3.heap.size,0,none⟩=some (.int .i64 k):=(by rw [cell_of_block n6]; rfl)
 have v1:W6.cell? ⟨w3.heap.size,1,none⟩=some (.int .i64 n):=(by rw [cell_of_block n6]; rfl)
 have v2:W6.cell? ⟨w3.heap.size,2,none⟩=some (.int .i64 x):=(by rw [cell_of_block n6]; rfl)
 have v3:W6.cell? ⟨w3.heap.size,3,none⟩=some (.int .i64 y):=(by rw [cell_of_block n6]; rfl)
 have v4:W6.cell? ⟨w3.heap.size,4,none⟩=some (.string t):=(by rw [cell_of_block n6]; rfl)
 have v5:W6.cell? ⟨w3.heap.size,5,none⟩=some (.slice b1 l1 q1):=(by rw [cell_of_block n6]; rfl)
 have v6:W6.cell? ⟨w3.heap.size,6,none⟩=some (.slice b2 l2 q2):=(by rw [cell_of_block n6]; rfl)
 have s0:W6.cell? ⟨w5.heap.size,0,none⟩=some (.int .i64 k'):=(by rw [cell_of_block o6]; rfl)
 have s1:W6.cell? ⟨w5.heap.size,1,none⟩=some (.int .i64 n'):=(by rw [cell_of_block o6]; rfl)
 have s2:W6.cell? ⟨w5.heap.size,2,none⟩=some (.int .i64 x'):=(by rw [cell_of_block o6]; rfl)
 have s3:W6.cell? ⟨w5.heap.size,3,none⟩=some (.int .i64 y'):=(by rw [cell_of_block o6]; rfl)
 have s4:W6.cell? ⟨w5.heap.size,4,none⟩=some (.string t'):=(by rw [cell_of_block o6]; rfl)
 have s5:W6.cell? ⟨w5.heap.size,5,none⟩=some (.slice b1' l1' q1'):=(by rw [cell_of_block o6]; rfl)
 have s6:W6.cell? ⟨w5.heap.size,6,none⟩=some (.slice b2' l2' q2'):=(by rw [cell_of_block o6]; rfl)
 clear q4 r4 n4 q6 n6 o6 hs5 h35
 go_wp2_with fail
 refine (l03Arith_any _ _ _ _).mono ?_
 rintro r w7 ⟨rfl,rfl⟩
 go_wp2_with fail
 refine bodyPost_ret (v:=.agg #[.int .i64 0,.int .i64 (arith e.text n n'),.int .i64 0,.int .i64 0,.string ⟨#[]⟩,.slice none 0 0,.slice none 0 0]) (by simp [results,Tryz.results88,go_sem,u0,u1,u2,u3,u4,u5,u6]) rfl ?_
 refine ⟨_,rfl,?_⟩
 obtain ⟨z1,z2,z3⟩:=op_end (W:=w7) (S:=(but (but (but (but S w.heap.size) (w.heap.size+1)) w3.heap.size) w5.heap.size)) HKB.out.2 HR.out.2.2.1 HR2.out.1 HR.out.2.2.2.1 HR2.out.2 (fun q hq=>VR.err_ne (hq ▸ HR.out.2.2.2.2)) (fun q hq=>VR.err_ne (hq ▸ HA2.out.vr)) HR.out.1
 rw [HR.out.1]
 refine aft_end ((HKB.out.1.trans H4.out.2.2.1).trans H6.out.2.2.1) z3 (fun b h=>h.1.1.1.1) (fun h=>h.1.1.2 rfl) ?_ (by omega) hrl (kb7 _ _ _ _ _ _ _ _ _)
 rw [z1,z2]
 exact H6.out.2.2.2.1
end Go.Proofs.YtljdgmfcgkimoaaGreatDoor

namespace Go.Proofs.YtljdgmfcgkimoaaGreatDoor
open Go.RowKit Go.Joins
set_option maxRecDepth 100000
set_option maxHeartbeats 3200000 in
theorem l03Eval_11 (P:List Ex) (nv bv:Value) (rb d b:Nat) (hE:EvS P nv bv rb d b) (hB:b<1000000) (S:Nat→Prop) (f:Nat) (e:Ex) (env:List Clo) (xv envv:Value) (w:World)
  (hf:f≤b) (hr:RunAt w rb nv bv (f+1) 0) (hs:Sv w S d rb bv P) (hx:Cx w S d e env xv envv) (hg:Ok P e env) (hk:e.kind=11) :
  Calls Tryz.prog 88 #[.pointer (some ⟨rb,0,none⟩),xv,envv] w fun r w'=>∃ v,r = .returned v∧Aft P S d rb nv bv w w' v (ev P b f (kidN e 1) env):=by
 have hrl:rb<w.heap.size:=(Array.getElem?_eq_some_iff.1 hr).1
 have hd:0<d:=hs.bodies.pos
 have hx0:=hx
 obtain ⟨⟨kv,rfl,i1,i2,i3,hkd⟩,m,hen⟩:=hx0
 obtain ⟨a1,c1,rfl⟩:=hkd.form
 obtain ⟨a2,c2,rfl,hz2⟩:=hen.form
 have hln:env.length≤90:=hg.len
 rw [hk]
 obtain ⟨k0,k1,hks⟩:∃ k0 k1,e.kids=[k0,k1]:=by obtain ⟨⟨deep,h⟩,-⟩:=hg; exact kids2 (by rw [kids_of h,hk]; rfl)
 have e0:kidN e 0=k0:=by unfold kidN; rw [hks]; rfl
 have e1:kidN e 1=k1:=by unfold kidN; rw [hks]; rfl
 try rw [e0]
 try rw [e1]
 have hkl:e.kids.length=2:=by rw [hks]; rfl
 rw [hkl]
 have hks':=hks
 rw [hks] at hkd
 obtain ⟨kb,ko,rfl⟩:=kid_row hkd (by simp)
 obtain ⟨ka0,kc0,kk0,hSb,hlb,x0⟩:=kid_at hkd (i:=0) (k:=k0) rfl
 obtain ⟨ka1,kc1,kk1,-,-,x1⟩:=kid_at hkd (i:=1) (k:=k1) rfl
 obtain ⟨z,hz⟩:∃ z:Int,z=((f+1:Nat):Int):=⟨_,rfl⟩
 obtain ⟨z1,hz1⟩:∃ z1:Int,z1=(f:Int):=⟨_,rfl⟩
 have hw:IntKind.i64.wrap (z - 1)=z1:=by rw [IntKind.wrap_i64]; omega
 have hq0:decide (z=0)=false:=by simp; omega
 have hq1:(z == 0)=false:=by simp; omega
 obtain ⟨W1,hW1⟩:∃ W1,W1=((w.alloc (.cells #[.int .i64 11,.int .i64 e.n,.string e.text,.slice (some ⟨kb,ko,none⟩) 2 c1] 52)).alloc (.cells #[.int .i64 0,.int .i64 0,.int .i64 0,.int .i64 0,.string ⟨#[]⟩,.slice none 0 0,.slice none 0 0] 127)):=⟨_,rfl⟩
 obtain ⟨s1,-,kb1,q1,r1⟩:=two_boxes w S (.cells #[.int .i64 11,.int .i64 e.n,.string e.text,.slice (some ⟨kb,ko,none⟩) 2 c1] 52) (.cells #[.int .i64 0,.int .i64 0,.int .i64 0,.int .i64 0,.string ⟨#[]⟩,.slice none 0 0,.slice none 0 0] 127) W1 hW1 rb
 obtain ⟨W2,hW2⟩:∃ W2,W2=W1.setCell ⟨rb,2,none⟩ (.int .i64 z1):=⟨_,rfl⟩
 obtain ⟨s2,m2,kb2,q2,r2,run2⟩:=ev_boxes w S (.cells #[.int .i64 11,.int .i64 e.n,.string e.text,.slice (some ⟨kb,ko,none⟩) 2 c1] 52) (.cells #[.int .i64 0,.int .i64 0,.int .i64 0,.int .i64 0,.string ⟨#[]⟩,.slice none 0 0,.slice none 0 0] 127) W1 W2 rb f nv _ hW1 (by rw [hW2,hz1]) hr hs.rb
 have y2:W1.cell? ⟨rb,2,none⟩=some (.int .i64 z):=by rw [hz,cell_of_block (hr.move (kb1.low hrl))]; rfl
 have y2f:=ubk (hr.move (kb1.low hrl)) 2
 have y3:=cbk (hr.move (kb1.low hrl)) 3 (.int .i64 0) rfl
 have hs2:Sv W2 (but (but S w.heap.size) (w.heap.size+1)) d rb _ P:=hs.move m2 (by rw [s2]; exact but_new (but_new (new_le hs.new (by omega)) (by omega)) (by omega)) (but_not (but_not hs.rb))
 have hen2:=hen.move m2
 have bx0:W2.cell? ⟨w.heap.size,0,none⟩=some (.int .i64 11):=(by rw [cell_of_block q2]; rfl)
 have bx1:W2.cell? ⟨w.heap.size,1,none⟩=some (.int .i64 e.n):=(by rw [cell_of_block q2]; rfl)
 have bx2:W2.cell? ⟨w.heap.size,2,none⟩=some (.string e.text):=(by rw [cell_of_block q2]; rfl)
 have bx3:W2.cell? ⟨w.heap.size,3,none⟩=some (.slice (some ⟨kb,ko,none⟩) 2 c1):=(by rw [cell_of_block q2]; rfl)
 have u0:W2.cell? ⟨w.heap.size+1,0,none⟩=some (.int .i64 0):=(by rw [cell_of_block r2]; rfl)
 have uf0:=ubk r2 0
 have u1:W2.cell? ⟨w.heap.size+1,1,none⟩=some (.int .i64 0):=(by rw [cell_of_block r2]; rfl)
 have uf1:=ubk r2 1
 have u2:W2.cell? ⟨w.heap.size+1,2,none⟩=some (.int .i64 0):=(by rw [cell_of_block r2]; rfl)
 have uf2:=ubk r2 2
 have u3:W2.cell? ⟨w.heap.size+1,3,none⟩=some (.int .i64 0):=(by rw [cell_of_block r2]; rfl)
 have uf3:=ubk r2 3
 have u4:W2.cell? ⟨w.heap.size+1,4,none⟩=some (.string ⟨#[]⟩):=(by rw [cell_of_block r2]; rfl)
 have uf4:=ubk r2 4
 have u5:W2.cell? ⟨w.heap.size+1,5,none⟩=some (.slice none 0 0):=(by rw [cell_of_block r2]; rfl)
 have uf5:=ubk r2 5
 have u6:W2.cell? ⟨w.heap.size+1,6,none⟩=some (.slice none 0 0):=(by rw [cell_of_block r2]; rfl)
 have uf6:=ubk r2 6
 have kw0:=kk0.move (m2.block kb hSb hlb)
 have xw0:=x0.move m2
 obtain ⟨p00,p01,p02,p03⟩:=kw0
 simp only [Nat.zero_mul,Nat.add_zero] at p00 p01 p02 p03
 have kw1:=kk1.move (m2.block kb hSb hlb)
 have xw1:=x1.move m2
 obtain ⟨p10,p11,p12,p13⟩:=kw1
 simp only [Nat.one_mul] at p10 p11 p12 p13
 have hbk:but (but S w.heap.size) (w.heap.size+1) kb:=m2.sub kb hSb hlb
 have hlk:kb<W2.heap.size:=Nat.lt_of_lt_of_le hlb m2.size
 have hcall:=hE _ f k1 env (exV k1 ka1 kc1) (.slice a2 env.length c2) W2 0 hf run2 hs2 ⟨xw1,m,hen2⟩ (fun _=>hg.kid (i:=1) (by rw [hks']; rfl) (by unfold moreN; simp [hk]))
 rw [evC_zero] at hcall
 have HK:=(show Hid (_∧_) from ⟨hcall,kb2⟩)
 have nB:=(show Hid _ from r2)
 clear hcall
 clear hE hB hf hr hs hx hg hk hkd hen hz2 hz hz1 s1 kb1 q1 r1 s2 m2 kb2 q2 r2 run2 hs2 hen2 hln i1 i2 i3 hd hks hks' hkl hSb hlb hbk hlk e0 kk0 x0 xw0 e1 kk1 x1 xw1
 go_enter Tryz.func88,Tryz.ntmps88
 go_upto_region 1 with fail
 rw [← hW1]
 clear hW1
 go_upto_region 7 with fail
 rw [← hW2]
 clear hW2 y2 y2f y3 hq0 hq1 hw
 go_wp2_with fail
 refine HK.out.1.mono ?_
 rintro r w3 ⟨v,rfl,haf⟩
 obtain ⟨k,n,x,y,t,b1,l1,q1,b2,l2,q2,rfl⟩:=haf.form
 have n3:=haf.kb.heap nB.out (by omega)
 clear u0 u1 u2 u3 u4 u5 u6 uf0 uf1 uf2 uf3 uf4 uf5 uf6
 have u0:w3.cell? ⟨w.heap.size+1,0,none⟩=some (.int .i64 0):=(by rw [cell_of_block n3]; rfl)
 have uf0:=ubk n3 0
 have u1:w3.cell? ⟨w.heap.size+1,1,none⟩=some (.int .i64 0):=(by rw [cell_of_block n3]; rfl)
 have uf1:=ubk n3 1
 have u2:w3.cell? ⟨w.heap.size+1,2,none⟩=some (.int .i64 0):=(by rw [cell_of_block n3]; rfl)
 have uf2:=ubk n3 2
 have u3:w3.cell? ⟨w.heap.size+1,3,none⟩=some (.int .i64 0):=(by rw [cell_of_block n3]; rfl)
 have uf3:=ubk n3 3
 have u4:w3.cell? ⟨w.heap.size+1,4,none⟩=some (.string ⟨#[]⟩):=(by rw [cell_of_block n3]; rfl)
 have uf4:=ubk n3 4
 have u5:w3.cell? ⟨w.heap.size+1,5,none⟩=some (.slice none 0 0):=(by rw [cell_of_block n3]; rfl)
 have uf5:=ubk n3 5
 have u6:w3.cell? ⟨w.heap.size+1,6,none⟩=some (.slice none 0 0):=(by rw [cell_of_block n3]; rfl)
 have uf6:=ubk n3 6
 have HS:=(show Hid (_∧True) from ⟨haf,trivial⟩)
 clear haf n3
 go_wp2_with fail
 refine bodyPost_ret (v:=.agg #[.int .i64 k,.int .i64 n,.int .i64 x,.int .i64 y,.string t,.slice b1 l1 q1,.slice b2 l2 q2]) (by simp [results,Tryz.results88,go_sem,u0,u1,u2,u3,u4,u5,u6]) rfl ?_
 refine ⟨_,rfl,?_⟩
 exact aft_tail (HK.out.2) HS.out.1 (fun b h=>h.1.1) (fun h=>h.2 rfl) (by omega) hrl (kb7 _ _ _ _ _ _ _ _ _)
end Go.Proofs.YtljdgmfcgkimoaaGreatDoor
