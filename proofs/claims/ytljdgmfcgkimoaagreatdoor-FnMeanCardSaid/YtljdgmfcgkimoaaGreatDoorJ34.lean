/-
  Proofs.
  Proofs.
-/
import Derived.Test.YtljdgmfcgkimoaaGreatDoorJ1
import Derived.Test.YtljdgmfcgkimoaaGreatDoorJ29
import Derived.BigQuiet
import Derived.Deep.QuietTactic
import Derived.Deep.CutBlock
import Derived.Deep.RegionHeld3
import Derived.Test.YtljdgmfcgkimoaaGreatDoorJ31
namespace Go.Proofs.YtljdgmfcgkimoaaGreatDoor
open Go.RowKit Go.Joins
set_option maxRecDepth 100000
set_option maxHeartbeats 3200000 in
theorem l03Eval_6 (P:List Ex) (nv bv:Value) (rb d b:Nat) (hE:EvS P nv bv rb d b) (hB:b<1000000) (S:Nat→Prop) (f:Nat) (e:Ex) (env:List Clo) (xv envv:Value) (w:World)
  (hf:f≤b) (hr:RunAt w rb nv bv (f+1) 0) (hs:Sv w S d rb bv P) (hx:Cx w S d e env xv envv) (hg:Ok P e env) (hk:e.kind=6) :
  Calls Tryz.prog 88 #[.pointer (some ⟨rb,0,none⟩),xv,envv] w fun r w'=>∃ v,r = .returned v∧Aft P S d rb nv bv w w' v (onNum (ev P b f (kidN e 0) env) fun n f'=>if n=0 then ev P b f' (kidN e 2) env else ev P b f' (kidN e 1) env):=by
 have hrl:rb<w.heap.size:=(Array.getElem?_eq_some_iff.1 hr).1
 have hd:0<d:=hs.bodies.pos
 have hx0:=hx
 obtain ⟨⟨kv,rfl,i1,i2,i3,hkd⟩,m,hen⟩:=hx0
 obtain ⟨a1,c1,rfl⟩:=hkd.form
 obtain ⟨a2,c2,rfl,hz2⟩:=hen.form
 have hln:env.length≤90:=hg.len
 rw [hk]
 obtain ⟨k0,k1,k2,hks⟩:∃ k0 k1 k2,e.kids=[k0,k1,k2]:=by obtain ⟨⟨deep,h⟩,-⟩:=hg; exact kids3 (by rw [kids_of h,hk]; rfl)
 have e0:kidN e 0=k0:=by unfold kidN; rw [hks]; rfl
 have e1:kidN e 1=k1:=by unfold kidN; rw [hks]; rfl
 have e2:kidN e 2=k2:=by unfold kidN; rw [hks]; rfl
 try rw [e0]
 try rw [e1]
 try rw [e2]
 have hkl:e.kids.length=3:=by rw [hks]; rfl
 rw [hkl]
 have hks':=hks
 rw [hks] at hkd
 obtain ⟨kb,ko,rfl⟩:=kid_row hkd (by simp)
 obtain ⟨ka0,kc0,kk0,hSb,hlb,x0⟩:=kid_at hkd (i:=0) (k:=k0) rfl
 obtain ⟨ka1,kc1,kk1,-,-,x1⟩:=kid_at hkd (i:=1) (k:=k1) rfl
 obtain ⟨ka2,kc2,kk2,-,-,x2⟩:=kid_at hkd (i:=2) (k:=k2) rfl
 obtain ⟨z,hz⟩:∃ z:Int,z=((f+1:Nat):Int):=⟨_,rfl⟩
 obtain ⟨z1,hz1⟩:∃ z1:Int,z1=(f:Int):=⟨_,rfl⟩
 have hw:IntKind.i64.wrap (z - 1)=z1:=by rw [IntKind.wrap_i64]; omega
 have hq0:decide (z=0)=false:=by simp; omega
 have hq1:(z == 0)=false:=by simp; omega
 obtain ⟨W1,hW1⟩:∃ W1,W1=((w.alloc (.cells #[.int .i64 6,.int .i64 e.n,.string e.text,.slice (some ⟨kb,ko,none⟩) 3 c1] 52)).alloc (.cells #[.int .i64 0,.int .i64 0,.int .i64 0,.int .i64 0,.string ⟨#[]⟩,.slice none 0 0,.slice none 0 0] 127)):=⟨_,rfl⟩
 obtain ⟨s1,-,kb1,q1,r1⟩:=two_boxes w S (.cells #[.int .i64 6,.int .i64 e.n,.string e.text,.slice (some ⟨kb,ko,none⟩) 3 c1] 52) (.cells #[.int .i64 0,.int .i64 0,.int .i64 0,.int .i64 0,.string ⟨#[]⟩,.slice none 0 0,.slice none 0 0] 127) W1 hW1 rb
 obtain ⟨W2,hW2⟩:∃ W2,W2=W1.setCell ⟨rb,2,none⟩ (.int .i64 z1):=⟨_,rfl⟩
 obtain ⟨s2,m2,kb2,q2,r2,run2⟩:=ev_boxes w S (.cells #[.int .i64 6,.int .i64 e.n,.string e.text,.slice (some ⟨kb,ko,none⟩) 3 c1] 52) (.cells #[.int .i64 0,.int .i64 0,.int .i64 0,.int .i64 0,.string ⟨#[]⟩,.slice none 0 0,.slice none 0 0] 127) W1 W2 rb f nv _ hW1 (by rw [hW2,hz1]) hr hs.rb
 have y2:W1.cell? ⟨rb,2,none⟩=some (.int .i64 z):=by rw [hz,cell_of_block (hr.move (kb1.low hrl))]; rfl
 have y2f:=ubk (hr.move (kb1.low hrl)) 2
 have y3:=cbk (hr.move (kb1.low hrl)) 3 (.int .i64 0) rfl
 have hs2:Sv W2 (but (but S w.heap.size) (w.heap.size+1)) d rb _ P:=hs.move m2 (by rw [s2]; exact but_new (but_new (new_le hs.new (by omega)) (by omega)) (by omega)) (but_not (but_not hs.rb))
 have hen2:=hen.move m2
 have bx0:W2.cell? ⟨w.heap.size,0,none⟩=some (.int .i64 6):=(by rw [cell_of_block q2]; rfl)
 have bx1:W2.cell? ⟨w.heap.size,1,none⟩=some (.int .i64 e.n):=(by rw [cell_of_block q2]; rfl)
 have bx2:W2.cell? ⟨w.heap.size,2,none⟩=some (.string e.text):=(by rw [cell_of_block q2]; rfl)
 have bx3:W2.cell? ⟨w.heap.size,3,none⟩=some (.slice (some ⟨kb,ko,none⟩) 3 c1):=(by rw [cell_of_block q2]; rfl)
 have u0:W2.cell? ⟨w.heap.size+1,0,none⟩=some (.int .i64 0):=(by rw [cell_of_block r2]; rfl)
 have uf0:=ubk r2 0
 have u1:W2.cell? ⟨w.heap.size+1,1,none⟩=some (.int .i64 0):=(by rw [cell_of_block r2]; rfl)
 have uf1:=ubk r2 1
 have u2:W2.cell? ⟨w.heap.size+1,2,none⟩=some (.int .i64 0):=(by rw [cell_of_block r2]; rfl)
 have uf2:=ubk r2 2
 have u3:W2.cell? ⟨w.heap.size+1,3,none⟩=some (.int .i64 0):=(by rw [cell_of_block r2]; rfl)
 have uf3:=ubk r2 3
 have u4:W2.cell? ⟨w.heap.size+1,4,none⟩=some (.string ⟨#[]⟩):=(by rw [cell_of_block r2]; rfl)
 have uf4:=ubk r2 4
 have u5:W2.cell? ⟨w.heap.size+1,5,none⟩=some (.slice none 0 0):=(by rw [cell_of_block r2]; rfl)
 have uf5:=ubk r2 5
 have u6:W2.cell? ⟨w.heap.size+1,6,none⟩=some (.slice none 0 0):=(by rw [cell_of_block r2]; rfl)
 have uf6:=ubk r2 6
 have kw0:=kk0.move (m2.block kb hSb hlb)
 have xw0:=x0.move m2
 obtain ⟨p00,p01,p02,p03⟩:=kw0
 simp only [Nat.zero_mul,Nat.add_zero] at p00 p01 p02 p03
 have kw1:=kk1.move (m2.block kb hSb hlb)
 have xw1:=x1.move m2
 obtain ⟨p10,p11,p12,p13⟩:=kw1
 simp only [Nat.one_mul] at p10 p11 p12 p13
 have kw2:=kk2.move (m2.block kb hSb hlb)
 have xw2:=x2.move m2
 obtain ⟨p20,p21,p22,p23⟩:=kw2
 simp only [Nat.reduceMul] at p20 p21 p22 p23
 have hbk:but (but S w.heap.size) (w.heap.size+1) kb:=m2.sub kb hSb hlb
 have hlk:kb<W2.heap.size:=Nat.lt_of_lt_of_le hlb m2.size
 have hwant:=l03Want_of P nv bv rb d b hE (but (but S w.heap.size) (w.heap.size+1)) f k0 env (exV k0 ka0 kc0) (.slice a2 env.length c2) W2 0 0 0 hf run2 hs2 ⟨xw0,m,hen2⟩ (fun _=>hg.kid (i:=0) (by rw [hks']; rfl) (by unfold moreN; simp [hk]))
 rw [evC_zero] at hwant
 have gk1:Ok P k1 env:=hg.kid (i:=1) (by rw [hks']; rfl) (by unfold moreN; simp [hk])
 have hcall1:∀ (W4:World) (g:Nat) (c:Int) (f':Nat),f'≤f→RunAt W4 rb nv bv f' c→Sv W4 (but (but (but S w.heap.size) (w.heap.size+1)) g) d rb bv P→Mv W2 W4 (but (but S w.heap.size) (w.heap.size+1)) (but (but (but S w.heap.size) (w.heap.size+1)) g)→Calls Tryz.prog 88 #[.pointer (some ⟨rb,0,none⟩),exV k1 ka1 kc1,.slice a2 env.length c2] W4 fun r w'=>∃ v,r = .returned v∧Aft P (but (but (but S w.heap.size) (w.heap.size+1)) g) d rb nv bv W4 w' v (evC P b c f' k1 env) :=
  fun W4 g c f' hf' hr4 hs4 hm=>hE _ f' k1 env _ _ W4 c (Nat.le_trans hf' hf) hr4 hs4 ⟨xw1.move hm,m,hen2.move hm⟩ (fun _=>gk1)
 have HC1:=(show Hid _ from hcall1)
 have gk2:Ok P k2 env:=hg.kid (i:=2) (by rw [hks']; rfl) (by unfold moreN; simp [hk])
 have hcall2:∀ (W4:World) (g:Nat) (c:Int) (f':Nat),f'≤f→RunAt W4 rb nv bv f' c→Sv W4 (but (but (but S w.heap.size) (w.heap.size+1)) g) d rb bv P→Mv W2 W4 (but (but S w.heap.size) (w.heap.size+1)) (but (but (but S w.heap.size) (w.heap.size+1)) g)→Calls Tryz.prog 88 #[.pointer (some ⟨rb,0,none⟩),exV k2 ka2 kc2,.slice a2 env.length c2] W4 fun r w'=>∃ v,r = .returned v∧Aft P (but (but (but S w.heap.size) (w.heap.size+1)) g) d rb nv bv W4 w' v (evC P b c f' k2 env) :=
  fun W4 g c f' hf' hr4 hs4 hm=>hE _ f' k2 env _ _ W4 c (Nat.le_trans hf' hf) hr4 hs4 ⟨xw2.move hm,m,hen2.move hm⟩ (fun _=>gk2)
 have HC2:=(show Hid _ from hcall2)
 have HK1:=(show Hid _ from kk1.move (m2.block kb hSb hlb))
 have HK2:=(show Hid _ from kk2.move (m2.block kb hSb hlb))
 have HB:=(show Hid (_∧_) from ⟨hlk,(fun e=>hs2.rb (e ▸ hbk):kb≠rb)⟩)
 have HQ:=(show Hid (_∧_) from ⟨q2,r2⟩)
 have HS2:=(show Hid _ from hs2)
 have HKB:=(show Hid _ from kb2)
 have HW:=(show Hid (_∧True) from ⟨hwant,trivial⟩)
 clear hE hB hf hr hs hx hg hk hkd hen hz2 hz hz1 s1 kb1 q1 r1 s2 m2 kb2 q2 r2 run2 hs2 hen2 hln i1 i2 i3 hd hks hks' hkl hSb hlb hbk hlk e0 kk0 x0 xw0 e1 kk1 x1 xw1 e2 kk2 x2 xw2 hwant hcall1 hcall2 gk1 gk2
 go_enter Tryz.func88,Tryz.ntmps88
 go_upto_region 1 with fail
 rw [← hW1]
 clear hW1
 go_upto_region 7 with fail
 rw [← hW2]
 clear hW2 y2 y2f y3 hq0 hq1 hw
 go_wp2_with fail
 refine HW.out.1.mono ?_
 rintro r w3 ⟨v,rfl,haf⟩
 clear p00 p01 p02 p03 p10 p11 p12 p13 p20 p21 p22 p23 bx0 bx1 bx2 bx3 u0 u1 u2 u3 u4 u5 u6 uf0 uf1 uf2 uf3 uf4 uf5 uf6
 generalize hRW:wantK (ev P b f k0 env) 0 0=RW at haf
 obtain ⟨RW,rf⟩:=RW
 have hfn:=want_num hRW fun n f'=>if n=0 then ev P b f' k2 env else ev P b f' k1 env
 generalize hRR:(onNum (ev P b f k0 env) fun n f'=>if n=0 then ev P b f' k2 env else ev P b f' k1 env)=RR at hfn
 have HR:=(show Hid (_∧_) from ⟨hRR,want_fuel hRW⟩)
 clear hRW hRR
 rcases hfn with ⟨q,rfl,hfn⟩ | ⟨n,rfl,hfn⟩
 ·obtain ⟨k,n,x,y,t,b1,l1,q1,b2,l2,q2,rfl⟩:=haf.form
  have HF:=(show Hid (_∧_) from ⟨hfn,haf.vr.err_ne⟩)
  clear hfn
  go_upto_region 22 with fail
  obtain ⟨W4,hW4⟩:∃ W4,W4=w3.alloc (.cells #[.int .i64 k,.int .i64 n,.int .i64 x,.int .i64 y,.string t,.slice b1 l1 q1,.slice b2 l2 q2] 127):=⟨_,rfl⟩
  rw [← hW4]
  have H4:=(show Hid _ from after_want haf HS2.out hW4)
  clear hW4
  have HA:=(show Hid _ from haf)
  clear haf
  have q4:=(H4.out.2.2.2.2.2.1 _ (lh HQ.out.1) (by omega)).trans HQ.out.1
  have r4:=(H4.out.2.2.2.2.2.1 _ (lh HQ.out.2) (by omega)).trans HQ.out.2
  have n4:=H4.out.2.2.2.2.1
  have bx0:W4.cell? ⟨w.heap.size,0,none⟩=some (.int .i64 6):=(by rw [cell_of_block q4]; rfl)
  have bx1:W4.cell? ⟨w.heap.size,1,none⟩=some (.int .i64 e.n):=(by rw [cell_of_block q4]; rfl)
  have bx2:W4.cell? ⟨w.heap.size,2,none⟩=some (.string e.text):=(by rw [cell_of_block q4]; rfl)
  have bx3:W4.cell? ⟨w.heap.size,3,none⟩=some (.slice (some ⟨kb,ko,none⟩) 3 c1):=(by rw [cell_of_block q4]; rfl)
  have u0:W4.cell? ⟨w.heap.size+1,0,none⟩=some (.int .i64 0):=(by rw [cell_of_block r4]; rfl)
  have uf0:=ubk r4 0
  have u1:W4.cell? ⟨w.heap.size+1,1,none⟩=some (.int .i64 0):=(by rw [cell_of_block r4]; rfl)
  have uf1:=ubk r4 1
  have u2:W4.cell? ⟨w.heap.size+1,2,none⟩=some (.int .i64 0):=(by rw [cell_of_block r4]; rfl)
  have uf2:=ubk r4 2
  have u3:W4.cell? ⟨w.heap.size+1,3,none⟩=some (.int .i64 0):=(by rw [cell_of_block r4]; rfl)
  have uf3:=ubk r4 3
  have u4:W4.cell? ⟨w.heap.size+1,4,none⟩=some (.string ⟨#[]⟩):=(by rw [cell_of_block r4]; rfl)
  have uf4:=ubk r4 4
  have u5:W4.cell? ⟨w.heap.size+1,5,none⟩=some (.slice none 0 0):=(by rw [cell_of_block r4]; rfl)
  have uf5:=ubk r4 5
  have u6:W4.cell? ⟨w.heap.size+1,6,none⟩=some (.slice none 0 0):=(by rw [cell_of_block r4]; rfl)
  have uf6:=ubk r4 6
  have v0:W4.cell? ⟨w3.heap.size,0,none⟩=some (.int .i64 k):=(by rw [cell_of_block n4]; rfl)
  have v1:W4.cell? ⟨w3.heap.size,1,none⟩=some (.int .i64 n):=(by rw [cell_of_block n4]; rfl)
  have v2:W4.cell? ⟨w3.heap.size,2,none⟩=some (.int .i64 x):=(by rw [cell_of_block n4]; rfl)
  have v3:W4.cell? ⟨w3.heap.size,3,none⟩=some (.int .i64 y):=(by rw [cell_of_block n4]; rfl)
  have v4:W4.cell? ⟨w3.heap.size,4,none⟩=some (.string t):=(by rw [cell_of_block n4]; rfl)
  have v5:W4.cell? ⟨w3.heap.size,5,none⟩=some (.slice b1 l1 q1):=(by rw [cell_of_block n4]; rfl)
  have v6:W4.cell? ⟨w3.heap.size,6,none⟩=some (.slice b2 l2 q2):=(by rw [cell_of_block n4]; rfl)
  obtain ⟨p10,p11,p12,p13⟩:=HK1.out.move (H4.out.2.2.2.2.2.1 kb HB.out.1 HB.out.2)
  simp only [Nat.one_mul] at p10 p11 p12 p13
  obtain ⟨p20,p21,p22,p23⟩:=HK2.out.move (H4.out.2.2.2.2.2.1 kb HB.out.1 HB.out.2)
  simp only [Nat.reduceMul] at p20 p21 p22 p23
  clear q4 n4
  by_cases hn:n=0
  ·subst hn
   go_wp2_with fail
   refine (HC2.out W4 w3.heap.size _ _ HR.out.2 H4.out.2.2.2.1 H4.out.1 H4.out.2.1).mono ?_
   rintro r w5 ⟨v5,rfl,haf⟩
   obtain ⟨k',n',x',y',t',b1',l1',q1',b2',l2',q2',rfl⟩:=haf.form
   have n5:=haf.kb.heap r4 (by omega)
   clear u0 u1 u2 u3 u4 u5 u6 uf0 uf1 uf2 uf3 uf4 uf5 uf6
   have u0:w5.cell? ⟨w.heap.size+1,0,none⟩=some (.int .i64 0):=(by rw [cell_of_block n5]; rfl)
   have uf0:=ubk n5 0
   have u1:w5.cell? ⟨w.heap.size+1,1,none⟩=some (.int .i64 0):=(by rw [cell_of_block n5]; rfl)
   have uf1:=ubk n5 1
   have u2:w5.cell? ⟨w.heap.size+1,2,none⟩=some (.int .i64 0):=(by rw [cell_of_block n5]; rfl)
   have uf2:=ubk n5 2
   have u3:w5.cell? ⟨w.heap.size+1,3,none⟩=some (.int .i64 0):=(by rw [cell_of_block n5]; rfl)
   have uf3:=ubk n5 3
   have u4:w5.cell? ⟨w.heap.size+1,4,none⟩=some (.string ⟨#[]⟩):=(by rw [cell_of_block n5]; rfl)
   have uf4:=ubk n5 4
   have u5:w5.cell? ⟨w.heap.size+1,5,none⟩=some (.slice none 0 0):=(by rw [cell_of_block n5]; rfl)
   have uf5:=ubk n5 5
   have u6:w5.cell? ⟨w.heap.size+1,6,none⟩=some (.slice none 0 0):=(by rw [cell_of_block n5]; rfl)
   have uf6:=ubk n5 6
   have HS:=(show Hid _ from haf)
   clear haf n5 r4
   go_wp2_with fail
   refine bodyPost_ret (v:=.agg #[.int .i64 k',.int .i64 n',.int .i64 x',.int .i64 y',.string t',.slice b1' l1' q1',.slice b2' l2' q2']) (by simp [results,Tryz.results88,go_sem,u0,u1,u2,u3,u4,u5,u6]) rfl ?_
   refine ⟨_,rfl,?_⟩
   rw [HR.out.1,HF.out.1,← evC_err P b rf k2 env HF.out.2]
   exact aft_tail ((HKB.out.trans H4.out.2.2.1)) HS.out (fun b h=>h.1.1.1) (fun h=>h.1.2 rfl) (by omega) hrl (kb7 _ _ _ _ _ _ _ _ _)
  ·have hn2:decide (n=0)=false:=by simpa using hn
   have hn3:(n == 0)=false:=by simpa using hn
   have HN:=(show Hid _ from hn)
   clear hn
   go_wp2_with fail
   refine (HC1.out W4 w3.heap.size _ _ HR.out.2 H4.out.2.2.2.1 H4.out.1 H4.out.2.1).mono ?_
   rintro r w5 ⟨v5,rfl,haf⟩
   obtain ⟨k',n',x',y',t',b1',l1',q1',b2',l2',q2',rfl⟩:=haf.form
   have n5:=haf.kb.heap r4 (by omega)
   clear u0 u1 u2 u3 u4 u5 u6 uf0 uf1 uf2 uf3 uf4 uf5 uf6
   have u0:w5.cell? ⟨w.heap.size+1,0,none⟩=some (.int .i64 0):=(by rw [cell_of_block n5]; rfl)
   have uf0:=ubk n5 0
   have u1:w5.cell? ⟨w.heap.size+1,1,none⟩=some (.int .i64 0):=(by rw [cell_of_block n5]; rfl)
   have uf1:=ubk n5 1
   have u2:w5.cell? ⟨w.heap.size+1,2,none⟩=some (.int .i64 0):=(by rw [cell_of_block n5]; rfl)
   have uf2:=ubk n5 2
   have u3:w5.cell? ⟨w.heap.size+1,3,none⟩=some (.int .i64 0):=(by rw [cell_of_block n5]; rfl)
   have uf3:=ubk n5 3
   have u4:w5.cell? ⟨w.heap.size+1,4,none⟩=some (.string ⟨#[]⟩):=(by rw [cell_of_block n5]; rfl)
   have uf4:=ubk n5 4
   have u5:w5.cell? ⟨w.heap.size+1,5,none⟩=some (.slice none 0 0):=(by rw [cell_of_block n5]; rfl)
   have uf5:=ubk n5 5
   have u6:w5.cell? ⟨w.heap.size+1,6,none⟩=some (.slice none 0 0):=(by rw [cell_of_block n5]; rfl)
   have uf6:=ubk n5 6
   have HS:=(show Hid _ from haf)
   clear haf n5 r4
   go_wp2_with fail
   refine bodyPost_ret (v:=.agg #[.int .i64 k',.int .i64 n',.int .i64 x',.int .i64 y',.string t',.slice b1' l1' q1',.slice b2' l2' q2']) (by simp [results,Tryz.results88,go_sem,u0,u1,u2,u3,u4,u5,u6]) rfl ?_
   refine ⟨_,rfl,?_⟩
   rw [HR.out.1,HF.out.1,← evC_err P b rf k1 env HF.out.2]
   exact aft_tail ((HKB.out.trans H4.out.2.2.1)) HS.out (fun b h=>h.1.1.1) (fun h=>h.1.2 rfl) (by omega) hrl (kb7 _ _ _ _ _ _ _ _ _)
 ·obtain ⟨x,y,t,b1,l1,q1,b2,l2,q2,rfl⟩:=haf.vr.num_form
  have HF:=(show Hid (_∧True) from ⟨hfn,trivial⟩)
  clear hfn
  go_upto_region 22 with fail
  obtain ⟨W4,hW4⟩:∃ W4,W4=w3.alloc (.cells #[.int .i64 0,.int .i64 n,.int .i64 x,.int .i64 y,.string t,.slice b1 l1 q1,.slice b2 l2 q2] 127):=⟨_,rfl⟩
  rw [← hW4]
  have H4:=(show Hid _ from after_want haf HS2.out hW4)
  clear hW4
  have HA:=(show Hid _ from haf)
  clear haf
  have q4:=(H4.out.2.2.2.2.2.1 _ (lh HQ.out.1) (by omega)).trans HQ.out.1
  have r4:=(H4.out.2.2.2.2.2.1 _ (lh HQ.out.2) (by omega)).trans HQ.out.2
  have n4:=H4.out.2.2.2.2.1
  have bx0:W4.cell? ⟨w.heap.size,0,none⟩=some (.int .i64 6):=(by rw [cell_of_block q4]; rfl)
  have bx1:W4.cell? ⟨w.heap.size,1,none⟩=some (.int .i64 e.n):=(by rw [cell_of_block q4]; rfl)
  have bx2:W4.cell? ⟨w.heap.size,2,none⟩=some (.string e.text):=(by rw [cell_of_block q4]; rfl)
  have bx3:W4.cell? ⟨w.heap.size,3,none⟩=some (.slice (some ⟨kb,ko,none⟩) 3 c1):=(by rw [cell_of_block q4]; rfl)
  have u0:W4.cell? ⟨w.heap.size+1,0,none⟩=some (.int .i64 0):=(by rw [cell_of_block r4]; rfl)
  have uf0:=ubk r4 0
  have u1:W4.cell? ⟨w.heap.size+1,1,none⟩=some (.int .i64 0):=(by rw [cell_of_block r4]; rfl)
  have uf1:=ubk r4 1
  have u2:W4.cell? ⟨w.heap.size+1,2,none⟩=some (.int .i64 0):=(by rw [cell_of_block r4]; rfl)
  have uf2:=ubk r4 2
  have u3:W4.cell? ⟨w.heap.size+1,3,none⟩=some (.int .i64 0):=(by rw [cell_of_block r4]; rfl)
  have uf3:=ubk r4 3
  have u4:W4.cell? ⟨w.heap.size+1,4,none⟩=some (.string ⟨#[]⟩):=(by rw [cell_of_block r4]; rfl)
  have uf4:=ubk r4 4
  have u5:W4.cell? ⟨w.heap.size+1,5,none⟩=some (.slice none 0 0):=(by rw [cell_of_block r4]; rfl)
  have uf5:=ubk r4 5
  have u6:W4.cell? ⟨w.heap.size+1,6,none⟩=some (.slice none 0 0):=(by rw [cell_of_block r4]; rfl)
  have uf6:=ubk r4 6
  have v0:W4.cell? ⟨w3.heap.size,0,none⟩=some (.int .i64 0):=(by rw [cell_of_block n4]; rfl)
  have v1:W4.cell? ⟨w3.heap.size,1,none⟩=some (.int .i64 n):=(by rw [cell_of_block n4]; rfl)
  have v2:W4.cell? ⟨w3.heap.size,2,none⟩=some (.int .i64 x):=(by rw [cell_of_block n4]; rfl)
  have v3:W4.cell? ⟨w3.heap.size,3,none⟩=some (.int .i64 y):=(by rw [cell_of_block n4]; rfl)
  have v4:W4.cell? ⟨w3.heap.size,4,none⟩=some (.string t):=(by rw [cell_of_block n4]; rfl)
  have v5:W4.cell? ⟨w3.heap.size,5,none⟩=some (.slice b1 l1 q1):=(by rw [cell_of_block n4]; rfl)
  have v6:W4.cell? ⟨w3.heap.size,6,none⟩=some (.slice b2 l2 q2):=(by rw [cell_of_block n4]; rfl)
  obtain ⟨p10,p11,p12,p13⟩:=HK1.out.move (H4.out.2.2.2.2.2.1 kb HB.out.1 HB.out.2)
  simp only [Nat.one_mul] at p10 p11 p12 p13
  obtain ⟨p20,p21,p22,p23⟩:=HK2.out.move (H4.out.2.2.2.2.2.1 kb HB.out.1 HB.out.2)
  simp only [Nat.reduceMul] at p20 p21 p22 p23
  clear q4 n4
  by_cases hn:n=0
  ·subst hn
   go_wp2_with fail
   refine (HC2.out W4 w3.heap.size _ _ HR.out.2 H4.out.2.2.2.1 H4.out.1 H4.out.2.1).mono ?_
   rintro r w5 ⟨v5,rfl,haf⟩
   obtain ⟨k',n',x',y',t',b1',l1',q1',b2',l2',q2',rfl⟩:=haf.form
   have n5:=haf.kb.heap r4 (by omega)
   clear u0 u1 u2 u3 u4 u5 u6 uf0 uf1 uf2 uf3 uf4 uf5 uf6
   have u0:w5.cell? ⟨w.heap.size+1,0,none⟩=some (.int .i64 0):=(by rw [cell_of_block n5]; rfl)
   have uf0:=ubk n5 0
   have u1:w5.cell? ⟨w.heap.size+1,1,none⟩=some (.int .i64 0):=(by rw [cell_of_block n5]; rfl)
   have uf1:=ubk n5 1
   have u2:w5.cell? ⟨w.heap.size+1,2,none⟩=some (.int .i64 0):=(by rw [cell_of_block n5]; rfl)
   have uf2:=ubk n5 2
   have u3:w5.cell? ⟨w.heap.size+1,3,none⟩=some (.int .i64 0):=(by rw [cell_of_block n5]; rfl)
   have uf3:=ubk n5 3
   have u4:w5.cell? ⟨w.heap.size+1,4,none⟩=some (.string ⟨#[]⟩):=(by rw [cell_of_block n5]; rfl)
   have uf4:=ubk n5 4
   have u5:w5.cell? ⟨w.heap.size+1,5,none⟩=some (.slice none 0 0):=(by rw [cell_of_block n5]; rfl)
   have uf5:=ubk n5 5
   have u6:w5.cell? ⟨w.heap.size+1,6,none⟩=some (.slice none 0 0):=(by rw [cell_of_block n5]; rfl)
   have uf6:=ubk n5 6
   have HS:=(show Hid _ from haf)
   clear haf n5 r4
   go_wp2_with fail
   refine bodyPost_ret (v:=.agg #[.int .i64 k',.int .i64 n',.int .i64 x',.int .i64 y',.string t',.slice b1' l1' q1',.slice b2' l2' q2']) (by simp [results,Tryz.results88,go_sem,u0,u1,u2,u3,u4,u5,u6]) rfl ?_
   refine ⟨_,rfl,?_⟩
   rw [HR.out.1,HF.out.1,if_pos True.intro,← evC_zero P b rf k2 env]
   exact aft_tail ((HKB.out.trans H4.out.2.2.1)) HS.out (fun b h=>h.1.1.1) (fun h=>h.1.2 rfl) (by omega) hrl (kb7 _ _ _ _ _ _ _ _ _)
  ·have hn2:decide (n=0)=false:=by simpa using hn
   have hn3:(n == 0)=false:=by simpa using hn
   have HN:=(show Hid _ from hn)
   clear hn
   go_wp2_with fail
   refine (HC1.out W4 w3.heap.size _ _ HR.out.2 H4.out.2.2.2.1 H4.out.1 H4.out.2.1).mono ?_
   rintro r w5 ⟨v5,rfl,haf⟩
   obtain ⟨k',n',x',y',t',b1',l1',q1',b2',l2',q2',rfl⟩:=haf.form
   have n5:=haf.kb.heap r4 (by omega)
   clear u0 u1 u2 u3 u4 u5 u6 uf0 uf1 uf2 uf3 uf4 uf5 uf6
   have u0:w5.cell? ⟨w.heap.size+1,0,none⟩=some (.int .i64 0):=(by rw [cell_of_block n5]; rfl)
   have uf0:=ubk n5 0
   have u1:w5.cell? ⟨w.heap.size+1,1,none⟩=some (.int .i64 0):=(by rw [cell_of_block n5]; rfl)
   have uf1:=ubk n5 1
   have u2:w5.cell? ⟨w.heap.size+1,2,none⟩=some (.int .i64 0):=(by rw [cell_of_block n5]; rfl)
   have uf2:=ubk n5 2
   have u3:w5.cell? ⟨w.heap.size+1,3,none⟩=some (.int .i64 0):=(by rw [cell_of_block n5]; rfl)
   have uf3:=ubk n5 3
   have u4:w5.cell? ⟨w.heap.size+1,4,none⟩=some (.string ⟨#[]⟩):=(by rw [cell_of_block n5]; rfl)
   have uf4:=ubk n5 4
   have u5:w5.cell? ⟨w.heap.size+1,5,none⟩=some (.slice none 0 0):=(by rw [cell_of_block n5]; rfl)
   have uf5:=ubk n5 5
   have u6:w5.cell? ⟨w.heap.size+1,6,none⟩=some (.slice none 0 0):=(by rw [cell_of_block n5]; rfl)
   have uf6:=ubk n5 6
   have HS:=(show Hid _ from haf)
   clear haf n5 r4
   go_wp2_with fail
   refine bodyPost_ret (v:=.agg #[.int .i64 k',.int .i64 n',.int .i64 x',.int .i64 y',.string t',.slice b1' l1' q1',.slice b2' l2' q2']) (by simp [results,Tryz.results88,go_sem,u0,u1,u2,u3,u4,u5,u6]) rfl ?_
   refine ⟨_,rfl,?_⟩
   rw [HR.out.1,HF.out.1,if_neg HN.out,← evC_zero P b rf k1 env]
   exact aft_tail ((HKB.out.trans H4.out.2.2.1)) HS.out (fun b h=>h.1.1.1) (fun h=>h.1.2 rfl) (by omega) hrl (kb7 _ _ _ _ _ _ _ _ _)
end Go.Proofs.YtljdgmfcgkimoaaGreatDoor

namespace Go.Proofs.YtljdgmfcgkimoaaGreatDoor
open Go.RowKit Go.Joins
set_option maxRecDepth 100000
set_option maxHeartbeats 3200000 in
theorem l03Eval_7 (P:List Ex) (nv bv:Value) (rb d b:Nat) (hB:b<1000000) (S:Nat→Prop) (f:Nat) (e:Ex) (env:List Clo) (xv envv:Value) (w:World)
  (hf:f≤b) (hr:RunAt w rb nv bv (f+1) 0) (hs:Sv w S d rb bv P) (hx:Cx w S d e env xv envv) (hg:Ok P e env) (hk:e.kind=7) :
  Calls Tryz.prog 88 #[.pointer (some ⟨rb,0,none⟩),xv,envv] w fun r w'=>∃ v,r = .returned v∧Aft P S d rb nv bv w w' v ((.ok .nil,f)):=by
 have hrl:rb<w.heap.size:=(Array.getElem?_eq_some_iff.1 hr).1
 have hd:0<d:=hs.bodies.pos
 have hx0:=hx
 obtain ⟨⟨kv,rfl,i1,i2,i3,hkd⟩,m,hen⟩:=hx0
 obtain ⟨a1,c1,rfl⟩:=hkd.form
 obtain ⟨a2,c2,rfl,hz2⟩:=hen.form
 have hln:env.length≤90:=hg.len
 rw [hk]
 obtain ⟨z,hz⟩:∃ z:Int,z=((f+1:Nat):Int):=⟨_,rfl⟩
 obtain ⟨z1,hz1⟩:∃ z1:Int,z1=(f:Int):=⟨_,rfl⟩
 have hw:IntKind.i64.wrap (z - 1)=z1:=by rw [IntKind.wrap_i64]; omega
 have hq0:decide (z=0)=false:=by simp; omega
 have hq1:(z == 0)=false:=by simp; omega
 obtain ⟨W1,hW1⟩:∃ W1,W1=((w.alloc (.cells #[.int .i64 7,.int .i64 e.n,.string e.text,.slice a1 e.kids.length c1] 52)).alloc (.cells #[.int .i64 0,.int .i64 0,.int .i64 0,.int .i64 0,.string ⟨#[]⟩,.slice none 0 0,.slice none 0 0] 127)):=⟨_,rfl⟩
 obtain ⟨s1,-,kb1,q1,r1⟩:=two_boxes w S (.cells #[.int .i64 7,.int .i64 e.n,.string e.text,.slice a1 e.kids.length c1] 52) (.cells #[.int .i64 0,.int .i64 0,.int .i64 0,.int .i64 0,.string ⟨#[]⟩,.slice none 0 0,.slice none 0 0] 127) W1 hW1 rb
 obtain ⟨W2,hW2⟩:∃ W2,W2=W1.setCell ⟨rb,2,none⟩ (.int .i64 z1):=⟨_,rfl⟩
 obtain ⟨s2,m2,kb2,q2,r2,run2⟩:=ev_boxes w S (.cells #[.int .i64 7,.int .i64 e.n,.string e.text,.slice a1 e.kids.length c1] 52) (.cells #[.int .i64 0,.int .i64 0,.int .i64 0,.int .i64 0,.string ⟨#[]⟩,.slice none 0 0,.slice none 0 0] 127) W1 W2 rb f nv _ hW1 (by rw [hW2,hz1]) hr hs.rb
 have y2:W1.cell? ⟨rb,2,none⟩=some (.int .i64 z):=by rw [hz,cell_of_block (hr.move (kb1.low hrl))]; rfl
 have y2f:=ubk (hr.move (kb1.low hrl)) 2
 have y3:=cbk (hr.move (kb1.low hrl)) 3 (.int .i64 0) rfl
 have hs2:Sv W2 (but (but S w.heap.size) (w.heap.size+1)) d rb _ P:=hs.move m2 (by rw [s2]; exact but_new (but_new (new_le hs.new (by omega)) (by omega)) (by omega)) (but_not (but_not hs.rb))
 have hen2:=hen.move m2
 have bx0:W2.cell? ⟨w.heap.size,0,none⟩=some (.int .i64 7):=(by rw [cell_of_block q2]; rfl)
 have bx1:W2.cell? ⟨w.heap.size,1,none⟩=some (.int .i64 e.n):=(by rw [cell_of_block q2]; rfl)
 have bx2:W2.cell? ⟨w.heap.size,2,none⟩=some (.string e.text):=(by rw [cell_of_block q2]; rfl)
 have bx3:W2.cell? ⟨w.heap.size,3,none⟩=some (.slice a1 e.kids.length c1):=(by rw [cell_of_block q2]; rfl)
 have u0:W2.cell? ⟨w.heap.size+1,0,none⟩=some (.int .i64 0):=(by rw [cell_of_block r2]; rfl)
 have uf0:=ubk r2 0
 have u1:W2.cell? ⟨w.heap.size+1,1,none⟩=some (.int .i64 0):=(by rw [cell_of_block r2]; rfl)
 have uf1:=ubk r2 1
 have u2:W2.cell? ⟨w.heap.size+1,2,none⟩=some (.int .i64 0):=(by rw [cell_of_block r2]; rfl)
 have uf2:=ubk r2 2
 have u3:W2.cell? ⟨w.heap.size+1,3,none⟩=some (.int .i64 0):=(by rw [cell_of_block r2]; rfl)
 have uf3:=ubk r2 3
 have u4:W2.cell? ⟨w.heap.size+1,4,none⟩=some (.string ⟨#[]⟩):=(by rw [cell_of_block r2]; rfl)
 have uf4:=ubk r2 4
 have u5:W2.cell? ⟨w.heap.size+1,5,none⟩=some (.slice none 0 0):=(by rw [cell_of_block r2]; rfl)
 have uf5:=ubk r2 5
 have u6:W2.cell? ⟨w.heap.size+1,6,none⟩=some (.slice none 0 0):=(by rw [cell_of_block r2]; rfl)
 have uf6:=ubk r2 6
 have HK:=(show Hid (_∧_∧_) from ⟨kb2,run2,(⟨1,VAt.nil0 hd,trivial⟩:VR W2 (but (but S w.heap.size) (w.heap.size+1)) d P _ (.ok .nil))⟩)
 clear hB hf hr hs hx hg hk hkd hen hz2 hz hz1 s1 kb1 q1 r1 s2 m2 kb2 q2 r2 run2 hs2 hen2 hln i1 i2 i3 hd
 go_enter Tryz.func88,Tryz.ntmps88
 go_upto_region 1 with fail
 rw [← hW1]
 clear hW1
 go_upto_region 7 with fail
 rw [← hW2]
 clear hW2 y2 y2f y3 hq0 hq1 hw
 go_wp2_with fail
 refine bodyPost_ret (v:=.agg #[.int .i64 1,.int .i64 0,.int .i64 0,.int .i64 0,.string ⟨#[]⟩,.slice none 0 0,.slice none 0 0]) (by simp [results,Tryz.results88,go_sem,u0,u1,u2,u3,u4,u5,u6]) rfl ?_
 exact ⟨_,rfl,aft_end HK.out.1 HK.out.2.2 (fun b h=>h.1.1) (fun h=>h.2 rfl) HK.out.2.1 (by omega) hrl (kb7 _ _ _ _ _ _ _ _ _)⟩
end Go.Proofs.YtljdgmfcgkimoaaGreatDoor
