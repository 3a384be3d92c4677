/-
  Proofs.
-/
import Derived.Test.YtljdgmfcgkimoaaGreatDoorJ1
import Derived.Test.YtljdgmfcgkimoaaGreatDoorJ29
import Derived.BigQuiet
import Derived.Deep.QuietTactic
import Derived.Deep.CutBlock
import Derived.Deep.RegionHeld3
import Derived.Test.YtljdgmfcgkimoaaGreatDoorJ31
namespace Go.Proofs.YtljdgmfcgkimoaaGreatDoor
open Go.RowKit Go.Joins
set_option maxRecDepth 100000
set_option maxHeartbeats 3200000 in
theorem l03Eval_9 (P:List Ex) (nv bv:Value) (rb d b:Nat) (hE:EvS P nv bv rb d b) (hB:b<1000000) (S:Nat→Prop) (f:Nat) (e:Ex) (env:List Clo) (xv envv:Value) (w:World)
  (hf:f≤b) (hr:RunAt w rb nv bv (f+1) 0) (hs:Sv w S d rb bv P) (hx:Cx w S d e env xv envv) (hg:Ok P e env) (hk:e.kind=9) :
  Calls Tryz.prog 88 #[.pointer (some ⟨rb,0,none⟩),xv,envv] w fun r w'=>∃ v,r = .returned v∧Aft P S d rb nv bv w w' v (onList (ev P b f (kidN e 0) env) (fun f'=>ev P b f' (kidN e 1) env) (fun h t f'=>ev P b f' (kidN e 2) (env ++ [h,t]))):=by
 have hrl:rb<w.heap.size:=(Array.getElem?_eq_some_iff.1 hr).1
 have hd:0<d:=hs.bodies.pos
 have hx0:=hx
 obtain ⟨⟨kv,rfl,i1,i2,i3,hkd⟩,m,hen⟩:=hx0
 obtain ⟨a1,c1,rfl⟩:=hkd.form
 obtain ⟨a2,c2,rfl,hz2⟩:=hen.form
 have hln:env.length≤90:=hg.len
 rw [hk]
 obtain ⟨k0,k1,k2,hks⟩:∃ k0 k1 k2,e.kids=[k0,k1,k2]:=by obtain ⟨⟨deep,h⟩,-⟩:=hg; exact kids3 (by rw [kids_of h,hk]; rfl)
 have e0:kidN e 0=k0:=by unfold kidN; rw [hks]; rfl
 have e1:kidN e 1=k1:=by unfold kidN; rw [hks]; rfl
 have e2:kidN e 2=k2:=by unfold kidN; rw [hks]; rfl
 try rw [e0]
 try rw [e1]
 try rw [e2]
 have hkl:e.kids.length=3:=by rw [hks]; rfl
 rw [hkl]
 have hks':=hks
 rw [hks] at hkd
 obtain ⟨kb,ko,rfl⟩:=kid_row hkd (by simp)
 obtain ⟨ka0,kc0,kk0,hSb,hlb,x0⟩:=kid_at hkd (i:=0) (k:=k0) rfl
 obtain ⟨ka1,kc1,kk1,-,-,x1⟩:=kid_at hkd (i:=1) (k:=k1) rfl
 obtain ⟨ka2,kc2,kk2,-,-,x2⟩:=kid_at hkd (i:=2) (k:=k2) rfl
 obtain ⟨z,hz⟩:∃ z:Int,z=((f+1:Nat):Int):=⟨_,rfl⟩
 obtain ⟨z1,hz1⟩:∃ z1:Int,z1=(f:Int):=⟨_,rfl⟩
 have hw:IntKind.i64.wrap (z - 1)=z1:=by rw [IntKind.wrap_i64]; omega
 have hq0:decide (z=0)=false:=by simp; omega
 have hq1:(z == 0)=false:=by simp; omega
 obtain ⟨W1,hW1⟩:∃ W1,W1=((w.alloc (.cells #[.int .i64 9,.int .i64 e.n,.string e.text,.slice (some ⟨kb,ko,none⟩) 3 c1] 52)).alloc (.cells #[.int .i64 0,.int .i64 0,.int .i64 0,.int .i64 0,.string ⟨#[]⟩,.slice none 0 0,.slice none 0 0] 127)):=⟨_,rfl⟩
 obtain ⟨s1,-,kb1,q1,r1⟩:=two_boxes w S (.cells #[.int .i64 9,.int .i64 e.n,.string e.text,.slice (some ⟨kb,ko,none⟩) 3 c1] 52) (.cells #[.int .i64 0,.int .i64 0,.int .i64 0,.int .i64 0,.string ⟨#[]⟩,.slice none 0 0,.slice none 0 0] 127) W1 hW1 rb
 obtain ⟨W2,hW2⟩:∃ W2,W2=W1.setCell ⟨rb,2,none⟩ (.int .i64 z1):=⟨_,rfl⟩
 obtain ⟨s2,m2,kb2,q2,r2,run2⟩:=ev_boxes w S (.cells #[.int .i64 9,.int .i64 e.n,.string e.text,.slice (some ⟨kb,ko,none⟩) 3 c1] 52) (.cells #[.int .i64 0,.int .i64 0,.int .i64 0,.int .i64 0,.string ⟨#[]⟩,.slice none 0 0,.slice none 0 0] 127) W1 W2 rb f nv _ hW1 (by rw [hW2,hz1]) hr hs.rb
 have y2:W1.cell? ⟨rb,2,none⟩=some (.int .i64 z):=by rw [hz,cell_of_block (hr.move (kb1.low hrl))]; rfl
 have y2f:=ubk (hr.move (kb1.low hrl)) 2
 have y3:=cbk (hr.move (kb1.low hrl)) 3 (.int .i64 0) rfl
 have hs2:Sv W2 (but (but S w.heap.size) (w.heap.size+1)) d rb _ P:=hs.move m2 (by rw [s2]; exact but_new (but_new (new_le hs.new (by omega)) (by omega)) (by omega)) (but_not (but_not hs.rb))
 have hen2:=hen.move m2
 have bx0:W2.cell? ⟨w.heap.size,0,none⟩=some (.int .i64 9):=(by rw [cell_of_block q2]; rfl)
 have bx1:W2.cell? ⟨w.heap.size,1,none⟩=some (.int .i64 e.n):=(by rw [cell_of_block q2]; rfl)
 have bx2:W2.cell? ⟨w.heap.size,2,none⟩=some (.string e.text):=(by rw [cell_of_block q2]; rfl)
 have bx3:W2.cell? ⟨w.heap.size,3,none⟩=some (.slice (some ⟨kb,ko,none⟩) 3 c1):=(by rw [cell_of_block q2]; rfl)
 have u0:W2.cell? ⟨w.heap.size+1,0,none⟩=some (.int .i64 0):=(by rw [cell_of_block r2]; rfl)
 have uf0:=ubk r2 0
 have u1:W2.cell? ⟨w.heap.size+1,1,none⟩=some (.int .i64 0):=(by rw [cell_of_block r2]; rfl)
 have uf1:=ubk r2 1
 have u2:W2.cell? ⟨w.heap.size+1,2,none⟩=some (.int .i64 0):=(by rw [cell_of_block r2]; rfl)
 have uf2:=ubk r2 2
 have u3:W2.cell? ⟨w.heap.size+1,3,none⟩=some (.int .i64 0):=(by rw [cell_of_block r2]; rfl)
 have uf3:=ubk r2 3
 have u4:W2.cell? ⟨w.heap.size+1,4,none⟩=some (.string ⟨#[]⟩):=(by rw [cell_of_block r2]; rfl)
 have uf4:=ubk r2 4
 have u5:W2.cell? ⟨w.heap.size+1,5,none⟩=some (.slice none 0 0):=(by rw [cell_of_block r2]; rfl)
 have uf5:=ubk r2 5
 have u6:W2.cell? ⟨w.heap.size+1,6,none⟩=some (.slice none 0 0):=(by rw [cell_of_block r2]; rfl)
 have uf6:=ubk r2 6
 have kw0:=kk0.move (m2.block kb hSb hlb)
 have xw0:=x0.move m2
 obtain ⟨p00,p01,p02,p03⟩:=kw0
 simp only [Nat.zero_mul,Nat.add_zero] at p00 p01 p02 p03
 have kw1:=kk1.move (m2.block kb hSb hlb)
 have xw1:=x1.move m2
 obtain ⟨p10,p11,p12,p13⟩:=kw1
 simp only [Nat.one_mul] at p10 p11 p12 p13
 have kw2:=kk2.move (m2.block kb hSb hlb)
 have xw2:=x2.move m2
 obtain ⟨p20,p21,p22,p23⟩:=kw2
 simp only [Nat.reduceMul] at p20 p21 p22 p23
 have hbk:but (but S w.heap.size) (w.heap.size+1) kb:=m2.sub kb hSb hlb
 have hlk:kb<W2.heap.size:=Nat.lt_of_lt_of_le hlb m2.size
 have hwant:=l03Want_of P nv bv rb d b hE (but (but S w.heap.size) (w.heap.size+1)) f k0 env (exV k0 ka0 kc0) (.slice a2 env.length c2) W2 0 1 2 hf run2 hs2 ⟨xw0,m,hen2⟩ (fun _=>hg.kid (i:=0) (by rw [hks']; rfl) (by unfold moreN; simp [hk]))
 rw [evC_zero] at hwant
 have gk1:Ok P k1 env:=hg.kid (i:=1) (by rw [hks']; rfl) (by unfold moreN; simp [hk])
 have hcall1:∀ (W4:World) (g:Nat) (c:Int) (f':Nat),f'≤f→RunAt W4 rb nv bv f' c→Sv W4 (but (but (but S w.heap.size) (w.heap.size+1)) g) d rb bv P→Mv W2 W4 (but (but S w.heap.size) (w.heap.size+1)) (but (but (but S w.heap.size) (w.heap.size+1)) g)→Calls Tryz.prog 88 #[.pointer (some ⟨rb,0,none⟩),exV k1 ka1 kc1,.slice a2 env.length c2] W4 fun r w'=>∃ v,r = .returned v∧Aft P (but (but (but S w.heap.size) (w.heap.size+1)) g) d rb nv bv W4 w' v (evC P b c f' k1 env) :=
  fun W4 g c f' hf' hr4 hs4 hm=>hE _ f' k1 env _ _ W4 c (Nat.le_trans hf' hf) hr4 hs4 ⟨xw1.move hm,m,hen2.move hm⟩ (fun _=>gk1)
 have HC1:=(show Hid _ from hcall1)
 have HK1:=(show Hid _ from kk1.move (m2.block kb hSb hlb))
 have HK2:=(show Hid _ from kk2.move (m2.block kb hSb hlb))
 have gk2:∀ h t:Clo,h.good (P.length:Int)→t.good (P.length:Int)→Ok P k2 (env ++ [h,t]):=fun h t g1 g2=>hg.kidm (i:=2) (by rw [hks']; rfl) (by unfold moreN; simp [hk]) (by rw [goodL_iff]; intro c hc; simp at hc; rcases hc with rfl | rfl <;> assumption)
 have HG2:=(show Hid _ from gk2)
 have HB:=(show Hid (_∧_) from ⟨hlk,(fun e=>hs2.rb (e ▸ hbk):kb≠rb)⟩)
 have HBG:=(show Hid _ from (hbk.2:kb≠w.heap.size+1))
 have HQ:=(show Hid (_∧_) from ⟨q2,r2⟩)
 have HS2:=(show Hid _ from hs2)
 have HKB:=(show Hid _ from kb2)
 have HEN:=(show Hid _ from hen2)
 have HLN:=(show Hid _ from hln)
 have HEV:=(show Hid (_∧_∧_) from ⟨hE,hf,xw2⟩)
 have HW:=(show Hid (_∧True) from ⟨hwant,trivial⟩)
 clear hE hB hf hr hs hx hg hk hkd hen hz2 hz hz1 s1 kb1 q1 r1 s2 m2 kb2 q2 r2 run2 hs2 hen2 hln i1 i2 i3 hd hks hks' hkl hSb hlb hbk hlk e0 kk0 x0 xw0 e1 kk1 x1 xw1 e2 kk2 x2 xw2 hwant hcall1 gk1 gk2
 go_enter Tryz.func88,Tryz.ntmps88
 go_upto_region 1 with fail
 rw [← hW1]
 clear hW1
 go_upto_region 7 with fail
 rw [← hW2]
 clear hW2 y2 y2f y3 hq0 hq1 hw
 go_wp2_with fail
 refine HW.out.1.mono ?_
 rintro r w3 ⟨v,rfl,haf⟩
 clear p00 p01 p02 p03 p10 p11 p12 p13 p20 p21 p22 p23 bx0 bx1 bx2 bx3 u0 u1 u2 u3 u4 u5 u6 uf0 uf1 uf2 uf3 uf4 uf5 uf6
 generalize hRW:wantK (ev P b f k0 env) 1 2=RW at haf
 obtain ⟨RW,rf⟩:=RW
 have hfn:=want_list hRW (fun f'=>ev P b f' k1 env) (fun h t f'=>ev P b f' k2 (env ++ [h,t]))
 generalize hRR:onList (ev P b f k0 env) (fun f'=>ev P b f' k1 env) (fun h t f'=>ev P b f' k2 (env ++ [h,t]))=RR at hfn
 have HR:=(show Hid (_∧_) from ⟨hRR,want_fuel hRW⟩)
 clear hRW hRR
 rcases hfn with ⟨q,rfl,hfn⟩ | ⟨rfl,hfn⟩ | ⟨ch,ct,rfl,hfn⟩
 ·obtain ⟨m9,k,n,e3,en,hsh,hl3,-⟩:=haf.vr.junk
  obtain ⟨b1,q1,b2,q2,rfl,hk3,he3,hz3⟩:=hsh.form
  have HF:=(show Hid (_∧_) from ⟨hfn,haf.vr.err_ne⟩)
  have HJ0:=(show Hid (_∧_) from ⟨hl3,he3⟩)
  clear hfn hsh hl3 hk3 he3 hz3
  by_cases hk1:k=1
  ·subst hk1
   go_upto_region 31 with fail
   obtain ⟨W4,hW4⟩:∃ W4,W4=w3.alloc (.cells #[.int .i64 1,.int .i64 n,.int .i64 e3.kind,.int .i64 e3.n,.string e3.text,.slice b1 e3.kids.length q1,.slice b2 en.length q2] 127):=⟨_,rfl⟩
   rw [← hW4]
   have H4:=(show Hid _ from after_want haf HS2.out hW4)
   clear hW4
   have HA:=(show Hid _ from haf)
   clear haf
   have q4:=(H4.out.2.2.2.2.2.1 _ (lh HQ.out.1) (by omega)).trans HQ.out.1
   have r4:=(H4.out.2.2.2.2.2.1 _ (lh HQ.out.2) (by omega)).trans HQ.out.2
   have n4:=H4.out.2.2.2.2.1
   have bx0:W4.cell? ⟨w.heap.size,0,none⟩=some (.int .i64 9):=(by rw [cell_of_block q4]; rfl)
   have bx1:W4.cell? ⟨w.heap.size,1,none⟩=some (.int .i64 e.n):=(by rw [cell_of_block q4]; rfl)
   have bx2:W4.cell? ⟨w.heap.size,2,none⟩=some (.string e.text):=(by rw [cell_of_block q4]; rfl)
   have bx3:W4.cell? ⟨w.heap.size,3,none⟩=some (.slice (some ⟨kb,ko,none⟩) 3 c1):=(by rw [cell_of_block q4]; rfl)
   have u0:W4.cell? ⟨w.heap.size+1,0,none⟩=some (.int .i64 0):=(by rw [cell_of_block r4]; rfl)
   have uf0:=ubk r4 0
   have u1:W4.cell? ⟨w.heap.size+1,1,none⟩=some (.int .i64 0):=(by rw [cell_of_block r4]; rfl)
   have uf1:=ubk r4 1
   have u2:W4.cell? ⟨w.heap.size+1,2,none⟩=some (.int .i64 0):=(by rw [cell_of_block r4]; rfl)
   have uf2:=ubk r4 2
   have u3:W4.cell? ⟨w.heap.size+1,3,none⟩=some (.int .i64 0):=(by rw [cell_of_block r4]; rfl)
   have uf3:=ubk r4 3
   have u4:W4.cell? ⟨w.heap.size+1,4,none⟩=some (.string ⟨#[]⟩):=(by rw [cell_of_block r4]; rfl)
   have uf4:=ubk r4 4
   have u5:W4.cell? ⟨w.heap.size+1,5,none⟩=some (.slice none 0 0):=(by rw [cell_of_block r4]; rfl)
   have uf5:=ubk r4 5
   have u6:W4.cell? ⟨w.heap.size+1,6,none⟩=some (.slice none 0 0):=(by rw [cell_of_block r4]; rfl)
   have uf6:=ubk r4 6
   have v0:W4.cell? ⟨w3.heap.size,0,none⟩=some (.int .i64 1):=(by rw [cell_of_block n4]; rfl)
   have v1:W4.cell? ⟨w3.heap.size,1,none⟩=some (.int .i64 n):=(by rw [cell_of_block n4]; rfl)
   have v2:W4.cell? ⟨w3.heap.size,2,none⟩=some (.int .i64 e3.kind):=(by rw [cell_of_block n4]; rfl)
   have v3:W4.cell? ⟨w3.heap.size,3,none⟩=some (.int .i64 e3.n):=(by rw [cell_of_block n4]; rfl)
   have v4:W4.cell? ⟨w3.heap.size,4,none⟩=some (.string e3.text):=(by rw [cell_of_block n4]; rfl)
   have v5:W4.cell? ⟨w3.heap.size,5,none⟩=some (.slice b1 e3.kids.length q1):=(by rw [cell_of_block n4]; rfl)
   have v6:W4.cell? ⟨w3.heap.size,6,none⟩=some (.slice b2 en.length q2):=(by rw [cell_of_block n4]; rfl)
   obtain ⟨p10,p11,p12,p13⟩:=HK1.out.move (H4.out.2.2.2.2.2.1 kb HB.out.1 HB.out.2)
   simp only [Nat.one_mul] at p10 p11 p12 p13
   obtain ⟨p20,p21,p22,p23⟩:=HK2.out.move (H4.out.2.2.2.2.2.1 kb HB.out.1 HB.out.2)
   simp only [Nat.reduceMul] at p20 p21 p22 p23
   clear q4 n4
   go_wp2_with fail
   refine (HC1.out W4 w3.heap.size _ _ HR.out.2 H4.out.2.2.2.1 H4.out.1 H4.out.2.1).mono ?_
   rintro r w5 ⟨v5,rfl,haf⟩
   obtain ⟨k',n',x',y',t',b1',l1',q1',b2',l2',q2',rfl⟩:=haf.form
   have n5:=haf.kb.heap r4 (by omega)
   clear u0 u1 u2 u3 u4 u5 u6 uf0 uf1 uf2 uf3 uf4 uf5 uf6
   have u0:w5.cell? ⟨w.heap.size+1,0,none⟩=some (.int .i64 0):=(by rw [cell_of_block n5]; rfl)
   have uf0:=ubk n5 0
   have u1:w5.cell? ⟨w.heap.size+1,1,none⟩=some (.int .i64 0):=(by rw [cell_of_block n5]; rfl)
   have uf1:=ubk n5 1
   have u2:w5.cell? ⟨w.heap.size+1,2,none⟩=some (.int .i64 0):=(by rw [cell_of_block n5]; rfl)
   have uf2:=ubk n5 2
   have u3:w5.cell? ⟨w.heap.size+1,3,none⟩=some (.int .i64 0):=(by rw [cell_of_block n5]; rfl)
   have uf3:=ubk n5 3
   have u4:w5.cell? ⟨w.heap.size+1,4,none⟩=some (.string ⟨#[]⟩):=(by rw [cell_of_block n5]; rfl)
   have uf4:=ubk n5 4
   have u5:w5.cell? ⟨w.heap.size+1,5,none⟩=some (.slice none 0 0):=(by rw [cell_of_block n5]; rfl)
   have uf5:=ubk n5 5
   have u6:w5.cell? ⟨w.heap.size+1,6,none⟩=some (.slice none 0 0):=(by rw [cell_of_block n5]; rfl)
   have uf6:=ubk n5 6
   have HS:=(show Hid _ from haf)
   clear haf n5 r4
   go_wp2_with fail
   refine bodyPost_ret (v:=.agg #[.int .i64 k',.int .i64 n',.int .i64 x',.int .i64 y',.string t',.slice b1' l1' q1',.slice b2' l2' q2']) (by simp [results,Tryz.results88,go_sem,u0,u1,u2,u3,u4,u5,u6]) rfl ?_
   refine ⟨_,rfl,?_⟩
   rw [HR.out.1,HF.out.1,← evC_err P b rf k1 env HF.out.2]
   exact aft_tail ((HKB.out.trans H4.out.2.2.1)) HS.out (fun b h=>h.1.1.1) (fun h=>h.1.2 rfl) (by omega) hrl (kb7 _ _ _ _ _ _ _ _ _)
  ·have hn2:decide (k=1)=false:=by simpa using hk1
   have hn3:(k == 1)=false:=by simpa using hk1
   clear hk1
   go_upto_region 31 with fail
   obtain ⟨W4,hW4⟩:∃ W4,W4=w3.alloc (.cells #[.int .i64 k,.int .i64 n,.int .i64 e3.kind,.int .i64 e3.n,.string e3.text,.slice b1 e3.kids.length q1,.slice b2 en.length q2] 127):=⟨_,rfl⟩
   rw [← hW4]
   have H4:=(show Hid _ from after_want haf HS2.out hW4)
   clear hW4
   have HA:=(show Hid _ from haf)
   clear haf
   have q4:=(H4.out.2.2.2.2.2.1 _ (lh HQ.out.1) (by omega)).trans HQ.out.1
   have r4:=(H4.out.2.2.2.2.2.1 _ (lh HQ.out.2) (by omega)).trans HQ.out.2
   have n4:=H4.out.2.2.2.2.1
   have bx0:W4.cell? ⟨w.heap.size,0,none⟩=some (.int .i64 9):=(by rw [cell_of_block q4]; rfl)
   have bx1:W4.cell? ⟨w.heap.size,1,none⟩=some (.int .i64 e.n):=(by rw [cell_of_block q4]; rfl)
   have bx2:W4.cell? ⟨w.heap.size,2,none⟩=some (.string e.text):=(by rw [cell_of_block q4]; rfl)
   have bx3:W4.cell? ⟨w.heap.size,3,none⟩=some (.slice (some ⟨kb,ko,none⟩) 3 c1):=(by rw [cell_of_block q4]; rfl)
   have u0:W4.cell? ⟨w.heap.size+1,0,none⟩=some (.int .i64 0):=(by rw [cell_of_block r4]; rfl)
   have uf0:=ubk r4 0
   have u1:W4.cell? ⟨w.heap.size+1,1,none⟩=some (.int .i64 0):=(by rw [cell_of_block r4]; rfl)
   have uf1:=ubk r4 1
   have u2:W4.cell? ⟨w.heap.size+1,2,none⟩=some (.int .i64 0):=(by rw [cell_of_block r4]; rfl)
   have uf2:=ubk r4 2
   have u3:W4.cell? ⟨w.heap.size+1,3,none⟩=some (.int .i64 0):=(by rw [cell_of_block r4]; rfl)
   have uf3:=ubk r4 3
   have u4:W4.cell? ⟨w.heap.size+1,4,none⟩=some (.string ⟨#[]⟩):=(by rw [cell_of_block r4]; rfl)
   have uf4:=ubk r4 4
   have u5:W4.cell? ⟨w.heap.size+1,5,none⟩=some (.slice none 0 0):=(by rw [cell_of_block r4]; rfl)
   have uf5:=ubk r4 5
   have u6:W4.cell? ⟨w.heap.size+1,6,none⟩=some (.slice none 0 0):=(by rw [cell_of_block r4]; rfl)
   have uf6:=ubk r4 6
   have v0:W4.cell? ⟨w3.heap.size,0,none⟩=some (.int .i64 k):=(by rw [cell_of_block n4]; rfl)
   have v1:W4.cell? ⟨w3.heap.size,1,none⟩=some (.int .i64 n):=(by rw [cell_of_block n4]; rfl)
   have v2:W4.cell? ⟨w3.heap.size,2,none⟩=some (.int .i64 e3.kind):=(by rw [cell_of_block n4]; rfl)
   have v3:W4.cell? ⟨w3.heap.size,3,none⟩=some (.int .i64 e3.n):=(by rw [cell_of_block n4]; rfl)
   have v4:W4.cell? ⟨w3.heap.size,4,none⟩=some (.string e3.text):=(by rw [cell_of_block n4]; rfl)
   have v5:W4.cell? ⟨w3.heap.size,5,none⟩=some (.slice b1 e3.kids.length q1):=(by rw [cell_of_block n4]; rfl)
   have v6:W4.cell? ⟨w3.heap.size,6,none⟩=some (.slice b2 en.length q2):=(by rw [cell_of_block n4]; rfl)
   obtain ⟨p10,p11,p12,p13⟩:=HK1.out.move (H4.out.2.2.2.2.2.1 kb HB.out.1 HB.out.2)
   simp only [Nat.one_mul] at p10 p11 p12 p13
   obtain ⟨p20,p21,p22,p23⟩:=HK2.out.move (H4.out.2.2.2.2.2.1 kb HB.out.1 HB.out.2)
   simp only [Nat.reduceMul] at p20 p21 p22 p23
   have HJ:=(show Hid (_∧_∧_) from ⟨HJ0.out.1,HJ0.out.2,H4.out.2.2.2.2.2.2.2.2.2⟩)
   have h35:w3.heap.size<W4.heap.size:=lh n4
   have hs5:w.heap.size+1<W4.heap.size:=lh r4
   obtain ⟨M,hM1,hM2⟩:∃ M,m9≤M∧m≤M:=⟨max m9 m,Nat.le_max_left ..,Nat.le_max_right ..⟩
   have mD:Mv W4 W4.drew (but (but (but S w.heap.size) (w.heap.size+1)) w3.heap.size) (but (but (but S w.heap.size) (w.heap.size+1)) w3.heap.size):=Mv.drew _ _
   have hwith:=l03With_any (.slice a2 env.length c2) (.slice b2 en.length q2) env en (but (but (but S w.heap.size) (w.heap.size+1)) w3.heap.size) d M W4.drew ((((HEN.out.move H4.out.2.1).deep hM2).deeper).move mD) ((((HJ.out.2.1.move (HJ.out.2.2)).deep hM1).deeper).move mD) (fun x hx=>H4.out.1.new x (by rw [drew_heap] at hx; exact hx)) (by have:=HJ.out.1; have:=HLN.out; omega)
   have hcall:∀ (w5:World) (v5:Value),Below W4.drew.heap.size W4.drew w5→EnvAt w5 (but (but (but S w.heap.size) (w.heap.size+1)) w3.heap.size) d (M+1) v5 (env ++ en)→Calls Tryz.prog 88 #[.pointer (some ⟨rb,0,none⟩),exV k2 ka2 kc2,v5] w5 fun r w'=>∃ v,r = .returned v∧Aft P (but (but (but S w.heap.size) (w.heap.size+1)) w3.heap.size) d rb nv bv w5 w' v (evC P b q rf k2 (env ++ en)):=by
    intro w5 v5 b5 hv5
    have m5:=H4.out.2.1.trans (mD.trans (Mv.kb (KB.of_below (X:=fun _=>False) b5) (fun _ h=>h.elim)))
    exact HEV.out.1 (but (but (but S w.heap.size) (w.heap.size+1)) w3.heap.size) rf k2 (env ++ en) (exV k2 ka2 kc2) v5 w5 q (Nat.le_trans HR.out.2 HEV.out.2.1) (H4.out.2.2.2.1.move ((b5.block rb (by rw [drew_heap]; exact lh H4.out.2.2.2.1)).trans (by rw [drew_heap]))) (HS2.out.move m5 (fun x hx=>H4.out.1.new x (by have:=b5.size; rw [drew_heap] at this; omega)) H4.out.1.rb) ⟨HEV.out.2.2.move m5,M+1,hv5⟩ (fun h=>absurd h HF.out.2)
   have lcl:(env ++ en).length=env.length+en.length:=List.length_append
   have keep:∀ W:World,(∀ x,x<W4.heap.size→x≠rb→x≠w.heap.size+1→W.heap[x]? = W4.heap[x]?)→W.cell? ⟨w3.heap.size,6,none⟩=some (.slice b2 en.length q2)∧W.cell? ⟨w.heap.size,3,none⟩=some (.slice (some ⟨kb,ko,none⟩) 3 c1)∧W.cell? ⟨kb,ko+8,none⟩=some (.int .i64 k2.kind)∧W.cell? ⟨kb,ko+8+1,none⟩=some (.int .i64 k2.n)∧W.cell? ⟨kb,ko+8+2,none⟩=some (.string k2.text)∧W.cell? ⟨kb,ko+8+3,none⟩=some (.slice ka2 k2.kids.length kc2):=fun W h=>by
    have c9:=(HK2.out.move (H4.out.2.2.2.2.2.1 kb HB.out.1 HB.out.2)).move (h kb (Nat.lt_of_lt_of_le HB.out.1 (by have:=H4.out.2.2.2.2.2.2.1; omega)) HB.out.2 (fun e=>HBG.out (e ▸ rfl)))
    simp only [Nat.reduceMul] at c9
    obtain ⟨c90,c91,c92,c93⟩:=c9
    exact ⟨by rw [cell_of_block ((h _ h35 (by have:=lh HQ.out.1; have:=H4.out.2.2.2.2.2.2.1; omega) (by have:=lh HQ.out.2; have:=H4.out.2.2.2.2.2.2.1; omega)).trans n4)]; rfl,by rw [cell_of_block ((h _ (by omega) (by omega) (by omega)).trans q4)]; rfl,c90,c91,c92,c93⟩
   have nD:∀ x,x<W4.heap.size→x≠rb→x≠w.heap.size+1→W4.drew.heap[x]? = W4.heap[x]? := fun x _ _ _=>by rw [drew_heap]
   have HZ:=(show Hid (_∧_∧_∧_∧_) from ⟨hwith,hcall,keep _ nD,lcl,r4⟩)
   have KP:=(show Hid _ from keep)
   clear hwith hcall keep nD lcl n4 q4 mD hM1 hM2 h35 hs5 r4
   go_upto_region 33 with fail
   go_region_held3 (fun W=>W.cell? ⟨w3.heap.size,6,none⟩=some (.slice b2 en.length q2)∧W.cell? ⟨w.heap.size,3,none⟩=some (.slice (some ⟨kb,ko,none⟩) 3 c1)∧W.cell? ⟨kb,ko+8,none⟩=some (.int .i64 k2.kind)∧W.cell? ⟨kb,ko+8+1,none⟩=some (.int .i64 k2.n)∧W.cell? ⟨kb,ko+8+2,none⟩=some (.string k2.text)∧W.cell? ⟨kb,ko+8+3,none⟩=some (.slice ka2 k2.kids.length kc2)) (first | with_reducible exact KP.out _ HF5.out.1 | with_reducible exact KP.out _ HY.out.1 | with_reducible exact HZ.out.2.2.1 | exact KP.out _ (low_set7 HF5.out.1 HF5.out.2.1 (kb7 _ _ _ _ _ _ _ _ _))) (first
    | (go_at_call 89; refine HZ.out.1.mono ?_; rintro r w5 ⟨v5,rfl,hv5,b5⟩; obtain ⟨a6,c6,hv,-⟩:=hv5.form; rw [HZ.out.2.2.2.1] at hv; subst hv; have H5:=(show Hid (_∧_) from ⟨b5,hv5⟩); have HY:=(show Hid ((∀ x,x<W4.heap.size→x≠rb→x≠w.heap.size+1→w5.heap[x]? = W4.heap[x]?)∧W4.heap.size≤w5.heap.size∧_) from ⟨fun x h1 _ _=>(b5.block x h1),b5.size,(b5.block _ (lh HZ.out.2.2.2.2)).trans HZ.out.2.2.2.2⟩); clear b5 hv5)
    | (go_at_call 88; refine (HZ.out.2.1 _ _ H5.out.1 H5.out.2).mono ?_; rintro r w6 ⟨v6,rfl,haf⟩; obtain ⟨k',n',x',y',t',b1',l1',q1',b2',l2',q2',rfl⟩:=haf.form; have n6:=haf.kb.heap (HY.out.2.2) (by omega); clear u0 u1 u2 u3 u4 u5 u6 uf0 uf1 uf2 uf3 uf4 uf5 uf6; have u0:w6.cell? ⟨w.heap.size+1,0,none⟩=some (.int .i64 0):=(by rw [cell_of_block n6]; rfl); have uf0:w6.frozen? ⟨w.heap.size+1,0,none⟩=false:=unfrozen_of_block n6 0; have u1:w6.cell? ⟨w.heap.size+1,1,none⟩=some (.int .i64 0):=(by rw [cell_of_block n6]; rfl); have uf1:w6.frozen? ⟨w.heap.size+1,1,none⟩=false:=unfrozen_of_block n6 1; have u2:w6.cell? ⟨w.heap.size+1,2,none⟩=some (.int .i64 0):=(by rw [cell_of_block n6]; rfl); have uf2:w6.frozen? ⟨w.heap.size+1,2,none⟩=false:=unfrozen_of_block n6 2; have u3:w6.cell? ⟨w.heap.size+1,3,none⟩=some (.int .i64 0):=(by rw [cell_of_block n6]; rfl); have uf3:w6.frozen? ⟨w.heap.size+1,3,none⟩=false:=unfrozen_of_block n6 3; have u4:w6.cell? ⟨w.heap.size+1,4,none⟩=some (.string ⟨#[]⟩):=(by rw [cell_of_block n6]; rfl); have uf4:w6.frozen? ⟨w.heap.size+1,4,none⟩=false:=unfrozen_of_block n6 4; have u5:w6.cell? ⟨w.heap.size+1,5,none⟩=some (.slice none 0 0):=(by rw [cell_of_block n6]; rfl); have uf5:w6.frozen? ⟨w.heap.size+1,5,none⟩=false:=unfrozen_of_block n6 5; have u6:w6.cell? ⟨w.heap.size+1,6,none⟩=some (.slice none 0 0):=(by rw [cell_of_block n6]; rfl); have uf6:w6.frozen? ⟨w.heap.size+1,6,none⟩=false:=unfrozen_of_block n6 6; have HF5:=(show Hid ((∀ x,x<W4.heap.size→x≠rb→x≠w.heap.size+1→w6.heap[x]? = W4.heap[x]?)∧W4.heap.size≤w6.heap.size∧_) from ⟨fun x h1 h2 h3=>(haf.kb.block x (Nat.lt_of_lt_of_le h1 HY.out.2.1) h2).trans (HY.out.1 x h1 h2 h3),Nat.le_trans HY.out.2.1 haf.kb.size,haf⟩); clear haf n6))
   all_goals
    go_wp2_with fail
    refine bodyPost_ret (v:=.agg #[.int .i64 k',.int .i64 n',.int .i64 x',.int .i64 y',.string t',.slice b1' l1' q1',.slice b2' l2' q2']) (by simp [results,Tryz.results88,go_sem,u0,u1,u2,u3,u4,u5,u6]) rfl ?_
    refine ⟨_,rfl,?_⟩
    rw [HR.out.1,HF.out.1,← evC_err P b rf k2 (env ++ en) HF.out.2]
    exact aft_tail (((HKB.out.trans H4.out.2.2.1).trans (KB.drew (KB.refl _ _))).trans (KB.of_below H5.out.1)) HF5.out.2.2 (fun b h=>h.1.1.1) (fun h=>h.1.2 rfl) (by omega) hrl (kb7 _ _ _ _ _ _ _ _ _)
 ·obtain ⟨m9,⟨n,e3,hsh⟩,-⟩:=haf.vr
  obtain ⟨en,hen9⟩:∃ en:List Clo,en=[]:=⟨_,rfl⟩
  rw [← hen9] at hsh
  obtain ⟨b1,q1,b2,q2,rfl,-⟩:=hsh.form
  have HF:=(show Hid (_∧True) from ⟨hfn,trivial⟩)
  clear hfn hsh hen9
  go_upto_region 31 with fail
  obtain ⟨W4,hW4⟩:∃ W4,W4=w3.alloc (.cells #[.int .i64 1,.int .i64 n,.int .i64 e3.kind,.int .i64 e3.n,.string e3.text,.slice b1 e3.kids.length q1,.slice b2 en.length q2] 127):=⟨_,rfl⟩
  rw [← hW4]
  have H4:=(show Hid _ from after_want haf HS2.out hW4)
  clear hW4
  have HA:=(show Hid _ from haf)
  clear haf
  have q4:=(H4.out.2.2.2.2.2.1 _ (lh HQ.out.1) (by omega)).trans HQ.out.1
  have r4:=(H4.out.2.2.2.2.2.1 _ (lh HQ.out.2) (by omega)).trans HQ.out.2
  have n4:=H4.out.2.2.2.2.1
  have bx0:W4.cell? ⟨w.heap.size,0,none⟩=some (.int .i64 9):=(by rw [cell_of_block q4]; rfl)
  have bx1:W4.cell? ⟨w.heap.size,1,none⟩=some (.int .i64 e.n):=(by rw [cell_of_block q4]; rfl)
  have bx2:W4.cell? ⟨w.heap.size,2,none⟩=some (.string e.text):=(by rw [cell_of_block q4]; rfl)
  have bx3:W4.cell? ⟨w.heap.size,3,none⟩=some (.slice (some ⟨kb,ko,none⟩) 3 c1):=(by rw [cell_of_block q4]; rfl)
  have u0:W4.cell? ⟨w.heap.size+1,0,none⟩=some (.int .i64 0):=(by rw [cell_of_block r4]; rfl)
  have uf0:=ubk r4 0
  have u1:W4.cell? ⟨w.heap.size+1,1,none⟩=some (.int .i64 0):=(by rw [cell_of_block r4]; rfl)
  have uf1:=ubk r4 1
  have u2:W4.cell? ⟨w.heap.size+1,2,none⟩=some (.int .i64 0):=(by rw [cell_of_block r4]; rfl)
  have uf2:=ubk r4 2
  have u3:W4.cell? ⟨w.heap.size+1,3,none⟩=some (.int .i64 0):=(by rw [cell_of_block r4]; rfl)
  have uf3:=ubk r4 3
  have u4:W4.cell? ⟨w.heap.size+1,4,none⟩=some (.string ⟨#[]⟩):=(by rw [cell_of_block r4]; rfl)
  have uf4:=ubk r4 4
  have u5:W4.cell? ⟨w.heap.size+1,5,none⟩=some (.slice none 0 0):=(by rw [cell_of_block r4]; rfl)
  have uf5:=ubk r4 5
  have u6:W4.cell? ⟨w.heap.size+1,6,none⟩=some (.slice none 0 0):=(by rw [cell_of_block r4]; rfl)
  have uf6:=ubk r4 6
  have v0:W4.cell? ⟨w3.heap.size,0,none⟩=some (.int .i64 1):=(by rw [cell_of_block n4]; rfl)
  have v1:W4.cell? ⟨w3.heap.size,1,none⟩=some (.int .i64 n):=(by rw [cell_of_block n4]; rfl)
  have v2:W4.cell? ⟨w3.heap.size,2,none⟩=some (.int .i64 e3.kind):=(by rw [cell_of_block n4]; rfl)
  have v3:W4.cell? ⟨w3.heap.size,3,none⟩=some (.int .i64 e3.n):=(by rw [cell_of_block n4]; rfl)
  have v4:W4.cell? ⟨w3.heap.size,4,none⟩=some (.string e3.text):=(by rw [cell_of_block n4]; rfl)
  have v5:W4.cell? ⟨w3.heap.size,5,none⟩=some (.slice b1 e3.kids.length q1):=(by rw [cell_of_block n4]; rfl)
  have v6:W4.cell? ⟨w3.heap.size,6,none⟩=some (.slice b2 en.length q2):=(by rw [cell_of_block n4]; rfl)
  obtain ⟨p10,p11,p12,p13⟩:=HK1.out.move (H4.out.2.2.2.2.2.1 kb HB.out.1 HB.out.2)
  simp only [Nat.one_mul] at p10 p11 p12 p13
  obtain ⟨p20,p21,p22,p23⟩:=HK2.out.move (H4.out.2.2.2.2.2.1 kb HB.out.1 HB.out.2)
  simp only [Nat.reduceMul] at p20 p21 p22 p23
  clear q4 n4
  go_wp2_with fail
  refine (HC1.out W4 w3.heap.size _ _ HR.out.2 H4.out.2.2.2.1 H4.out.1 H4.out.2.1).mono ?_
  rintro r w5 ⟨v5,rfl,haf⟩
  obtain ⟨k',n',x',y',t',b1',l1',q1',b2',l2',q2',rfl⟩:=haf.form
  have n5:=haf.kb.heap r4 (by omega)
  clear u0 u1 u2 u3 u4 u5 u6 uf0 uf1 uf2 uf3 uf4 uf5 uf6
  have u0:w5.cell? ⟨w.heap.size+1,0,none⟩=some (.int .i64 0):=(by rw [cell_of_block n5]; rfl)
  have uf0:=ubk n5 0
  have u1:w5.cell? ⟨w.heap.size+1,1,none⟩=some (.int .i64 0):=(by rw [cell_of_block n5]; rfl)
  have uf1:=ubk n5 1
  have u2:w5.cell? ⟨w.heap.size+1,2,none⟩=some (.int .i64 0):=(by rw [cell_of_block n5]; rfl)
  have uf2:=ubk n5 2
  have u3:w5.cell? ⟨w.heap.size+1,3,none⟩=some (.int .i64 0):=(by rw [cell_of_block n5]; rfl)
  have uf3:=ubk n5 3
  have u4:w5.cell? ⟨w.heap.size+1,4,none⟩=some (.string ⟨#[]⟩):=(by rw [cell_of_block n5]; rfl)
  have uf4:=ubk n5 4
  have u5:w5.cell? ⟨w.heap.size+1,5,none⟩=some (.slice none 0 0):=(by rw [cell_of_block n5]; rfl)
  have uf5:=ubk n5 5
  have u6:w5.cell? ⟨w.heap.size+1,6,none⟩=some (.slice none 0 0):=(by rw [cell_of_block n5]; rfl)
  have uf6:=ubk n5 6
  have HS:=(show Hid _ from haf)
  clear haf n5 r4
  go_wp2_with fail
  refine bodyPost_ret (v:=.agg #[.int .i64 k',.int .i64 n',.int .i64 x',.int .i64 y',.string t',.slice b1' l1' q1',.slice b2' l2' q2']) (by simp [results,Tryz.results88,go_sem,u0,u1,u2,u3,u4,u5,u6]) rfl ?_
  refine ⟨_,rfl,?_⟩
  rw [HR.out.1,HF.out.1,← evC_zero P b rf k1 env]
  exact aft_tail ((HKB.out.trans H4.out.2.2.1)) HS.out (fun b h=>h.1.1.1) (fun h=>h.1.2 rfl) (by omega) hrl (kb7 _ _ _ _ _ _ _ _ _)
 ·obtain ⟨m9,⟨n,e3,hsh⟩,gh,gt⟩:=haf.vr
  obtain ⟨en,hen9⟩:∃ en:List Clo,en=[ch,ct]:=⟨_,rfl⟩
  rw [← hen9] at hsh
  obtain ⟨b1,q1,b2,q2,rfl,-,he3,-⟩:=hsh.form
  have HF:=(show Hid (_∧_∧_∧_) from ⟨hfn,hen9,gh,gt⟩)
  have HJ0:=(show Hid (_∧_) from ⟨(by rw [hen9]; simp:en.length≤1000),he3⟩)
  clear hfn hsh he3 hen9 gh gt
  go_upto_region 31 with fail
  obtain ⟨W4,hW4⟩:∃ W4,W4=w3.alloc (.cells #[.int .i64 2,.int .i64 n,.int .i64 e3.kind,.int .i64 e3.n,.string e3.text,.slice b1 e3.kids.length q1,.slice b2 en.length q2] 127):=⟨_,rfl⟩
  rw [← hW4]
  have H4:=(show Hid _ from after_want haf HS2.out hW4)
  clear hW4
  have HA:=(show Hid _ from haf)
  clear haf
  have q4:=(H4.out.2.2.2.2.2.1 _ (lh HQ.out.1) (by omega)).trans HQ.out.1
  have r4:=(H4.out.2.2.2.2.2.1 _ (lh HQ.out.2) (by omega)).trans HQ.out.2
  have n4:=H4.out.2.2.2.2.1
  have bx0:W4.cell? ⟨w.heap.size,0,none⟩=some (.int .i64 9):=(by rw [cell_of_block q4]; rfl)
  have bx1:W4.cell? ⟨w.heap.size,1,none⟩=some (.int .i64 e.n):=(by rw [cell_of_block q4]; rfl)
  have bx2:W4.cell? ⟨w.heap.size,2,none⟩=some (.string e.text):=(by rw [cell_of_block q4]; rfl)
  have bx3:W4.cell? ⟨w.heap.size,3,none⟩=some (.slice (some ⟨kb,ko,none⟩) 3 c1):=(by rw [cell_of_block q4]; rfl)
  have u0:W4.cell? ⟨w.heap.size+1,0,none⟩=some (.int .i64 0):=(by rw [cell_of_block r4]; rfl)
  have uf0:=ubk r4 0
  have u1:W4.cell? ⟨w.heap.size+1,1,none⟩=some (.int .i64 0):=(by rw [cell_of_block r4]; rfl)
  have uf1:=ubk r4 1
  have u2:W4.cell? ⟨w.heap.size+1,2,none⟩=some (.int .i64 0):=(by rw [cell_of_block r4]; rfl)
  have uf2:=ubk r4 2
  have u3:W4.cell? ⟨w.heap.size+1,3,none⟩=some (.int .i64 0):=(by rw [cell_of_block r4]; rfl)
  have uf3:=ubk r4 3
  have u4:W4.cell? ⟨w.heap.size+1,4,none⟩=some (.string ⟨#[]⟩):=(by rw [cell_of_block r4]; rfl)
  have uf4:=ubk r4 4
  have u5:W4.cell? ⟨w.heap.size+1,5,none⟩=some (.slice none 0 0):=(by rw [cell_of_block r4]; rfl)
  have uf5:=ubk r4 5
  have u6:W4.cell? ⟨w.heap.size+1,6,none⟩=some (.slice none 0 0):=(by rw [cell_of_block r4]; rfl)
  have uf6:=ubk r4 6
  have v0:W4.cell? ⟨w3.heap.size,0,none⟩=some (.int .i64 2):=(by rw [cell_of_block n4]; rfl)
  have v1:W4.cell? ⟨w3.heap.size,1,none⟩=some (.int .i64 n):=(by rw [cell_of_block n4]; rfl)
  have v2:W4.cell? ⟨w3.heap.size,2,none⟩=some (.int .i64 e3.kind):=(by rw [cell_of_block n4]; rfl)
  have v3:W4.cell? ⟨w3.heap.size,3,none⟩=some (.int .i64 e3.n):=(by rw [cell_of_block n4]; rfl)
  have v4:W4.cell? ⟨w3.heap.size,4,none⟩=some (.string e3.text):=(by rw [cell_of_block n4]; rfl)
  have v5:W4.cell? ⟨w3.heap.size,5,none⟩=some (.slice b1 e3.kids.length q1):=(by rw [cell_of_block n4]; rfl)
  have v6:W4.cell? ⟨w3.heap.size,6,none⟩=some (.slice b2 en.length q2):=(by rw [cell_of_block n4]; rfl)
  obtain ⟨p10,p11,p12,p13⟩:=HK1.out.move (H4.out.2.2.2.2.2.1 kb HB.out.1 HB.out.2)
  simp only [Nat.one_mul] at p10 p11 p12 p13
  obtain ⟨p20,p21,p22,p23⟩:=HK2.out.move (H4.out.2.2.2.2.2.1 kb HB.out.1 HB.out.2)
  simp only [Nat.reduceMul] at p20 p21 p22 p23
  have HJ:=(show Hid (_∧_∧_) from ⟨HJ0.out.1,HJ0.out.2,H4.out.2.2.2.2.2.2.2.2.2⟩)
  have h35:w3.heap.size<W4.heap.size:=lh n4
  have hs5:w.heap.size+1<W4.heap.size:=lh r4
  obtain ⟨M,hM1,hM2⟩:∃ M,m9≤M∧m≤M:=⟨max m9 m,Nat.le_max_left ..,Nat.le_max_right ..⟩
  have mD:Mv W4 W4.drew (but (but (but S w.heap.size) (w.heap.size+1)) w3.heap.size) (but (but (but S w.heap.size) (w.heap.size+1)) w3.heap.size):=Mv.drew _ _
  have hwith:=l03With_any (.slice a2 env.length c2) (.slice b2 en.length q2) env en (but (but (but S w.heap.size) (w.heap.size+1)) w3.heap.size) d M W4.drew ((((HEN.out.move H4.out.2.1).deep hM2).deeper).move mD) ((((HJ.out.2.1.move (HJ.out.2.2)).deep hM1).deeper).move mD) (fun x hx=>H4.out.1.new x (by rw [drew_heap] at hx; exact hx)) (by have:=HJ.out.1; have:=HLN.out; omega)
  have hcall:∀ (w5:World) (v5:Value),Below W4.drew.heap.size W4.drew w5→EnvAt w5 (but (but (but S w.heap.size) (w.heap.size+1)) w3.heap.size) d (M+1) v5 (env ++ en)→Calls Tryz.prog 88 #[.pointer (some ⟨rb,0,none⟩),exV k2 ka2 kc2,v5] w5 fun r w'=>∃ v,r = .returned v∧Aft P (but (but (but S w.heap.size) (w.heap.size+1)) w3.heap.size) d rb nv bv w5 w' v (evC P b 0 rf k2 (env ++ en)):=by
   intro w5 v5 b5 hv5
   have m5:=H4.out.2.1.trans (mD.trans (Mv.kb (KB.of_below (X:=fun _=>False) b5) (fun _ h=>h.elim)))
   exact HEV.out.1 (but (but (but S w.heap.size) (w.heap.size+1)) w3.heap.size) rf k2 (env ++ en) (exV k2 ka2 kc2) v5 w5 0 (Nat.le_trans HR.out.2 HEV.out.2.1) (H4.out.2.2.2.1.move ((b5.block rb (by rw [drew_heap]; exact lh H4.out.2.2.2.1)).trans (by rw [drew_heap]))) (HS2.out.move m5 (fun x hx=>H4.out.1.new x (by have:=b5.size; rw [drew_heap] at this; omega)) H4.out.1.rb) ⟨HEV.out.2.2.move m5,M+1,hv5⟩ (fun _=>HF.out.2.1 ▸ HG2.out ch ct HF.out.2.2.1 HF.out.2.2.2)
  have lcl:(env ++ en).length=env.length+en.length:=List.length_append
  have keep:∀ W:World,(∀ x,x<W4.heap.size→x≠rb→x≠w.heap.size+1→W.heap[x]? = W4.heap[x]?)→W.cell? ⟨w3.heap.size,6,none⟩=some (.slice b2 en.length q2)∧W.cell? ⟨w.heap.size,3,none⟩=some (.slice (some ⟨kb,ko,none⟩) 3 c1)∧W.cell? ⟨kb,ko+8,none⟩=some (.int .i64 k2.kind)∧W.cell? ⟨kb,ko+8+1,none⟩=some (.int .i64 k2.n)∧W.cell? ⟨kb,ko+8+2,none⟩=some (.string k2.text)∧W.cell? ⟨kb,ko+8+3,none⟩=some (.slice ka2 k2.kids.length kc2):=fun W h=>by
   have c9:=(HK2.out.move (H4.out.2.2.2.2.2.1 kb HB.out.1 HB.out.2)).move (h kb (Nat.lt_of_lt_of_le HB.out.1 (by have:=H4.out.2.2.2.2.2.2.1; omega)) HB.out.2 (fun e=>HBG.out (e ▸ rfl)))
   simp only [Nat.reduceMul] at c9
   obtain ⟨c90,c91,c92,c93⟩:=c9
   exact ⟨by rw [cell_of_block ((h _ h35 (by have:=lh HQ.out.1; have:=H4.out.2.2.2.2.2.2.1; omega) (by have:=lh HQ.out.2; have:=H4.out.2.2.2.2.2.2.1; omega)).trans n4)]; rfl,by rw [cell_of_block ((h _ (by omega) (by omega) (by omega)).trans q4)]; rfl,c90,c91,c92,c93⟩
  have nD:∀ x,x<W4.heap.size→x≠rb→x≠w.heap.size+1→W4.drew.heap[x]? = W4.heap[x]? := fun x _ _ _=>by rw [drew_heap]
  have HZ:=(show Hid (_∧_∧_∧_∧_) from ⟨hwith,hcall,keep _ nD,lcl,r4⟩)
  have KP:=(show Hid _ from keep)
  clear hwith hcall keep nD lcl n4 q4 mD hM1 hM2 h35 hs5 r4
  go_upto_region 33 with fail
  go_region_held3 (fun W=>W.cell? ⟨w3.heap.size,6,none⟩=some (.slice b2 en.length q2)∧W.cell? ⟨w.heap.size,3,none⟩=some (.slice (some ⟨kb,ko,none⟩) 3 c1)∧W.cell? ⟨kb,ko+8,none⟩=some (.int .i64 k2.kind)∧W.cell? ⟨kb,ko+8+1,none⟩=some (.int .i64 k2.n)∧W.cell? ⟨kb,ko+8+2,none⟩=some (.string k2.text)∧W.cell? ⟨kb,ko+8+3,none⟩=some (.slice ka2 k2.kids.length kc2)) (first | with_reducible exact KP.out _ HF5.out.1 | with_reducible exact KP.out _ HY.out.1 | with_reducible exact HZ.out.2.2.1 | exact KP.out _ (low_set7 HF5.out.1 HF5.out.2.1 (kb7 _ _ _ _ _ _ _ _ _))) (first
   | (go_at_call 89; refine HZ.out.1.mono ?_; rintro r w5 ⟨v5,rfl,hv5,b5⟩; obtain ⟨a6,c6,hv,-⟩:=hv5.form; rw [HZ.out.2.2.2.1] at hv; subst hv; have H5:=(show Hid (_∧_) from ⟨b5,hv5⟩); have HY:=(show Hid ((∀ x,x<W4.heap.size→x≠rb→x≠w.heap.size+1→w5.heap[x]? = W4.heap[x]?)∧W4.heap.size≤w5.heap.size∧_) from ⟨fun x h1 _ _=>(b5.block x h1),b5.size,(b5.block _ (lh HZ.out.2.2.2.2)).trans HZ.out.2.2.2.2⟩); clear b5 hv5)
   | (go_at_call 88; refine (HZ.out.2.1 _ _ H5.out.1 H5.out.2).mono ?_; rintro r w6 ⟨v6,rfl,haf⟩; obtain ⟨k',n',x',y',t',b1',l1',q1',b2',l2',q2',rfl⟩:=haf.form; have n6:=haf.kb.heap (HY.out.2.2) (by omega); clear u0 u1 u2 u3 u4 u5 u6 uf0 uf1 uf2 uf3 uf4 uf5 uf6; have u0:w6.cell? ⟨w.heap.size+1,0,none⟩=some (.int .i64 0):=(by rw [cell_of_block n6]; rfl); have uf0:w6.frozen? ⟨w.heap.size+1,0,none⟩=false:=unfrozen_of_block n6 0; have u1:w6.cell? ⟨w.heap.size+1,1,none⟩=some (.int .i64 0):=(by rw [cell_of_block n6]; rfl); have uf1:w6.frozen? ⟨w.heap.size+1,1,none⟩=false:=unfrozen_of_block n6 1; have u2:w6.cell? ⟨w.heap.size+1,2,none⟩=some (.int .i64 0):=(by rw [cell_of_block n6]; rfl); have uf2:w6.frozen? ⟨w.heap.size+1,2,none⟩=false:=unfrozen_of_block n6 2; have u3:w6.cell? ⟨w.heap.size+1,3,none⟩=some (.int .i64 0):=(by rw [cell_of_block n6]; rfl); have uf3:w6.frozen? ⟨w.heap.size+1,3,none⟩=false:=unfrozen_of_block n6 3; have u4:w6.cell? ⟨w.heap.size+1,4,none⟩=some (.string ⟨#[]⟩):=(by rw [cell_of_block n6]; rfl); have uf4:w6.frozen? ⟨w.heap.size+1,4,none⟩=false:=unfrozen_of_block n6 4; have u5:w6.cell? ⟨w.heap.size+1,5,none⟩=some (.slice none 0 0):=(by rw [cell_of_block n6]; rfl); have uf5:w6.frozen? ⟨w.heap.size+1,5,none⟩=false:=unfrozen_of_block n6 5; have u6:w6.cell? ⟨w.heap.size+1,6,none⟩=some (.slice none 0 0):=(by rw [cell_of_block n6]; rfl); have uf6:w6.frozen? ⟨w.heap.size+1,6,none⟩=false:=unfrozen_of_block n6 6; have HF5:=(show Hid ((∀ x,x<W4.heap.size→x≠rb→x≠w.heap.size+1→w6.heap[x]? = W4.heap[x]?)∧W4.heap.size≤w6.heap.size∧_) from ⟨fun x h1 h2 h3=>(haf.kb.block x (Nat.lt_of_lt_of_le h1 HY.out.2.1) h2).trans (HY.out.1 x h1 h2 h3),Nat.le_trans HY.out.2.1 haf.kb.size,haf⟩); clear haf n6))
  all_goals
   go_wp2_with fail
   refine bodyPost_ret (v:=.agg #[.int .i64 k',.int .i64 n',.int .i64 x',.int .i64 y',.string t',.slice b1' l1' q1',.slice b2' l2' q2']) (by simp [results,Tryz.results88,go_sem,u0,u1,u2,u3,u4,u5,u6]) rfl ?_
   refine ⟨_,rfl,?_⟩
   rw [HR.out.1,HF.out.1,← HF.out.2.1,← evC_zero P b rf k2 (env ++ en)]
   exact aft_tail (((HKB.out.trans H4.out.2.2.1).trans (KB.drew (KB.refl _ _))).trans (KB.of_below H5.out.1)) HF5.out.2.2 (fun b h=>h.1.1.1) (fun h=>h.1.2 rfl) (by omega) hrl (kb7 _ _ _ _ _ _ _ _ _)
end Go.Proofs.YtljdgmfcgkimoaaGreatDoor
