/-
  Proofs.
  Proofs.
-/
import Derived.Test.YtljdgmfcgkimoaaGreatDoorJ1
import Derived.Test.YtljdgmfcgkimoaaGreatDoorJ29
import Derived.BigQuiet
import Derived.Deep.QuietTactic
import Derived.Deep.CutBlock
import Derived.Deep.RegionHeld3
namespace Go.Proofs.YtljdgmfcgkimoaaGreatDoor
open Go.RowKit Go.Joins
set_option maxRecDepth 100000
set_option maxHeartbeats 3200000 in
theorem l03Eval_3 (P:List Ex) (nv bv:Value) (rb d b:Nat) (hB:b<1000000) (S:Nat→Prop) (f:Nat) (e:Ex) (env:List Clo) (xv envv:Value) (w:World)
  (hf:f≤b) (hr:RunAt w rb nv bv (f+1) 0) (hs:Sv w S d rb bv P) (hx:Cx w S d e env xv envv) (hg:Ok P e env) (hk:e.kind=3) :
  Calls Tryz.prog 88 #[.pointer (some ⟨rb,0,none⟩),xv,envv] w fun r w'=>∃ v,r = .returned v∧Aft P S d rb nv bv w w' v ((.ok (.fn e.n (kidN e 0) env),f)):=by
 have hrl:rb<w.heap.size:=(Array.getElem?_eq_some_iff.1 hr).1
 have hd:0<d:=hs.bodies.pos
 have hx0:=hx
 obtain ⟨⟨kv,rfl,i1,i2,i3,hkd⟩,m,hen⟩:=hx0
 obtain ⟨a1,c1,rfl⟩:=hkd.form
 obtain ⟨a2,c2,rfl,hz2⟩:=hen.form
 have hln:env.length≤90:=hg.len
 rw [hk]
 obtain ⟨k0,hks⟩:∃ k0,e.kids=[k0]:=by obtain ⟨⟨deep,h⟩,-⟩:=hg; exact kids1 (by rw [kids_of h,hk]; rfl)
 have e0:kidN e 0=k0:=by unfold kidN; rw [hks]; rfl
 try rw [e0]
 have hkl:e.kids.length=1:=by rw [hks]; rfl
 rw [hkl]
 have hks':=hks
 rw [hks] at hkd
 obtain ⟨kb,ko,rfl⟩:=kid_row hkd (by simp)
 obtain ⟨ka0,kc0,kk0,hSb,hlb,x0⟩:=kid_at hkd (i:=0) (k:=k0) rfl
 obtain ⟨z,hz⟩:∃ z:Int,z=((f+1:Nat):Int):=⟨_,rfl⟩
 obtain ⟨z1,hz1⟩:∃ z1:Int,z1=(f:Int):=⟨_,rfl⟩
 have hw:IntKind.i64.wrap (z - 1)=z1:=by rw [IntKind.wrap_i64]; omega
 have hq0:decide (z=0)=false:=by simp; omega
 have hq1:(z == 0)=false:=by simp; omega
 obtain ⟨W1,hW1⟩:∃ W1,W1=((w.alloc (.cells #[.int .i64 3,.int .i64 e.n,.string e.text,.slice (some ⟨kb,ko,none⟩) 1 c1] 52)).alloc (.cells #[.int .i64 0,.int .i64 0,.int .i64 0,.int .i64 0,.string ⟨#[]⟩,.slice none 0 0,.slice none 0 0] 127)):=⟨_,rfl⟩
 obtain ⟨s1,-,kb1,q1,r1⟩:=two_boxes w S (.cells #[.int .i64 3,.int .i64 e.n,.string e.text,.slice (some ⟨kb,ko,none⟩) 1 c1] 52) (.cells #[.int .i64 0,.int .i64 0,.int .i64 0,.int .i64 0,.string ⟨#[]⟩,.slice none 0 0,.slice none 0 0] 127) W1 hW1 rb
 obtain ⟨W2,hW2⟩:∃ W2,W2=W1.setCell ⟨rb,2,none⟩ (.int .i64 z1):=⟨_,rfl⟩
 obtain ⟨s2,m2,kb2,q2,r2,run2⟩:=ev_boxes w S (.cells #[.int .i64 3,.int .i64 e.n,.string e.text,.slice (some ⟨kb,ko,none⟩) 1 c1] 52) (.cells #[.int .i64 0,.int .i64 0,.int .i64 0,.int .i64 0,.string ⟨#[]⟩,.slice none 0 0,.slice none 0 0] 127) W1 W2 rb f nv _ hW1 (by rw [hW2,hz1]) hr hs.rb
 have y2:W1.cell? ⟨rb,2,none⟩=some (.int .i64 z):=by rw [hz,cell_of_block (hr.move (kb1.low hrl))]; rfl
 have y2f:=ubk (hr.move (kb1.low hrl)) 2
 have y3:=cbk (hr.move (kb1.low hrl)) 3 (.int .i64 0) rfl
 have hs2:Sv W2 (but (but S w.heap.size) (w.heap.size+1)) d rb _ P:=hs.move m2 (by rw [s2]; exact but_new (but_new (new_le hs.new (by omega)) (by omega)) (by omega)) (but_not (but_not hs.rb))
 have hen2:=hen.move m2
 have bx0:W2.cell? ⟨w.heap.size,0,none⟩=some (.int .i64 3):=(by rw [cell_of_block q2]; rfl)
 have bx1:W2.cell? ⟨w.heap.size,1,none⟩=some (.int .i64 e.n):=(by rw [cell_of_block q2]; rfl)
 have bx2:W2.cell? ⟨w.heap.size,2,none⟩=some (.string e.text):=(by rw [cell_of_block q2]; rfl)
 have bx3:W2.cell? ⟨w.heap.size,3,none⟩=some (.slice (some ⟨kb,ko,none⟩) 1 c1):=(by rw [cell_of_block q2]; rfl)
 have u0:W2.cell? ⟨w.heap.size+1,0,none⟩=some (.int .i64 0):=(by rw [cell_of_block r2]; rfl)
 have uf0:=ubk r2 0
 have u1:W2.cell? ⟨w.heap.size+1,1,none⟩=some (.int .i64 0):=(by rw [cell_of_block r2]; rfl)
 have uf1:=ubk r2 1
 have u2:W2.cell? ⟨w.heap.size+1,2,none⟩=some (.int .i64 0):=(by rw [cell_of_block r2]; rfl)
 have uf2:=ubk r2 2
 have u3:W2.cell? ⟨w.heap.size+1,3,none⟩=some (.int .i64 0):=(by rw [cell_of_block r2]; rfl)
 have uf3:=ubk r2 3
 have u4:W2.cell? ⟨w.heap.size+1,4,none⟩=some (.string ⟨#[]⟩):=(by rw [cell_of_block r2]; rfl)
 have uf4:=ubk r2 4
 have u5:W2.cell? ⟨w.heap.size+1,5,none⟩=some (.slice none 0 0):=(by rw [cell_of_block r2]; rfl)
 have uf5:=ubk r2 5
 have u6:W2.cell? ⟨w.heap.size+1,6,none⟩=some (.slice none 0 0):=(by rw [cell_of_block r2]; rfl)
 have uf6:=ubk r2 6
 have kw0:=kk0.move (m2.block kb hSb hlb)
 have xw0:=x0.move m2
 obtain ⟨p00,p01,p02,p03⟩:=kw0
 simp only [Nat.zero_mul,Nat.add_zero] at p00 p01 p02 p03
 have hbk:but (but S w.heap.size) (w.heap.size+1) kb:=m2.sub kb hSb hlb
 have hlk:kb<W2.heap.size:=Nat.lt_of_lt_of_le hlb m2.size
 have hvr:VR W2 (but (but S w.heap.size) (w.heap.size+1)) d P (.agg #[.int .i64 3,.int .i64 e.n,.int .i64 k0.kind,.int .i64 k0.n,.string k0.text,.slice ka0 k0.kids.length kc0,.slice a2 env.length c2]) (.ok (.fn e.n k0 env)):=by
  obtain ⟨kv,hv,j1,j2,j3,hkk⟩:=xw0
  simp only [exV,Value.agg.injEq,Array.mk.injEq,List.cons.injEq,and_true,true_and] at hv
  subst hv
  obtain ⟨⟨deep,hr0⟩,hr1⟩:=hg
  have hk0:=kid_right hr0 (i:=0) (k:=k0) (by rw [hks']; rfl)
  have hfb:=((right_iff _ _ _ _).1 hr0).2.2.2.1
  have hnn:1≤e.n∧e.n≤6:=by
   unfold fieldsB at hfb
   by_cases ht:e.text.toList≠[]
   ·rw [if_neg (by omega),if_pos ht] at hfb; cases hfb
   ·rw [if_neg (by omega),if_neg ht,if_neg (by omega),if_neg (by omega),if_neg (by omega),if_pos hk] at hfb
    unfold inR at hfb
    simpa using hfb
  rw [hk,show moreN 3 e.n 0=e.n from rfl] at hk0
  exact ⟨m,⟨_,_,rfl,j1,j2,j3,hkk,hen2⟩,hnn.1,hnn.2,hr1,_,hk0⟩
 have keep:∀ W:World,(∀ x,x<W2.heap.size→x≠w.heap.size+1→W.heap[x]? = W2.heap[x]?)→W.cell? ⟨w.heap.size,1,none⟩=some (.int .i64 e.n)∧W.cell? ⟨w.heap.size,3,none⟩=some (.slice (some ⟨kb,ko,none⟩) 1 c1)∧W.cell? ⟨kb,ko,none⟩=some (.int .i64 k0.kind)∧W.cell? ⟨kb,ko+1,none⟩=some (.int .i64 k0.n)∧W.cell? ⟨kb,ko+2,none⟩=some (.string k0.text)∧W.cell? ⟨kb,ko+3,none⟩=some (.slice ka0 k0.kids.length kc0):=fun W h=>by
  have c9:=(kk0.move (m2.block kb hSb hlb)).move (h kb hlk (fun e=>hbk.2 e))
  simp only [Nat.zero_mul,Nat.add_zero] at c9
  obtain ⟨c90,c91,c92,c93⟩:=c9
  exact ⟨by rw [cell_of_block ((h _ (by omega) (by omega)).trans q2)]; rfl,by rw [cell_of_block ((h _ (by omega) (by omega)).trans q2)]; rfl,c90,c91,c92,c93⟩
 have keepD:=keep W2.drew (fun x _ _=>by rw [drew_heap])
 have keep7:=fun v0 v1 v2 v3 v4 v5 v6=>keep ((((((((W2.setCell ⟨w.heap.size+1,0,none⟩ v0).setCell ⟨w.heap.size+1,1,none⟩ v1).setCell ⟨w.heap.size+1,2,none⟩ v2).setCell ⟨w.heap.size+1,3,none⟩ v3).setCell ⟨w.heap.size+1,4,none⟩ v4).setCell ⟨w.heap.size+1,5,none⟩ v5).setCell ⟨w.heap.size+1,6,none⟩ v6)).drew (fun x hx hn=>kb7_block W2 (w.heap.size+1) v0 v1 v2 v3 v4 v5 v6 hx hn)
 have HK:=(show Hid (_∧_∧_∧_∧_) from ⟨keepD,hvr,run2,kb2,keep7⟩)
 clear keepD keep7
 clear hB hf hr hs hx hg hk hkd hen hz2 hz hz1 s1 kb1 q1 r1 s2 m2 kb2 q2 r2 run2 hs2 hen2 hln i1 i2 i3 hd hks hks' hkl hSb hlb hbk hlk e0 kk0 x0 xw0 keep hvr
 go_enter Tryz.func88,Tryz.ntmps88
 go_upto_region 1 with fail
 rw [← hW1]
 clear hW1
 go_upto_region 7 with fail
 rw [← hW2]
 clear hW2 y2 y2f y3 hq0 hq1 hw
 go_upto_region 15 with fail
 go_region_held3 (fun W=>W.cell? ⟨w.heap.size,1,none⟩=some (.int .i64 e.n)∧W.cell? ⟨w.heap.size,3,none⟩=some (.slice (some ⟨kb,ko,none⟩) 1 c1)∧W.cell? ⟨kb,ko,none⟩=some (.int .i64 k0.kind)∧W.cell? ⟨kb,ko+1,none⟩=some (.int .i64 k0.n)∧W.cell? ⟨kb,ko+2,none⟩=some (.string k0.text)∧W.cell? ⟨kb,ko+3,none⟩=some (.slice ka0 k0.kids.length kc0)) (first | with_reducible exact HK.out.1 | with_reducible exact HK.out.2.2.2.2 _ _ _ _ _ _ _) (fail)
 all_goals
  go_wp2_with fail
  refine bodyPost_ret (v:=.agg #[.int .i64 3,.int .i64 e.n,.int .i64 k0.kind,.int .i64 k0.n,.string k0.text,.slice ka0 k0.kids.length kc0,.slice a2 env.length c2]) (by simp [results,Tryz.results88,go_sem,u0,u1,u2,u3,u4,u5,u6]) rfl ?_
  exact ⟨_,rfl,aft_end HK.out.2.2.2.1 HK.out.2.1 (fun b h=>h.1.1) (fun h=>h.2 rfl) HK.out.2.2.1 (by omega) hrl (kb7 _ _ _ _ _ _ _ _ _).drew⟩
end Go.Proofs.YtljdgmfcgkimoaaGreatDoor

namespace Go.Proofs.YtljdgmfcgkimoaaGreatDoor
open Go.RowKit Go.Joins
set_option maxRecDepth 100000
set_option maxHeartbeats 3200000 in
theorem l03Want_of (P:List Ex) (nv bv:Value) (rb d b:Nat) (hE:EvS P nv bv rb d b) (S:Nat→Prop) (f:Nat) (e:Ex) (env:List Clo) (xv envv:Value) (w:World) (c:Int) (ka kb:Int)
  (hf:f≤b) (hr:RunAt w rb nv bv f c) (hs:Sv w S d rb bv P) (hx:Cx w S d e env xv envv) (hg:c=0→Ok P e env) :
  Calls Tryz.prog 102 #[.pointer (some ⟨rb,0,none⟩),xv,envv,.int .i64 ka,.int .i64 kb] w fun r w'=>∃ v,r = .returned v∧Aft P S d rb nv bv w w' v (wantK (evC P b c f e env) ka kb):=by
 have hrl:rb<w.heap.size:=(Array.getElem?_eq_some_iff.1 hr).1
 have hx0:=hx
 obtain ⟨⟨kv,rfl,-,-,-,hk⟩,m,hen⟩:=hx0
 obtain ⟨a1,c1,rfl⟩:=hk.form
 obtain ⟨a2,c2,rfl,-⟩:=hen.form
 obtain ⟨W1,hW1⟩:∃ W1,W1=((w.alloc (.cells #[.int .i64 e.kind,.int .i64 e.n,.string e.text,.slice a1 e.kids.length c1] 52)).alloc (.cells #[.int .i64 0,.int .i64 0,.int .i64 0,.int .i64 0,.string ⟨#[]⟩,.slice none 0 0,.slice none 0 0] 127)):=⟨_,rfl⟩
 obtain ⟨s1,m1,kb1,-,r1⟩:=two_boxes w S (.cells #[.int .i64 e.kind,.int .i64 e.n,.string e.text,.slice a1 e.kids.length c1] 52) (.cells #[.int .i64 0,.int .i64 0,.int .i64 0,.int .i64 0,.string ⟨#[]⟩,.slice none 0 0,.slice none 0 0] 127) W1 hW1 rb
 have hcall:=hE (but (but S w.heap.size) (w.heap.size+1)) f e env _ _ W1 c hf (hr.move (kb1.low hrl)) (hs.two m1 s1) (hx.move m1) hg
 obtain ⟨R,hR⟩:∃ R,evC P b c f e env=R:=⟨_,rfl⟩
 rw [hR] at hcall ⊢
 have HK:=(show Hid (_∧_∧_∧_∧_∧_∧_) from ⟨hcall,s1,m1,kb1.kb,r1,hrl,hs⟩)
 clear hE hcall s1 m1 kb1 r1 hs hx hg hr hk hen hf hR
 go_enter Tryz.func102,Tryz.ntmps102
 go_wp2_with fail
 rw [← hW1]
 clear hW1
 refine HK.out.1.mono ?_
 rintro r w3 ⟨v,rfl,haf⟩
 obtain ⟨m3,k,n,e3,en,hsh,hl3,hok,hcode⟩:=haf.vr.junk
 obtain ⟨b1,q1,b2,q2,rfl,hk3,he3,hz3⟩:=hsh.form
 have HS:=(show Hid (_∧_∧_∧_∧_) from ⟨haf,hl3,hok,hcode,hsh⟩)
 have Z:=haf.kb.heap HK.out.2.2.2.2.1 (by have:=HK.out.2.2.2.2.2.1; have:=HK.out.2.1; omega)
 have hrun:=haf.run
 have g3:w.heap.size+1<w3.heap.size:=by have:=HS.out.1.kb.size; have:=HK.out.2.1; omega
 have hne:rb≠w3.heap.size:=by have:=HK.out.2.2.2.2.2.1; omega
 go_upto_region 2 with fail
 obtain ⟨W4,hW4⟩:∃ W4,W4=w3.alloc (.cells #[.int .i64 k,.int .i64 n,.int .i64 e3.kind,.int .i64 e3.n,.string e3.text,.slice b1 e3.kids.length q1,.slice b2 en.length q2] 127):=⟨_,rfl⟩
 rw [← hW4]
 have n4:W4.heap[w3.heap.size]? = some (.cells #[.int .i64 k,.int .i64 n,.int .i64 e3.kind,.int .i64 e3.n,.string e3.text,.slice b1 e3.kids.length q1,.slice b2 en.length q2] 127):=by rw [hW4]; exact block_alloc
 have k4:KB (· = rb) w3 W4:=by rw [hW4]; exact KB.of_below ((Below.refl _ w3).alloc (Nat.le_refl _) _)
 have M4:Mv w3 W4 (but (but S w.heap.size) (w.heap.size+1)) (but (but (but S w.heap.size) (w.heap.size+1)) w3.heap.size):=by rw [hW4]; exact Mv.alloc _ _ _
 have i4:W4.heap[rb]? = w3.heap[rb]? := by rw [hW4]; exact Below.heap_alloc _ _ _ (by have:=HK.out.2.2.2.2.2.1; omega)
 have zz4:W4.heap[w.heap.size+1]? = some (.cells #[.int .i64 0,.int .i64 0,.int .i64 0,.int .i64 0,.string ⟨#[]⟩,.slice none 0 0,.slice none 0 0] 127):=by rw [hW4,Below.heap_alloc _ _ _ g3]; exact Z
 have r4:RunAt W4 rb nv bv R.2 R.1.code:=hrun.move i4
 have vr4:=HS.out.1.vr.move M4
 have KB4:KB (· = rb) w W4:=(HK.out.2.2.2.1.trans HS.out.1.kb).trans k4
 clear hW4 M4 i4 Z hrun k4 hsh hl3 haf hk3 he3 hz3
 have fin:∀ (W:World) (R':Rs×Nat),KB (· = rb) W4 W→RunAt W rb nv bv R'.2 R'.1.code→VR W (but (but (but S w.heap.size) (w.heap.size+1)) w3.heap.size) d P (.agg #[.int .i64 k,.int .i64 n,.int .i64 e3.kind,.int .i64 e3.n,.string e3.text,.slice b1 e3.kids.length q1,.slice b2 en.length q2]) R'.1→Aft P S d rb nv bv w ((((((((W.setCell ⟨w.heap.size+1,0,none⟩ (.int .i64 k)).setCell ⟨w.heap.size+1,1,none⟩ (.int .i64 n)).setCell ⟨w.heap.size+1,2,none⟩ (.int .i64 e3.kind)).setCell ⟨w.heap.size+1,3,none⟩ (.int .i64 e3.n)).setCell ⟨w.heap.size+1,4,none⟩ (.string e3.text)).setCell ⟨w.heap.size+1,5,none⟩ (.slice b1 e3.kids.length q1)).setCell ⟨w.heap.size+1,6,none⟩ (.slice b2 en.length q2))) (.agg #[.int .i64 k,.int .i64 n,.int .i64 e3.kind,.int .i64 e3.n,.string e3.text,.slice b1 e3.kids.length q1,.slice b2 en.length q2]) R':=by
  intro W R' hk hr hv
  exact aft_end (KB4.trans hk) hv (fun b h=>h.1.1.1) (fun h=>h.1.2 rfl) hr (by omega) HK.out.2.2.2.2.2.1 (kb7 _ _ _ _ _ _ _ _ _)
 have v0:W4.cell? ⟨w3.heap.size,0,none⟩=some (.int .i64 k):=(by rw [cell_of_block n4]; rfl)
 have v1:W4.cell? ⟨w3.heap.size,1,none⟩=some (.int .i64 n):=(by rw [cell_of_block n4]; rfl)
 have v2:W4.cell? ⟨w3.heap.size,2,none⟩=some (.int .i64 e3.kind):=(by rw [cell_of_block n4]; rfl)
 have v3:W4.cell? ⟨w3.heap.size,3,none⟩=some (.int .i64 e3.n):=(by rw [cell_of_block n4]; rfl)
 have v4:W4.cell? ⟨w3.heap.size,4,none⟩=some (.string e3.text):=(by rw [cell_of_block n4]; rfl)
 have v5:W4.cell? ⟨w3.heap.size,5,none⟩=some (.slice b1 e3.kids.length q1):=(by rw [cell_of_block n4]; rfl)
 have v6:W4.cell? ⟨w3.heap.size,6,none⟩=some (.slice b2 en.length q2):=(by rw [cell_of_block n4]; rfl)
 have u0:W4.cell? ⟨w.heap.size+1,0,none⟩=some (.int .i64 0):=(by rw [cell_of_block zz4]; rfl)
 have uf0:=ubk zz4 0
 have u1:W4.cell? ⟨w.heap.size+1,1,none⟩=some (.int .i64 0):=(by rw [cell_of_block zz4]; rfl)
 have uf1:=ubk zz4 1
 have u2:W4.cell? ⟨w.heap.size+1,2,none⟩=some (.int .i64 0):=(by rw [cell_of_block zz4]; rfl)
 have uf2:=ubk zz4 2
 have u3:W4.cell? ⟨w.heap.size+1,3,none⟩=some (.int .i64 0):=(by rw [cell_of_block zz4]; rfl)
 have uf3:=ubk zz4 3
 have u4:W4.cell? ⟨w.heap.size+1,4,none⟩=some (.string ⟨#[]⟩):=(by rw [cell_of_block zz4]; rfl)
 have uf4:=ubk zz4 4
 have u5:W4.cell? ⟨w.heap.size+1,5,none⟩=some (.slice none 0 0):=(by rw [cell_of_block zz4]; rfl)
 have uf5:=ubk zz4 5
 have u6:W4.cell? ⟨w.heap.size+1,6,none⟩=some (.slice none 0 0):=(by rw [cell_of_block zz4]; rfl)
 have uf6:=ubk zz4 6
 have H4:=(show Hid (_∧_∧_∧_∧_∧_) from ⟨n4,zz4,r4,vr4,KB4,fin⟩)
 clear n4 zz4 KB4 fin
 obtain ⟨R,rf⟩:=R
 cases R with
 | err q =>
  have hq:q≠0:=by obtain ⟨_,h⟩:=vr4; exact h.2
  clear hok hcode vr4
  have y1:=cbk r4 3 (.int .i64 q) rfl
  have hq2:decide (q=0)=false:=by simpa using hq
  clear r4
  go_wp2_with fail
  refine bodyPost_ret (v:=.agg #[.int .i64 k,.int .i64 n,.int .i64 e3.kind,.int .i64 e3.n,.string e3.text,.slice b1 e3.kids.length q1,.slice b2 en.length q2]) (by simp [results,Tryz.results102,go_sem,u0,u1,u2,u3,u4,u5,u6]) rfl ?_
  exact ⟨_,rfl,H4.out.2.2.2.2.2 W4 (.err q,rf) (KB.refl _ _) H4.out.2.2.1 H4.out.2.2.2.1⟩
 | ok x =>
  obtain rfl:=hok x rfl
  have y1:=cbk r4 3 (.int .i64 0) rfl
  have y2:=ubk r4 3
  clear hok hcode vr4 r4
  by_cases h1:x.kind=ka
  ·subst h1
   go_wp2_with fail
   refine bodyPost_ret (v:=.agg #[.int .i64 x.kind,.int .i64 n,.int .i64 e3.kind,.int .i64 e3.n,.string e3.text,.slice b1 e3.kids.length q1,.slice b2 en.length q2]) (by simp [results,Tryz.results102,go_sem,u0,u1,u2,u3,u4,u5,u6]) rfl ?_
   refine ⟨_,rfl,?_⟩
   rw [show wantK (.ok x,rf) x.kind kb=(.ok x,rf) by simp [wantK]]
   exact H4.out.2.2.2.2.2 W4 (.ok x,rf) (KB.refl _ _) H4.out.2.2.1 H4.out.2.2.2.1
  ·have hq2:decide (x.kind=ka)=false:=by simpa using h1
   have hq3:(x.kind == ka)=false:=by simpa using h1
   have hq4:(x.kind != ka)=true:=by simpa using h1
   by_cases h2:x.kind=kb
   ·have HN:=(show Hid (_∧True) from ⟨h1,trivial⟩)
    clear h1
    subst h2
    go_wp2_with fail
    refine bodyPost_ret (v:=.agg #[.int .i64 x.kind,.int .i64 n,.int .i64 e3.kind,.int .i64 e3.n,.string e3.text,.slice b1 e3.kids.length q1,.slice b2 en.length q2]) (by simp [results,Tryz.results102,go_sem,u0,u1,u2,u3,u4,u5,u6]) rfl ?_
    refine ⟨_,rfl,?_⟩
    rw [show wantK (.ok x,rf) ka x.kind=(.ok x,rf) by simp [wantK]]
    exact H4.out.2.2.2.2.2 W4 (.ok x,rf) (KB.refl _ _) H4.out.2.2.1 H4.out.2.2.2.1
   ·have hr2:decide (x.kind=kb)=false:=by simpa using h2
    have hr3:(x.kind == kb)=false:=by simpa using h2
    have hr4:(x.kind != kb)=true:=by simpa using h2
    have HN:=(show Hid (_∧_) from ⟨h1,h2⟩)
    clear h1 h2
    go_wp2_with fail
    refine bodyPost_ret (v:=.agg #[.int .i64 x.kind,.int .i64 n,.int .i64 e3.kind,.int .i64 e3.n,.string e3.text,.slice b1 e3.kids.length q1,.slice b2 en.length q2]) (by simp [results,Tryz.results102,go_sem,u0,u1,u2,u3,u4,u5,u6]) rfl ?_
    refine ⟨_,rfl,?_⟩
    rw [show wantK (.ok x,rf) ka kb=(.err 2,rf) by unfold wantK; simp only []; rw [if_neg (by rintro (h | h); exact HN.out.1 h; exact HN.out.2 h)]]
    obtain ⟨m9,h9,h10⟩:=H4.out.2.2.2.1
    exact H4.out.2.2.2.2.2 _ (.err 2,rf) (kb_set W4 rb 3 _) (H4.out.2.2.1.code_set 2) ⟨m9,h9.junk h10 |>.move (Mv.set _ _ (fun h=>HK.out.2.2.2.2.2.2.rb h.1.1.1)),by decide⟩
end Go.Proofs.YtljdgmfcgkimoaaGreatDoor
