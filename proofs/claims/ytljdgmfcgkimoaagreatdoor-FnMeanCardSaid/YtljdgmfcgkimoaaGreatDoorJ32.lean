/-
  Proofs.
  Proofs.
-/
import Derived.Test.YtljdgmfcgkimoaaGreatDoorJ1
import Derived.Test.YtljdgmfcgkimoaaGreatDoorJ31
import Derived.Deep.RegionHeld3
import Derived.Test.YtljdgmfcgkimoaaGreatDoorJ29
import Derived.BigQuiet
import Derived.Deep.QuietTactic
import Derived.Deep.CutBlock
namespace Go.Proofs.YtljdgmfcgkimoaaGreatDoor
open Go.RowKit Go.Joins
set_option maxRecDepth 100000
set_option maxHeartbeats 3200000 in
theorem l03App_of (P:List Ex) (nv bv:Value) (rb d b:Nat) (hE:EvS P nv bv rb d b) (S:Nat→Prop) (f:Nat) (e:Ex) (env:List Clo) (xv envv:Value) (w:World)
  (hf:f≤b) (hr:RunAt w rb nv bv f 0) (hs:Sv w S d rb bv P) (hx:Cx w S d e env xv envv) (hg:Ok P e env) (h4:e.kind=4) :
  Calls Tryz.prog 101 #[.pointer (some ⟨rb,0,none⟩),xv,envv] w fun r w'=>∃ v,r = .returned v∧Aft P S d rb nv bv w w' v (onFn (ev P b f (kidN e 0) env) fun l x en f'=>if 1<l then (.ok (.fn (l - 1) x (en ++ [.mk (kidN e 1) env false])),f') else ev P b f' x (en ++ [.mk (kidN e 1) env false])):=by
 have hrl:rb<w.heap.size:=(Array.getElem?_eq_some_iff.1 hr).1
 have hx0:=hx
 obtain ⟨⟨kv,rfl,-,-,-,hk⟩,m,hen⟩:=hx0
 obtain ⟨a1,c1,rfl⟩:=hk.form
 obtain ⟨a2,c2,rfl,hz2⟩:=hen.form
 obtain ⟨k0,k1,hks⟩:∃ k0 k1,e.kids=[k0,k1]:=by obtain ⟨⟨deep,h⟩,-⟩:=hg; exact kids2 (by rw [kids_of h,h4]; rfl)
 have hd:0<d:=hk.pos
 have g0:Ok P k0 env:=hg.kid (i:=0) (by rw [hks]; rfl) (by unfold moreN; simp [h4])
 have g1:Ok P k1 env:=hg.kid (i:=1) (by rw [hks]; rfl) (by unfold moreN; simp [h4])
 have e0:kidN e 0=k0:=by unfold kidN; rw [hks]; rfl
 have e1:kidN e 1=k1:=by unfold kidN; rw [hks]; rfl
 rw [e0,e1]
 rw [hks] at hk
 obtain ⟨kb,ko,rfl⟩:=kid_row hk (by simp)
 obtain ⟨ka0,kc0,kk0,hSb,hlb,x0⟩:=kid_at hk (i:=0) (k:=k0) rfl
 obtain ⟨ka1,kc1,kk1,-,-,x1⟩:=kid_at hk (i:=1) (k:=k1) rfl
 have hkl:e.kids.length=2:=by rw [hks]; rfl
 rw [hkl]
 obtain ⟨W1,hW1⟩:∃ W1,W1=((w.alloc (.cells #[.int .i64 e.kind,.int .i64 e.n,.string e.text,.slice (some ⟨kb,ko,none⟩) 2 c1] 52)).alloc (.cells #[.int .i64 0,.int .i64 0,.int .i64 0,.int .i64 0,.string ⟨#[]⟩,.slice none 0 0,.slice none 0 0] 127)):=⟨_,rfl⟩
 obtain ⟨s1,m1,kb1,q1,r1⟩:=two_boxes w S (.cells #[.int .i64 e.kind,.int .i64 e.n,.string e.text,.slice (some ⟨kb,ko,none⟩) 2 c1] 52) (.cells #[.int .i64 0,.int .i64 0,.int .i64 0,.int .i64 0,.string ⟨#[]⟩,.slice none 0 0,.slice none 0 0] 127) W1 hW1 rb
 have hcall:=l03Want_of P nv bv rb d b hE (but (but S w.heap.size) (w.heap.size+1)) f k0 env (exV k0 ka0 kc0) (.slice a2 env.length c2) W1 0 3 3 hf (hr.move (kb1.low hrl)) (hs.two m1 s1) ⟨x0.move m1,m,hen.move m1⟩ (fun _=>g0)
 rw [evC_zero] at hcall
 have kw0:=kk0.move (m1.block kb hSb hlb)
 have kw1:=kk1.move (m1.block kb hSb hlb)
 obtain ⟨y0,y1,y2,y3⟩:=kw0
 simp only [Nat.zero_mul,Nat.add_zero] at y0 y1 y2 y3
 have b3:=cbk q1 3 (.slice (some ⟨kb,ko,none⟩) 2 c1) rfl
 have HK:=(show Hid (_∧_∧_∧_∧_∧_∧_∧_∧_) from ⟨hcall,s1,kb1.kb,r1,q1,hen.move m1,x1.move m1,hs.two m1 s1,kw1⟩)
 have HG:=(show Hid (_∧_∧_∧_∧_) from ⟨g1,hd,hSb,hlb,m1⟩)
 have HE:=(show Hid (_∧_) from ⟨hE,hf⟩)
 clear hE hcall s1 m1 kb1 q1 r1 hs hx hg hr hk hen hf hz2 h4 hks e0 e1 kk0 kk1 x0 x1 g0 g1 hkl hd hSb hlb kw1
 go_enter Tryz.func101,Tryz.ntmps101
 go_upto_region 1 with fail
 rw [← hW1]
 clear hW1
 go_wp2_with fail
 refine HK.out.1.mono ?_
 rintro r w3 ⟨v,rfl,haf⟩
 clear y0 y1 y2 y3 b3
 generalize hRW:wantK (ev P b f k0 env) 3 3=RW at haf
 obtain ⟨RW,rf⟩:=RW
 have hfn:=want_fn hRW fun l x en f'=>if 1<l then (.ok (.fn (l - 1) x (en ++ [.mk k1 env false])),f') else ev P b f' x (en ++ [.mk k1 env false])
 generalize hRR:(onFn (ev P b f k0 env) fun l x en f'=>if 1<l then (.ok (.fn (l - 1) x (en ++ [.mk k1 env false])),f') else ev P b f' x (en ++ [.mk k1 env false]))=RR at hfn
 have hrf:rf≤f:=by
  have:=ev_less P b f k0 env
  have h2:(wantK (ev P b f k0 env) 3 3).2=(ev P b f k0 env).2:=by unfold wantK; split <;> (try split) <;> simp [*]
  rw [hRW] at h2
  have h3:rf=(ev P b f k0 env).2:=h2
  omega
 have HR:=(show Hid (_∧_) from ⟨hRR,hrf⟩)
 have n3:=haf.kb.heap HK.out.2.2.2.1 (by omega)
 have o3:=haf.kb.heap HK.out.2.2.2.2.1 (by omega)
 have s3:w.heap.size+1<w3.heap.size:=by have:=haf.kb.size; have:=HK.out.2.1; omega
 have m3:Mv W1 w3 (but (but S w.heap.size) (w.heap.size+1)) (but (but S w.heap.size) (w.heap.size+1)):=Mv.kb haf.kb (fun x hx h=>HK.out.2.2.2.2.2.2.2.1.rb (hx ▸ h))
 clear hRW hRR hrf
 rcases hfn with ⟨q,rfl,hfn⟩ | ⟨l,xx,en,rfl,hfn⟩
 ·obtain ⟨k,n,x,y,t,b1,l1,q1,b2,l2,q2,rfl⟩:=haf.form
  have HS:=(show Hid (_∧_∧_) from ⟨haf,hfn,m3⟩)
  have hq2:decide (q=0)=false:=by obtain ⟨_,h⟩:=haf.vr; simpa using h.2
  have hq4:(q != 0)=true:=by obtain ⟨_,h⟩:=haf.vr; simpa using h.2
  have hrun:=haf.run
  clear haf hfn m3
  go_upto_region 2 with fail
  obtain ⟨W4,hW4⟩:∃ W4,W4=w3.alloc (.cells #[.int .i64 k,.int .i64 n,.int .i64 x,.int .i64 y,.string t,.slice b1 l1 q1,.slice b2 l2 q2] 127):=⟨_,rfl⟩
  rw [← hW4]
  have hrl3:rb<w3.heap.size:=by omega
  have r4:RunAt W4 rb nv bv rf q:=hrun.move (by rw [hW4]; exact Below.heap_alloc _ _ _ hrl3)
  have yq:=cbk r4 3 (.int .i64 q) rfl
  have n4:W4.heap[w.heap.size+1]? = some (.cells #[.int .i64 0,.int .i64 0,.int .i64 0,.int .i64 0,.string ⟨#[]⟩,.slice none 0 0,.slice none 0 0] 127):=by rw [hW4,Below.heap_alloc _ _ _ s3]; exact n3
  have k4:KB (· = rb) w3 W4:=by rw [hW4]; exact (KB.refl _ _).alloc _
  have u0:W4.cell? ⟨w.heap.size+1,0,none⟩=some (.int .i64 0):=(by rw [cell_of_block n4]; rfl)
  have uf0:=ubk n4 0
  have u1:W4.cell? ⟨w.heap.size+1,1,none⟩=some (.int .i64 0):=(by rw [cell_of_block n4]; rfl)
  have uf1:=ubk n4 1
  have u2:W4.cell? ⟨w.heap.size+1,2,none⟩=some (.int .i64 0):=(by rw [cell_of_block n4]; rfl)
  have uf2:=ubk n4 2
  have u3:W4.cell? ⟨w.heap.size+1,3,none⟩=some (.int .i64 0):=(by rw [cell_of_block n4]; rfl)
  have uf3:=ubk n4 3
  have u4:W4.cell? ⟨w.heap.size+1,4,none⟩=some (.string ⟨#[]⟩):=(by rw [cell_of_block n4]; rfl)
  have uf4:=ubk n4 4
  have u5:W4.cell? ⟨w.heap.size+1,5,none⟩=some (.slice none 0 0):=(by rw [cell_of_block n4]; rfl)
  have uf5:=ubk n4 5
  have u6:W4.cell? ⟨w.heap.size+1,6,none⟩=some (.slice none 0 0):=(by rw [cell_of_block n4]; rfl)
  have uf6:=ubk n4 6
  have H4:=(show Hid (_∧_) from ⟨r4,k4⟩)
  clear hW4 r4 n4 k4 hrun n3 o3
  go_wp2_with fail
  refine bodyPost_ret (v:=.agg #[.int .i64 0,.int .i64 0,.int .i64 0,.int .i64 0,.string ⟨#[]⟩,.slice none 0 0,.slice none 0 0]) (by simp [results,Tryz.results101,go_sem,u0,u1,u2,u3,u4,u5,u6]) rfl ?_
  refine ⟨_,rfl,?_⟩
  rw [HR.out.1,HS.out.2.1]
  exact aft_end (S':=but (but S w.heap.size) (w.heap.size+1)) ((HK.out.2.2.1.trans HS.out.1.kb).trans H4.out.2) ⟨1,VJ.zero' HG.out.2.1,by obtain ⟨_,h⟩:=HS.out.1.vr; exact h.2⟩ (fun b h=>h.1.1) (fun h=>h.2 rfl) H4.out.1 (by omega) hrl (kb7 _ _ _ _ _ _ _ _ _)
 ·obtain ⟨m9,hva,hgd⟩:=haf.vr
  obtain ⟨b1,q1,b2,q2,rfl,hkx,hex,hzx⟩:=VSh.form hva
  obtain ⟨gl1,gl2,ge,deepx,gx⟩:=hgd
  have hlen:en.length≤84+6:=by have:=((right_iff _ _ _ _).1 gx).2.1; omega
  have hexx:ExAt w3 (but (but S w.heap.size) (w.heap.size+1)) d (.agg #[.int .i64 xx.kind,.int .i64 xx.n,.string xx.text,.slice b1 xx.kids.length q1]) xx:=by
   obtain ⟨kv,ev,hv,i1,i2,i3,-⟩:=hva
   exact ⟨_,rfl,i1,i2,i3,hkx⟩
  go_upto_region 2 with fail
  obtain ⟨W4,hW4⟩:∃ W4,W4=w3.alloc (.cells #[.int .i64 3,.int .i64 l,.int .i64 xx.kind,.int .i64 xx.n,.string xx.text,.slice b1 xx.kids.length q1,.slice b2 en.length q2] 127):=⟨_,rfl⟩
  rw [← hW4]
  have hrl3:rb<w3.heap.size:=by omega
  have r4:RunAt W4 rb nv bv rf 0:=haf.run.move (by rw [hW4]; exact Below.heap_alloc _ _ _ hrl3)
  have n4:W4.heap[w.heap.size+1]? = some (.cells #[.int .i64 0,.int .i64 0,.int .i64 0,.int .i64 0,.string ⟨#[]⟩,.slice none 0 0,.slice none 0 0] 127):=by rw [hW4,Below.heap_alloc _ _ _ s3]; exact n3
  have o4:W4.heap[w.heap.size]? = some (.cells #[.int .i64 e.kind,.int .i64 e.n,.string e.text,.slice (some ⟨kb,ko,none⟩) 2 c1] 52):=by rw [hW4,Below.heap_alloc _ _ _ (by omega)]; exact o3
  have p4:W4.heap[w3.heap.size]? = some (.cells #[.int .i64 3,.int .i64 l,.int .i64 xx.kind,.int .i64 xx.n,.string xx.text,.slice b1 xx.kids.length q1,.slice b2 en.length q2] 127):=by rw [hW4]; exact block_alloc
  have k4:KB (· = rb) w3 W4:=by rw [hW4]; exact (KB.refl _ _).alloc _
  have s4:W4.heap.size=w3.heap.size+1:=by rw [hW4]; simp
  have m4:Mv w3 W4 (but (but S w.heap.size) (w.heap.size+1)) (but (but (but S w.heap.size) (w.heap.size+1)) w3.heap.size):=by rw [hW4]; exact Mv.alloc _ _ _
  have hbk:but (but S w.heap.size) (w.heap.size+1) kb:=HG.out.2.2.2.2.sub kb HG.out.2.2.1 HG.out.2.2.2.1
  have hlk:kb<W1.heap.size:=Nat.lt_of_lt_of_le HG.out.2.2.2.1 HG.out.2.2.2.2.size
  have c4:KidC W4 kb (ko+4) k1 ka1 kc1:=by have:=HK.out.2.2.2.2.2.2.2.2.move ((m3.trans m4).block kb hbk hlk); simpa using this
  obtain ⟨W5,hW5⟩:∃ W5,W5=(W4.alloc (.cells #[.int .i64 k1.kind,.int .i64 k1.n,.string k1.text,.slice ka1 k1.kids.length kc1,.slice a2 env.length c2,.bool false] 78)).drew:=⟨_,rfl⟩
  have s5:W5.heap.size=W4.heap.size+1:=by rw [hW5]; simp
  have l5:∀ x,x<W4.heap.size→W5.heap[x]? = W4.heap[x]? := fun x hx=>by rw [hW5]; exact Below.heap_alloc _ _ _ hx
  have k5:KB (fun _=>False) W4 W5:=by rw [hW5]; exact ((KB.refl _ _).alloc _).drew
  have m5:Mv w3 W5 (but (but S w.heap.size) (w.heap.size+1)) (but (but (but S w.heap.size) (w.heap.size+1)) w3.heap.size):=m4.trans (Mv.kb k5 (fun _ h=>h.elim))
  have hsz3:w3.heap.size≤w3.heap.size:=Nat.le_refl _
  have hnew:∀ x,w3.heap.size+1≤x→but (but (but S w.heap.size) (w.heap.size+1)) w3.heap.size x:=but_new (new_le HK.out.2.2.2.2.2.2.2.1.new (by have:=haf.kb.size; omega)) (by omega)
  have n5:W5.heap[W4.heap.size]? = some (.cells #[.int .i64 k1.kind,.int .i64 k1.n,.string k1.text,.slice ka1 k1.kids.length kc1,.slice a2 env.length c2,.bool false] 78):=by rw [hW5]; exact block_alloc
  have cl:∃ i1 i2 i3:Prop,True:=⟨True,True,True,trivial⟩
  have hx1:=HK.out.2.2.2.2.2.2.1.move (m3.trans m5)
  obtain ⟨M,hM1,hM2⟩:∃ M,m9≤M∧m≤M:=⟨max m9 m,Nat.le_max_left ..,Nat.le_max_right ..⟩
  have hone:EnvAt W5 (but (but (but S w.heap.size) (w.heap.size+1)) w3.heap.size) d (M+1) (.slice (some ⟨W4.heap.size,0,none⟩) 1 1) [.mk k1 env false]:=by
   obtain ⟨kv,hv,i1,i2,i3,hkk⟩:=hx1
   simp only [Value.agg.injEq,Array.mk.injEq,List.cons.injEq,and_true,true_and] at hv
   subst hv
   exact env_one (c:=.mk k1 env false) n5 (hnew _ (by omega)) i1 i2 i3 hkk ((HK.out.2.2.2.2.2.1.move (m3.trans m5)).deep hM2)
  have hwith:=l03With_any (.slice b2 en.length q2) (.slice (some ⟨W4.heap.size,0,none⟩) 1 1) en [.mk k1 env false] (but (but (but S w.heap.size) (w.heap.size+1)) w3.heap.size) d M W5 (((hex.move m5).deep hM1).deep (Nat.le_succ _)) hone (fun x hx=>hnew x (by omega)) (by simp; omega)
  have gin:Clo.goodL (P.length:Int) (en ++ [.mk k1 env false]):=goodL_append ge (goodL_one HG.out.1.clo)
  have hr5:W5.heap[rb]? = w3.heap[rb]? := (l5 rb (by omega)).trans (by rw [hW4]; exact Below.heap_alloc _ _ _ hrl3)
  have hcall:∀ (w6:World) (v6:Value),Below W5.heap.size W5 w6→EnvAt w6 (but (but (but S w.heap.size) (w.heap.size+1)) w3.heap.size) d (M+1) v6 (en ++ [.mk k1 env false])→¬ 1<l→Calls Tryz.prog 88 #[.pointer (some ⟨rb,0,none⟩),.agg #[.int .i64 xx.kind,.int .i64 xx.n,.string xx.text,.slice b1 xx.kids.length q1],v6] w6 fun r w'=>∃ v,r = .returned v∧Aft P (but (but (but S w.heap.size) (w.heap.size+1)) w3.heap.size) d rb nv bv w6 w' v (ev P b rf xx (en ++ [.mk k1 env false])):=by
   intro w6 v6 b6 hv6 hl
   have m6:=m5.trans (Mv.kb (KB.of_below (X:=fun _=>False) b6) (fun _ h=>h.elim))
   have:=HE.out.1 (but (but (but S w.heap.size) (w.heap.size+1)) w3.heap.size) rf xx (en ++ [.mk k1 env false]) (.agg #[.int .i64 xx.kind,.int .i64 xx.n,.string xx.text,.slice b1 xx.kids.length q1]) v6 w6 0 (Nat.le_trans HR.out.2 HE.out.2) (haf.run.move ((b6.block rb (by omega)).trans hr5)) ((HK.out.2.2.2.2.2.2.2.1.move (m3.trans m6)) (fun x hx=>hnew x (by have:=b6.size; omega)) (but_not HK.out.2.2.2.2.2.2.2.1.rb)) ⟨hexx.move m6,M+1,hv6⟩ (fun _=>⟨⟨deepx,by have hl1:l=1:=(by omega); rw [List.length_append,show ((en.length+[Clo.mk k1 env false].length:Nat):Int)=(en.length:Int)+l by simp [hl1]]; exact gx⟩,gin⟩)
   rw [evC_zero] at this
   exact this
  have hokr:1<l→∀ (w6:World) (v6:Value),Below W5.heap.size W5 w6→EnvAt w6 (but (but (but S w.heap.size) (w.heap.size+1)) w3.heap.size) d (M+1) v6 (en ++ [.mk k1 env false])→VR w6 (but (but (but S w.heap.size) (w.heap.size+1)) w3.heap.size) d P (.agg #[.int .i64 3,.int .i64 (l - 1),.int .i64 xx.kind,.int .i64 xx.n,.string xx.text,.slice b1 xx.kids.length q1,v6]) (.ok (.fn (l - 1) xx (en ++ [.mk k1 env false]))):=by
   intro hl w6 v6 b6 hv6
   have m6:=m5.trans (Mv.kb (KB.of_below (X:=fun _=>False) b6) (fun _ h=>h.elim))
   obtain ⟨kv,hv,i1,i2,i3,hkk⟩:=hexx.move m6
   simp only [Value.agg.injEq,Array.mk.injEq,List.cons.injEq,and_true,true_and] at hv
   subst hv
   exact ⟨M+1,⟨_,_,rfl,i1,i2,i3,hkk,hv6⟩,by omega,by omega,gin,deepx,by rw [List.length_append]; simp only [List.length_cons,List.length_nil]; rw [show ((en.length+(0+1):Nat):Int)+(l - 1)=(en.length:Int)+l by omega]; exact gx⟩
  have keep:∀ W:World,(∀ x,x<W4.heap.size→W.heap[x]? = W4.heap[x]?)→W.cell? ⟨w3.heap.size,6,none⟩=some (.slice b2 en.length q2)∧W.cell? ⟨w.heap.size,3,none⟩=some (.slice (some ⟨kb,ko,none⟩) 2 c1)∧W.cell? ⟨kb,ko+4,none⟩=some (.int .i64 k1.kind)∧W.cell? ⟨kb,ko+4+1,none⟩=some (.int .i64 k1.n)∧W.cell? ⟨kb,ko+4+2,none⟩=some (.string k1.text)∧W.cell? ⟨kb,ko+4+3,none⟩=some (.slice ka1 k1.kids.length kc1):=fun W h=>by
   have c6:=c4.more (h kb)
   exact ⟨by rw [cell_of_block ((h _ (by omega)).trans p4)]; rfl,by rw [cell_of_block ((h _ (by omega)).trans o4)]; rfl,c6.c0,c6.c1,c6.c2,c6.c3⟩
  rw [hW5] at hwith
  have y1:=cbk r4 3 (.int .i64 0) rfl
  have HQ:=(show Hid (_∧_∧_∧_∧_∧_∧_∧_∧_) from ⟨hwith,hcall,hokr,keep,hW5,l5,p4,n4,s5⟩)
  have HF:=(show Hid (_∧_∧_) from ⟨hfn,(((HK.out.2.2.1.trans haf.kb).trans k4).trans (k5.more (fun _ _ h=>h.elim)):KB (· = rb) w W5),r4⟩)
  have hw1:IntKind.i64.wrap (l - 1)=l - 1:=in_sub1 gl1 gl2
  clear hfn hwith hcall hokr keep hW5 l5 p4 n4 s5 haf hva hkx hex gl1 gl2 ge gx hlen hexx hW4 r4 o4 k4 m4 hbk hlk c4 k5 m5 hnew n5 hx1 hone gin hr5 m3 n3 o3 cl hM1 hM2 s4
  go_upto_region 4 with fail
  go_region_held3 (fun W=>W.cell? ⟨w3.heap.size,6,none⟩=some (.slice b2 en.length q2)∧W.cell? ⟨w.heap.size,3,none⟩=some (.slice (some ⟨kb,ko,none⟩) 2 c1)∧W.cell? ⟨kb,ko+4,none⟩=some (.int .i64 k1.kind)∧W.cell? ⟨kb,ko+4+1,none⟩=some (.int .i64 k1.n)∧W.cell? ⟨kb,ko+4+2,none⟩=some (.string k1.text)∧W.cell? ⟨kb,ko+4+3,none⟩=some (.slice ka1 k1.kids.length kc1)) (first | with_reducible exact HQ.out.2.2.2.1 _ HX.out.1 | exact HQ.out.2.2.2.1 W4.drew (fun _ _=>rfl) | exact HQ.out.2.2.2.1 (W4.alloc (.cells #[.int .i64 k1.kind,.int .i64 k1.n,.string k1.text,.slice ka1 k1.kids.length kc1,.slice a2 env.length c2,.bool false] 78)).drew (fun x hx=>Below.heap_alloc _ _ _ hx)) (first
   | (go_at_call 89; refine HQ.out.1.mono ?_; rintro r w6 ⟨v6,rfl,hv6,b6⟩; rw [← HQ.out.2.2.2.2.1] at b6; obtain ⟨a6,c6,hv,-⟩:=hv6.form; rw [show (en ++ [Clo.mk k1 env false]).length=en.length+1 by simp] at hv; subst hv; have H6:=(show Hid (_∧_) from ⟨b6,hv6⟩); have HX:=(show Hid ((∀ x,x<W4.heap.size→w6.heap[x]? = W4.heap[x]?)∧True) from ⟨fun x hx=>(b6.block x (by have:=HQ.out.2.2.2.2.2.2.2.2; omega)).trans (HQ.out.2.2.2.2.2.1 x hx),trivial⟩); clear b6 hv6))
  all_goals
   have p6:=(HX.out.1 _ (lh HQ.out.2.2.2.2.2.2.1)).trans HQ.out.2.2.2.2.2.2.1
   have n6:=(HX.out.1 _ (lh HQ.out.2.2.2.2.2.2.2.1)).trans HQ.out.2.2.2.2.2.2.2.1
   have p0:w6.cell? ⟨w3.heap.size,0,none⟩=some (.int .i64 3):=(by rw [cell_of_block p6]; rfl)
   have p1:w6.cell? ⟨w3.heap.size,1,none⟩=some (.int .i64 l):=(by rw [cell_of_block p6]; rfl)
   have p2:w6.cell? ⟨w3.heap.size,2,none⟩=some (.int .i64 xx.kind):=(by rw [cell_of_block p6]; rfl)
   have p3:w6.cell? ⟨w3.heap.size,3,none⟩=some (.int .i64 xx.n):=(by rw [cell_of_block p6]; rfl)
   have p4:w6.cell? ⟨w3.heap.size,4,none⟩=some (.string xx.text):=(by rw [cell_of_block p6]; rfl)
   have p5:w6.cell? ⟨w3.heap.size,5,none⟩=some (.slice b1 xx.kids.length q1):=(by rw [cell_of_block p6]; rfl)
   have p6:w6.cell? ⟨w3.heap.size,6,none⟩=some (.slice b2 en.length q2):=(by rw [cell_of_block p6]; rfl)
   have u0:w6.cell? ⟨w.heap.size+1,0,none⟩=some (.int .i64 0):=(by rw [cell_of_block n6]; rfl)
   have uf0:=ubk n6 0
   have u1:w6.cell? ⟨w.heap.size+1,1,none⟩=some (.int .i64 0):=(by rw [cell_of_block n6]; rfl)
   have uf1:=ubk n6 1
   have u2:w6.cell? ⟨w.heap.size+1,2,none⟩=some (.int .i64 0):=(by rw [cell_of_block n6]; rfl)
   have uf2:=ubk n6 2
   have u3:w6.cell? ⟨w.heap.size+1,3,none⟩=some (.int .i64 0):=(by rw [cell_of_block n6]; rfl)
   have uf3:=ubk n6 3
   have u4:w6.cell? ⟨w.heap.size+1,4,none⟩=some (.string ⟨#[]⟩):=(by rw [cell_of_block n6]; rfl)
   have uf4:=ubk n6 4
   have u5:w6.cell? ⟨w.heap.size+1,5,none⟩=some (.slice none 0 0):=(by rw [cell_of_block n6]; rfl)
   have uf5:=ubk n6 5
   have u6:w6.cell? ⟨w.heap.size+1,6,none⟩=some (.slice none 0 0):=(by rw [cell_of_block n6]; rfl)
   have uf6:=ubk n6 6
   have HB:=(show Hid (_∧_) from ⟨p6,n6⟩)
   clear p6
   by_cases hl:1<l
   ·have hl2:decide (1<l)=true:=by simpa using hl
    have hl3:(l > 1)=True:=by simpa using hl
    have HL:=(show Hid (_∧True) from ⟨hl,trivial⟩)
    clear hl n6
    go_wp2_with fail
    refine bodyPost_ret (v:=.agg #[.int .i64 3,.int .i64 (l - 1),.int .i64 xx.kind,.int .i64 xx.n,.string xx.text,.slice b1 xx.kids.length q1,.slice a6 (en.length+1) c6]) (by simp [results,Tryz.results101,go_sem,u0,u1,u2,u3,u4,u5,u6]) rfl ?_
    refine ⟨_,rfl,?_⟩
    rw [HR.out.1,HF.out.1,if_pos HL.out.1]
    exact aft_end (HF.out.2.1.trans (KB.of_below H6.out.1)) (HQ.out.2.2.1 HL.out.1 _ _ H6.out.1 H6.out.2) (fun b h=>h.1.1.1) (fun h=>h.1.2 rfl) (HF.out.2.2.move (HX.out.1 rb (by have:=lh HQ.out.2.2.2.2.2.2.2.1; omega))) (by omega) hrl (kb7 _ _ _ _ _ _ _ _ _)
   ·have hl2:decide (1<l)=false:=by simpa using hl
    have HL:=(show Hid (_∧True) from ⟨hl,trivial⟩)
    clear hl
    go_wp2_with fail
    refine (HQ.out.2.1 _ _ H6.out.1 H6.out.2 HL.out.1).mono ?_
    rintro r w7 ⟨v7,rfl,haf⟩
    obtain ⟨k,n,x,y,t,b1',l1,q1',b2',l2,q2',rfl⟩:=haf.form
    have n7:=haf.kb.heap n6 (by omega)
    clear n6 u0 u1 u2 u3 u4 u5 u6 uf0 uf1 uf2 uf3 uf4 uf5 uf6
    have u0:w7.cell? ⟨w.heap.size+1,0,none⟩=some (.int .i64 0):=(by rw [cell_of_block n7]; rfl)
    have uf0:=ubk n7 0
    have u1:w7.cell? ⟨w.heap.size+1,1,none⟩=some (.int .i64 0):=(by rw [cell_of_block n7]; rfl)
    have uf1:=ubk n7 1
    have u2:w7.cell? ⟨w.heap.size+1,2,none⟩=some (.int .i64 0):=(by rw [cell_of_block n7]; rfl)
    have uf2:=ubk n7 2
    have u3:w7.cell? ⟨w.heap.size+1,3,none⟩=some (.int .i64 0):=(by rw [cell_of_block n7]; rfl)
    have uf3:=ubk n7 3
    have u4:w7.cell? ⟨w.heap.size+1,4,none⟩=some (.string ⟨#[]⟩):=(by rw [cell_of_block n7]; rfl)
    have uf4:=ubk n7 4
    have u5:w7.cell? ⟨w.heap.size+1,5,none⟩=some (.slice none 0 0):=(by rw [cell_of_block n7]; rfl)
    have uf5:=ubk n7 5
    have u6:w7.cell? ⟨w.heap.size+1,6,none⟩=some (.slice none 0 0):=(by rw [cell_of_block n7]; rfl)
    have uf6:=ubk n7 6
    have HS:=(show Hid (_∧_) from ⟨haf,n7⟩)
    clear haf n7
    go_wp2_with fail
    refine bodyPost_ret (v:=.agg #[.int .i64 k,.int .i64 n,.int .i64 x,.int .i64 y,.string t,.slice b1' l1 q1',.slice b2' l2 q2']) (by simp [results,Tryz.results101,go_sem,u0,u1,u2,u3,u4,u5,u6]) rfl ?_
    refine ⟨_,rfl,?_⟩
    rw [HR.out.1,HF.out.1,if_neg (by have:=HL.out.1; omega)]
    exact aft_tail (HF.out.2.1.trans (KB.of_below H6.out.1)) HS.out.1 (fun b h=>h.1.1.1) (fun h=>h.1.2 rfl) (by omega) hrl (kb7 _ _ _ _ _ _ _ _ _)
end Go.Proofs.YtljdgmfcgkimoaaGreatDoor

namespace Go.Proofs.YtljdgmfcgkimoaaGreatDoor
open Go.RowKit Go.Joins
set_option maxRecDepth 100000
set_option maxHeartbeats 3200000 in
theorem l03Eval_4 (P:List Ex) (nv bv:Value) (rb d b:Nat) (hE:EvS P nv bv rb d b) (hB:b<1000000) (S:Nat→Prop) (f:Nat) (e:Ex) (env:List Clo) (xv envv:Value) (w:World)
  (hf:f≤b) (hr:RunAt w rb nv bv (f+1) 0) (hs:Sv w S d rb bv P) (hx:Cx w S d e env xv envv) (hg:Ok P e env) (hk:e.kind=4) :
  Calls Tryz.prog 88 #[.pointer (some ⟨rb,0,none⟩),xv,envv] w fun r w'=>∃ v,r = .returned v∧Aft P S d rb nv bv w w' v (onFn (ev P b f (kidN e 0) env) fun l x en f'=>if 1<l then (.ok (.fn (l - 1) x (en ++ [.mk (kidN e 1) env false])),f') else ev P b f' x (en ++ [.mk (kidN e 1) env false])):=by
 have hrl:rb<w.heap.size:=(Array.getElem?_eq_some_iff.1 hr).1
 have hd:0<d:=hs.bodies.pos
 have hx0:=hx
 obtain ⟨⟨kv,rfl,i1,i2,i3,hkd⟩,m,hen⟩:=hx0
 obtain ⟨a1,c1,rfl⟩:=hkd.form
 obtain ⟨a2,c2,rfl,hz2⟩:=hen.form
 have hln:env.length≤90:=hg.len
 rw [hk]
 obtain ⟨k0,k1,hks⟩:∃ k0 k1,e.kids=[k0,k1]:=by obtain ⟨⟨deep,h⟩,-⟩:=hg; exact kids2 (by rw [kids_of h,hk]; rfl)
 have e0:kidN e 0=k0:=by unfold kidN; rw [hks]; rfl
 have e1:kidN e 1=k1:=by unfold kidN; rw [hks]; rfl
 try rw [e0]
 try rw [e1]
 have hkl:e.kids.length=2:=by rw [hks]; rfl
 rw [hkl]
 have hks':=hks
 rw [hks] at hkd
 obtain ⟨kb,ko,rfl⟩:=kid_row hkd (by simp)
 obtain ⟨ka0,kc0,kk0,hSb,hlb,x0⟩:=kid_at hkd (i:=0) (k:=k0) rfl
 obtain ⟨ka1,kc1,kk1,-,-,x1⟩:=kid_at hkd (i:=1) (k:=k1) rfl
 obtain ⟨z,hz⟩:∃ z:Int,z=((f+1:Nat):Int):=⟨_,rfl⟩
 obtain ⟨z1,hz1⟩:∃ z1:Int,z1=(f:Int):=⟨_,rfl⟩
 have hw:IntKind.i64.wrap (z - 1)=z1:=by rw [IntKind.wrap_i64]; omega
 have hq0:decide (z=0)=false:=by simp; omega
 have hq1:(z == 0)=false:=by simp; omega
 obtain ⟨W1,hW1⟩:∃ W1,W1=((w.alloc (.cells #[.int .i64 4,.int .i64 e.n,.string e.text,.slice (some ⟨kb,ko,none⟩) 2 c1] 52)).alloc (.cells #[.int .i64 0,.int .i64 0,.int .i64 0,.int .i64 0,.string ⟨#[]⟩,.slice none 0 0,.slice none 0 0] 127)):=⟨_,rfl⟩
 obtain ⟨s1,-,kb1,q1,r1⟩:=two_boxes w S (.cells #[.int .i64 4,.int .i64 e.n,.string e.text,.slice (some ⟨kb,ko,none⟩) 2 c1] 52) (.cells #[.int .i64 0,.int .i64 0,.int .i64 0,.int .i64 0,.string ⟨#[]⟩,.slice none 0 0,.slice none 0 0] 127) W1 hW1 rb
 obtain ⟨W2,hW2⟩:∃ W2,W2=W1.setCell ⟨rb,2,none⟩ (.int .i64 z1):=⟨_,rfl⟩
 obtain ⟨s2,m2,kb2,q2,r2,run2⟩:=ev_boxes w S (.cells #[.int .i64 4,.int .i64 e.n,.string e.text,.slice (some ⟨kb,ko,none⟩) 2 c1] 52) (.cells #[.int .i64 0,.int .i64 0,.int .i64 0,.int .i64 0,.string ⟨#[]⟩,.slice none 0 0,.slice none 0 0] 127) W1 W2 rb f nv _ hW1 (by rw [hW2,hz1]) hr hs.rb
 have y2:W1.cell? ⟨rb,2,none⟩=some (.int .i64 z):=by rw [hz,cell_of_block (hr.move (kb1.low hrl))]; rfl
 have y2f:=ubk (hr.move (kb1.low hrl)) 2
 have y3:=cbk (hr.move (kb1.low hrl)) 3 (.int .i64 0) rfl
 have hs2:Sv W2 (but (but S w.heap.size) (w.heap.size+1)) d rb _ P:=hs.move m2 (by rw [s2]; exact but_new (but_new (new_le hs.new (by omega)) (by omega)) (by omega)) (but_not (but_not hs.rb))
 have hen2:=hen.move m2
 have bx0:W2.cell? ⟨w.heap.size,0,none⟩=some (.int .i64 4):=(by rw [cell_of_block q2]; rfl)
 have bx1:W2.cell? ⟨w.heap.size,1,none⟩=some (.int .i64 e.n):=(by rw [cell_of_block q2]; rfl)
 have bx2:W2.cell? ⟨w.heap.size,2,none⟩=some (.string e.text):=(by rw [cell_of_block q2]; rfl)
 have bx3:W2.cell? ⟨w.heap.size,3,none⟩=some (.slice (some ⟨kb,ko,none⟩) 2 c1):=(by rw [cell_of_block q2]; rfl)
 have u0:W2.cell? ⟨w.heap.size+1,0,none⟩=some (.int .i64 0):=(by rw [cell_of_block r2]; rfl)
 have uf0:=ubk r2 0
 have u1:W2.cell? ⟨w.heap.size+1,1,none⟩=some (.int .i64 0):=(by rw [cell_of_block r2]; rfl)
 have uf1:=ubk r2 1
 have u2:W2.cell? ⟨w.heap.size+1,2,none⟩=some (.int .i64 0):=(by rw [cell_of_block r2]; rfl)
 have uf2:=ubk r2 2
 have u3:W2.cell? ⟨w.heap.size+1,3,none⟩=some (.int .i64 0):=(by rw [cell_of_block r2]; rfl)
 have uf3:=ubk r2 3
 have u4:W2.cell? ⟨w.heap.size+1,4,none⟩=some (.string ⟨#[]⟩):=(by rw [cell_of_block r2]; rfl)
 have uf4:=ubk r2 4
 have u5:W2.cell? ⟨w.heap.size+1,5,none⟩=some (.slice none 0 0):=(by rw [cell_of_block r2]; rfl)
 have uf5:=ubk r2 5
 have u6:W2.cell? ⟨w.heap.size+1,6,none⟩=some (.slice none 0 0):=(by rw [cell_of_block r2]; rfl)
 have uf6:=ubk r2 6
 have kw0:=kk0.move (m2.block kb hSb hlb)
 have xw0:=x0.move m2
 obtain ⟨p00,p01,p02,p03⟩:=kw0
 simp only [Nat.zero_mul,Nat.add_zero] at p00 p01 p02 p03
 have kw1:=kk1.move (m2.block kb hSb hlb)
 have xw1:=x1.move m2
 obtain ⟨p10,p11,p12,p13⟩:=kw1
 simp only [Nat.one_mul] at p10 p11 p12 p13
 have hbk:but (but S w.heap.size) (w.heap.size+1) kb:=m2.sub kb hSb hlb
 have hlk:kb<W2.heap.size:=Nat.lt_of_lt_of_le hlb m2.size
 have hcall:=l03App_of P nv bv rb d b hE (but (but S w.heap.size) (w.heap.size+1)) f e env (.agg #[.int .i64 4,.int .i64 e.n,.string e.text,.slice (some ⟨kb,ko,none⟩) 2 c1]) (.slice a2 env.length c2) W2 hf run2 hs2 (by have:=hx.move m2; rw [hk,hkl] at this; exact this) hg hk
 rw [e0,e1] at hcall
 have HK:=(show Hid (_∧_) from ⟨hcall,kb2⟩)
 have nB:=(show Hid _ from r2)
 clear hcall
 clear hE hB hf hr hs hx hg hk hkd hen hz2 hz hz1 s1 kb1 q1 r1 s2 m2 kb2 q2 r2 run2 hs2 hen2 hln i1 i2 i3 hd hks hks' hkl hSb hlb hbk hlk e0 kk0 x0 xw0 e1 kk1 x1 xw1
 go_enter Tryz.func88,Tryz.ntmps88
 go_upto_region 1 with fail
 rw [← hW1]
 clear hW1
 go_upto_region 7 with fail
 rw [← hW2]
 clear hW2 y2 y2f y3 hq0 hq1 hw
 go_wp2_with fail
 refine HK.out.1.mono ?_
 rintro r w3 ⟨v,rfl,haf⟩
 obtain ⟨k,n,x,y,t,b1,l1,q1,b2,l2,q2,rfl⟩:=haf.form
 have n3:=haf.kb.heap nB.out (by omega)
 clear u0 u1 u2 u3 u4 u5 u6 uf0 uf1 uf2 uf3 uf4 uf5 uf6
 have u0:w3.cell? ⟨w.heap.size+1,0,none⟩=some (.int .i64 0):=(by rw [cell_of_block n3]; rfl)
 have uf0:=ubk n3 0
 have u1:w3.cell? ⟨w.heap.size+1,1,none⟩=some (.int .i64 0):=(by rw [cell_of_block n3]; rfl)
 have uf1:=ubk n3 1
 have u2:w3.cell? ⟨w.heap.size+1,2,none⟩=some (.int .i64 0):=(by rw [cell_of_block n3]; rfl)
 have uf2:=ubk n3 2
 have u3:w3.cell? ⟨w.heap.size+1,3,none⟩=some (.int .i64 0):=(by rw [cell_of_block n3]; rfl)
 have uf3:=ubk n3 3
 have u4:w3.cell? ⟨w.heap.size+1,4,none⟩=some (.string ⟨#[]⟩):=(by rw [cell_of_block n3]; rfl)
 have uf4:=ubk n3 4
 have u5:w3.cell? ⟨w.heap.size+1,5,none⟩=some (.slice none 0 0):=(by rw [cell_of_block n3]; rfl)
 have uf5:=ubk n3 5
 have u6:w3.cell? ⟨w.heap.size+1,6,none⟩=some (.slice none 0 0):=(by rw [cell_of_block n3]; rfl)
 have uf6:=ubk n3 6
 have HS:=(show Hid (_∧True) from ⟨haf,trivial⟩)
 clear haf n3
 go_wp2_with fail
 refine bodyPost_ret (v:=.agg #[.int .i64 k,.int .i64 n,.int .i64 x,.int .i64 y,.string t,.slice b1 l1 q1,.slice b2 l2 q2]) (by simp [results,Tryz.results88,go_sem,u0,u1,u2,u3,u4,u5,u6]) rfl ?_
 refine ⟨_,rfl,?_⟩
 exact aft_tail (HK.out.2) HS.out.1 (fun b h=>h.1.1) (fun h=>h.2 rfl) (by omega) hrl (kb7 _ _ _ _ _ _ _ _ _)
end Go.Proofs.YtljdgmfcgkimoaaGreatDoor
