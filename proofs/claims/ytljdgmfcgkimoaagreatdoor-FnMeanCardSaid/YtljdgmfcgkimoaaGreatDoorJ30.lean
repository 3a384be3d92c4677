/-
  Proofs.
  Proofs.
  Proofs.
-/
import Derived.Test.YtljdgmfcgkimoaaGreatDoorJ1
import Derived.Test.YtljdgmfcgkimoaaGreatDoorJ29
import Derived.BigQuiet
import Derived.Deep.QuietTactic
import Derived.Deep.CutBlock
import Derived.Deep.RegionHeld3
namespace Go.Proofs.YtljdgmfcgkimoaaGreatDoor
open Go.RowKit Go.Joins
set_option maxRecDepth 100000
set_option maxHeartbeats 3200000 in
theorem l03Force_of (P:List Ex) (nv bv:Value) (rb d b:Nat) (hE:EvS P nv bv rb d b) (S:Nat→Prop) (f:Nat) (c:Clo) (cv:Value) (w:World) (q:Int)
  (hf:f≤b) (hr:RunAt w rb nv bv f q) (hs:Sv w S d rb bv P) (hx:ClAt w S d cv c) (hg:c.good (P.length:Int)) :
  Calls Tryz.prog 64 #[.pointer (some ⟨rb,0,none⟩),cv] w fun r w'=>∃ v,r = .returned v∧Aft P S d rb nv bv w w' v (evC P b q f c.ex c.scope):=by
 have hrl:rb<w.heap.size:=(Array.getElem?_eq_some_iff.1 hr).1
 have hx0:=hx
 obtain ⟨kv,ev,m,rfl,i1,i2,i3,hk,hen⟩:=hx0
 obtain ⟨a1,c1,rfl⟩:=hk.form
 obtain ⟨a2,c2,rfl,hz2⟩:=hen.form
 obtain ⟨sg,deep,sr⟩:=Clo.scope_good hg
 have hln:c.scope.length≤90:=Ok.len (e:=c.ex) ⟨⟨deep,sr⟩,sg⟩
 obtain ⟨R,hR⟩:∃ R,evC P b q f c.ex c.scope=R:=⟨_,rfl⟩
 rw [hR]
 cases ho:c.own with
 | false =>
  have hsc:c.scope=c.env:=by unfold Clo.scope; rw [if_neg (by rw [ho]; simp)]
  rw [hsc] at hR sg sr
  obtain ⟨W1,hW1⟩:∃ W1,W1=((w.alloc (.cells #[.int .i64 c.ex.kind,.int .i64 c.ex.n,.string c.ex.text,.slice a1 c.ex.kids.length c1,.slice a2 c.env.length c2,.bool false] 78)).alloc (.cells #[.int .i64 0,.int .i64 0,.int .i64 0,.int .i64 0,.string ⟨#[]⟩,.slice none 0 0,.slice none 0 0] 127)):=⟨_,rfl⟩
  obtain ⟨s1,m1,kb1,q1,r1⟩:=two_boxes w S (.cells #[.int .i64 c.ex.kind,.int .i64 c.ex.n,.string c.ex.text,.slice a1 c.ex.kids.length c1,.slice a2 c.env.length c2,.bool false] 78) (.cells #[.int .i64 0,.int .i64 0,.int .i64 0,.int .i64 0,.string ⟨#[]⟩,.slice none 0 0,.slice none 0 0] 127) W1 hW1 rb
  have hcall:=hE (but (but S w.heap.size) (w.heap.size+1)) f c.ex c.env (.agg #[.int .i64 c.ex.kind,.int .i64 c.ex.n,.string c.ex.text,.slice a1 c.ex.kids.length c1]) (.slice a2 c.env.length c2) W1 q hf (hr.move (kb1.low hrl)) (hs.two m1 s1) ⟨⟨_,rfl,i1,i2,i3,hk.move m1⟩,m,hen.move m1⟩ (fun _=>⟨⟨deep,sr⟩,sg⟩)
  rw [hR] at hcall
  have HK:=(show Hid (_∧_∧_∧_) from ⟨hcall,s1,kb1.kb,r1⟩)
  have x0:W1.cell? ⟨w.heap.size,0,none⟩=some (.int .i64 c.ex.kind):=(by rw [cell_of_block q1]; rfl)
  have x1:W1.cell? ⟨w.heap.size,1,none⟩=some (.int .i64 c.ex.n):=(by rw [cell_of_block q1]; rfl)
  have x2:W1.cell? ⟨w.heap.size,2,none⟩=some (.string c.ex.text):=(by rw [cell_of_block q1]; rfl)
  have x3:W1.cell? ⟨w.heap.size,3,none⟩=some (.slice a1 c.ex.kids.length c1):=(by rw [cell_of_block q1]; rfl)
  have x4:W1.cell? ⟨w.heap.size,4,none⟩=some (.slice a2 c.env.length c2):=(by rw [cell_of_block q1]; rfl)
  have x5:W1.cell? ⟨w.heap.size,5,none⟩=some (.bool false):=(by rw [cell_of_block q1]; rfl)
  clear hE hcall s1 m1 kb1 q1 r1 hs hx hg hr hk hen hf i1 i2 i3 sg sr hR hsc hln hz2 ho
  go_enter Tryz.func64,Tryz.ntmps64
  go_upto_region 1 with fail
  rw [← hW1]
  clear hW1
  go_wp2_with fail
  refine HK.out.1.mono ?_
  rintro r w3 ⟨v,rfl,haf⟩
  obtain ⟨k,n,x,y,t,b1,l1,q1,b2,l2,q2,rfl⟩:=haf.form
  have n3:=haf.kb.heap HK.out.2.2.2 (by omega)
  have u0:w3.cell? ⟨w.heap.size+1,0,none⟩=some (.int .i64 0):=(by rw [cell_of_block n3]; rfl)
  have uf0:=ubk n3 0
  have u1:w3.cell? ⟨w.heap.size+1,1,none⟩=some (.int .i64 0):=(by rw [cell_of_block n3]; rfl)
  have uf1:=ubk n3 1
  have u2:w3.cell? ⟨w.heap.size+1,2,none⟩=some (.int .i64 0):=(by rw [cell_of_block n3]; rfl)
  have uf2:=ubk n3 2
  have u3:w3.cell? ⟨w.heap.size+1,3,none⟩=some (.int .i64 0):=(by rw [cell_of_block n3]; rfl)
  have uf3:=ubk n3 3
  have u4:w3.cell? ⟨w.heap.size+1,4,none⟩=some (.string ⟨#[]⟩):=(by rw [cell_of_block n3]; rfl)
  have uf4:=ubk n3 4
  have u5:w3.cell? ⟨w.heap.size+1,5,none⟩=some (.slice none 0 0):=(by rw [cell_of_block n3]; rfl)
  have uf5:=ubk n3 5
  have u6:w3.cell? ⟨w.heap.size+1,6,none⟩=some (.slice none 0 0):=(by rw [cell_of_block n3]; rfl)
  have uf6:=ubk n3 6
  have HS:=(show Hid (_∧_) from ⟨haf,n3⟩)
  clear haf n3
  go_wp2_with fail
  refine bodyPost_ret (v:=.agg #[.int .i64 k,.int .i64 n,.int .i64 x,.int .i64 y,.string t,.slice b1 l1 q1,.slice b2 l2 q2]) (by simp [results,Tryz.results64,go_sem,u0,u1,u2,u3,u4,u5,u6]) rfl ?_
  exact ⟨_,rfl,aft_tail HK.out.2.2.1 HS.out.1 (fun b h=>h.1.1) (fun h=>h.2 rfl) (by omega) hrl (kb7 _ _ _ _ _ _ _ _ _)⟩
 | true =>
  have hsc:c.scope=c.env ++ [c]:=by unfold Clo.scope; rw [if_pos ho]
  rw [hsc] at hR sg sr hln
  obtain ⟨W1,hW1⟩:∃ W1,W1=((w.alloc (.cells #[.int .i64 c.ex.kind,.int .i64 c.ex.n,.string c.ex.text,.slice a1 c.ex.kids.length c1,.slice a2 c.env.length c2,.bool true] 78)).alloc (.cells #[.int .i64 0,.int .i64 0,.int .i64 0,.int .i64 0,.string ⟨#[]⟩,.slice none 0 0,.slice none 0 0] 127)):=⟨_,rfl⟩
  obtain ⟨s1,m1,kb1,q1,r1⟩:=two_boxes w S (.cells #[.int .i64 c.ex.kind,.int .i64 c.ex.n,.string c.ex.text,.slice a1 c.ex.kids.length c1,.slice a2 c.env.length c2,.bool true] 78) (.cells #[.int .i64 0,.int .i64 0,.int .i64 0,.int .i64 0,.string ⟨#[]⟩,.slice none 0 0,.slice none 0 0] 127) W1 hW1 rb
  obtain ⟨W2,hW2⟩:∃ W2,W2=(W1.alloc (.cells #[.int .i64 c.ex.kind,.int .i64 c.ex.n,.string c.ex.text,.slice a1 c.ex.kids.length c1,.slice a2 c.env.length c2,.bool true] 78)).drew:=⟨_,rfl⟩
  have s2:W2.heap.size=w.heap.size+3:=by rw [hW2]; simp [s1]
  have m2:Mv w W2 S (but (but S w.heap.size) (w.heap.size+1)):=m1.trans (by rw [hW2]; exact Mv.kb (KB.drew (KB.alloc (KB.refl (fun _=>False) _) _)) (fun _ h=>h.elim))
  have n2:W2.heap[w.heap.size+2]? = some (.cells #[.int .i64 c.ex.kind,.int .i64 c.ex.n,.string c.ex.text,.slice a1 c.ex.kids.length c1,.slice a2 c.env.length c2,.bool true] 78):=by rw [hW2,← s1]; exact block_alloc
  have hnew:∀ x,w.heap.size+2≤x→but (but S w.heap.size) (w.heap.size+1) x:=but_new (but_new (new_le hs.new (by omega)) (by omega)) (by omega)
  have hwith:=l03With_any (.slice a2 c.env.length c2) (.slice (some ⟨w.heap.size+2,0,none⟩) 1 1) c.env [c] (but (but S w.heap.size) (w.heap.size+1)) d m W2 ((hen.move m2).deep (Nat.le_succ _)) (env_one (T:=78) (by rw [ho]; exact n2) (hnew _ (by omega)) i1 i2 i3 (hk.move m2) (hen.move m2)) (fun x hx=>hnew x (by omega)) (by rw [List.length_append] at hln; omega)
  have k2:KB (· = rb) w W2:=by rw [hW2]; exact (kb1.kb.alloc _).drew
  have l2:∀ x,x<W1.heap.size→W2.heap[x]? = W1.heap[x]? := fun x hx=>by rw [hW2]; exact Below.heap_alloc _ _ _ hx
  have hcall:∀ (w3:World) (v3:Value),Below W2.heap.size W2 w3→EnvAt w3 (but (but S w.heap.size) (w.heap.size+1)) d (m+1) v3 (c.env ++ [c])→Calls Tryz.prog 88 #[.pointer (some ⟨rb,0,none⟩),.agg #[.int .i64 c.ex.kind,.int .i64 c.ex.n,.string c.ex.text,.slice a1 c.ex.kids.length c1],v3] w3 fun r w'=>∃ v,r = .returned v∧Aft P (but (but S w.heap.size) (w.heap.size+1)) d rb nv bv w3 w' v R:=by
   intro w3 v3 b3 hv3
   have m3:=m2.trans (Mv.kb (KB.of_below (X:=fun _=>False) b3) (fun _ h=>h.elim))
   have:=hE (but (but S w.heap.size) (w.heap.size+1)) f c.ex (c.env ++ [c]) (.agg #[.int .i64 c.ex.kind,.int .i64 c.ex.n,.string c.ex.text,.slice a1 c.ex.kids.length c1]) v3 w3 q hf (hr.move ((b3.block rb (by omega)).trans ((l2 rb (by omega)).trans (kb1.low hrl)))) (hs.move m3 (fun x hx=>hnew x (by have:=b3.size; omega)) (but_not (but_not hs.rb))) ⟨⟨_,rfl,i1,i2,i3,hk.move m3⟩,m+1,hv3⟩ (fun _=>⟨⟨deep,sr⟩,sg⟩)
   rw [hR] at this
   exact this
  rw [hW2,← s1] at hwith
  have keep:∀ W:World,W.heap[w.heap.size]? = some (.cells #[.int .i64 c.ex.kind,.int .i64 c.ex.n,.string c.ex.text,.slice a1 c.ex.kids.length c1,.slice a2 c.env.length c2,.bool true] 78)→W.cell? ⟨w.heap.size,0,none⟩=some (.int .i64 c.ex.kind)∧W.cell? ⟨w.heap.size,1,none⟩=some (.int .i64 c.ex.n)∧W.cell? ⟨w.heap.size,2,none⟩=some (.string c.ex.text)∧W.cell? ⟨w.heap.size,3,none⟩=some (.slice a1 c.ex.kids.length c1)∧W.cell? ⟨w.heap.size,4,none⟩=some (.slice a2 c.env.length c2)∧W.cell? ⟨w.heap.size,5,none⟩=some (.bool true):=fun W h=>⟨by rw [cell_of_block h]; rfl,by rw [cell_of_block h]; rfl,by rw [cell_of_block h]; rfl,by rw [cell_of_block h]; rfl,by rw [cell_of_block h]; rfl,by rw [cell_of_block h]; rfl⟩
  have q2:=(l2 _ (by omega)).trans q1
  have r2:=(l2 _ (by omega)).trans r1
  have HK:=(show Hid (_∧_∧_∧_∧_∧_∧_∧_∧_) from ⟨hwith,hcall,s1,q2,r2,q1,keep,hW2,s2⟩)
  have HQ:=(show Hid (_∧_) from ⟨k2,trivial⟩)
  have x0:W1.cell? ⟨w.heap.size,0,none⟩=some (.int .i64 c.ex.kind):=(by rw [cell_of_block q1]; rfl)
  have x1:W1.cell? ⟨w.heap.size,1,none⟩=some (.int .i64 c.ex.n):=(by rw [cell_of_block q1]; rfl)
  have x2:W1.cell? ⟨w.heap.size,2,none⟩=some (.string c.ex.text):=(by rw [cell_of_block q1]; rfl)
  have x3:W1.cell? ⟨w.heap.size,3,none⟩=some (.slice a1 c.ex.kids.length c1):=(by rw [cell_of_block q1]; rfl)
  have x4:W1.cell? ⟨w.heap.size,4,none⟩=some (.slice a2 c.env.length c2):=(by rw [cell_of_block q1]; rfl)
  have x5:W1.cell? ⟨w.heap.size,5,none⟩=some (.bool true):=(by rw [cell_of_block q1]; rfl)
  clear hE hcall hwith s1 m1 kb1 q1 r1 hs hx hg hr hk hen hf i1 i2 i3 sg sr hR hsc hln hz2 ho s2 m2 n2 hnew keep k2 l2 q2 r2
  go_enter Tryz.func64,Tryz.ntmps64
  go_upto_region 1 with fail
  rw [← hW1]
  clear hW1
  go_upto_region 2 with fail
  go_region_held3 (fun W=>W.cell? ⟨w.heap.size,0,none⟩=some (.int .i64 c.ex.kind)∧W.cell? ⟨w.heap.size,1,none⟩=some (.int .i64 c.ex.n)∧W.cell? ⟨w.heap.size,2,none⟩=some (.string c.ex.text)∧W.cell? ⟨w.heap.size,3,none⟩=some (.slice a1 c.ex.kids.length c1)∧W.cell? ⟨w.heap.size,4,none⟩=some (.slice a2 c.env.length c2)∧W.cell? ⟨w.heap.size,5,none⟩=some (.bool true)) (first | with_reducible exact HK.out.2.2.2.2.2.2.1 _ HF.out.1 | with_reducible exact HK.out.2.2.2.2.2.2.1 _ HE.out.1 | exact HK.out.2.2.2.2.2.2.1 _ (((kb7 _ _ _ _ _ _ _ _ _).block _ (lh HF.out.1) (by omega)).trans HF.out.1) | with_reducible exact HK.out.2.2.2.2.2.2.1 W1.drew HK.out.2.2.2.2.2.1 | exact HK.out.2.2.2.2.2.2.1 W1.drew HK.out.2.2.2.2.2.1 | exact HK.out.2.2.2.2.2.2.1 (W1.alloc (.cells #[.int .i64 c.ex.kind,.int .i64 c.ex.n,.string c.ex.text,.slice a1 c.ex.kids.length c1,.slice a2 c.env.length c2,.bool true] 78)).drew ((Below.heap_alloc _ _ _ (lh HK.out.2.2.2.2.2.1)).trans HK.out.2.2.2.2.2.1)) (first
   | (go_at_call 89; refine HK.out.1.mono ?_; rintro r w3 ⟨v3,rfl,hv3,b3⟩; rw [← HK.out.2.2.2.2.2.2.2.1] at b3; have H3:=(show Hid (_∧_) from ⟨b3,hv3⟩); have HE:=(show Hid (w3.heap[w.heap.size]? = _∧True) from ⟨(b3.block _ (lh HK.out.2.2.2.1)).trans HK.out.2.2.2.1,trivial⟩); clear b3 hv3)
   | (go_at_call 88; refine (HK.out.2.1 _ _ H3.out.1 H3.out.2).mono ?_; rintro r w4 ⟨v4,rfl,haf⟩; obtain ⟨k,n,x,y,t,b1,l1,q1,b2,l2,q2,rfl⟩:=haf.form; have n4:=haf.kb.heap ((H3.out.1.block _ (lh HK.out.2.2.2.2.1)).trans HK.out.2.2.2.2.1) (by omega); have u0:w4.cell? ⟨w.heap.size+1,0,none⟩=some (.int .i64 0):=(by rw [cell_of_block n4]; rfl); have uf0:w4.frozen? ⟨w.heap.size+1,0,none⟩=false:=unfrozen_of_block n4 0; have u1:w4.cell? ⟨w.heap.size+1,1,none⟩=some (.int .i64 0):=(by rw [cell_of_block n4]; rfl); have uf1:w4.frozen? ⟨w.heap.size+1,1,none⟩=false:=unfrozen_of_block n4 1; have u2:w4.cell? ⟨w.heap.size+1,2,none⟩=some (.int .i64 0):=(by rw [cell_of_block n4]; rfl); have uf2:w4.frozen? ⟨w.heap.size+1,2,none⟩=false:=unfrozen_of_block n4 2; have u3:w4.cell? ⟨w.heap.size+1,3,none⟩=some (.int .i64 0):=(by rw [cell_of_block n4]; rfl); have uf3:w4.frozen? ⟨w.heap.size+1,3,none⟩=false:=unfrozen_of_block n4 3; have u4:w4.cell? ⟨w.heap.size+1,4,none⟩=some (.string ⟨#[]⟩):=(by rw [cell_of_block n4]; rfl); have uf4:w4.frozen? ⟨w.heap.size+1,4,none⟩=false:=unfrozen_of_block n4 4; have u5:w4.cell? ⟨w.heap.size+1,5,none⟩=some (.slice none 0 0):=(by rw [cell_of_block n4]; rfl); have uf5:w4.frozen? ⟨w.heap.size+1,5,none⟩=false:=unfrozen_of_block n4 5; have u6:w4.cell? ⟨w.heap.size+1,6,none⟩=some (.slice none 0 0):=(by rw [cell_of_block n4]; rfl); have uf6:w4.frozen? ⟨w.heap.size+1,6,none⟩=false:=unfrozen_of_block n4 6; have HF:=(show Hid (w4.heap[w.heap.size]? = _∧Aft P _ d rb nv bv w3 w4 _ R) from ⟨haf.kb.heap HE.out.1 (by omega),haf⟩); clear haf n4))
  all_goals
   go_wp2_with fail
   refine bodyPost_ret (v:=.agg #[.int .i64 k,.int .i64 n,.int .i64 x,.int .i64 y,.string t,.slice b1 l1 q1,.slice b2 l2 q2]) (by simp [results,Tryz.results64,go_sem,u0,u1,u2,u3,u4,u5,u6]) rfl ?_
   refine ⟨_,rfl,aft_tail (HQ.out.1.trans (KB.of_below H3.out.1)) HF.out.2 (fun b h=>h.1.1) (fun h=>h.2 rfl) (by omega) hrl (kb7 _ _ _ _ _ _ _ _ _)⟩
end Go.Proofs.YtljdgmfcgkimoaaGreatDoor

namespace Go.Proofs.YtljdgmfcgkimoaaGreatDoor
open Go.RowKit Go.Joins
set_option maxRecDepth 100000
set_option maxHeartbeats 3200000 in
theorem l03Eval_1 (P:List Ex) (nv bv:Value) (rb d b:Nat) (hE:EvS P nv bv rb d b) (hB:b<1000000) (S:Nat→Prop) (f:Nat) (e:Ex) (env:List Clo) (xv envv:Value) (w:World)
  (hf:f≤b) (hr:RunAt w rb nv bv (f+1) 0) (hs:Sv w S d rb bv P) (hx:Cx w S d e env xv envv) (hg:Ok P e env) (hk:e.kind=1) (i:Nat) (hi:e.n=(i:Int)) (c:Clo) (hc:env[i]? = some c) :
  Calls Tryz.prog 88 #[.pointer (some ⟨rb,0,none⟩),xv,envv] w fun r w'=>∃ v,r = .returned v∧Aft P S d rb nv bv w w' v (ev P b f c.ex c.scope):=by
 have hrl:rb<w.heap.size:=(Array.getElem?_eq_some_iff.1 hr).1
 have hd:0<d:=hs.bodies.pos
 have hx0:=hx
 obtain ⟨⟨kv,rfl,i1,i2,i3,hkd⟩,m,hen⟩:=hx0
 obtain ⟨a1,c1,rfl⟩:=hkd.form
 obtain ⟨a2,c2,rfl,hz2⟩:=hen.form
 have hln:env.length≤90:=hg.len
 rw [hk]
 rw [hi]
 obtain ⟨eb,eo,ka,kc,ea,ec,rfl,hSe,hle,cc,cl⟩:=env_cell hen hc
 have hil:i<env.length:=(List.getElem?_eq_some_iff.1 hc).1
 have hgc:c.good (P.length:Int):=(goodL_iff _ _).1 hg.2 c (List.mem_of_getElem? hc)
 obtain ⟨z,hz⟩:∃ z:Int,z=((f+1:Nat):Int):=⟨_,rfl⟩
 obtain ⟨z1,hz1⟩:∃ z1:Int,z1=(f:Int):=⟨_,rfl⟩
 have hw:IntKind.i64.wrap (z - 1)=z1:=by rw [IntKind.wrap_i64]; omega
 have hq0:decide (z=0)=false:=by simp; omega
 have hq1:(z == 0)=false:=by simp; omega
 obtain ⟨W1,hW1⟩:∃ W1,W1=((w.alloc (.cells #[.int .i64 1,.int .i64 (i:Int),.string e.text,.slice a1 e.kids.length c1] 52)).alloc (.cells #[.int .i64 0,.int .i64 0,.int .i64 0,.int .i64 0,.string ⟨#[]⟩,.slice none 0 0,.slice none 0 0] 127)):=⟨_,rfl⟩
 obtain ⟨s1,-,kb1,q1,r1⟩:=two_boxes w S (.cells #[.int .i64 1,.int .i64 (i:Int),.string e.text,.slice a1 e.kids.length c1] 52) (.cells #[.int .i64 0,.int .i64 0,.int .i64 0,.int .i64 0,.string ⟨#[]⟩,.slice none 0 0,.slice none 0 0] 127) W1 hW1 rb
 obtain ⟨W2,hW2⟩:∃ W2,W2=W1.setCell ⟨rb,2,none⟩ (.int .i64 z1):=⟨_,rfl⟩
 obtain ⟨s2,m2,kb2,q2,r2,run2⟩:=ev_boxes w S (.cells #[.int .i64 1,.int .i64 (i:Int),.string e.text,.slice a1 e.kids.length c1] 52) (.cells #[.int .i64 0,.int .i64 0,.int .i64 0,.int .i64 0,.string ⟨#[]⟩,.slice none 0 0,.slice none 0 0] 127) W1 W2 rb f nv _ hW1 (by rw [hW2,hz1]) hr hs.rb
 have y2:W1.cell? ⟨rb,2,none⟩=some (.int .i64 z):=by rw [hz,cell_of_block (hr.move (kb1.low hrl))]; rfl
 have y2f:=ubk (hr.move (kb1.low hrl)) 2
 have y3:=cbk (hr.move (kb1.low hrl)) 3 (.int .i64 0) rfl
 have hs2:Sv W2 (but (but S w.heap.size) (w.heap.size+1)) d rb _ P:=hs.move m2 (by rw [s2]; exact but_new (but_new (new_le hs.new (by omega)) (by omega)) (by omega)) (but_not (but_not hs.rb))
 have hen2:=hen.move m2
 have bx0:W2.cell? ⟨w.heap.size,0,none⟩=some (.int .i64 1):=(by rw [cell_of_block q2]; rfl)
 have bx1:W2.cell? ⟨w.heap.size,1,none⟩=some (.int .i64 (i:Int)):=(by rw [cell_of_block q2]; rfl)
 have bx2:W2.cell? ⟨w.heap.size,2,none⟩=some (.string e.text):=(by rw [cell_of_block q2]; rfl)
 have bx3:W2.cell? ⟨w.heap.size,3,none⟩=some (.slice a1 e.kids.length c1):=(by rw [cell_of_block q2]; rfl)
 have u0:W2.cell? ⟨w.heap.size+1,0,none⟩=some (.int .i64 0):=(by rw [cell_of_block r2]; rfl)
 have uf0:=ubk r2 0
 have u1:W2.cell? ⟨w.heap.size+1,1,none⟩=some (.int .i64 0):=(by rw [cell_of_block r2]; rfl)
 have uf1:=ubk r2 1
 have u2:W2.cell? ⟨w.heap.size+1,2,none⟩=some (.int .i64 0):=(by rw [cell_of_block r2]; rfl)
 have uf2:=ubk r2 2
 have u3:W2.cell? ⟨w.heap.size+1,3,none⟩=some (.int .i64 0):=(by rw [cell_of_block r2]; rfl)
 have uf3:=ubk r2 3
 have u4:W2.cell? ⟨w.heap.size+1,4,none⟩=some (.string ⟨#[]⟩):=(by rw [cell_of_block r2]; rfl)
 have uf4:=ubk r2 4
 have u5:W2.cell? ⟨w.heap.size+1,5,none⟩=some (.slice none 0 0):=(by rw [cell_of_block r2]; rfl)
 have uf5:=ubk r2 5
 have u6:W2.cell? ⟨w.heap.size+1,6,none⟩=some (.slice none 0 0):=(by rw [cell_of_block r2]; rfl)
 have uf6:=ubk r2 6
 have hcall:=l03Force_of P nv bv rb d b hE (but (but S w.heap.size) (w.heap.size+1)) f c (.agg #[.int .i64 c.ex.kind,.int .i64 c.ex.n,.string c.ex.text,.slice ka c.ex.kids.length kc,.slice ea c.env.length ec,.bool c.own]) W2 0 hf run2 hs2 (cl.move m2) hgc
 rw [evC_zero] at hcall
 obtain ⟨o0,o1,o2,o3,o4,o5⟩:=cc.move (m2.block eb hSe hle)
 have hil2:(i:Int)<(env.length:Int):=by omega
 have HK:=(show Hid (_∧_) from ⟨hcall,kb2⟩)
 have nB:=(show Hid _ from r2)
 clear hcall
 clear hE hB hf hr hs hx hg hk hkd hen hz2 hz hz1 s1 kb1 q1 r1 s2 m2 kb2 q2 r2 run2 hs2 hen2 hln i1 i2 i3 hd  cc cl hSe hle hgc hi hc
 go_enter Tryz.func88,Tryz.ntmps88
 go_upto_region 1 with fail
 rw [← hW1]
 clear hW1
 go_upto_region 7 with fail
 rw [← hW2]
 clear hW2 y2 y2f y3 hq0 hq1 hw
 go_wp2_with fail
 refine HK.out.1.mono ?_
 rintro r w3 ⟨v,rfl,haf⟩
 obtain ⟨k,n,x,y,t,b1,l1,q1,b2,l2,q2,rfl⟩:=haf.form
 have n3:=haf.kb.heap nB.out (by omega)
 clear u0 u1 u2 u3 u4 u5 u6 uf0 uf1 uf2 uf3 uf4 uf5 uf6
 have u0:w3.cell? ⟨w.heap.size+1,0,none⟩=some (.int .i64 0):=(by rw [cell_of_block n3]; rfl)
 have uf0:=ubk n3 0
 have u1:w3.cell? ⟨w.heap.size+1,1,none⟩=some (.int .i64 0):=(by rw [cell_of_block n3]; rfl)
 have uf1:=ubk n3 1
 have u2:w3.cell? ⟨w.heap.size+1,2,none⟩=some (.int .i64 0):=(by rw [cell_of_block n3]; rfl)
 have uf2:=ubk n3 2
 have u3:w3.cell? ⟨w.heap.size+1,3,none⟩=some (.int .i64 0):=(by rw [cell_of_block n3]; rfl)
 have uf3:=ubk n3 3
 have u4:w3.cell? ⟨w.heap.size+1,4,none⟩=some (.string ⟨#[]⟩):=(by rw [cell_of_block n3]; rfl)
 have uf4:=ubk n3 4
 have u5:w3.cell? ⟨w.heap.size+1,5,none⟩=some (.slice none 0 0):=(by rw [cell_of_block n3]; rfl)
 have uf5:=ubk n3 5
 have u6:w3.cell? ⟨w.heap.size+1,6,none⟩=some (.slice none 0 0):=(by rw [cell_of_block n3]; rfl)
 have uf6:=ubk n3 6
 have HS:=(show Hid (_∧True) from ⟨haf,trivial⟩)
 clear haf n3
 go_wp2_with fail
 refine bodyPost_ret (v:=.agg #[.int .i64 k,.int .i64 n,.int .i64 x,.int .i64 y,.string t,.slice b1 l1 q1,.slice b2 l2 q2]) (by simp [results,Tryz.results88,go_sem,u0,u1,u2,u3,u4,u5,u6]) rfl ?_
 refine ⟨_,rfl,?_⟩
 exact aft_tail (HK.out.2) HS.out.1 (fun b h=>h.1.1) (fun h=>h.2 rfl) (by omega) hrl (kb7 _ _ _ _ _ _ _ _ _)
end Go.Proofs.YtljdgmfcgkimoaaGreatDoor

namespace Go.Proofs.YtljdgmfcgkimoaaGreatDoor
open Go.RowKit Go.Joins
set_option maxRecDepth 100000
set_option maxHeartbeats 3200000 in
theorem l03Eval_2 (P:List Ex) (nv bv:Value) (rb d b:Nat) (hE:EvS P nv bv rb d b) (hB:b<1000000) (S:Nat→Prop) (f:Nat) (e:Ex) (env:List Clo) (xv envv:Value) (w:World)
  (hf:f≤b) (hr:RunAt w rb nv bv (f+1) 0) (hs:Sv w S d rb bv P) (hx:Cx w S d e env xv envv) (hg:Ok P e env) (hk:e.kind=2) (i:Nat) (hi:e.n=(i:Int)) (B:Ex) (hb:P[i]? = some B) (hok:Ok P B []) :
  Calls Tryz.prog 88 #[.pointer (some ⟨rb,0,none⟩),xv,envv] w fun r w'=>∃ v,r = .returned v∧Aft P S d rb nv bv w w' v (ev P b f B []):=by
 have hrl:rb<w.heap.size:=(Array.getElem?_eq_some_iff.1 hr).1
 have hd:0<d:=hs.bodies.pos
 have hx0:=hx
 obtain ⟨⟨kv,rfl,i1,i2,i3,hkd⟩,m,hen⟩:=hx0
 obtain ⟨a1,c1,rfl⟩:=hkd.form
 obtain ⟨a2,c2,rfl,hz2⟩:=hen.form
 have hln:env.length≤90:=hg.len
 rw [hk]
 rw [hi]
 have hbo:=hs.bodies
 obtain ⟨pa',pc,rfl⟩:=hbo.form
 obtain ⟨pb,po,rfl⟩:=kid_row hbo (by intro h; rw [h] at hb; simp at hb)
 obtain ⟨pa,pk,cc,hSb,hlb,xb⟩:=kid_at hbo hb
 have hil:i<P.length:=(List.getElem?_eq_some_iff.1 hb).1
 obtain ⟨z,hz⟩:∃ z:Int,z=((f+1:Nat):Int):=⟨_,rfl⟩
 obtain ⟨z1,hz1⟩:∃ z1:Int,z1=(f:Int):=⟨_,rfl⟩
 have hw:IntKind.i64.wrap (z - 1)=z1:=by rw [IntKind.wrap_i64]; omega
 have hq0:decide (z=0)=false:=by simp; omega
 have hq1:(z == 0)=false:=by simp; omega
 obtain ⟨W1,hW1⟩:∃ W1,W1=((w.alloc (.cells #[.int .i64 2,.int .i64 (i:Int),.string e.text,.slice a1 e.kids.length c1] 52)).alloc (.cells #[.int .i64 0,.int .i64 0,.int .i64 0,.int .i64 0,.string ⟨#[]⟩,.slice none 0 0,.slice none 0 0] 127)):=⟨_,rfl⟩
 obtain ⟨s1,-,kb1,q1,r1⟩:=two_boxes w S (.cells #[.int .i64 2,.int .i64 (i:Int),.string e.text,.slice a1 e.kids.length c1] 52) (.cells #[.int .i64 0,.int .i64 0,.int .i64 0,.int .i64 0,.string ⟨#[]⟩,.slice none 0 0,.slice none 0 0] 127) W1 hW1 rb
 obtain ⟨W2,hW2⟩:∃ W2,W2=W1.setCell ⟨rb,2,none⟩ (.int .i64 z1):=⟨_,rfl⟩
 obtain ⟨s2,m2,kb2,q2,r2,run2⟩:=ev_boxes w S (.cells #[.int .i64 2,.int .i64 (i:Int),.string e.text,.slice a1 e.kids.length c1] 52) (.cells #[.int .i64 0,.int .i64 0,.int .i64 0,.int .i64 0,.string ⟨#[]⟩,.slice none 0 0,.slice none 0 0] 127) W1 W2 rb f nv _ hW1 (by rw [hW2,hz1]) hr hs.rb
 have y2:W1.cell? ⟨rb,2,none⟩=some (.int .i64 z):=by rw [hz,cell_of_block (hr.move (kb1.low hrl))]; rfl
 have y2f:=ubk (hr.move (kb1.low hrl)) 2
 have y3:=cbk (hr.move (kb1.low hrl)) 3 (.int .i64 0) rfl
 have hs2:Sv W2 (but (but S w.heap.size) (w.heap.size+1)) d rb _ P:=hs.move m2 (by rw [s2]; exact but_new (but_new (new_le hs.new (by omega)) (by omega)) (by omega)) (but_not (but_not hs.rb))
 have hen2:=hen.move m2
 have bx0:W2.cell? ⟨w.heap.size,0,none⟩=some (.int .i64 2):=(by rw [cell_of_block q2]; rfl)
 have bx1:W2.cell? ⟨w.heap.size,1,none⟩=some (.int .i64 (i:Int)):=(by rw [cell_of_block q2]; rfl)
 have bx2:W2.cell? ⟨w.heap.size,2,none⟩=some (.string e.text):=(by rw [cell_of_block q2]; rfl)
 have bx3:W2.cell? ⟨w.heap.size,3,none⟩=some (.slice a1 e.kids.length c1):=(by rw [cell_of_block q2]; rfl)
 have u0:W2.cell? ⟨w.heap.size+1,0,none⟩=some (.int .i64 0):=(by rw [cell_of_block r2]; rfl)
 have uf0:=ubk r2 0
 have u1:W2.cell? ⟨w.heap.size+1,1,none⟩=some (.int .i64 0):=(by rw [cell_of_block r2]; rfl)
 have uf1:=ubk r2 1
 have u2:W2.cell? ⟨w.heap.size+1,2,none⟩=some (.int .i64 0):=(by rw [cell_of_block r2]; rfl)
 have uf2:=ubk r2 2
 have u3:W2.cell? ⟨w.heap.size+1,3,none⟩=some (.int .i64 0):=(by rw [cell_of_block r2]; rfl)
 have uf3:=ubk r2 3
 have u4:W2.cell? ⟨w.heap.size+1,4,none⟩=some (.string ⟨#[]⟩):=(by rw [cell_of_block r2]; rfl)
 have uf4:=ubk r2 4
 have u5:W2.cell? ⟨w.heap.size+1,5,none⟩=some (.slice none 0 0):=(by rw [cell_of_block r2]; rfl)
 have uf5:=ubk r2 5
 have u6:W2.cell? ⟨w.heap.size+1,6,none⟩=some (.slice none 0 0):=(by rw [cell_of_block r2]; rfl)
 have uf6:=ubk r2 6
 have hil2:(i:Int)<(P.length:Int):=by omega
 have hbk:(but (but S w.heap.size) (w.heap.size+1)) pb:=m2.sub pb hSb hlb
 have hlk:pb<W2.heap.size:=Nat.lt_of_lt_of_le hlb m2.size
 obtain ⟨W3,hW3⟩:∃ W3,W3=(W2.alloc (.cells #[] 78)).drew:=⟨_,rfl⟩
 have s3:W3.heap.size=W2.heap.size+1:=by rw [hW3,drew_heap]; simp
 have l3:∀ x,x<W2.heap.size→W3.heap[x]? = W2.heap[x]? := fun x hx=>by rw [hW3,drew_heap]; exact Below.heap_alloc _ _ _ hx
 have k3:KB (fun _=>False) W2 W3:=by rw [hW3]; exact ((KB.refl _ _).alloc _).drew
 have m3:Mv W2 W3 (but (but S w.heap.size) (w.heap.size+1)) (but (but S w.heap.size) (w.heap.size+1)):=Mv.kb k3 (fun _ h=>h.elim)
 have hnew:∀ x,W2.heap.size≤x→(but (but S w.heap.size) (w.heap.size+1)) x:=hs2.new
 have hcall:=hE (but (but S w.heap.size) (w.heap.size+1)) f B [] (exV B pa pk) (.slice (some ⟨W2.heap.size,0,none⟩) 0 0) W3 0 hf (run2.move (l3 rb (by omega))) (hs2.move m3 (fun x hx=>hnew x (by omega)) hs2.rb) ⟨(xb.move m2).move m3,1,EnvAt.nil _ _ (fun h=>by cases h)⟩ (fun _=>hok)
 rw [evC_zero] at hcall
 have keep:∀ W:World,(∀ x,x<W2.heap.size→x≠rb→x≠w.heap.size+1→W.heap[x]? = W2.heap[x]?)→W.cell? ⟨rb,1,none⟩=some (.slice (some ⟨pb,po,none⟩) P.length pc)→W.cell? ⟨rb,1,none⟩=some (.slice (some ⟨pb,po,none⟩) P.length pc)∧W.cell? ⟨w.heap.size,1,none⟩=some (.int .i64 (i:Int))∧W.cell? ⟨pb,po+i * 4,none⟩=some (.int .i64 B.kind)∧W.cell? ⟨pb,po+i * 4+1,none⟩=some (.int .i64 B.n)∧W.cell? ⟨pb,po+i * 4+2,none⟩=some (.string B.text)∧W.cell? ⟨pb,po+i * 4+3,none⟩=some (.slice pa B.kids.length pk):=fun W h h1=>by
  have c9:=(cc.move (m2.block pb hSb hlb)).move (h pb hlk (fun e=>hs2.rb (e ▸ hbk)) (fun e=>hbk.2 e))
  exact ⟨h1,by rw [cell_of_block ((h _ (by omega) (by omega) (by omega)).trans q2)]; rfl,c9.c0,c9.c1,c9.c2,c9.c3⟩
 have nD:∀ x,x<W2.heap.size→x≠rb→x≠w.heap.size+1→W2.drew.heap[x]? = W2.heap[x]? := fun x _ _ _=>by rw [drew_heap]
 have nA:∀ x,x<W2.heap.size→x≠rb→x≠w.heap.size+1→(W2.alloc (.cells #[] 78)).drew.heap[x]? = W2.heap[x]? := fun x hx _ _=>by rw [drew_heap]; exact Below.heap_alloc _ _ _ hx
 have run3:=run2.move (l3 rb (by omega))
 have HN:=(show Hid (_∧_∧_∧_∧_) from ⟨keep W2.drew nD (by rw [cell_of_block (w:=W2.drew) (by rw [drew_heap]; exact run2)]; rfl),keep _ nA (by rw [← hW3,cell_of_block run3]; rfl),l3,s3,r2⟩)
 have HY:=(show Hid ((∀ x,x<W2.heap.size→x≠rb→x≠w.heap.size+1→W3.heap[x]? = W2.heap[x]?)∧W2.heap.size≤W3.heap.size∧_) from ⟨fun x h _ _=>l3 x h,(by omega),(l3 _ (lh r2)).trans r2⟩)
 have KP:=(show Hid _ from keep)
 rw [hW3] at hcall
 have HK:=(show Hid (_∧_∧_) from ⟨hcall,kb2.trans (k3.more (fun _ _ h=>h.elim)),hW3⟩)
 clear hW3 s3 k3 nD nA run3
 clear hE hB hf hr hs hx hg hk hkd hen hz2 hz hz1 s1 kb1 q1 r1 s2 m2 kb2 q2 r2 run2 hs2 hen2 hln i1 i2 i3 hd  keep hcall hnew m3 l3 hok hb hbo cc xb hi hil hSb hlb hbk hlk
 go_enter Tryz.func88,Tryz.ntmps88
 go_upto_region 1 with fail
 rw [← hW1]
 clear hW1
 go_upto_region 7 with fail
 rw [← hW2]
 clear hW2 y2 y2f y3 hq0 hq1 hw
 go_upto_region 13 with fail
 go_region_held3 (fun W=>W.cell? ⟨rb,1,none⟩=some (.slice (some ⟨pb,po,none⟩) P.length pc)∧W.cell? ⟨w.heap.size,1,none⟩=some (.int .i64 (i:Int))∧W.cell? ⟨pb,po+i * 4,none⟩=some (.int .i64 B.kind)∧W.cell? ⟨pb,po+i * 4+1,none⟩=some (.int .i64 B.n)∧W.cell? ⟨pb,po+i * 4+2,none⟩=some (.string B.text)∧W.cell? ⟨pb,po+i * 4+3,none⟩=some (.slice pa B.kids.length pk)) (first | with_reducible exact KP.out _ HF.out.1 HG.out.1 | with_reducible exact HN.out.1 | with_reducible exact HN.out.2.1 | exact KP.out _ (low_set7 HF.out.1 HF.out.2.1 (kb7 _ _ _ _ _ _ _ _ _)) (HG.out.2 _ _ _ _ _ _ _)) (first
  | (go_at_call 88; refine (HK.out.1).mono ?_; rintro r w4 ⟨v4,rfl,haf⟩; rw [← HK.out.2.2] at haf; obtain ⟨k,n,x,y,t,b1,l1,q1,b2,l2,q2,rfl⟩:=haf.form; have n4:=haf.kb.heap (HY.out.2.2) (by omega); clear u0 u1 u2 u3 u4 u5 u6 uf0 uf1 uf2 uf3 uf4 uf5 uf6; have u0:w4.cell? ⟨w.heap.size+1,0,none⟩=some (.int .i64 0):=(by rw [cell_of_block n4]; rfl); have uf0:w4.frozen? ⟨w.heap.size+1,0,none⟩=false:=unfrozen_of_block n4 0; have u1:w4.cell? ⟨w.heap.size+1,1,none⟩=some (.int .i64 0):=(by rw [cell_of_block n4]; rfl); have uf1:w4.frozen? ⟨w.heap.size+1,1,none⟩=false:=unfrozen_of_block n4 1; have u2:w4.cell? ⟨w.heap.size+1,2,none⟩=some (.int .i64 0):=(by rw [cell_of_block n4]; rfl); have uf2:w4.frozen? ⟨w.heap.size+1,2,none⟩=false:=unfrozen_of_block n4 2; have u3:w4.cell? ⟨w.heap.size+1,3,none⟩=some (.int .i64 0):=(by rw [cell_of_block n4]; rfl); have uf3:w4.frozen? ⟨w.heap.size+1,3,none⟩=false:=unfrozen_of_block n4 3; have u4:w4.cell? ⟨w.heap.size+1,4,none⟩=some (.string ⟨#[]⟩):=(by rw [cell_of_block n4]; rfl); have uf4:w4.frozen? ⟨w.heap.size+1,4,none⟩=false:=unfrozen_of_block n4 4; have u5:w4.cell? ⟨w.heap.size+1,5,none⟩=some (.slice none 0 0):=(by rw [cell_of_block n4]; rfl); have uf5:w4.frozen? ⟨w.heap.size+1,5,none⟩=false:=unfrozen_of_block n4 5; have u6:w4.cell? ⟨w.heap.size+1,6,none⟩=some (.slice none 0 0):=(by rw [cell_of_block n4]; rfl); have uf6:w4.frozen? ⟨w.heap.size+1,6,none⟩=false:=unfrozen_of_block n4 6; have HF:=(show Hid ((∀ x,x<W2.heap.size→x≠rb→x≠w.heap.size+1→w4.heap[x]? = W2.heap[x]?)∧W2.heap.size≤w4.heap.size∧_) from ⟨fun x h1 h2 h3=>(haf.kb.block x (Nat.lt_of_lt_of_le h1 HY.out.2.1) h2).trans (HY.out.1 x h1 h2 h3),Nat.le_trans HY.out.2.1 haf.kb.size,haf⟩); have HG:=(show Hid (w4.cell? ⟨rb,1,none⟩=some (.slice (some ⟨pb,po,none⟩) P.length pc)∧∀ v0 v1 v2 v3 v4 v5 v6:Value,((((((((w4.setCell ⟨w.heap.size+1,0,none⟩ v0).setCell ⟨w.heap.size+1,1,none⟩ v1).setCell ⟨w.heap.size+1,2,none⟩ v2).setCell ⟨w.heap.size+1,3,none⟩ v3).setCell ⟨w.heap.size+1,4,none⟩ v4).setCell ⟨w.heap.size+1,5,none⟩ v5).setCell ⟨w.heap.size+1,6,none⟩ v6)).cell? ⟨rb,1,none⟩=some (.slice (some ⟨pb,po,none⟩) P.length pc)) from ⟨(by rw [cell_of_block haf.run]; rfl),fun v0 v1 v2 v3 v4 v5 v6=>(cell7 w4 (w.heap.size+1) v0 v1 v2 v3 v4 v5 v6 rb 1 (lh haf.run) (by omega)).trans (by rw [cell_of_block haf.run]; rfl)⟩); clear haf n4))
 all_goals
  go_wp2_with fail
  refine bodyPost_ret (v:=.agg #[.int .i64 k,.int .i64 n,.int .i64 x,.int .i64 y,.string t,.slice b1 l1 q1,.slice b2 l2 q2]) (by simp [results,Tryz.results88,go_sem,u0,u1,u2,u3,u4,u5,u6]) rfl ?_
  exact ⟨_,rfl,aft_tail HK.out.2.1 HF.out.2.2 (fun b h=>h.1.1) (fun h=>h.2 rfl) (by omega) hrl (kb7 _ _ _ _ _ _ _ _ _)⟩
end Go.Proofs.YtljdgmfcgkimoaaGreatDoor
