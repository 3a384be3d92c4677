/-
  Proofs.
  Proofs.
  Proofs.
  Proofs.
-/
import Derived.Test.YtljdgmfcgkimoaaGreatDoorJ29
import Derived.Laws.LoneSync
import Derived.Deep.CutBlock
import Derived.Deep.RegionHeld3
import Derived.Test.YtljdgmfcgkimoaaGreatDoorJ1
import Derived.Test.YtljdgmfcgkimoaaGreatDoorJ27
namespace Go.Proofs.YtljdgmfcgkimoaaGreatDoor
open Go.RowKit Go.Joins
set_option maxRecDepth 100000
def ExP (w:World) (S:Nat→Prop) (d rb kb ko:Nat) (e:Ex):Prop :=
 ∃ ka kc,S kb∧kb<w.heap.size∧KidC w kb ko e ka kc∧inI64 e.kind∧inI64 e.n∧e.text.size≤maxLen∧KidsAt w (fun b=>S b∧b<rb) d (.slice ka e.kids.length kc) e.kids∧kb<rb
structure SvI (w:World) (S:Nat→Prop) (d rb:Nat) (bv:Value) (P:List Ex):Prop where
 new:∀ x,w.heap.size≤x→S x
 bodies:KidsAt w (fun b=>S b∧b<rb) d bv P
 rb:¬ S rb
theorem Mv.low {w w':World} {S S':Nat→Prop} (g:Mv w w' S S') (n:Nat):Mv w w' (fun b=>S b∧b<n) (fun b=>S' b∧b<n) :=
 ⟨fun b hb hl=>g.block b hb.1 hl,g.size,fun b hb hl=>⟨g.sub b hb.1 hl,hb.2⟩⟩
theorem SvI.move {w w':World} {S S':Nat→Prop} {d rb:Nat} {bv:Value} {P:List Ex} (h:SvI w S d rb bv P) (g:Mv w w' S S') (hn:∀ x,w'.heap.size≤x→S' x) (hr:¬ S' rb):SvI w' S' d rb bv P :=
 ⟨hn,h.bodies.move (g.low rb),hr⟩
def Cap (w:World) (S:Nat→Prop) (d rb:Nat) (fv:Value) (e:Ex) (sv:Value):Prop :=
 ∃ b0 b1 b2 kb ko,fv = .func (.func 83) #[] #[.pointer (some ⟨b0,0,none⟩),.pointer (some ⟨b1,0,none⟩),.pointer (some ⟨b2,0,none⟩)]∧(S b0∧S b1∧S b2)∧(b0<w.heap.size∧b1<w.heap.size∧b2<w.heap.size) ∧
  w.heap[b0]? = some (.cells #[.pointer (some ⟨rb,0,none⟩)] 102)∧w.heap[b1]? = some (.cells #[.pointer (some ⟨kb,ko,none⟩)] 68)∧w.heap[b2]? = some (.cells #[sv] 110)∧ExP w S d rb kb ko e
def ScAt (w:World) (S:Nat→Prop) (d rb:Nat):Nat→Value→List Clo→Prop
 | 0,_,_=>False
 | m+1,sv,env=>(env=[]∧sv = .pointer none)∨∃ env' c sb ov fv ev',env=env' ++ [c]∧sv = .pointer (some ⟨sb,0,none⟩)∧S sb∧w.heap[sb]? = some (.cells #[ov,.int .i64 (env'.length:Int),fv] 159) ∧
   ScAt w S d rb m ov env'∧Cap w S d rb fv c.ex ev'∧((c.own=true∧ev'=sv∧c.env=env')∨(c.own=false∧ScAt w S d rb m ev' c.env))
def Ready (w:World) (S:Nat→Prop) (d rb:Nat) (fv:Value) (c:Clo):Prop:=∃ ev' m,Cap w S d rb fv c.ex ev'∧ScAt w S d rb m ev' c.scope
theorem ExP.move {w w':World} {S S':Nat→Prop} {d rb kb ko:Nat} {e:Ex} (h:ExP w S d rb kb ko e) (g:Mv w w' S S'):ExP w' S' d rb kb ko e:=by
 obtain ⟨ka,kc,h1,h2,h3,h4,h5,h6,h7,h8⟩:=h
 exact ⟨ka,kc,g.sub _ h1 h2,Nat.lt_of_lt_of_le h2 g.size,h3.move (g.block _ h1 h2),h4,h5,h6,h7.move (g.low rb),h8⟩
theorem Cap.move {w w':World} {S S':Nat→Prop} {d rb:Nat} {fv sv:Value} {e:Ex} (h:Cap w S d rb fv e sv) (g:Mv w w' S S'):Cap w' S' d rb fv e sv:=by
 obtain ⟨b0,b1,b2,kb,ko,h1,⟨s0,s1,s2⟩,⟨l0,l1,l2⟩,c0,c1,c2,he⟩:=h
 exact ⟨b0,b1,b2,kb,ko,h1,⟨g.sub _ s0 l0,g.sub _ s1 l1,g.sub _ s2 l2⟩,⟨Nat.lt_of_lt_of_le l0 g.size,Nat.lt_of_lt_of_le l1 g.size,Nat.lt_of_lt_of_le l2 g.size⟩,(g.block _ s0 l0).trans c0,(g.block _ s1 l1).trans c1,(g.block _ s2 l2).trans c2,he.move g⟩
theorem ScAt.move {w w':World} {S S':Nat→Prop} {d rb:Nat} (g:Mv w w' S S'):∀ {m:Nat} {sv:Value} {env:List Clo},ScAt w S d rb m sv env→ScAt w' S' d rb m sv env
 | 0,_,_,h=>h.elim
 | m+1,sv,env,h=>by
  rcases h with h | ⟨env',c,sb,ov,fv,ev',h1,h2,h3,h4,h5,h6,h7⟩
  ·exact Or.inl h
  ·refine Or.inr ⟨env',c,sb,ov,fv,ev',h1,h2,g.sub _ h3 (lh h4),(g.block _ h3 (lh h4)).trans h4,ScAt.move g h5,h6.move g,?_⟩
   rcases h7 with h7 | ⟨h7,h8⟩
   ·exact Or.inl h7
   ·exact Or.inr ⟨h7,ScAt.move g h8⟩
theorem ScAt.deeper {w:World} {S:Nat→Prop} {d rb:Nat}:∀ {m:Nat} {sv:Value} {env:List Clo},ScAt w S d rb m sv env→ScAt w S d rb (m+1) sv env
 | 0,_,_,h=>h.elim
 | m+1,sv,env,h=>by
  rcases h with h | ⟨env',c,sb,ov,fv,ev',h1,h2,h3,h4,h5,h6,h7⟩
  ·exact Or.inl h
  ·refine Or.inr ⟨env',c,sb,ov,fv,ev',h1,h2,h3,h4,ScAt.deeper h5,h6,?_⟩
   rcases h7 with h7 | ⟨h7,h8⟩
   ·exact Or.inl h7
   ·exact Or.inr ⟨h7,ScAt.deeper h8⟩
theorem ScAt.deep {w:World} {S:Nat→Prop} {d rb m m':Nat} {sv:Value} {env:List Clo} (h:ScAt w S d rb m sv env) (hm:m≤m'):ScAt w S d rb m' sv env:=by
 obtain ⟨k,rfl⟩:=Nat.exists_eq_add_of_le hm
 induction k with
 | zero=>exact h
 | succ k ih=>exact (ih (by omega)).deeper
theorem ScAt.nil (w:World) (S:Nat→Prop) (d rb m:Nat):ScAt w S d rb (m+1) (.pointer none) []:=Or.inl ⟨rfl,rfl⟩
theorem Ready.move {w w':World} {S S':Nat→Prop} {d rb:Nat} {fv:Value} {c:Clo} (h:Ready w S d rb fv c) (g:Mv w w' S S'):Ready w' S' d rb fv c:=by
 obtain ⟨ev',m,h1,h2⟩:=h
 exact ⟨ev',m,h1.move g,h2.move g⟩
theorem ScAt.form {w:World} {S:Nat→Prop} {d rb m:Nat} {sv:Value} {env:List Clo} (h:ScAt w S d rb m sv env):(env=[]∧sv = .pointer none)∨∃ env' c sb ov fv,env=env' ++ [c]∧sv = .pointer (some ⟨sb,0,none⟩)∧S sb∧w.heap[sb]? = some (.cells #[ov,.int .i64 (env'.length:Int),fv] 159):=by
 cases m with
 | zero=>exact h.elim
 | succ m =>
  rcases h with h | ⟨env',c,sb,ov,fv,ev',h1,h2,h3,h4,-⟩
  ·exact Or.inl h
  ·exact Or.inr ⟨env',c,sb,ov,fv,h1,h2,h3,h4⟩
def VI (w:World) (S:Nat→Prop) (d rb:Nat) (v:Value):Vl→Prop
 | .num n=>v = .iface 103 (.int .i64 n)
 | .nil=>v = .iface 109 (.agg #[])
 | .pair h t=>∃ fh ft,v = .iface 116 (.agg #[fh,ft])∧Ready w S d rb fh h∧Ready w S d rb ft t∧h.own=false∧t.own=false
 | .fn l x en=>∃ kb ko sv m,v = .iface 112 (.agg #[.pointer (some ⟨kb,ko,none⟩),sv,.int .i64 l])∧ExP w S d rb kb ko x∧ScAt w S d rb m sv en
theorem VI.move {w w':World} {S S':Nat→Prop} {d rb:Nat} {v:Value} {x:Vl} (h:VI w S d rb v x) (g:Mv w w' S S'):VI w' S' d rb v x:=by
 cases x with
 | num n=>exact h
 | nil=>exact h
 | pair a b=>obtain ⟨fh,ft,h1,h2,h3,h4⟩:=h; exact ⟨fh,ft,h1,h2.move g,h3.move g,h4⟩
 | fn l x en=>obtain ⟨kb,ko,sv,m,h1,h2,h3⟩:=h; exact ⟨kb,ko,sv,m,h1,h2.move g,h3.move g⟩
abbrev endV (c:Int):Value:=.iface 119 (.agg #[.int .i64 c])
def VRI (w:World) (S:Nat→Prop) (d rb:Nat) (P:List Ex) (v:Value) (r:Rs):Prop :=
 match r with
 | .ok x=>VI w S d rb v x∧x.good (P.length:Int)
 | .err c=>v=endV c∧c≠0
theorem VRI.move {w w':World} {S S':Nat→Prop} {d rb:Nat} {P:List Ex} {v:Value} {r:Rs} (h:VRI w S d rb P v r) (g:Mv w w' S S'):VRI w' S' d rb P v r:=by
 cases r with
 | ok x=>exact ⟨h.1.move g,h.2⟩
 | err c=>exact h
def RunI (w:World) (rb:Nat) (bv:Value) (f:Nat):Prop:=w.heap[rb]? = some (.cells #[bv,.int .i64 (f:Int)] 59)
theorem RunI.move {w w':World} {rb:Nat} {bv:Value} {f:Nat} (h:RunI w rb bv f) (hb:w'.heap[rb]? = w.heap[rb]?):RunI w' rb bv f:=hb.trans h
structure AftI (P:List Ex) (S:Nat→Prop) (d rb:Nat) (bv:Value) (w w':World) (v:Value) (r:Rs×Nat):Prop where
 kb:KB (· = rb) w w'
 vr:VRI w' S d rb P v r.1
 run:∃ x:Int,w'.heap[rb]? = some (.cells #[bv,.int .i64 x] 59)∧(r.1.code=0→x=(r.2:Int))
theorem AftI.runI {P:List Ex} {S:Nat→Prop} {d rb:Nat} {bv v:Value} {w w':World} {r:Rs×Nat} (h:AftI P S d rb bv w w' v r) (hc:r.1.code=0):RunI w' rb bv r.2:=by
 obtain ⟨x,h1,h2⟩:=h.run
 rw [h2 hc] at h1
 exact h1
def EvI (P:List Ex) (bv:Value) (rb d b:Nat):Prop:=∀ (S:Nat→Prop) (f:Nat) (e:Ex) (env:List Clo) (kb ko m:Nat) (sv:Value) (w:World),
 f≤b→RunI w rb bv f→SvI w S d rb bv P→ExP w S d rb kb ko e→ScAt w S d rb m sv env→Ok P e env →
 Calls Tryz.prog 31 #[.pointer (some ⟨rb,0,none⟩),.pointer (some ⟨kb,ko,none⟩),sv] w fun r w'=>∃ v,r = .returned v∧AftI P S d rb bv w w' v (ev P b f e env)
theorem AftI.sub {P:List Ex} {S S':Nat→Prop} {d rb:Nat} {bv:Value} {w W w':World} {v:Value} {r:Rs×Nat} (h:AftI P S' d rb bv W w' v r) (hk:KB (· = rb) w W) (hS:∀ b,S' b→S b):AftI P S d rb bv w w' v r :=
 ⟨hk.trans h.kb,h.vr.move (Mv.wide _ hS),h.run⟩
end Go.Proofs.YtljdgmfcgkimoaaGreatDoor

namespace Go.Proofs.YtljdgmfcgkimoaaGreatDoor
open Go.RowKit Go.Joins
set_option maxRecDepth 100000
theorem three_boxes (w:World) (v0 v1 v2:Value) (t0 t1 t2:TypeId) (W:World) (h:W=(((w.alloc (.cells #[v0] t0)).alloc (.cells #[v1] t1)).alloc (.cells #[v2] t2))) :
  W.heap.size=w.heap.size+3∧Below w.heap.size w W∧W.heap[w.heap.size]? = some (.cells #[v0] t0)∧W.heap[w.heap.size+1]? = some (.cells #[v1] t1)∧W.heap[w.heap.size+2]? = some (.cells #[v2] t2):=by
 subst h
 have e1:(w.alloc (.cells #[v0] t0)).heap.size=w.heap.size+1:=by simp
 have e2:((w.alloc (.cells #[v0] t0)).alloc (.cells #[v1] t1)).heap.size=w.heap.size+2:=by simp
 refine ⟨by simp,(((Below.refl _ w).alloc (Nat.le_refl _) _).alloc (by simp) _).alloc (by simp; omega) _,?_,?_,?_⟩
 ·rw [Below.heap_alloc _ _ _ (by omega),Below.heap_alloc _ _ _ (by omega)]; exact block_alloc
 ·rw [Below.heap_alloc _ _ _ (by omega)]
  have:=block_alloc (w:=w.alloc (.cells #[v0] t0)) (o:=.cells #[v1] t1)
  rw [e1] at this; exact this
 ·have:=block_alloc (w:=(w.alloc (.cells #[v0] t0)).alloc (.cells #[v1] t1)) (o:=.cells #[v2] t2)
  rw [e2] at this; exact this
abbrev delV (n:Nat):Value:=.func (.func 83) #[] #[.pointer (some ⟨n,0,none⟩),.pointer (some ⟨n+1,0,none⟩),.pointer (some ⟨n+2,0,none⟩)]
set_option maxHeartbeats 1600000 in
theorem delay_any (rb kb ko:Nat) (sv:Value) (w:World) (hsv:∃ a,sv = .pointer a) :
  Calls Tryz.prog 53 #[.pointer (some ⟨rb,0,none⟩),.pointer (some ⟨kb,ko,none⟩),sv] w fun r w'=>r = .returned (delV w.heap.size)∧Below w.heap.size w w' ∧
   ∀ (S:Nat→Prop) (d:Nat) (e:Ex),(∀ x,w.heap.size≤x→S x)→ExP w S d rb kb ko e→Cap w' S d rb (delV w.heap.size) e sv:=by
 obtain ⟨a,rfl⟩:=hsv
 obtain ⟨W,hW⟩:∃ W,W=(((w.alloc (.cells #[.pointer (some ⟨rb,0,none⟩)] 102)).alloc (.cells #[.pointer (some ⟨kb,ko,none⟩)] 68)).alloc (.cells #[.pointer a] 110)):=⟨_,rfl⟩
 obtain ⟨s,b,q0,q1,q2⟩:=three_boxes w _ _ _ _ _ _ W hW
 have fin:∀ (S:Nat→Prop) (d:Nat) (e:Ex),(∀ x,w.heap.size≤x→S x)→ExP w S d rb kb ko e→Cap W S d rb (delV w.heap.size) e (.pointer a):=fun S d e hS he =>
  ⟨_,_,_,kb,ko,rfl,⟨hS _ (by omega),hS _ (by omega),hS _ (by omega)⟩,⟨by omega,by omega,by omega⟩,q0,q1,q2,he.move (Mv.kb (KB.of_below (X:=fun _=>False) b) (fun _ h=>h.elim))⟩
 have HK:=(show Hid (_∧_∧_) from ⟨b,fin,hW⟩)
 clear s b q0 q1 q2 fin hW
 go_enter Tryz.func53,Tryz.ntmps53
 go_wp2_with fail
 go_ret
 rw [← HK.out.2.2]
 exact ⟨rfl,HK.out.1,HK.out.2.1⟩
set_option maxHeartbeats 1600000 in
theorem with_any (S:Nat→Prop) (d rb m:Nat) (sv fv:Value) (env:List Clo) (w:World) (h:ScAt w S d rb m sv env) (hl:env.length≤1000) (hfv:(∃ fn a c,fv = .func fn a c)∨fv = .nilFunc) :
  Calls Tryz.prog 86 #[sv,fv] w fun r w'=>r = .returned (.pointer (some ⟨w.heap.size,0,none⟩))∧w'=w.alloc (.cells #[sv,.int .i64 (env.length:Int),fv] 159):=by
 rcases h.form with ⟨rfl,rfl⟩ | ⟨env',c,sb,ov,fv',rfl,rfl,-,hb⟩
 ·clear h
  rcases hfv with ⟨fn,a,c,rfl⟩ | rfl <;> (
   go_enter Tryz.func86,Tryz.ntmps86
   go_wp2_with fail
   go_ret
   exact ⟨rfl,rfl⟩)
 ·have c1:=cbk hb 1 (.int .i64 (env'.length:Int)) rfl
  obtain ⟨z,hz⟩:∃ z:Int,z=(env'.length:Int):=⟨_,rfl⟩
  have hw:IntKind.i64.wrap (z+1)=z+1:=by rw [IntKind.wrap_i64]; simp at hl; omega
  have hz2:((env' ++ [c]).length:Int)=z+1:=by rw [hz]; simp
  rw [hz2]
  rw [← hz] at c1
  clear h hl hb hz hz2
  rcases hfv with ⟨fn,a,c,rfl⟩ | rfl <;> (
   go_enter Tryz.func86,Tryz.ntmps86
   go_wp2_with fail
   go_ret
   exact ⟨rfl,rfl⟩)
theorem ScAt.put {w:World} {S:Nat→Prop} {d rb m m':Nat} {sv fv ev':Value} {env:List Clo} {c:Clo} {W:World} (hW:W=w.alloc (.cells #[sv,.int .i64 (env.length:Int),fv] 159)) (h:ScAt w S d rb m sv env) (hS:S w.heap.size) (hc:Cap w S d rb fv c.ex ev') (ho:c.own=false) (he:ScAt w S d rb m' ev' c.env):∃ M,ScAt W S d rb M (.pointer (some ⟨w.heap.size,0,none⟩)) (env ++ [c]):=by
 have g:Mv w W S S:=by rw [hW]; exact Mv.kb ((KB.refl (fun _=>False) w).alloc _) (fun _ h=>h.elim)
 refine ⟨max m m'+1,Or.inr ⟨env,c,_,sv,fv,ev',rfl,rfl,hS,by rw [hW]; exact block_alloc,(h.move g).deep (Nat.le_max_left ..),hc.move g,Or.inr ⟨ho,(he.move g).deep (Nat.le_max_right ..)⟩⟩⟩
theorem at_loop (S:Nat→Prop) (d rb i:Nat) (c:Clo):∀ (m:Nat) (sv:Value) (env:List Clo) (w:World),ScAt w S d rb m sv env→env[i]? = some c→∃ sb ov pl fv,sv = .pointer (some ⟨sb,0,none⟩)∧w.heap[sb]? = some (.cells #[ov,.int .i64 (pl:Nat),fv] 159)∧((pl=i∧Ready w S d rb fv c)∨(i<pl∧∃ env',ScAt w S d rb (m - 1) ov env'∧env'[i]? = some c∧env'.length<env.length))
 | 0,_,_,_,h,_=>h.elim
 | m+1,sv,env,w,h,hi=>by
  rcases h with ⟨rfl,-⟩ | ⟨env',c',sb,ov,fv,ev',rfl,h2,h3,h4,h5,h6,h7⟩
  ·simp at hi
  ·refine ⟨sb,ov,env'.length,fv,h2,h4,?_⟩
   by_cases hl:i<env'.length
   ·exact Or.inr ⟨hl,env',h5,by rw [List.getElem?_append_left hl] at hi; exact hi,by simp⟩
   ·have hlt:=(List.getElem?_eq_some_iff.1 hi).1
    obtain rfl:i=env'.length:=by simp at hlt; omega
    obtain rfl:c'=c:=by simpa using hi
    refine Or.inl ⟨rfl,ev',m+1,h6,?_⟩
    rcases h7 with ⟨o1,o2,o3⟩ | ⟨o1,o2⟩
    ·unfold Clo.scope
     rw [if_pos o1,o3,o2]
     exact Or.inr ⟨env',c',sb,ov,fv,ev',rfl,h2,h3,h4,h5,h6,Or.inl ⟨o1,o2,o3⟩⟩
    ·unfold Clo.scope
     rw [if_neg (by rw [o1]; simp)]
     exact o2.deeper
set_option maxHeartbeats 1600000 in
theorem at_any (S:Nat→Prop) (d rb i m:Nat) (c:Clo) (sv:Value) (env:List Clo) (w:World) (h:ScAt w S d rb m sv env) (hi:env[i]? = some c) :
  Calls Tryz.prog 54 #[sv,.int .i64 (i:Int)] w fun r w'=>∃ fv,r = .returned fv∧w'=w∧Ready w S d rb fv c:=by
 have H:=(show Hid (∃ m env,ScAt w S d rb m sv env∧env[i]? = some c) from ⟨m,env,h,hi⟩)
 obtain ⟨L,hL⟩:∃ L:Nat→Value→Prop,L=fun n v=>∃ m env,env.length=n∧ScAt w S d rb m v env∧env[i]? = some c:=⟨_,rfl⟩
 have H0:=(show Hid (∃ n,L n sv) from ⟨env.length,by rw [hL]; exact ⟨m,env,rfl,h,hi⟩⟩)
 have hstep:Hid (∀ n v,L n v→∃ sb ov pl fv,v = .pointer (some ⟨sb,0,none⟩)∧w.heap[sb]? = some (.cells #[ov,.int .i64 (pl:Nat),fv] 159)∧((pl=i∧Ready w S d rb fv c)∨(i<pl∧∃ n',n'<n∧L n' ov))):=by
  intro n v hv
  rw [hL] at hv
  obtain ⟨m1,env1,rfl,h1,h2⟩:=hv
  obtain ⟨sb,ov,pl,fv,e1,e2,e3⟩:=at_loop S d rb i c m1 v env1 w h1 h2
  refine ⟨sb,ov,pl,fv,e1,e2,?_⟩
  rcases e3 with e3 | ⟨e3,env',e4,e5,e6⟩
  ·exact Or.inl e3
  ·exact Or.inr ⟨e3,env'.length,e6,by rw [hL]; exact ⟨_,env',rfl,e4,e5⟩⟩
 clear h hi H hL
 go_enter Tryz.func54,Tryz.ntmps54
 go_wp2_with fail
 go_loopw [0] (fun v wr=>wr=w∧∃ n,L n v) (fun v _=>leastM (fun n=>L n v))
 case atStart=>exact ⟨rfl,H0.out⟩
 case round =>
  obtain ⟨rfl,hex⟩:=hrel
  have hn:=leastM_spec hex
  obtain ⟨sb,ov,pl,fv,rfl,hb,hcase⟩:=hstep.out _ _ hn
  have c0:=cbk hb 0 ov rfl
  have c1:=cbk hb 1 (.int .i64 (pl:Int)) rfl
  have c2:=cbk hb 2 fv rfl
  clear hb hex
  rcases hcase with ⟨rfl,hr⟩ | ⟨hlt,n',hn',hL'⟩
  ·have HR:=(show Hid (_∧True) from ⟨hr,trivial⟩)
   obtain ⟨ev',m',⟨b0,b1,b2,kb,ko,rfl,-⟩,-⟩:=hr
   clear hn
   go_wp2_with fail
   go_ret
   exact ⟨_,rfl,rfl,HR.out.1⟩
  ·have g1:((pl:Int) != (i:Int))=true:=by simp; omega
   have g2:decide ((pl:Int)=(i:Int))=false:=by simp; omega
   have HR:=(show Hid (_∧_) from ⟨hn',hL'⟩)
   clear hlt hn' hL' hn
   go_wp2_with fail
   exact ⟨⟨by first | rfl | trivial,n',HR.out.2⟩,Nat.lt_of_le_of_lt (leastM_le HR.out.2) HR.out.1⟩
end Go.Proofs.YtljdgmfcgkimoaaGreatDoor

namespace Go.Proofs.YtljdgmfcgkimoaaGreatDoor
open Go.RowKit Go.Joins
set_option maxRecDepth 100000
set_option maxHeartbeats 3200000 in
theorem oneIf_any (so:Bool) (w:World):Calls Tryz.prog 110 #[.bool so] w fun r w'=>r = .returned (.int .i64 (if so=true then 1 else 0))∧w'=w:=by
 go_enter Tryz.func110,Tryz.ntmps110
 cases so <;> (go_wp2; go_ret; exact ⟨rfl,rfl⟩)
set_option maxHeartbeats 3200000 in
theorem operation_any (t:ByteArray) (a b:Int) (w:World):Calls Tryz.prog 100 #[.string t,.int .i64 a,.int .i64 b] w fun r w'=>r = .returned (.int .i64 (arith t a b))∧w'=w:=by
 go_enter Tryz.func100,Tryz.ntmps100
 by_cases h0:t.toList=[43]
 ·have g0:(t.toList == [43])=true:=by simp [h0]
  have hr:arith t a b=IntKind.i64.wrap (a+b):=by unfold arith; simp [h0]
  have HH:=(show Hid (_∧True) from ⟨hr,trivial⟩)
  clear hr h0
  go_wp2; go_ret; exact ⟨by rw [HH.out.1,IntKind.wrap_i64]; show Ending.returned (Value.int IntKind.i64 (wrap64 _))=_; unfold wrap64; rfl,rfl⟩
 have g0:(t.toList == [43])=false:=by simp [h0]
 by_cases h1:t.toList=[45]
 ·have g1:(t.toList == [45])=true:=by simp [h1]
  have hr:arith t a b=IntKind.i64.wrap (a - b):=by unfold arith; simp [h1]
  have HH:=(show Hid (_∧True) from ⟨hr,trivial⟩)
  clear hr h1
  go_wp2; go_ret; exact ⟨by rw [HH.out.1,IntKind.wrap_i64]; show Ending.returned (Value.int IntKind.i64 (wrap64 _))=_; unfold wrap64; rfl,rfl⟩
 have g1:(t.toList == [45])=false:=by simp [h1]
 by_cases h2:t.toList=[42]
 ·have g2:(t.toList == [42])=true:=by simp [h2]
  have hr:arith t a b=IntKind.i64.wrap (a * b):=by unfold arith; simp [h2]
  have HH:=(show Hid (_∧True) from ⟨hr,trivial⟩)
  clear hr h2
  go_wp2; go_ret; exact ⟨by rw [HH.out.1,IntKind.wrap_i64]; show Ending.returned (Value.int IntKind.i64 (wrap64 _))=_; unfold wrap64; rfl,rfl⟩
 have g2:(t.toList == [42])=false:=by simp [h2]
 by_cases h3:t.toList=[61,61]
 ·have g3:(t.toList == [61,61])=true:=by simp [h3]
  have hr:arith t a b=(if a=b then 1 else 0):=by unfold arith; simp [h3]
  have HH:=(show Hid (_∧True) from ⟨hr,trivial⟩)
  clear hr h3
  by_cases hc:a=b
  ·have HC:=(show Hid (_∧True) from ⟨hc,trivial⟩)
   subst hc
   go_wp2_with fail; refine (oneIf_any true _).mono ?_; rintro r w' ⟨rfl,rfl⟩; go_wp2; go_ret; exact ⟨by rw [HH.out.1,if_pos (by first | exact HC.out.1 | rfl)]; simp,rfl⟩
  ·have hc1:(a == b)=false:=by simpa using hc
   have hc2:decide (a=b)=false:=by simpa using hc
   have HC:=(show Hid (_∧True) from ⟨hc,trivial⟩)
   clear hc
   go_wp2_with fail; refine (oneIf_any false _).mono ?_; rintro r w' ⟨rfl,rfl⟩; go_wp2; go_ret; exact ⟨by rw [HH.out.1,if_neg (by have:=HC.out.1; omega)]; simp,rfl⟩
 have g3:(t.toList == [61,61])=false:=by simp [h3]
 have hr:arith t a b=(if a<b then 1 else 0):=by unfold arith; rw [if_neg h0,if_neg h1,if_neg h2,if_neg h3]
 have HH:=(show Hid (_∧True) from ⟨hr,trivial⟩)
 clear hr h0 h1 h2 h3
 by_cases hc:a<b
 ·have hc1:decide (a<b)=true:=by simpa using hc
  have HC:=(show Hid (_∧True) from ⟨hc,trivial⟩)
  clear hc
  go_wp2_with fail; refine (oneIf_any true _).mono ?_; rintro r w' ⟨rfl,rfl⟩; go_wp2; go_ret; exact ⟨by rw [HH.out.1,if_pos (by first | exact HC.out.1 | rfl)]; simp,rfl⟩
 ·have hc1:decide (a<b)=false:=by simpa using hc
  have HC:=(show Hid (¬ a<b∧True) from ⟨hc,trivial⟩)
  clear hc
  go_wp2_with fail; refine (oneIf_any false _).mono ?_; rintro r w' ⟨rfl,rfl⟩; go_wp2; go_ret; exact ⟨by rw [HH.out.1,if_neg (by have:=HC.out.1; omega)]; simp,rfl⟩
end Go.Proofs.YtljdgmfcgkimoaaGreatDoor

namespace Go.Proofs.YtljdgmfcgkimoaaGreatDoor
open Go.RowKit Go.Joins
theorem asNumNum (v:Value) (w:World):(Instr.typeAssert (.iface 103 v) 66 103 true).run Tryz.prog w = .ok (.tuple #[v,.bool true]) w:=by kernel_rfl
theorem asNumNil (v:Value) (w:World):(Instr.typeAssert (.iface 103 v) 66 109 true).run Tryz.prog w = .ok (.tuple #[.agg #[],.bool false]) w:=by kernel_rfl
theorem asNumFun (v:Value) (w:World):(Instr.typeAssert (.iface 103 v) 66 112 true).run Tryz.prog w = .ok (.tuple #[.agg #[.pointer none,.pointer none,.int .i64 0],.bool false]) w:=by kernel_rfl
theorem asNumPair (v:Value) (w:World):(Instr.typeAssert (.iface 103 v) 66 116 true).run Tryz.prog w = .ok (.tuple #[.agg #[.nilFunc,.nilFunc],.bool false]) w:=by kernel_rfl
theorem asNumEnd (v:Value) (w:World):(Instr.typeAssert (.iface 103 v) 66 119 true).run Tryz.prog w = .ok (.tuple #[.agg #[.int .i64 0],.bool false]) w:=by kernel_rfl
theorem asNilNum (v:Value) (w:World):(Instr.typeAssert (.iface 109 v) 66 103 true).run Tryz.prog w = .ok (.tuple #[.int .i64 0,.bool false]) w:=by kernel_rfl
theorem asNilNil (v:Value) (w:World):(Instr.typeAssert (.iface 109 v) 66 109 true).run Tryz.prog w = .ok (.tuple #[v,.bool true]) w:=by kernel_rfl
theorem asNilFun (v:Value) (w:World):(Instr.typeAssert (.iface 109 v) 66 112 true).run Tryz.prog w = .ok (.tuple #[.agg #[.pointer none,.pointer none,.int .i64 0],.bool false]) w:=by kernel_rfl
theorem asNilPair (v:Value) (w:World):(Instr.typeAssert (.iface 109 v) 66 116 true).run Tryz.prog w = .ok (.tuple #[.agg #[.nilFunc,.nilFunc],.bool false]) w:=by kernel_rfl
theorem asNilEnd (v:Value) (w:World):(Instr.typeAssert (.iface 109 v) 66 119 true).run Tryz.prog w = .ok (.tuple #[.agg #[.int .i64 0],.bool false]) w:=by kernel_rfl
theorem asFunNum (v:Value) (w:World):(Instr.typeAssert (.iface 112 v) 66 103 true).run Tryz.prog w = .ok (.tuple #[.int .i64 0,.bool false]) w:=by kernel_rfl
theorem asFunNil (v:Value) (w:World):(Instr.typeAssert (.iface 112 v) 66 109 true).run Tryz.prog w = .ok (.tuple #[.agg #[],.bool false]) w:=by kernel_rfl
theorem asFunFun (v:Value) (w:World):(Instr.typeAssert (.iface 112 v) 66 112 true).run Tryz.prog w = .ok (.tuple #[v,.bool true]) w:=by kernel_rfl
theorem asFunPair (v:Value) (w:World):(Instr.typeAssert (.iface 112 v) 66 116 true).run Tryz.prog w = .ok (.tuple #[.agg #[.nilFunc,.nilFunc],.bool false]) w:=by kernel_rfl
theorem asFunEnd (v:Value) (w:World):(Instr.typeAssert (.iface 112 v) 66 119 true).run Tryz.prog w = .ok (.tuple #[.agg #[.int .i64 0],.bool false]) w:=by kernel_rfl
theorem asPairNum (v:Value) (w:World):(Instr.typeAssert (.iface 116 v) 66 103 true).run Tryz.prog w = .ok (.tuple #[.int .i64 0,.bool false]) w:=by kernel_rfl
theorem asPairNil (v:Value) (w:World):(Instr.typeAssert (.iface 116 v) 66 109 true).run Tryz.prog w = .ok (.tuple #[.agg #[],.bool false]) w:=by kernel_rfl
theorem asPairFun (v:Value) (w:World):(Instr.typeAssert (.iface 116 v) 66 112 true).run Tryz.prog w = .ok (.tuple #[.agg #[.pointer none,.pointer none,.int .i64 0],.bool false]) w:=by kernel_rfl
theorem asPairPair (v:Value) (w:World):(Instr.typeAssert (.iface 116 v) 66 116 true).run Tryz.prog w = .ok (.tuple #[v,.bool true]) w:=by kernel_rfl
theorem asPairEnd (v:Value) (w:World):(Instr.typeAssert (.iface 116 v) 66 119 true).run Tryz.prog w = .ok (.tuple #[.agg #[.int .i64 0],.bool false]) w:=by kernel_rfl
theorem asEndNum (v:Value) (w:World):(Instr.typeAssert (.iface 119 v) 66 103 true).run Tryz.prog w = .ok (.tuple #[.int .i64 0,.bool false]) w:=by kernel_rfl
theorem asEndNil (v:Value) (w:World):(Instr.typeAssert (.iface 119 v) 66 109 true).run Tryz.prog w = .ok (.tuple #[.agg #[],.bool false]) w:=by kernel_rfl
theorem asEndFun (v:Value) (w:World):(Instr.typeAssert (.iface 119 v) 66 112 true).run Tryz.prog w = .ok (.tuple #[.agg #[.pointer none,.pointer none,.int .i64 0],.bool false]) w:=by kernel_rfl
theorem asEndPair (v:Value) (w:World):(Instr.typeAssert (.iface 119 v) 66 116 true).run Tryz.prog w = .ok (.tuple #[.agg #[.nilFunc,.nilFunc],.bool false]) w:=by kernel_rfl
theorem asEndEnd (v:Value) (w:World):(Instr.typeAssert (.iface 119 v) 66 119 true).run Tryz.prog w = .ok (.tuple #[v,.bool true]) w:=by kernel_rfl
end Go.Proofs.YtljdgmfcgkimoaaGreatDoor
