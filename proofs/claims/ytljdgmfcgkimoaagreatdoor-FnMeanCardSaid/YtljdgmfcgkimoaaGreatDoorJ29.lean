/-
  Proofs.
  Proofs.
-/
import Derived.Test.YtljdgmfcgkimoaaGreatDoorJ28
import Derived.Test.YtljdgmfcgkimoaaGreatDoorJ1
import Derived.BigQuiet
import Derived.Deep.QuietTactic
import Derived.Deep.CutBlock
import Derived.Deep.RegionHeld3
namespace Go.Proofs.YtljdgmfcgkimoaaGreatDoor
open Go.RowKit Go.Joins
set_option maxRecDepth 100000
theorem block_alloc {w:World} {o:Obj}:(w.alloc o).heap[w.heap.size]? = some o:=by
 have:=(MapKept.heap_alloc w o).1
 simpa using this
structure Lo (rb:Nat) (w w':World):Prop where
 kb:KB (· = rb) w w'
 low:rb<w.heap.size→w'.heap[rb]? = w.heap[rb]?
theorem two_boxes (w:World) (S:Nat→Prop) (o1 o2:Obj) (W1:World) (h:W1=(w.alloc o1).alloc o2) (rb:Nat) :
  W1.heap.size=w.heap.size+2∧Mv w W1 S (but (but S w.heap.size) (w.heap.size+1))∧Lo rb w W1∧W1.heap[w.heap.size]? = some o1∧W1.heap[w.heap.size+1]? = some o2:=by
 subst h
 have e1:(w.alloc o1).heap.size=w.heap.size+1:=by simp
 refine ⟨by simp,?_,⟨KB.of_below (((Below.refl _ w).alloc (Nat.le_refl _) _).alloc (by simp) _),fun hl => ?_⟩,?_,?_⟩
 ·have:=(Mv.alloc w S o1).trans (Mv.alloc (w.alloc o1) _ o2)
  rw [e1] at this
  exact this
 ·rw [Below.heap_alloc _ _ _ (by omega),Below.heap_alloc _ _ _ hl]
 ·rw [Below.heap_alloc _ _ _ (by omega)]; exact block_alloc
 ·have:=block_alloc (w:=w.alloc o1) (o:=o2)
  rw [e1] at this
  exact this
theorem Sv.two {w W1:World} {S:Nat→Prop} {d rb:Nat} {bv:Value} {P:List Ex} (hs:Sv w S d rb bv P) (m1:Mv w W1 S (but (but S w.heap.size) (w.heap.size+1))) (s1:W1.heap.size=w.heap.size+2):Sv W1 (but (but S w.heap.size) (w.heap.size+1)) d rb bv P :=
 hs.move m1 (by rw [s1]; exact but_new (but_new (new_le hs.new (by omega)) (by omega)) (by omega)) (but_not (but_not hs.rb))
theorem kb_set (W:World) (g o:Nat) (v:Value):KB (· = g) W (W.setCell ⟨g,o,none⟩ v):=KB.setCell (X:=fun k=>k=g) (p:=⟨g,o,none⟩) (KB.refl _ W) rfl v
theorem kb7 (W:World) (g:Nat) (v0 v1 v2 v3 v4 v5 v6:Value):KB (· = g) W (((((((W.setCell ⟨g,0,none⟩ v0).setCell ⟨g,1,none⟩ v1).setCell ⟨g,2,none⟩ v2).setCell ⟨g,3,none⟩ v3).setCell ⟨g,4,none⟩ v4).setCell ⟨g,5,none⟩ v5).setCell ⟨g,6,none⟩ v6):=by
 have k:∀ (a:World) (o:Nat) (v:Value),KB (· = g) W a→KB (· = g) W (a.setCell ⟨g,o,none⟩ v):=fun a o v h=>KB.setCell (p:=⟨g,o,none⟩) h (show g=g from rfl) v
 exact k _ 6 _ (k _ 5 _ (k _ 4 _ (k _ 3 _ (k _ 2 _ (k _ 1 _ (k _ 0 _ (KB.refl _ W)))))))
theorem aft_end {P:List Ex} {S S':Nat→Prop} {d rb g:Nat} {nv bv v:Value} {w W4 W5:World} {R:Rs×Nat} (h1:KB (· = rb) w W4) (hv:VR W4 S' d P v R.1) (hS:∀ b,S' b→S b) (hg':¬ S' g) (hr:RunAt W4 rb nv bv R.2 R.1.code) (hg:w.heap.size≤g) (hrb:rb<w.heap.size) (h5:KB (· = g) W4 W5):Aft P S d rb nv bv w W5 v R:=by
 refine ⟨⟨h5.os.trans h1.os,h5.tape.trans h1.tape,h5.output.trans h1.output,Nat.le_trans h1.size h5.size,fun k hk hx => ?_⟩,(hv.move (Mv.kb h5 (fun b hb h=>hg' (hb ▸ h)))).move (Mv.wide _ hS),hr.move (h5.block rb (Nat.lt_of_lt_of_le hrb h1.size) (by omega))⟩
 exact (h5.block k (Nat.lt_of_lt_of_le hk h1.size) (by omega)).trans (h1.block k hk hx)
theorem Aft.form {P:List Ex} {S:Nat→Prop} {d rb:Nat} {nv bv v:Value} {w w':World} {R:Rs×Nat} (h:Aft P S d rb nv bv w w' v R):∃ (k n x y:Int) (t:ByteArray) (b1:Option Addr) (l1 q1:Nat) (b2:Option Addr) (l2 q2:Nat),v = .agg #[.int .i64 k,.int .i64 n,.int .i64 x,.int .i64 y,.string t,.slice b1 l1 q1,.slice b2 l2 q2]:=by
 obtain ⟨m,k,n,e,en,hs,-⟩:=h.vr.junk
 obtain ⟨b1,q1,b2,q2,rfl,-⟩:=hs.form
 exact ⟨_,_,_,_,_,_,_,_,_,_,_,rfl⟩
theorem aft_tail {P:List Ex} {S S':Nat→Prop} {d rb g:Nat} {nv bv v:Value} {w W w3 W5:World} {R:Rs×Nat} (h1:KB (· = rb) w W) (h:Aft P S' d rb nv bv W w3 v R) (hS:∀ b,S' b→S b) (hg':¬ S' g) (hg:w.heap.size≤g) (hrb:rb<w.heap.size) (h5:KB (· = g) w3 W5):Aft P S d rb nv bv w W5 v R :=
 aft_end (h1.trans h.kb) h.vr hS hg' h.run hg hrb h5
theorem KB.alloc {X:Nat→Prop} {a w:World} (h:KB X a w) (o:Obj):KB X a (w.alloc o):=h.trans (KB.of_below ((Below.refl _ w).alloc (Nat.le_refl _) o))
theorem KB.drew {X:Nat→Prop} {a w:World} (h:KB X a w):KB X a w.drew:=⟨h.os,h.tape,h.output,h.size,h.block⟩
theorem Mv.drew (w:World) (S:Nat→Prop):Mv w w.drew S S:=⟨fun _ _ _=>rfl,Nat.le_refl _,fun _ h _=>h⟩
theorem EnvAt.move {w w':World} {S S':Nat→Prop} {d m:Nat} {v:Value} {cs:List Clo} (h:EnvAt w S d m v cs) (g:Mv w w' S S'):EnvAt w' S' d m v cs:=h.kept g.block g.size g.sub
theorem KidsAt.move {w w':World} {S S':Nat→Prop} {d:Nat} {v:Value} {es:List Ex} (h:KidsAt w S d v es) (g:Mv w w' S S'):KidsAt w' S' d v es:=h.kept g.block g.size g.sub
def ClAt (w:World) (S:Nat→Prop) (d:Nat) (v:Value) (c:Clo):Prop :=
 ∃ kv ev m,v = .agg #[.int .i64 c.ex.kind,.int .i64 c.ex.n,.string c.ex.text,kv,ev,.bool c.own]∧inI64 c.ex.kind∧inI64 c.ex.n∧c.ex.text.size≤maxLen∧KidsAt w S d kv c.ex.kids∧EnvAt w S d m ev c.env
theorem ClAt.move {w w':World} {S S':Nat→Prop} {d:Nat} {v:Value} {c:Clo} (h:ClAt w S d v c) (g:Mv w w' S S'):ClAt w' S' d v c:=by
 obtain ⟨kv,ev,m,hv,h1,h2,h3,h4,h5⟩:=h
 exact ⟨kv,ev,m,hv,h1,h2,h3,h4.move g,h5.move g⟩
theorem env_one {w:World} {S:Nat→Prop} {d m g:Nat} {kv ev:Value} {c:Clo} {T:TypeId} (hb:w.heap[g]? = some (.cells #[.int .i64 c.ex.kind,.int .i64 c.ex.n,.string c.ex.text,kv,ev,.bool c.own] T)) (hS:S g) (h1:inI64 c.ex.kind) (h2:inI64 c.ex.n) (h3:c.ex.text.size≤maxLen) (h4:KidsAt w S d kv c.ex.kids) (h5:EnvAt w S d m ev c.env):EnvAt w S d (m+1) (.slice (some ⟨g,0,none⟩) 1 1) [c]:=by
 refine ⟨_,_,rfl,by simp,fun h=>(by cases h),fun i c' hi => ?_⟩
 cases i with
 | succ i=>simp at hi
 | zero =>
  obtain rfl:c=c':=by simpa using hi
  exact ⟨g,0,kv,ev,rfl,hS,lh hb,by rw [cell_of_block hb]; rfl,by rw [cell_of_block hb]; rfl,by rw [cell_of_block hb]; rfl,by rw [cell_of_block hb]; rfl,by rw [cell_of_block hb]; rfl,by rw [cell_of_block hb]; rfl,h1,h2,h3,h4,h5⟩
structure KidC (w:World) (kb o:Nat) (k:Ex) (ka:Option Addr) (kc:Nat):Prop where
 c0:w.cell? ⟨kb,o,none⟩=some (.int .i64 k.kind)
 c1:w.cell? ⟨kb,o+1,none⟩=some (.int .i64 k.n)
 c2:w.cell? ⟨kb,o+2,none⟩=some (.string k.text)
 c3:w.cell? ⟨kb,o+3,none⟩=some (.slice ka k.kids.length kc)
theorem KidC.move {w w':World} {kb o:Nat} {k:Ex} {ka:Option Addr} {kc:Nat} (h:KidC w kb o k ka kc) (hb:w'.heap[kb]? = w.heap[kb]?):KidC w' kb o k ka kc :=
 ⟨(World.cell?_of_block hb).trans h.c0,(World.cell?_of_block hb).trans h.c1,(World.cell?_of_block hb).trans h.c2,(World.cell?_of_block hb).trans h.c3⟩
theorem KidC.more {w w':World} {kb o:Nat} {k:Ex} {ka:Option Addr} {kc:Nat} (h:KidC w kb o k ka kc) (hb:kb<w.heap.size→w'.heap[kb]? = w.heap[kb]?):KidC w' kb o k ka kc :=
 h.move (hb (World.block_lt_of_cell? _ _ h.c0))
abbrev exV (k:Ex) (ka:Option Addr) (kc:Nat):Value:=.agg #[.int .i64 k.kind,.int .i64 k.n,.string k.text,.slice ka k.kids.length kc]
theorem kid_at {w:World} {S:Nat→Prop} {d:Nat} {kb ko n c1:Nat} {es:List Ex} (h:KidsAt w S d (.slice (some ⟨kb,ko,none⟩) n c1) es) {i:Nat} {k:Ex} (hi:es[i]? = some k):∃ ka kc,KidC w kb (ko+i * 4) k ka kc∧S kb∧kb<w.heap.size∧ExAt w S d (exV k ka kc) k:=by
 cases d with
 | zero=>exact h.elim
 | succ d =>
  obtain ⟨a,cap,hv,hl,hc⟩:=h
  obtain ⟨b,off,kv,ha,hS,hlt,c0,c1,c2,c3,r1,r2,r3,hk⟩:=hc i k hi
  obtain ⟨ka,kc,rfl⟩:=hk.form
  subst ha
  simp only [Value.slice.injEq,Option.some.injEq,Addr.mk.injEq,and_true] at hv
  obtain ⟨⟨rfl,rfl⟩,-,-⟩:=hv
  exact ⟨ka,kc,⟨c0,c1,c2,c3⟩,hS,hlt,_,rfl,r1,r2,r3,hk.deeper⟩
theorem kid_row {w:World} {S:Nat→Prop} {d n c1:Nat} {a:Option Addr} {es:List Ex} (h:KidsAt w S d (.slice a n c1) es) (he:es≠[]):∃ kb ko,a=some ⟨kb,ko,none⟩:=by
 cases d with
 | zero=>exact h.elim
 | succ d =>
  obtain ⟨a',cap,hv,hl,hc⟩:=h
  obtain ⟨k,t,rfl⟩:=List.exists_cons_of_ne_nil he
  obtain ⟨b,off,kv,ha,_⟩:=hc 0 k rfl
  simp only [Value.slice.injEq] at hv
  obtain ⟨rfl,-⟩:=hv
  exact ⟨b,off,ha⟩
theorem kids_of {e:Ex} {scope tops deep:Int} (h:e.right scope tops deep=true):(e.kids.length:Int)=kidsOf e.kind:=((right_iff _ _ _ _).1 h).2.2.1
theorem kids1 {e:Ex} (h:(e.kids.length:Int)=1):∃ k0,e.kids=[k0]:=by
 match hk:e.kids,h with
 | [k0],_=>exact ⟨k0,rfl⟩
 | [],h=>simp at h
 | _ :: _ :: _,h=>simp at h; omega
theorem kids2 {e:Ex} (h:(e.kids.length:Int)=2):∃ k0 k1,e.kids=[k0,k1]:=by
 match hk:e.kids,h with
 | [k0,k1],_=>exact ⟨k0,k1,rfl⟩
 | [],h=>simp at h
 | [_],h=>simp at h
 | _ :: _ :: _ :: _,h=>simp at h; omega
theorem kids3 {e:Ex} (h:(e.kids.length:Int)=3):∃ k0 k1 k2,e.kids=[k0,k1,k2]:=by
 match hk:e.kids,h with
 | [k0,k1,k2],_=>exact ⟨k0,k1,k2,rfl⟩
 | [],h=>simp at h
 | [_],h=>simp at h
 | [_,_],h=>simp at h
 | _ :: _ :: _ :: _ :: _,h=>simp at h; omega
theorem kid_right {e k:Ex} {scope tops deep:Int} (h:e.right scope tops deep=true) {i:Nat} (hi:e.kids[i]? = some k):k.right (scope+moreN e.kind e.n i) tops (deep - 1)=true:=((right_iff _ _ _ _).1 h).2.2.2.2 i k hi
theorem want_fn {r:Rs×Nat} {q:Rs} {f:Nat} (h:wantK r 3 3=(q,f)) (k:Int→Ex→List Clo→Nat→Rs×Nat):(∃ c,q = .err c∧onFn r k=(.err c,f))∨∃ l x en,q = .ok (.fn l x en)∧onFn r k=k l x en f:=by
 obtain ⟨r,g⟩:=r
 cases r with
 | err c=>simp only [wantK,Prod.mk.injEq] at h; obtain ⟨rfl,rfl⟩:=h; exact Or.inl ⟨c,rfl,rfl⟩
 | ok v=>cases v <;> simp [wantK,Vl.kind] at h <;> obtain ⟨rfl,rfl⟩:=h <;> first | exact Or.inl ⟨2,rfl,rfl⟩ | exact Or.inr ⟨_,_,_,rfl,rfl⟩
theorem want_num {r:Rs×Nat} {q:Rs} {f:Nat} (h:wantK r 0 0=(q,f)) (k:Int→Nat→Rs×Nat):(∃ c,q = .err c∧onNum r k=(.err c,f))∨∃ n,q = .ok (.num n)∧onNum r k=k n f:=by
 obtain ⟨r,g⟩:=r
 cases r with
 | err c=>simp only [wantK,Prod.mk.injEq] at h; obtain ⟨rfl,rfl⟩:=h; exact Or.inl ⟨c,rfl,rfl⟩
 | ok v=>cases v <;> simp [wantK,Vl.kind] at h <;> obtain ⟨rfl,rfl⟩:=h <;> first | exact Or.inl ⟨2,rfl,rfl⟩ | exact Or.inr ⟨_,rfl,rfl⟩
theorem want_list {r:Rs×Nat} {q:Rs} {f:Nat} (h:wantK r 1 2=(q,f)) (k0:Nat→Rs×Nat) (k1:Clo→Clo→Nat→Rs×Nat):(∃ c,q = .err c∧onList r k0 k1=(.err c,f))∨(q = .ok .nil∧onList r k0 k1=k0 f)∨∃ a b,q = .ok (.pair a b)∧onList r k0 k1=k1 a b f:=by
 obtain ⟨r,g⟩:=r
 cases r with
 | err c=>simp only [wantK,Prod.mk.injEq] at h; obtain ⟨rfl,rfl⟩:=h; exact Or.inl ⟨c,rfl,rfl⟩
 | ok v=>cases v <;> simp [wantK,Vl.kind] at h <;> obtain ⟨rfl,rfl⟩:=h <;> first | exact Or.inl ⟨2,rfl,rfl⟩ | exact Or.inr (Or.inl ⟨rfl,rfl⟩) | exact Or.inr (Or.inr ⟨_,_,rfl,rfl⟩)
theorem VJ.zero' {w:World} {S:Nat→Prop} {d:Nat} (hd:0<d):VJ w S d 1 (.agg #[.int .i64 0,.int .i64 0,.int .i64 0,.int .i64 0,.string ⟨#[]⟩,.slice none 0 0,.slice none 0 0]):=by
 obtain ⟨d',rfl⟩:∃ d',d=d'+1:=⟨d - 1,by omega⟩
 exact VJ.zero w S d' 0
theorem KidsAt.pos {w:World} {S:Nat→Prop} {d:Nat} {v:Value} {es:List Ex} (h:KidsAt w S d v es):0<d:=by
 cases d with
 | zero=>exact h.elim
 | succ d=>omega
theorem evC_zero (P:List Ex) (b f:Nat) (e:Ex) (env:List Clo):evC P b 0 f e env=ev P b f e env:=by unfold evC; rw [if_pos rfl]
theorem Ok.kid {P:List Ex} {e k:Ex} {env:List Clo} (h:Ok P e env) {i:Nat} (hi:e.kids[i]? = some k) (hm:moreN e.kind e.n i=0):Ok P k env:=by
 obtain ⟨⟨deep,h1⟩,h2⟩:=h
 have:=kid_right h1 hi
 rw [hm,Int.add_zero] at this
 exact ⟨⟨_,this⟩,h2⟩
theorem Ok.clo {P:List Ex} {e:Ex} {env:List Clo} (h:Ok P e env):(Clo.mk e env false).good (P.length:Int):=by
 rw [Clo.good_eq]
 obtain ⟨⟨deep,h1⟩,h2⟩:=h
 exact ⟨⟨deep,by show e.right ((env.length:Int)+0) _ _=true; rw [Int.add_zero]; exact h1⟩,h2⟩
theorem in_sub1 {l:Int} (h1:1≤l) (h2:l≤6):IntKind.i64.wrap (l - 1)=l - 1:=by
 rw [IntKind.wrap_i64]; omega
theorem drew_heap (w:World):w.drew.heap=w.heap:=rfl
theorem kb7_block (W:World) (g:Nat) (v0 v1 v2 v3 v4 v5 v6:Value) {x:Nat} (hx:x<W.heap.size) (hn:x≠g):(((((((W.setCell ⟨g,0,none⟩ v0).setCell ⟨g,1,none⟩ v1).setCell ⟨g,2,none⟩ v2).setCell ⟨g,3,none⟩ v3).setCell ⟨g,4,none⟩ v4).setCell ⟨g,5,none⟩ v5).setCell ⟨g,6,none⟩ v6).drew.heap[x]? = W.heap[x]? := by
 rw [drew_heap]
 exact (kb7 W g v0 v1 v2 v3 v4 v5 v6).block x hx hn
theorem cell7 (W:World) (g:Nat) (v0 v1 v2 v3 v4 v5 v6:Value) (b o:Nat) (hb:b<W.heap.size) (hn:b≠g):(((((((W.setCell ⟨g,0,none⟩ v0).setCell ⟨g,1,none⟩ v1).setCell ⟨g,2,none⟩ v2).setCell ⟨g,3,none⟩ v3).setCell ⟨g,4,none⟩ v4).setCell ⟨g,5,none⟩ v5).setCell ⟨g,6,none⟩ v6).cell? ⟨b,o,none⟩=W.cell? ⟨b,o,none⟩ :=
 World.cell?_of_block ((kb7 W g v0 v1 v2 v3 v4 v5 v6).block b hb hn)
theorem ev_boxes (w:World) (S:Nat→Prop) (o1 o2:Obj) (W1 W2:World) (rb f:Nat) (nv bv:Value) (h1:W1=(w.alloc o1).alloc o2) (h2:W2=W1.setCell ⟨rb,2,none⟩ (.int .i64 (f:Int))) (hr:RunAt w rb nv bv (f+1) 0) (hS:¬ S rb) :
  W2.heap.size=w.heap.size+2∧Mv w W2 S (but (but S w.heap.size) (w.heap.size+1))∧KB (· = rb) w W2∧W2.heap[w.heap.size]? = some o1∧W2.heap[w.heap.size+1]? = some o2∧RunAt W2 rb nv bv f 0:=by
 obtain ⟨s1,m1,k1,q1,r1⟩:=two_boxes w S o1 o2 W1 h1 rb
 have hl:=lh hr
 subst h2
 refine ⟨by simpa using s1,m1.trans (Mv.set W1 _ (but_not (but_not hS))),k1.kb.trans (kb_set W1 rb 2 _),(Below.heap_setCell _ _ _ _ (by simp; omega)).trans q1,(Below.heap_setCell _ _ _ _ (by simp; omega)).trans r1,?_⟩
 have:=block_setCell (i:=2) (hr.move (k1.low hl)) (.int .i64 (f:Int))
 exact this
theorem VAt.num0 {w:World} {S:Nat→Prop} {d:Nat} (hd:0<d) (n:Int):VAt w S d 1 (.agg #[.int .i64 0,.int .i64 n,.int .i64 0,.int .i64 0,.string ⟨#[]⟩,.slice none 0 0,.slice none 0 0]) (.num n):=by
 obtain ⟨d',rfl⟩:∃ d',d=d'+1:=⟨d - 1,by omega⟩
 exact ⟨.mk 0 0 ⟨#[]⟩ [],⟨_,_,rfl,by unfold inI64; decide,by unfold inI64; decide,Nat.zero_le _,⟨none,0,rfl,Nat.zero_le _,fun i e h=>by have h:([]:List Ex)[i]? = some e:=h; simp at h⟩,EnvAt.nil none 0 (fun _=>rfl)⟩⟩
theorem VAt.nil0 {w:World} {S:Nat→Prop} {d:Nat} (hd:0<d):VAt w S d 1 (.agg #[.int .i64 1,.int .i64 0,.int .i64 0,.int .i64 0,.string ⟨#[]⟩,.slice none 0 0,.slice none 0 0]) .nil:=by
 obtain ⟨d',rfl⟩:∃ d',d=d'+1:=⟨d - 1,by omega⟩
 exact ⟨0,.mk 0 0 ⟨#[]⟩ [],⟨_,_,rfl,by unfold inI64; decide,by unfold inI64; decide,Nat.zero_le _,⟨none,0,rfl,Nat.zero_le _,fun i e h=>by have h:([]:List Ex)[i]? = some e:=h; simp at h⟩,EnvAt.nil none 0 (fun _=>rfl)⟩⟩
structure CloC (w:World) (eb o:Nat) (c:Clo) (ka:Option Addr) (kc:Nat) (ea:Option Addr) (ec:Nat):Prop where
 c0:w.cell? ⟨eb,o,none⟩=some (.int .i64 c.ex.kind)
 c1:w.cell? ⟨eb,o+1,none⟩=some (.int .i64 c.ex.n)
 c2:w.cell? ⟨eb,o+2,none⟩=some (.string c.ex.text)
 c3:w.cell? ⟨eb,o+3,none⟩=some (.slice ka c.ex.kids.length kc)
 c4:w.cell? ⟨eb,o+4,none⟩=some (.slice ea c.env.length ec)
 c5:w.cell? ⟨eb,o+5,none⟩=some (.bool c.own)
theorem CloC.move {w w':World} {eb o:Nat} {c:Clo} {ka ea:Option Addr} {kc ec:Nat} (h:CloC w eb o c ka kc ea ec) (hb:w'.heap[eb]? = w.heap[eb]?):CloC w' eb o c ka kc ea ec :=
 ⟨(World.cell?_of_block hb).trans h.c0,(World.cell?_of_block hb).trans h.c1,(World.cell?_of_block hb).trans h.c2,(World.cell?_of_block hb).trans h.c3,(World.cell?_of_block hb).trans h.c4,(World.cell?_of_block hb).trans h.c5⟩
theorem env_cell {w:World} {S:Nat→Prop} {d m n c2:Nat} {a2:Option Addr} {env:List Clo} (h:EnvAt w S d m (.slice a2 n c2) env) {i:Nat} {c:Clo} (hi:env[i]? = some c):∃ eb eo ka kc ea ec,a2=some ⟨eb,eo,none⟩∧S eb∧eb<w.heap.size∧CloC w eb (eo+i * 6) c ka kc ea ec∧ClAt w S d (.agg #[.int .i64 c.ex.kind,.int .i64 c.ex.n,.string c.ex.text,.slice ka c.ex.kids.length kc,.slice ea c.env.length ec,.bool c.own]) c:=by
 cases m with
 | zero=>exact h.elim
 | succ m =>
  obtain ⟨a,cap,hv,hl,hz,hc⟩:=h
  obtain ⟨b,off,kv,ev,ha,hS,hlt,c0,c1,c2,c3,c4,c5,r1,r2,r3,hk,he⟩:=hc i c hi
  obtain ⟨ka,kc,rfl⟩:=hk.form
  obtain ⟨ea,ec,rfl,-⟩:=he.form
  simp only [Value.slice.injEq] at hv
  exact ⟨b,off,ka,kc,ea,ec,hv.1.trans ha,hS,hlt,⟨c0,c1,c2,c3,c4,c5⟩,_,_,m,rfl,r1,r2,r3,hk,he⟩
theorem env_two {w:World} {S:Nat→Prop} {d m g:Nat} {c1 c2:Clo} {kv1 ev1 kv2 ev2:Value} {T:TypeId} (hb:w.heap[g]? = some (.cells #[.int .i64 c1.ex.kind,.int .i64 c1.ex.n,.string c1.ex.text,kv1,ev1,.bool c1.own,.int .i64 c2.ex.kind,.int .i64 c2.ex.n,.string c2.ex.text,kv2,ev2,.bool c2.own] T)) (hS:S g) (h1:inI64 c1.ex.kind∧inI64 c1.ex.n∧c1.ex.text.size≤maxLen∧KidsAt w S d kv1 c1.ex.kids∧EnvAt w S d m ev1 c1.env) (h2:inI64 c2.ex.kind∧inI64 c2.ex.n∧c2.ex.text.size≤maxLen∧KidsAt w S d kv2 c2.ex.kids∧EnvAt w S d m ev2 c2.env):EnvAt w S d (m+1) (.slice (some ⟨g,0,none⟩) 2 2) [c1,c2]:=by
 refine ⟨_,_,rfl,by simp,fun h=>(by cases h),fun i c' hi => ?_⟩
 match i,hi with
 | 0,hi =>
  obtain rfl:c1=c':=by simpa using hi
  exact ⟨g,0,kv1,ev1,rfl,hS,lh hb,by rw [cell_of_block hb]; rfl,by rw [cell_of_block hb]; rfl,by rw [cell_of_block hb]; rfl,by rw [cell_of_block hb]; rfl,by rw [cell_of_block hb]; rfl,by rw [cell_of_block hb]; rfl,h1⟩
 | 1,hi =>
  obtain rfl:c2=c':=by simpa using hi
  exact ⟨g,0,kv2,ev2,rfl,hS,lh hb,by rw [cell_of_block hb]; rfl,by rw [cell_of_block hb]; rfl,by rw [cell_of_block hb]; rfl,by rw [cell_of_block hb]; rfl,by rw [cell_of_block hb]; rfl,by rw [cell_of_block hb]; rfl,h2⟩
 | i+2,hi=>simp at hi
theorem ExAt.parts {w:World} {S:Nat→Prop} {d:Nat} {k:Ex} {ka:Option Addr} {kc:Nat} (h:ExAt w S d (exV k ka kc) k):inI64 k.kind∧inI64 k.n∧k.text.size≤maxLen∧KidsAt w S d (.slice ka k.kids.length kc) k.kids:=by
 obtain ⟨kv,hv,j1,j2,j3,hkk⟩:=h
 simp only [exV,Value.agg.injEq,Array.mk.injEq,List.cons.injEq,and_true,true_and] at hv
 subst hv
 exact ⟨j1,j2,j3,hkk⟩
theorem Ok.kidm {P:List Ex} {e k:Ex} {env ds:List Clo} (h:Ok P e env) {i:Nat} (hi:e.kids[i]? = some k) (hm:moreN e.kind e.n i=(ds.length:Int)) (hd:Clo.goodL (P.length:Int) ds):Ok P k (env ++ ds):=by
 obtain ⟨⟨deep,h1⟩,h2⟩:=h
 have:=kid_right h1 hi
 rw [hm] at this
 exact ⟨⟨_,by rw [List.length_append,Int.natCast_add]; exact this⟩,goodL_append h2 hd⟩
theorem Ok.rec {P:List Ex} {e k:Ex} {env:List Clo} (h:Ok P e env) {i:Nat} (hi:e.kids[i]? = some k) (hm:moreN e.kind e.n i=1):(Clo.mk k env true).good (P.length:Int):=by
 rw [Clo.good_eq]
 obtain ⟨⟨deep,h1⟩,h2⟩:=h
 have:=kid_right h1 hi
 rw [hm] at this
 exact ⟨⟨_,this⟩,h2⟩
theorem low_set7 {W3 W5:World} {W2:World} {g rb:Nat} (hx:∀ x,x<W2.heap.size→x≠rb→x≠g→W3.heap[x]? = W2.heap[x]?) (hs:W2.heap.size≤W3.heap.size) (h5:KB (· = g) W3 W5):∀ x,x<W2.heap.size→x≠rb→x≠g→W5.heap[x]? = W2.heap[x]? :=
 fun x h1 h2 h3=>(h5.block x (Nat.lt_of_lt_of_le h1 hs) h3).trans (hx x h1 h2 h3)
theorem after_want {P:List Ex} {W2 w3 W4:World} {S2:Nat→Prop} {d rb:Nat} {nv bv v:Value} {RW:Rs×Nat} {o:Obj} (haf:Aft P S2 d rb nv bv W2 w3 v RW) (hs2:Sv W2 S2 d rb bv P) (hW4:W4=w3.alloc o) :
  Sv W4 (but S2 w3.heap.size) d rb bv P∧Mv W2 W4 S2 (but S2 w3.heap.size)∧KB (· = rb) W2 W4∧RunAt W4 rb nv bv RW.2 RW.1.code∧W4.heap[w3.heap.size]? = some o∧(∀ x,x<W2.heap.size→x≠rb→W4.heap[x]? = W2.heap[x]?)∧W2.heap.size≤w3.heap.size∧VR W4 (but S2 w3.heap.size) d P v RW.1∧W4.heap.size=w3.heap.size+1∧Mv w3 W4 S2 (but S2 w3.heap.size):=by
 subst hW4
 have m1:Mv W2 w3 S2 S2:=Mv.kb haf.kb (fun x hx h=>hs2.rb (hx ▸ h))
 have m2:=Mv.alloc w3 S2 o
 have hz:(w3.alloc o).heap.size=w3.heap.size+1:=by simp
 refine ⟨hs2.move (m1.trans m2) (by rw [hz]; exact but_new (new_le hs2.new (by have:=haf.kb.size; omega)) (by omega)) (but_not hs2.rb),m1.trans m2,haf.kb.alloc _,haf.run.move (Below.heap_alloc _ _ _ (lh haf.run)),block_alloc,fun x hx hn=>(Below.heap_alloc _ _ _ (Nat.lt_of_lt_of_le hx haf.kb.size)).trans (haf.kb.block x hx hn),haf.kb.size,haf.vr.move m2,hz,m2⟩
theorem VR.num_form {w:World} {S:Nat→Prop} {d:Nat} {P:List Ex} {v:Value} {z:Int} (h:VR w S d P v (.ok (.num z))):∃ (x y:Int) (t:ByteArray) (b1:Option Addr) (l1 q1:Nat) (b2:Option Addr) (l2 q2:Nat),v = .agg #[.int .i64 0,.int .i64 z,.int .i64 x,.int .i64 y,.string t,.slice b1 l1 q1,.slice b2 l2 q2]:=by
 obtain ⟨m,⟨e,hs⟩,-⟩:=h
 obtain ⟨b1,q1,b2,q2,rfl,-⟩:=hs.form
 exact ⟨_,_,_,_,_,_,_,_,_,rfl⟩
theorem want_fuel {P:List Ex} {b f:Nat} {k:Ex} {env:List Clo} {a c:Int} {q:Rs} {rf:Nat} (h:wantK (ev P b f k env) a c=(q,rf)):rf≤f:=by
 have h1:=ev_less P b f k env
 have h2:(wantK (ev P b f k env) a c).2=(ev P b f k env).2:=by unfold wantK; split <;> (try split) <;> simp [*]
 rw [h] at h2
 have h3:rf=(ev P b f k env).2:=h2
 omega
theorem evC_err (P:List Ex) (b f:Nat) (e:Ex) (env:List Clo) {q:Int} (h:q≠0):evC P b q f e env=(.err q,f):=by unfold evC; rw [if_neg h]
theorem VR.err_ne {w:World} {S:Nat→Prop} {d:Nat} {P:List Ex} {v:Value} {q:Int} (h:VR w S d P v (.err q)):q≠0:=by obtain ⟨_,h⟩:=h; exact h.2
theorem VR.gen {w:World} {S:Nat→Prop} {d:Nat} {P:List Ex} {v:Value} {r:Rs} (h:VR w S d P v r):∃ (k n x y:Int) (t:ByteArray) (b1:Option Addr) (l1 q1:Nat) (b2:Option Addr) (l2 q2:Nat),v = .agg #[.int .i64 k,.int .i64 n,.int .i64 x,.int .i64 y,.string t,.slice b1 l1 q1,.slice b2 l2 q2]∧∀ z,r = .ok (.num z)→n=z:=by
 cases r with
 | err c =>
  obtain ⟨m,k,n,e,en,hs,-⟩:=h.junk
  obtain ⟨b1,q1,b2,q2,rfl,-⟩:=hs.form
  exact ⟨_,_,_,_,_,_,_,_,_,_,_,rfl,fun z hz=>by cases hz⟩
 | ok a =>
  cases a with
  | num z =>
   obtain ⟨x,y,t,b1,l1,q1,b2,l2,q2,rfl⟩:=h.num_form
   exact ⟨_,_,_,_,_,_,_,_,_,_,_,rfl,fun z' hz=>by cases hz; rfl⟩
  | nil =>
   obtain ⟨m,k,n,e,en,hs,-⟩:=h.junk
   obtain ⟨b1,q1,b2,q2,rfl,-⟩:=hs.form
   exact ⟨_,_,_,_,_,_,_,_,_,_,_,rfl,fun z hz=>by cases hz⟩
  | pair a b =>
   obtain ⟨m,k,n,e,en,hs,-⟩:=h.junk
   obtain ⟨b1,q1,b2,q2,rfl,-⟩:=hs.form
   exact ⟨_,_,_,_,_,_,_,_,_,_,_,rfl,fun z hz=>by cases hz⟩
  | fn l a b =>
   obtain ⟨m,k,n,e,en,hs,-⟩:=h.junk
   obtain ⟨b1,q1,b2,q2,rfl,-⟩:=hs.form
   exact ⟨_,_,_,_,_,_,_,_,_,_,_,rfl,fun z hz=>by cases hz⟩
theorem wrap_in (z:Int):inI64 (IntKind.i64.wrap z):=by unfold inI64; rw [IntKind.wrap_i64]; omega
theorem arith_in (t:ByteArray) (a b:Int):inI64 (arith t a b):=by
 unfold arith
 split
 ·exact wrap_in _
 split
 ·exact wrap_in _
 split
 ·exact wrap_in _
 split <;> (split <;> (unfold inI64; decide))
theorem op_end {P:List Ex} {b f:Nat} {k0 k1:Ex} {env:List Clo} {t:ByteArray} {RW R2:Rs} {rf r2:Nat} {n n':Int} {W:World} {S:Nat→Prop} {d:Nat} (hd:0<d) (h1:wantK (ev P b f k0 env) 0 0=(RW,rf)) (h2:wantK (evC P b RW.code rf k1 env) 0 0=(R2,r2)) (hn:∀ z,RW = .ok (.num z)→n=z) (hn':∀ z,R2 = .ok (.num z)→n'=z) (he:∀ q,RW = .err q→q≠0) (he2:∀ q,R2 = .err q→q≠0) {RR:Rs×Nat} (hRR:(onNum (ev P b f k0 env) fun x f'=>onNum (ev P b f' k1 env) fun y f''=>(.ok (.num (arith t x y)),f''))=RR) :
  RR.2=r2∧RR.1.code=R2.code∧VR W S d P (.agg #[.int .i64 0,.int .i64 (arith t n n'),.int .i64 0,.int .i64 0,.string ⟨#[]⟩,.slice none 0 0,.slice none 0 0]) RR.1:=by
 have hj:VJ W S d 1 (.agg #[.int .i64 0,.int .i64 (arith t n n'),.int .i64 0,.int .i64 0,.string ⟨#[]⟩,.slice none 0 0,.slice none 0 0]):=by
  obtain ⟨e,hs⟩:=VAt.num0 (w:=W) (S:=S) hd (arith t n n')
  exact ⟨_,_,e,[],hs,by simp⟩
 rcases want_num h1 fun x f'=>onNum (ev P b f' k1 env) fun y f''=>(.ok (.num (arith t x y)),f'') with ⟨q,rfl,hq⟩ | ⟨x,rfl,hx⟩
 ·rw [show Rs.code (.err q)=q from rfl,evC_err P b rf k1 env (he q rfl)] at h2
  simp only [wantK,Prod.mk.injEq] at h2
  obtain ⟨rfl,rfl⟩:=h2
  rw [hq] at hRR
  subst hRR
  exact ⟨rfl,rfl,1,hj,he q rfl⟩
 ·rw [show Rs.code (.ok (.num x))=0 from rfl,evC_zero] at h2
  rw [hx] at hRR
  obtain rfl:=hn x rfl
  rcases want_num h2 fun y f''=>(.ok (.num (arith t n y)),f'') with ⟨q,rfl,hq⟩ | ⟨y,rfl,hy⟩
  ·rw [hq] at hRR
   subst hRR
   exact ⟨rfl,rfl,1,hj,he2 q rfl⟩
  ·rw [hy] at hRR
   subst hRR
   obtain rfl:=hn' y rfl
   exact ⟨rfl,rfl,1,VAt.num0 hd _,arith_in _ _ _⟩
theorem VAt.junk {w:World} {S:Nat→Prop} {d m:Nat} {v:Value} {x:Vl} {T:Int} (h:VAt w S d m v x) (hg:x.good T):VJ w S d m v:=by
 obtain ⟨n,e,en,h1,h2⟩:=h.sh hg
 exact ⟨_,n,e,en,h1,h2⟩
theorem RunAt.code_set {w:World} {rb f:Nat} {nv bv:Value} {c:Int} (h:RunAt w rb nv bv f c) (c':Int):RunAt (w.setCell ⟨rb,3,none⟩ (.int .i64 c')) rb nv bv f c':=by
 have:=block_setCell (i:=3) h (.int .i64 c')
 exact this
end Go.Proofs.YtljdgmfcgkimoaaGreatDoor

namespace Go.Proofs.YtljdgmfcgkimoaaGreatDoor
open Go.RowKit Go.Joins
set_option maxRecDepth 100000
set_option maxHeartbeats 3200000 in
theorem l03Eval_0 (P:List Ex) (nv bv:Value) (rb d b:Nat) (hB:b<1000000) (S:Nat→Prop) (f:Nat) (e:Ex) (env:List Clo) (xv envv:Value) (w:World)
  (hf:f≤b) (hr:RunAt w rb nv bv (f+1) 0) (hs:Sv w S d rb bv P) (hx:Cx w S d e env xv envv) (hg:Ok P e env) (hk:e.kind=0) :
  Calls Tryz.prog 88 #[.pointer (some ⟨rb,0,none⟩),xv,envv] w fun r w'=>∃ v,r = .returned v∧Aft P S d rb nv bv w w' v ((.ok (.num e.n),f)):=by
 have hrl:rb<w.heap.size:=(Array.getElem?_eq_some_iff.1 hr).1
 have hd:0<d:=hs.bodies.pos
 have hx0:=hx
 obtain ⟨⟨kv,rfl,i1,i2,i3,hkd⟩,m,hen⟩:=hx0
 obtain ⟨a1,c1,rfl⟩:=hkd.form
 obtain ⟨a2,c2,rfl,hz2⟩:=hen.form
 have hln:env.length≤90:=hg.len
 rw [hk]
 obtain ⟨z,hz⟩:∃ z:Int,z=((f+1:Nat):Int):=⟨_,rfl⟩
 obtain ⟨z1,hz1⟩:∃ z1:Int,z1=(f:Int):=⟨_,rfl⟩
 have hw:IntKind.i64.wrap (z - 1)=z1:=by rw [IntKind.wrap_i64]; omega
 have hq0:decide (z=0)=false:=by simp; omega
 have hq1:(z == 0)=false:=by simp; omega
 obtain ⟨W1,hW1⟩:∃ W1,W1=((w.alloc (.cells #[.int .i64 0,.int .i64 e.n,.string e.text,.slice a1 e.kids.length c1] 52)).alloc (.cells #[.int .i64 0,.int .i64 0,.int .i64 0,.int .i64 0,.string ⟨#[]⟩,.slice none 0 0,.slice none 0 0] 127)):=⟨_,rfl⟩
 obtain ⟨s1,-,kb1,q1,r1⟩:=two_boxes w S (.cells #[.int .i64 0,.int .i64 e.n,.string e.text,.slice a1 e.kids.length c1] 52) (.cells #[.int .i64 0,.int .i64 0,.int .i64 0,.int .i64 0,.string ⟨#[]⟩,.slice none 0 0,.slice none 0 0] 127) W1 hW1 rb
 obtain ⟨W2,hW2⟩:∃ W2,W2=W1.setCell ⟨rb,2,none⟩ (.int .i64 z1):=⟨_,rfl⟩
 obtain ⟨s2,m2,kb2,q2,r2,run2⟩:=ev_boxes w S (.cells #[.int .i64 0,.int .i64 e.n,.string e.text,.slice a1 e.kids.length c1] 52) (.cells #[.int .i64 0,.int .i64 0,.int .i64 0,.int .i64 0,.string ⟨#[]⟩,.slice none 0 0,.slice none 0 0] 127) W1 W2 rb f nv _ hW1 (by rw [hW2,hz1]) hr hs.rb
 have y2:W1.cell? ⟨rb,2,none⟩=some (.int .i64 z):=by rw [hz,cell_of_block (hr.move (kb1.low hrl))]; rfl
 have y2f:=ubk (hr.move (kb1.low hrl)) 2
 have y3:=cbk (hr.move (kb1.low hrl)) 3 (.int .i64 0) rfl
 have hs2:Sv W2 (but (but S w.heap.size) (w.heap.size+1)) d rb _ P:=hs.move m2 (by rw [s2]; exact but_new (but_new (new_le hs.new (by omega)) (by omega)) (by omega)) (but_not (but_not hs.rb))
 have hen2:=hen.move m2
 have bx0:W2.cell? ⟨w.heap.size,0,none⟩=some (.int .i64 0):=(by rw [cell_of_block q2]; rfl)
 have bx1:W2.cell? ⟨w.heap.size,1,none⟩=some (.int .i64 e.n):=(by rw [cell_of_block q2]; rfl)
 have bx2:W2.cell? ⟨w.heap.size,2,none⟩=some (.string e.text):=(by rw [cell_of_block q2]; rfl)
 have bx3:W2.cell? ⟨w.heap.size,3,none⟩=some (.slice a1 e.kids.length c1):=(by rw [cell_of_block q2]; rfl)
 have u0:W2.cell? ⟨w.heap.size+1,0,none⟩=some (.int .i64 0):=(by rw [cell_of_block r2]; rfl)
 have uf0:=ubk r2 0
 have u1:W2.cell? ⟨w.heap.size+1,1,none⟩=some (.int .i64 0):=(by rw [cell_of_block r2]; rfl)
 have uf1:=ubk r2 1
 have u2:W2.cell? ⟨w.heap.size+1,2,none⟩=some (.int .i64 0):=(by rw [cell_of_block r2]; rfl)
 have uf2:=ubk r2 2
 have u3:W2.cell? ⟨w.heap.size+1,3,none⟩=some (.int .i64 0):=(by rw [cell_of_block r2]; rfl)
 have uf3:=ubk r2 3
 have u4:W2.cell? ⟨w.heap.size+1,4,none⟩=some (.string ⟨#[]⟩):=(by rw [cell_of_block r2]; rfl)
 have uf4:=ubk r2 4
 have u5:W2.cell? ⟨w.heap.size+1,5,none⟩=some (.slice none 0 0):=(by rw [cell_of_block r2]; rfl)
 have uf5:=ubk r2 5
 have u6:W2.cell? ⟨w.heap.size+1,6,none⟩=some (.slice none 0 0):=(by rw [cell_of_block r2]; rfl)
 have uf6:=ubk r2 6
 have HK:=(show Hid (_∧_∧_) from ⟨kb2,run2,(⟨1,VAt.num0 hd e.n,i2⟩:VR W2 (but (but S w.heap.size) (w.heap.size+1)) d P _ (.ok (.num e.n)))⟩)
 clear hB hf hr hs hx hg hk hkd hen hz2 hz hz1 s1 kb1 q1 r1 s2 m2 kb2 q2 r2 run2 hs2 hen2 hln i1 i2 i3 hd
 go_enter Tryz.func88,Tryz.ntmps88
 go_upto_region 1 with fail
 rw [← hW1]
 clear hW1
 go_upto_region 7 with fail
 rw [← hW2]
 clear hW2 y2 y2f y3 hq0 hq1 hw
 go_wp2_with fail
 refine bodyPost_ret (v:=.agg #[.int .i64 0,.int .i64 e.n,.int .i64 0,.int .i64 0,.string ⟨#[]⟩,.slice none 0 0,.slice none 0 0]) (by simp [results,Tryz.results88,go_sem,u0,u1,u2,u3,u4,u5,u6]) rfl ?_
 exact ⟨_,rfl,aft_end HK.out.1 HK.out.2.2 (fun b h=>h.1.1) (fun h=>h.2 rfl) HK.out.2.1 (by omega) hrl (kb7 _ _ _ _ _ _ _ _ _)⟩
end Go.Proofs.YtljdgmfcgkimoaaGreatDoor
