/-
  Proofs.
-/
import Derived.Test.YtljdgmfcgkimoaaGreatDoorJ17
import Derived.Test.YtljdgmfcgkimoaaGreatDoorJ22
import Derived.Test.YtljdgmfcgkimoaaGreatDoorDrawProg
namespace Go.Proofs.YtljdgmfcgkimoaaGreatDoor
open Go.RowKit Go.Joins
set_option maxRecDepth 100000
theorem flat4_set {u u' val:Value} {j:Nat}:∀ {vs:List Value},(∀ v ∈ vs,(cellsE v).length=4)→∀ (i:Nat),vs[i]? = some u→j<4→cellsE u'=(cellsE u).set j val→(vs.flatMap cellsE).set (i * 4+j) val=(vs.set i u').flatMap cellsE
 | [],_,i,h,_,_=>by simp at h
 | x :: vs,hl,i,h,hj,hc=>by
  have hx:=hl x (List.mem_cons_self ..)
  cases i with
  | zero =>
   obtain rfl:x=u:=by simpa using h
   rw [List.flatMap_cons,Nat.zero_mul,Nat.zero_add,List.set_append_left _ _ (by omega),List.set_cons_zero,List.flatMap_cons,hc]
  | succ i =>
   rw [List.flatMap_cons,List.set_append_right _ _ (by omega),hx,show (i+1) * 4+j - 4=i * 4+j by omega,List.set_cons_succ,List.flatMap_cons,flat4_set (fun v hv=>hl v (List.mem_cons_of_mem _ hv)) i (by simpa using h) hj hc]
structure PgX (w:World) (B:Nat) (nv bv:Value) (ns:List ByteArray) (vs:List Value):Prop where
 names:w.ownsRow B 9 1 nv ns.length (ns.map Value.string)
 bodies:w.ownsRow B 52 4 bv vs.length (vs.flatMap cellsE)
 ex:∀ u ∈ vs,∃ d e,ExAt w (fun b=>B≤b∧Pl w b) d u e
 sz:∀ t ∈ ns,t.size≤1048576
theorem ExAt.keptP {w w':World} {B B' d:Nat} {u:Value} {e:Ex} (h:ExAt w (fun b=>B≤b∧Pl w b) d u e) (hk:∀ b,B≤b→b<w.heap.size→w'.heap[b]? = w.heap[b]?) (hs:w.heap.size≤w'.heap.size) (hB:B'≤B):ExAt w' (fun b=>B'≤b∧Pl w' b) d u e:=by
 obtain ⟨kv,k1,k2,k3,k4,k5⟩:=h
 exact ⟨kv,k1,k2,k3,k4,k5.kept (fun b hb hlt=>hk b hb.1 hlt) hs (fun b hb hlt=>⟨Nat.le_trans hB hb.1,hb.2.of (hk b hb.1 hlt)⟩)⟩
theorem PgX.kb {w w':World} {B B':Nat} {nv bv:Value} {ns:List ByteArray} {vs:List Value} (h:PgX w B nv bv ns vs) (hk:∀ b,B≤b→b<w.heap.size→w'.heap[b]? = w.heap[b]?) (hs:w.heap.size≤w'.heap.size) (hB:B'≤B):PgX w' B' nv bv ns vs :=
 ⟨own_mono (own_moved h.names (fun g hg=>hk g (h.names.lt g hg).1 (own_lt h.names g hg))) hB,own_mono (own_moved h.bodies (fun g hg=>hk g (h.bodies.lt g hg).1 (own_lt h.bodies g hg))) hB,fun u hu=>by obtain ⟨d,e,he⟩:=h.ex u hu; exact ⟨d,e,he.keptP hk hs hB⟩,h.sz⟩
theorem EV.exAtP {S:Nat→Prop} {w:World} {B:Nat} {v:Value} (h:EV S w v) (hS:∀ b,S b→B≤b):∃ d e,ExAt w (fun b=>B≤b∧Pl w b) d v e:=by
 obtain ⟨d,e,kv,k1,k2,k3,k4,k5⟩:=h.exAt
 exact ⟨d,e,kv,k1,k2,k3,k4,k5.kept (fun _ _ _=>rfl) (Nat.le_refl _) (fun b hb _=>⟨hS b hb.1,hb.2⟩)⟩
theorem PgAt.x {w:World} {B:Nat} {nv bv:Value} {ns:List ByteArray} {vs:List Value} (h:PgAt w B nv bv ns vs):PgX w B nv bv ns vs :=
 ⟨h.names,h.bodies,fun u hu=>(h.ev u hu).exAtP (fun _ hb=>hb.1),h.sz⟩
theorem PgX.pr {w:World} {B:Nat} {nv bv:Value} {ns:List ByteArray} {vs:List Value} (h:PgX w B nv bv ns vs) (hn:ns.length≤maxLen) (hl:vs.length≤maxLen):∃ d p,PrAt w (fun b=>B≤b∧Pl w b) d (.agg #[nv,bv]) p∧p.names=ns∧p.bodies.length=vs.length:=by
 have hs:StrsAt w (fun b=>B≤b∧Pl w b) nv ns:=by
  rcases h.names.2 with ⟨e,h0⟩ | ⟨g,cap,cur,e,hb,hg,_⟩
  ·have:ns=[]:=List.eq_nil_of_length_eq_zero h0
   subst this
   rw [e]
   exact ⟨none,0,rfl,Nat.zero_le _,fun i t ht=>by simp at ht⟩
  ·rw [e]
   refine ⟨_,cap,rfl,hn,fun i t ht=>⟨g,0,rfl,⟨hb,_,_,hg⟩,lh hg,?_,by have:=h.sz t (List.mem_of_getElem? ht); unfold maxLen; omega⟩⟩
   have:=h.names.cells (g:=g) (by rw [e]; rfl) i (.string t) (by rw [List.getElem?_map,ht]; rfl)
   rw [addr_add] at this
   exact this
 rcases h.bodies.2 with ⟨e,h0⟩ | ⟨g,cap,cur,e,hb,hg,_⟩
 ·have:vs=[]:=List.eq_nil_of_length_eq_zero h0
  subst this
  exact ⟨1,⟨ns,[]⟩,⟨_,_,rfl,hs,by rw [e]; exact ⟨none,0,rfl,Nat.zero_le _,fun i t ht=>by simp at ht⟩⟩,rfl,rfl⟩
 ·obtain ⟨d,es,h1,h2⟩:=kidsP_of (T:=fun b=>B≤b∧Pl w b) (g:=g) (off:=0) (cap:=cap) (vs:=vs) h.ex (fun j u hu=>by
    have:=h.bodies.cells (g:=g) (by rw [e]; rfl) j u hu
    rw [addr_add] at this
    exact this) (fun _=>⟨⟨hb,_,_,hg⟩,lh hg⟩) hl
  exact ⟨d,⟨ns,es⟩,⟨_,_,rfl,hs,by rw [e]; exact h2⟩,rfl,h1⟩
section
variable {w w':World} {B i:Nat} {nv bv:Value} {ns:List ByteArray} {vs:List Value}
theorem PgAt.four (h:PgAt w B nv bv ns vs):∀ v ∈ vs,(cellsE v).length=4:=fun v hv=>by obtain ⟨d,e,he⟩:=(h.ev v hv).exAt; exact he.four
theorem PgAt.setBody {u':Value} (h:PgAt w B nv bv ns vs) (gr:w.grownBy w' bv.ownBlock) (own:w'.ownsRow B 52 4 bv vs.length ((vs.set i u').flatMap cellsE)) (hu:EV (fun b=>B≤b∧bv.ownBlock≠some b∧nv.ownBlock≠some b) w u'):PgAt w' B nv bv ns (vs.set i u'):=by
 have hnb:∀ g,nv.ownBlock=some g→some g≠bv.ownBlock:=own_ne h.names h.bodies (by decide)
 refine ⟨own_moved h.names (fun g hg'=>gr.block g (own_lt h.names g hg') (hnb g hg')),by rw [List.length_set]; exact own,fun x hx => ?_,h.sz⟩
 have hx':EV (fun b=>B≤b∧bv.ownBlock≠some b∧nv.ownBlock≠some b) w x:=by
  rcases List.mem_or_eq_of_mem_set hx with hx | rfl
  ·exact h.ev x hx
  ·exact hu
 exact hx'.kept (fun b hb hlt=>gr.block b hlt (fun e=>hb.2.1 e.symm)) gr.size (fun b hb _=>hb)
theorem PgAt.setBodyX {u':Value} (h:PgAt w B nv bv ns vs) (gr:w.grownBy w' bv.ownBlock) (own:w'.ownsRow B 52 4 bv vs.length ((vs.set i u').flatMap cellsE)) (hu:∃ d e,ExAt w' (fun b=>B≤b∧Pl w' b) d u' e):PgX w' B nv bv ns (vs.set i u'):=by
 have hnb:∀ g,nv.ownBlock=some g→some g≠bv.ownBlock:=own_ne h.names h.bodies (by decide)
 refine ⟨own_moved h.names (fun g hg'=>gr.block g (own_lt h.names g hg') (hnb g hg')),by rw [List.length_set]; exact own,fun x hx => ?_,h.sz⟩
 rcases List.mem_or_eq_of_mem_set hx with hx | rfl
 ·exact ((h.ev x hx).kept (S':=fun b=>B≤b∧bv.ownBlock≠some b∧nv.ownBlock≠some b) (fun b hb hlt=>gr.block b hlt (fun e=>hb.2.1 e.symm)) gr.size (fun b hb _=>hb)).exAtP (fun _ hb=>hb.1)
 ·exact hu
theorem PgAt.setName {t:ByteArray} (h:PgAt w B nv bv ns vs) (gr:w.grownBy w' nv.ownBlock) (own:w'.ownsRow B 9 1 nv ns.length ((ns.map Value.string).set i (.string t))) (ht:t.size≤1048576):PgAt w' B nv bv (ns.set i t) vs:=by
 have hnb:∀ g,bv.ownBlock=some g→some g≠nv.ownBlock:=own_ne h.bodies h.names (by decide)
 refine ⟨by rw [List.length_set,List.map_set]; exact own,own_moved h.bodies (fun g hg'=>gr.block g (own_lt h.bodies g hg') (hnb g hg')),fun x hx=>(h.ev x hx).kept (fun b hb hlt=>gr.block b hlt (fun e=>hb.2.2 e.symm)) gr.size (fun b hb _=>hb),fun x hx => ?_⟩
 rcases List.mem_or_eq_of_mem_set hx with hx | rfl
 ·exact h.sz x hx
 ·exact ht
end
structure LP (B0 g:Nat) (V:Value) (len:Nat) (w:World) (B q3:Nat) (W:World) (nv bv:Value) (ns:List ByteArray) (vs:List Value):Prop where
 dr:Dr B0 W g V len
 gr:w.grownBy W (some g)
 box2:W.heap[w.heap.size]? = some (.cells #[.slice none 0 0,.slice none 0 0] 27)
 box3:W.heap[q3]? = some (.cells #[nv,bv] 27)
 pg:PgAt W B nv bv ns vs
structure LF (B0 g:Nat) (w:World) (B q3:Nat):Prop where
 gw:g<w.heap.size
 wB:w.heap.size<B
 Bq:B≤q3
 b0:B0≤w.heap.size
theorem EV.kn {S:Nat→Prop} {w:World} {k n k' n':Int} {t:ByteArray} {kv:Value} (h:EV S w (.agg #[.int .i64 k,.int .i64 n,.string t,kv])) (hk:inI64 k') (hn:inI64 n'):EV S w (.agg #[.int .i64 k',.int .i64 n',.string t,kv]):=by
 obtain ⟨d,e,a,hv,h1,h2,h3,h4,h5⟩:=h
 simp only [Value.agg.injEq,Array.mk.injEq,List.cons.injEq,Value.int.injEq,Value.string.injEq,and_true,true_and] at hv
 obtain ⟨e1,e2,e3,e4⟩:=hv
 exact ⟨d,.mk k' n' e.text e.kids,a,by rw [e3,e4]; rfl,hk,hn,h3,h4,h5⟩
section
variable {B0 g len B q3:Nat} {V:Value} {w W W':World} {nv bv:Value} {ns:List ByteArray} {vs:List Value}
theorem LP.step (X:LF B0 g w B q3) (h:LP B0 g V len w B q3 W nv bv ns vs) (hd:Dr B0 W' g V len) (hg:W.grownBy W' (some g)):LP B0 g V len w B q3 W' nv bv ns vs:=by
 have h1:=X.gw
 have h2:=X.wB
 have h3:=X.Bq
 have hb:∀ b,b<W.heap.size→b≠g→W'.heap[b]? = W.heap[b]? := fun b hlt hne=>hg.block b hlt (fun e=>hne (Option.some.inj e))
 exact ⟨hd,h.gr.andThen hg (fun j hj => .inr hj),(hb _ (lh h.box2) (by omega)).trans h.box2,(hb _ (lh h.box3) (by omega)).trans h.box3,h.pg.kb (fun b hB hlt=>hb b hlt (by omega)) hg.size⟩
theorem LP.below (X:LF B0 g w B q3) (h:LP B0 g V len w B q3 W nv bv ns vs) (hb:Below W.heap.size W W'):LP B0 g V len w B q3 W' nv bv ns vs:=h.step X (h.dr.below hb) (grown_of_below' hb)
theorem LP.cells (h:LP B0 g V len w B q3 W nv bv ns vs):W.cell? ⟨q3,0,none⟩=some nv∧W.cell? ⟨q3,1,none⟩=some bv:=⟨by rw [cell_of_block h.box3]; rfl,by rw [cell_of_block h.box3]; rfl⟩
theorem LP.bne (h:LP B0 g V len w B q3 W nv bv ns vs) {b:Nat} (hb:bv.ownBlock=some b):b≠q3∧B≤b∧b<W.heap.size∧(∀ k,W.frozen? ⟨b,k,none⟩=false):=by
 obtain ⟨h1,cs,h2⟩:=own_type h.pg.bodies b hb
 refine ⟨fun e => ?_,h1,lh h2,fun k=>unfrozen_of_block h2 k⟩
 rw [e,h.box3] at h2
 simp at h2
theorem LP.nne (h:LP B0 g V len w B q3 W nv bv ns vs) {b:Nat} (hb:nv.ownBlock=some b):b≠q3∧B≤b∧b<W.heap.size∧(∀ k,W.frozen? ⟨b,k,none⟩=false):=by
 obtain ⟨h1,cs,h2⟩:=own_type h.pg.names b hb
 refine ⟨fun e => ?_,h1,lh h2,fun k=>unfrozen_of_block h2 k⟩
 rw [e,h.box3] at h2
 simp at h2
theorem LP.changed (X:LF B0 g w B q3) (h:LP B0 g V len w B q3 W nv bv ns vs) {b:Nat} (hg:W.grownBy W' (some b)) (hb:b≠q3) (hB:B≤b):Dr B0 W' g V len∧w.grownBy W' (some g)∧W'.heap[w.heap.size]? = some (.cells #[.slice none 0 0,.slice none 0 0] 27)∧W'.heap[q3]? = some (.cells #[nv,bv] 27):=by
 have h1:=X.gw
 have h2:=X.wB
 have h3:=X.b0
 have hk:∀ c,c<W.heap.size→c≠b→W'.heap[c]? = W.heap[c]? := fun c hlt hne=>hg.block c hlt (fun e=>hne (Option.some.inj e))
 exact ⟨h.dr.grownOwn hg (fun q hq=>by cases hq; omega),h.gr.andThen hg (fun j hj=>by cases hj; exact .inl (by omega)),(hk _ (lh h.box2) (by omega)).trans h.box2,(hk _ (lh h.box3) (by omega)).trans h.box3⟩
theorem LP.body_at (h:LP B0 g V len w B q3 W nv bv ns vs) {gb nb cb:Nat} (hb:bv = .slice (some ⟨gb,0,none⟩) nb cb) {i:Nat} {k n:Int} {t:ByteArray} {kv:Value} (hi:vs[i]? = some (.agg #[.int .i64 k,.int .i64 n,.string t,kv])) :
  W.cell? ⟨gb,i * 4,none⟩=some (.int .i64 k)∧W.cell? ⟨gb,i * 4+1,none⟩=some (.int .i64 n)∧W.cell? ⟨gb,i * 4+2,none⟩=some (.string t)∧W.cell? ⟨gb,i * 4+3,none⟩=some kv:=by
 have key:∀ j u,(cellsE (.agg #[.int .i64 k,.int .i64 n,.string t,kv]))[j]? = some u→W.cell? ⟨gb,i * 4+j,none⟩=some u:=fun j u hu=>by
  have:=h.pg.bodies.cells (g:=gb) (by rw [hb]; rfl) (i * 4+j) u (flat4_at h.pg.four i _ j u hi hu)
  rw [addr_add,Nat.zero_add] at this
  exact this
 exact ⟨key 0 _ rfl,key 1 _ rfl,key 2 _ rfl,key 3 _ rfl⟩
theorem LP.store (h:LP B0 g V len w B q3 W nv bv ns vs) {gb nb cb:Nat} (hb:bv = .slice (some ⟨gb,0,none⟩) nb cb) (hnb:nb=vs.length) {i j:Nat} {u u' val:Value} (hi:vs[i]? = some u) (hj:j<4) (hc:cellsE u'=(cellsE u).set j val) :
  (W.setCell ⟨gb,i * 4+j,none⟩ val).ownsRow B 52 4 bv vs.length ((vs.set i u').flatMap cellsE)∧W.grownBy (W.setCell ⟨gb,i * 4+j,none⟩ val) (some gb):=by
 subst hnb
 subst hb
 have hs:=h.pg.bodies.stored (i * 4+j) val
 rw [flat4_set h.pg.four i hi hj hc] at hs
 exact hs
theorem LP.store4 (h:LP B0 g V len w B q3 W nv bv ns vs) {gb nb cb:Nat} (hb:bv = .slice (some ⟨gb,0,none⟩) nb cb) (hnb:nb=vs.length) {i:Nat} {k n k' n':Int} {t t':ByteArray} {kv kv':Value} (hi:vs[i]? = some (.agg #[.int .i64 k,.int .i64 n,.string t,kv])) :
  ((((W.setCell ⟨gb,i * 4,none⟩ (.int .i64 k')).setCell ⟨gb,i * 4+1,none⟩ (.int .i64 n')).setCell ⟨gb,i * 4+2,none⟩ (.string t')).setCell ⟨gb,i * 4+3,none⟩ kv').ownsRow B 52 4 bv vs.length ((vs.set i (.agg #[.int .i64 k',.int .i64 n',.string t',kv'])).flatMap cellsE) ∧
   W.grownBy ((((W.setCell ⟨gb,i * 4,none⟩ (.int .i64 k')).setCell ⟨gb,i * 4+1,none⟩ (.int .i64 n')).setCell ⟨gb,i * 4+2,none⟩ (.string t')).setCell ⟨gb,i * 4+3,none⟩ kv') (some gb):=by
 subst hnb
 subst hb
 have hlt:=(List.getElem?_eq_some_iff.1 hi).1
 have f1:∀ v ∈ vs.set i (.agg #[.int .i64 k',.int .i64 n,.string t,kv]),(cellsE v).length=4:=fun v hv=>by
  rcases List.mem_or_eq_of_mem_set hv with hv | rfl
  ·exact h.pg.four v hv
  ·rfl
 have f2:∀ v ∈ vs.set i (.agg #[.int .i64 k',.int .i64 n',.string t,kv]),(cellsE v).length=4:=fun v hv=>by
  rcases List.mem_or_eq_of_mem_set hv with hv | rfl
  ·exact h.pg.four v hv
  ·rfl
 have f3:∀ v ∈ vs.set i (.agg #[.int .i64 k',.int .i64 n',.string t',kv]),(cellsE v).length=4:=fun v hv=>by
  rcases List.mem_or_eq_of_mem_set hv with hv | rfl
  ·exact h.pg.four v hv
  ·rfl
 have s1:=h.pg.bodies.stored (i * 4) (.int .i64 k')
 rw [show i * 4=i * 4+0 from rfl,flat4_set (u':=.agg #[.int .i64 k',.int .i64 n,.string t,kv]) h.pg.four i hi (by omega) rfl] at s1
 have s2:=s1.1.stored (i * 4+1) (.int .i64 n')
 rw [flat4_set (u:=.agg #[.int .i64 k',.int .i64 n,.string t,kv]) (u':=.agg #[.int .i64 k',.int .i64 n',.string t,kv]) f1 i (by rw [List.getElem?_set_self hlt]) (by omega) rfl,List.set_set] at s2
 have s3:=s2.1.stored (i * 4+2) (.string t')
 rw [flat4_set (u:=.agg #[.int .i64 k',.int .i64 n',.string t,kv]) (u':=.agg #[.int .i64 k',.int .i64 n',.string t',kv]) f2 i (by rw [List.getElem?_set_self hlt]) (by omega) rfl,List.set_set] at s3
 have s4:=s3.1.stored (i * 4+3) kv'
 rw [flat4_set (u:=.agg #[.int .i64 k',.int .i64 n',.string t',kv]) (u':=.agg #[.int .i64 k',.int .i64 n',.string t',kv']) f3 i (by rw [List.getElem?_set_self hlt]) (by omega) rfl,List.set_set] at s4
 exact ⟨s4.1,((s1.2.trans s2.2).trans s3.2).trans s4.2⟩
theorem LP.storeN (h:LP B0 g V len w B q3 W nv bv ns vs) {gn nn cn:Nat} (hb:nv = .slice (some ⟨gn,0,none⟩) nn cn) (hnn:nn=ns.length) (i:Nat) (t:ByteArray) :
  (W.setCell ⟨gn,i,none⟩ (.string t)).ownsRow B 9 1 nv ns.length ((ns.map Value.string).set i (.string t))∧W.grownBy (W.setCell ⟨gn,i,none⟩ (.string t)) (some gn):=by
 subst hnn
 subst hb
 exact h.pg.names.stored i (.string t)
def PO (B0 g:Nat) (V:Value) (len:Nat) (w W:World) (v:Value):Prop :=
 (∃ d p,PrAt W (fun b=>w.heap.size≤b∧Pl W b) d v p∧p.names.length≤2001)∧Dr B0 W g V len∧w.grownBy W (some g)
theorem LF.fin (X:LF B0 g w B q3) (hd:Dr B0 W g V len) (hg:w.grownBy W (some g)) (hp:PgX W B nv bv ns vs) (hn:ns.length≤2001) (hv:vs.length≤2001):PO B0 g V len w ((W.setCell ⟨w.heap.size,0,none⟩ nv).setCell ⟨w.heap.size,1,none⟩ bv) (.agg #[nv,bv]):=by
 have h1:=X.gw
 have h2:=X.wB
 have hk:∀ b,b≠w.heap.size→((W.setCell ⟨w.heap.size,0,none⟩ nv).setCell ⟨w.heap.size,1,none⟩ bv).heap[b]? = W.heap[b]? := fun b hb=>(Below.heap_setCell _ _ _ b (by show b≠w.heap.size; exact hb)).trans (Below.heap_setCell _ _ _ b (by show b≠w.heap.size; exact hb))
 have hx:=hp.kb (B':=w.heap.size) (w':=(W.setCell ⟨w.heap.size,0,none⟩ nv).setCell ⟨w.heap.size,1,none⟩ bv) (fun b hb _=>hk b (by omega)) (by simp) (by omega)
 obtain ⟨d,p,e1,e2,-⟩:=hx.pr (by unfold maxLen; omega) (by unfold maxLen; omega)
 exact ⟨⟨d,p,e1,by rw [e2]; omega⟩,(hd.set (by have:=X.b0; omega) (by omega) _).set (by have:=X.b0; omega) (by omega) _,grown_set (grown_set hg (Nat.le_refl _) _) (Nat.le_refl _) _⟩
end
end Go.Proofs.YtljdgmfcgkimoaaGreatDoor
