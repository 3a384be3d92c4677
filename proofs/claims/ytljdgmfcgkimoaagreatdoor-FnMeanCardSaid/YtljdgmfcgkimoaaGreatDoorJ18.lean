/-
  Proofs.
  Proofs.
  Proofs.
  Proofs.
-/
import Derived.Test.YtljdgmfcgkimoaaGreatDoorJ14
import Derived.Test.YtljdgmfcgkimoaaGreatDoorJ17
import Derived.Maps.AppendAt
import Derived.Test.YtljdgmfcgkimoaaGreatDoorJ2
import Derived.Test.YtljdgmfcgkimoaaGreatDoorJ3
import Derived.Test.YtljdgmfcgkimoaaGreatDoorJ15
import Derived.Test.YtljdgmfcgkimoaaGreatDoorJ1
import Derived.Lib.QuietBelow
import Derived.BigQuiet
namespace Go.Proofs.YtljdgmfcgkimoaaGreatDoor
open Go.RowKit Go.Joins Go.Shelf
set_option maxRecDepth 100000
structure Fx (q:Ps) (w W4:World) (g:Nat):Prop where
 wp:w.heap.size<q.P
 pg:q.P<g
 hg:W4.heap.size=g
 b4:Below w.heap.size w W4
 p4:ParAt q W4 0 false false
 n:q.n≤2000
 box:W4.heap[w.heap.size]? = some (.cells #[.slice none 0 0,.slice none 0 0] 27)
structure PM (q:Ps) (W4:World) (g:Nat) (W:World) (nv bv:Value) (ns:List ByteArray) (vs:List Value):Prop where
 kb:KB (· = q.P) W4 W
 out:W.heap[g]? = some (.cells #[nv,bv] 27)
 pg:PgAt W (g+1) nv bv ns vs
 hB:g+1≤W.heap.size
section
variable {q:Ps} {w W4 W:World} {g:Nat} {nv bv:Value} {ns:List ByteArray} {vs:List Value}
theorem PM.on (X:Fx q w W4 g) (M:PM q W4 g W nv bv ns vs) {W':World} (k:KB (· = q.P) W W'):PM q W4 g W' nv bv ns vs :=
 ⟨M.kb.trans k,k.heap M.out (by have:=X.pg; show ¬ _=_; omega),M.pg.kb (fun b hb hlt=>k.block b hlt (by have:=X.pg; show ¬ _=_; omega)) k.size,Nat.le_trans M.hB k.size⟩
theorem PM.cells (M:PM q W4 g W nv bv ns vs):W.cell? ⟨g,0,none⟩=some nv∧W.cell? ⟨g,1,none⟩=some bv∧(∀ k,W.frozen? ⟨g,k,none⟩=false) :=
 ⟨by rw [cell_of_block M.out]; rfl,by rw [cell_of_block M.out]; rfl,fun k=>unfrozen_of_block M.out k⟩
theorem PM.core (X:Fx q w W4 g) (M:PM q W4 g W nv bv ns vs) {W':World} {row:Option Nat} (hos:W'.os=W.os) (ht:W'.tape=W.tape) (ho:W'.output=W.output) (hs:W.heap.size≤W'.heap.size)
  (hb:∀ b,b<W.heap.size→b≠g→row≠some b→W'.heap[b]? = W.heap[b]?) (hr:∀ b,row=some b→g+1≤b) {i:Nat} {c l:Bool} (h:ParAt q W i c l):KB (· = q.P) W4 W'∧ParAt q W' i c l:=by
 have h1:=X.hg
 have h2:=X.pg
 have kk:KB (· = q.P) W4 W':=⟨hos.trans M.kb.os,ht.trans M.kb.tape,ho.trans M.kb.output,Nat.le_trans M.kb.size hs,fun b hlt hx=>(hb b (Nat.lt_of_lt_of_le hlt M.kb.size) (by omega) (fun e=>by have:=hr b e; omega)).trans (M.kb.block b hlt hx)⟩
 exact ⟨kk,X.p4.on kk ((hb q.P h.lt (by omega) (fun e=>by have:=hr _ e; omega)).trans h.1) h.2.1⟩
theorem PM.box (X:Fx q w W4 g) (M:PM q W4 g W nv bv ns vs):W.heap[w.heap.size]? = some (.cells #[.slice none 0 0,.slice none 0 0] 27):=M.kb.heap X.box (by have:=X.wp; show ¬ _=_; omega)
theorem PM.below (X:Fx q w W4 g) (M:PM q W4 g W nv bv ns vs):Below w.heap.size w W:=X.b4.trans (M.kb.below (fun k hk=>by have hk':k=q.P:=hk; have:=X.wp; omega) X.b4.size)
theorem PM.name (X:Fx q w W4 g) (M:PM q W4 g W nv bv ns vs) {W14 W15:World} {nv2:Value} {t:ByteArray} (b14:Below W.heap.size W W14) (gr:W14.grownBy W15 nv.ownBlock) (own:W15.ownsRow (g+1) 9 1 nv2 (ns.length+1) (ns.map Value.string ++ [.string t])) (ht:t.size≤1048576) (hat:nv2.ownBlock=nv.ownBlock∨nv2.ownBlock=some W14.heap.size) {i:Nat} {c l:Bool} (h:ParAt q W i c l) :
  PM q W4 g (W15.setCell ⟨g,0,none⟩ nv2) nv2 bv (ns ++ [t]) vs∧ParAt q (W15.setCell ⟨g,0,none⟩ nv2) i c l∧(∀ u,EV (fun b=>g+1≤b∧bv.ownBlock≠some b∧nv.ownBlock≠some b) W u→EV (fun b=>g+1≤b∧bv.ownBlock≠some b∧nv2.ownBlock≠some b) (W15.setCell ⟨g,0,none⟩ nv2) u) ∧
   (∀ g9 cs,g+1≤g9→W.heap[g9]? = some (.cells cs 52 (0,0))→(W15.setCell ⟨g,0,none⟩ nv2).heap[g9]? = some (.cells cs 52 (0,0))):=by
 have M14:=M.on X (KB.of_below b14)
 have hr:∀ b,nv.ownBlock=some b→g+1≤b:=fun b e=>(M.pg.names.lt b e).1
 have hk:∀ b,b≠g→(W15.setCell ⟨g,0,none⟩ nv2).heap[b]? = W15.heap[b]? := fun b hb=>Below.heap_setCell W15 ⟨g,0,none⟩ nv2 b hb
 have hs:(W15.setCell ⟨g,0,none⟩ nv2).heap.size=W15.heap.size:=by simp
 have hss:W.heap.size≤(W15.setCell ⟨g,0,none⟩ nv2).heap.size:=by rw [hs]; exact Nat.le_trans b14.size gr.size
 have hb:∀ b,b<W.heap.size→b≠g→nv.ownBlock≠some b→(W15.setCell ⟨g,0,none⟩ nv2).heap[b]? = W.heap[b]? := fun b hlt h1 h2=>((hk b h1).trans (gr.block b (Nat.lt_of_lt_of_le hlt b14.size) (fun e=>h2 e.symm))).trans (b14.block b hlt)
 obtain ⟨k1,k2⟩:=M.core X (W':=W15.setCell ⟨g,0,none⟩ nv2) (row:=nv.ownBlock) ((kb_cell g 0 nv2 W15).os.trans (gr.os.trans b14.os)) ((kb_cell g 0 nv2 W15).tape.trans (gr.tape.trans b14.tape)) ((kb_cell g 0 nv2 W15).output.trans (gr.output.trans b14.output)) hss hb hr h
 have hpg:PgAt W15 (g+1) nv2 bv (ns ++ [t]) vs:=M14.pg.name gr own ht (fun b e=>by rcases hat with e' | e' <;> rw [e'] at e; exact .inl e; cases e; exact .inr (Nat.le_refl _))
 have x15:W15.heap[g]? = some (.cells #[nv,bv] 27):=(gr.block g (by have:=M14.hB; omega) (fun e=>by have:=hr g e.symm; omega)).trans M14.out
 refine ⟨⟨k1,block_setCell (i:=0) x15 nv2,hpg.kb (fun b hb _=>hk b (by omega)) (by omega),Nat.le_trans M.hB hss⟩,k2,fun u hu => ?_,fun g9 cs h9 hc => ?_⟩
 ·refine hu.kept (fun b hx hlt=>hb b hlt (by have:=hx.1; omega) hx.2.2) hss (fun b hx hlt=>⟨hx.1,hx.2.1,fun e => ?_⟩)
  rcases hat with e' | e' <;> rw [e'] at e
  ·exact hx.2.2 e
  ·cases e
   have:=b14.size
   omega
 ·refine (hb g9 (lh hc) (by omega) (fun e => ?_)).trans hc
  obtain ⟨-,cs',hc'⟩:=own_type M.pg.names g9 e
  rw [hc] at hc'
  simp at hc'
theorem PM.body (X:Fx q w W4 g) (M:PM q W4 g W nv bv ns vs) {W14 W15:World} {bv2 u:Value} (b14:Below W.heap.size W W14) (gr:W14.grownBy W15 bv.ownBlock) (own:W15.ownsRow (g+1) 52 4 bv2 (vs.length+1) (vs.flatMap cellsE ++ cellsE u)) (hu:EV (fun b=>g+1≤b∧bv.ownBlock≠some b∧nv.ownBlock≠some b) W u) (hat:bv2.ownBlock=bv.ownBlock∨bv2.ownBlock=some W14.heap.size) {i:Nat} {c l:Bool} (h:ParAt q W i c l) :
  PM q W4 g (W15.setCell ⟨g,1,none⟩ bv2) nv bv2 ns (vs ++ [u])∧ParAt q (W15.setCell ⟨g,1,none⟩ bv2) i c l:=by
 have M14:=M.on X (KB.of_below b14)
 have hr:∀ b,bv.ownBlock=some b→g+1≤b:=fun b e=>(M.pg.bodies.lt b e).1
 have hk:∀ b,b≠g→(W15.setCell ⟨g,1,none⟩ bv2).heap[b]? = W15.heap[b]? := fun b hb=>Below.heap_setCell W15 ⟨g,1,none⟩ bv2 b hb
 have hs:(W15.setCell ⟨g,1,none⟩ bv2).heap.size=W15.heap.size:=by simp
 have hss:W.heap.size≤(W15.setCell ⟨g,1,none⟩ bv2).heap.size:=by rw [hs]; exact Nat.le_trans b14.size gr.size
 have hb:∀ b,b<W.heap.size→b≠g→bv.ownBlock≠some b→(W15.setCell ⟨g,1,none⟩ bv2).heap[b]? = W.heap[b]? := fun b hlt h1 h2=>((hk b h1).trans (gr.block b (Nat.lt_of_lt_of_le hlt b14.size) (fun e=>h2 e.symm))).trans (b14.block b hlt)
 obtain ⟨k1,k2⟩:=M.core X (W':=W15.setCell ⟨g,1,none⟩ bv2) (row:=bv.ownBlock) ((kb_cell g 1 bv2 W15).os.trans (gr.os.trans b14.os)) ((kb_cell g 1 bv2 W15).tape.trans (gr.tape.trans b14.tape)) ((kb_cell g 1 bv2 W15).output.trans (gr.output.trans b14.output)) hss hb hr h
 have hpg:PgAt W15 (g+1) nv bv2 ns (vs ++ [u]):=M14.pg.body gr own (hu.below b14) (fun b e=>by rcases hat with e' | e' <;> rw [e'] at e; exact .inl e; cases e; exact .inr (Nat.le_refl _))
 have x15:W15.heap[g]? = some (.cells #[nv,bv] 27):=(gr.block g (by have:=M14.hB; omega) (fun e=>by have:=hr g e.symm; omega)).trans M14.out
 exact ⟨⟨k1,block_setCell (i:=1) x15 bv2,hpg.kb (fun b hb _=>hk b (by omega)) (by omega),Nat.le_trans M.hB hss⟩,k2⟩
end
theorem PgAt.mono {w:World} {B B':Nat} {nv bv:Value} {ns:List ByteArray} {vs:List Value} (h:PgAt w B nv bv ns vs) (hB:B'≤B):PgAt w B' nv bv ns vs :=
 ⟨own_mono h.names hB,own_mono h.bodies hB,fun u hu=>(h.ev u hu).wide (fun _ hb _=>⟨Nat.le_trans hB hb.1,hb.2⟩),h.sz⟩
theorem own_strs {w:World} {B:Nat} {S:Nat→Prop} {v:Value} {ts:List ByteArray} (h:w.ownsRow B 9 1 v ts.length (ts.map Value.string)) (hl:ts.length≤maxLen) (hs:∀ t ∈ ts,t.size≤1048576) (hS:∀ g,v.ownBlock=some g→S g):StrsAt w S v ts:=by
 rcases h.2 with ⟨e,h0⟩ | ⟨g,cap,cur,e,hb,hg,_⟩
 ·have:ts=[]:=List.eq_nil_of_length_eq_zero h0
  subst this
  rw [e]
  exact ⟨none,0,rfl,Nat.zero_le _,fun i t ht=>by simp at ht⟩
 ·rw [e]
  refine ⟨_,cap,rfl,hl,fun i t ht=>⟨g,0,rfl,hS g (by rw [e]; rfl),lh hg,?_,by have:=hs t (List.mem_of_getElem? ht); unfold maxLen; omega⟩⟩
  have:=h.cells (g:=g) (by rw [e]; rfl) i (.string t) (by rw [List.getElem?_map,ht]; rfl)
  rw [addr_add] at this
  exact this
theorem ex_strs0 (e:Operand→Value) (o:Oper) (ho:o.op = .buildSlice 24 0 #[]) (w:World):(execOp e o).run Tryz.prog w = .ok (.value (.slice (some ⟨w.heap.size,0,none⟩) 0 0)) (w.alloc (.cells #[] 9)):=by
 obtain ⟨d,op,t,ps,af,g⟩:=o
 cases ho
 simp [execOp,go_sem]
end Go.Proofs.YtljdgmfcgkimoaaGreatDoor

namespace Go.Proofs.YtljdgmfcgkimoaaGreatDoor
open Go.RowKit Go.Joins
set_option maxRecDepth 100000
set_option maxHeartbeats 1600000 in
theorem line_any (q:Ps) (w:World) (i:Nat) (bad lost:Bool) (h:ParAt q w i bad lost) :
  Calls Tryz.prog 42 #[.pointer (some ⟨q.P,0,none⟩)] w fun r w'=>Below w.heap.size w w'∧∃ z:Int,r = .returned (.int .i64 z):=by
 obtain ⟨c0,c1,-,-,-,-⟩:=h.cells
 have hin:=h.2.1
 obtain ⟨a,cap,hV,hn,hc⟩:=h.2.2.1
 rw [hV] at c0
 clear h
 by_cases h0:q.n=0
 ·have hz:(((q.n:Nat):Int) == 0)=true:=by simp [h0]
  clear hc
  go_enter Tryz.func42,Tryz.ntmps42
  go_wp2
  go_ret
  exact ⟨Below.refl _ _,_,rfl⟩
 ·have hz:(((q.n:Nat):Int) == 0)=false:=by simp [h0]
  by_cases hi:i<q.n
  ·obtain ⟨b,off,k,t,z,l,rfl,hb,hlt,d0,d1,d2,d3,r1,r2⟩:=hc i hi
   clear hc d0 d1 d2
   have hi':((i:Nat):Int)<((q.n:Nat):Int):=by omega
   go_enter Tryz.func42,Tryz.ntmps42
   go_wp2
   go_quiet (fail)
   go_wp2
   go_quiet (fail)
   go_wp2
   go_ret
   exact ⟨below_drewN (below_drewN (Below.refl _ _) _) _,_,rfl⟩
  ·obtain ⟨b,off,k,t,z,l,rfl,hb,hlt,d0,d1,d2,d3,r1,r2⟩:=hc (q.n - 1) (by omega)
   clear hc d0 d1 d2
   have hi':¬ ((i:Nat):Int)<((q.n:Nat):Int):=by omega
   have hm:((q.n:Nat):Int) - 1=((q.n - 1:Nat):Int):=by omega
   have hm':(((q.n - 1:Nat)):Int)<((q.n:Nat):Int):=by omega
   go_enter Tryz.func42,Tryz.ntmps42
   go_wp2
   go_quiet (fail)
   go_wp2
   go_quiet (fail)
   go_wp2
   go_ret
   exact ⟨below_drewN (below_drewN (Below.refl _ _) _) _,_,rfl⟩
end Go.Proofs.YtljdgmfcgkimoaaGreatDoor

namespace Go.Proofs.YtljdgmfcgkimoaaGreatDoor
open Go.RowKit Go.Joins
set_option maxRecDepth 100000
set_option maxHeartbeats 3200000 in
theorem l02Kids_any (k:Int) (w:World):Calls Tryz.prog 63 #[.int .i64 k] w fun e w'=>e = .returned (.int .i64 (kidsOf k))∧Below w.heap.size w w':=by
 by_cases h:0≤k∧k≤11
 ·have hin:inB k 0 11=true:=by unfold inB; simp [h.1,h.2]
  obtain ⟨n,rfl⟩:∃ n:Nat,k=n:=⟨k.toNat,by omega⟩
  have hn:n<12:=by omega
  match n,hn with
  | 0,_ =>
   go_enter Tryz.func63,Tryz.ntmps63
   go_wp2_with fail
   refine (specIn_is _ _ _ true hin _).mono ?_
   rintro e w1 ⟨rfl,rfl⟩
   go_wp2
   go_ret
   exact ⟨rfl,(Below.refl w1.heap.size w1).alloc (Nat.le_refl _) _⟩
  | 1,_ =>
   go_enter Tryz.func63,Tryz.ntmps63
   go_wp2_with fail
   refine (specIn_is _ _ _ true hin _).mono ?_
   rintro e w1 ⟨rfl,rfl⟩
   go_wp2
   go_ret
   exact ⟨rfl,(Below.refl w1.heap.size w1).alloc (Nat.le_refl _) _⟩
  | 2,_ =>
   go_enter Tryz.func63,Tryz.ntmps63
   go_wp2_with fail
   refine (specIn_is _ _ _ true hin _).mono ?_
   rintro e w1 ⟨rfl,rfl⟩
   go_wp2
   go_ret
   exact ⟨rfl,(Below.refl w1.heap.size w1).alloc (Nat.le_refl _) _⟩
  | 3,_ =>
   go_enter Tryz.func63,Tryz.ntmps63
   go_wp2_with fail
   refine (specIn_is _ _ _ true hin _).mono ?_
   rintro e w1 ⟨rfl,rfl⟩
   go_wp2
   go_ret
   exact ⟨rfl,(Below.refl w1.heap.size w1).alloc (Nat.le_refl _) _⟩
  | 4,_ =>
   go_enter Tryz.func63,Tryz.ntmps63
   go_wp2_with fail
   refine (specIn_is _ _ _ true hin _).mono ?_
   rintro e w1 ⟨rfl,rfl⟩
   go_wp2
   go_ret
   exact ⟨rfl,(Below.refl w1.heap.size w1).alloc (Nat.le_refl _) _⟩
  | 5,_ =>
   go_enter Tryz.func63,Tryz.ntmps63
   go_wp2_with fail
   refine (specIn_is _ _ _ true hin _).mono ?_
   rintro e w1 ⟨rfl,rfl⟩
   go_wp2
   go_ret
   exact ⟨rfl,(Below.refl w1.heap.size w1).alloc (Nat.le_refl _) _⟩
  | 6,_ =>
   go_enter Tryz.func63,Tryz.ntmps63
   go_wp2_with fail
   refine (specIn_is _ _ _ true hin _).mono ?_
   rintro e w1 ⟨rfl,rfl⟩
   go_wp2
   go_ret
   exact ⟨rfl,(Below.refl w1.heap.size w1).alloc (Nat.le_refl _) _⟩
  | 7,_ =>
   go_enter Tryz.func63,Tryz.ntmps63
   go_wp2_with fail
   refine (specIn_is _ _ _ true hin _).mono ?_
   rintro e w1 ⟨rfl,rfl⟩
   go_wp2
   go_ret
   exact ⟨rfl,(Below.refl w1.heap.size w1).alloc (Nat.le_refl _) _⟩
  | 8,_ =>
   go_enter Tryz.func63,Tryz.ntmps63
   go_wp2_with fail
   refine (specIn_is _ _ _ true hin _).mono ?_
   rintro e w1 ⟨rfl,rfl⟩
   go_wp2
   go_ret
   exact ⟨rfl,(Below.refl w1.heap.size w1).alloc (Nat.le_refl _) _⟩
  | 9,_ =>
   go_enter Tryz.func63,Tryz.ntmps63
   go_wp2_with fail
   refine (specIn_is _ _ _ true hin _).mono ?_
   rintro e w1 ⟨rfl,rfl⟩
   go_wp2
   go_ret
   exact ⟨rfl,(Below.refl w1.heap.size w1).alloc (Nat.le_refl _) _⟩
  | 10,_ =>
   go_enter Tryz.func63,Tryz.ntmps63
   go_wp2_with fail
   refine (specIn_is _ _ _ true hin _).mono ?_
   rintro e w1 ⟨rfl,rfl⟩
   go_wp2
   go_ret
   exact ⟨rfl,(Below.refl w1.heap.size w1).alloc (Nat.le_refl _) _⟩
  | 11,_ =>
   go_enter Tryz.func63,Tryz.ntmps63
   go_wp2_with fail
   refine (specIn_is _ _ _ true hin _).mono ?_
   rintro e w1 ⟨rfl,rfl⟩
   go_wp2
   go_ret
   exact ⟨rfl,(Below.refl w1.heap.size w1).alloc (Nat.le_refl _) _⟩
 ·have hin:inB k 0 11=false:=by
   unfold inB
   by_cases h0:0≤k
   ·have:¬ k≤11:=fun h1=>h ⟨h0,h1⟩
    simp [this]
   ·simp [h0]
  have hr:kidsOf k = -1:=by unfold kidsOf; rw [if_neg (by omega),if_neg (by omega),if_neg (by omega),if_neg (by omega)]
  rw [hr]
  go_enter Tryz.func63,Tryz.ntmps63
  go_wp2_with fail
  refine (specIn_is _ _ _ false hin _).mono ?_
  rintro e w1 ⟨rfl,rfl⟩
  go_wp2
  go_ret
  exact ⟨rfl,Below.refl _ _⟩
end Go.Proofs.YtljdgmfcgkimoaaGreatDoor

namespace Go.Proofs.YtljdgmfcgkimoaaGreatDoor
open Go.RowKit Go.Joins
set_option maxRecDepth 100000
def RightE (d:Nat):Prop:=∀ (v:Value) (x:Ex) (S:Nat→Prop) (w:World) (scope tops deep:Int),ExAt w S d v x→0≤scope∧scope≤96→0≤tops∧tops≤30 → -1≤deep∧deep≤60 →
 Calls Tryz.prog 34 #[v,.int .i64 scope,.int .i64 tops,.int .i64 deep] w fun e w'=>e = .returned (.bool (x.right scope tops deep))∧Below w.heap.size w w'
theorem right_false {x:Ex} {scope tops deep:Int} (h:x.right scope tops deep=true→False):x.right scope tops deep=false:=by
 cases hx:x.right scope tops deep with
 | false=>rfl
 | true=>exact (h hx).elim
def opsB:List ByteArray:=[⟨#[61,61]⟩,⟨#[60]⟩,⟨#[43]⟩,⟨#[45]⟩,⟨#[42]⟩]
theorem among_opsB (t:ByteArray):among opsB t=isOp t:=by
 unfold among isOp
 rw [← any_beq,show opTexts=opsB.map (fun x=>x.toList) from by simp only [ByteArray.toList_eq,opsB,opTexts,List.map_cons,List.map_nil],List.any_map]
 rfl
theorem kidsOf_lit:kidsOf 0=0∧kidsOf 1=0∧kidsOf 2=0∧kidsOf 3=1∧kidsOf 4=2∧kidsOf 5=2∧kidsOf 6=3∧kidsOf 7=0∧kidsOf 8=2∧kidsOf 9=3∧kidsOf 10=2∧kidsOf 11=2:=by decide
set_option maxHeartbeats 6400000 in
theorem l02Right_gen (d:Nat) (hE:RightE d) (v:Value) (x:Ex) (S:Nat→Prop) (w:World) (scope tops deep:Int) (h:ExAt w S (d+1) v x) (hs:0≤scope∧scope≤96) (ht:0≤tops∧tops≤30) (hd : -1≤deep∧deep≤60) (h10:0≤deep→scope≤90→(x.kids.length:Int)=kidsOf x.kind→¬ (¬ x.text.toList=[]∧x.kind≠10)→x.kind≠10∧x.kind≠11) :
  Calls Tryz.prog 34 #[v,.int .i64 scope,.int .i64 tops,.int .i64 deep] w fun e w'=>e = .returned (.bool (x.right scope tops deep))∧Below w.heap.size w w':=by
 have hri:=right_iff x scope tops deep
 have hnot:∀ (x:Bool) (w:World),(Op.unary .not (.bool x)).run Tryz.prog w = .ok (.bool (!x)) w:=fun _ _=>rfl
 obtain ⟨kv,rfl,-,-,-,hk⟩:=h
 obtain ⟨a,cap,rfl,hl,hc⟩:=hk
 unfold maxLen at hl
 have B0:Below w.heap.size w (w.alloc (.cells #[.int .i64 x.kind,.int .i64 x.n,.string x.text,.slice a x.kids.length cap] 52)):=(Below.refl _ w).alloc (Nat.le_refl _) _
 have O0:(w.alloc (.cells #[.int .i64 x.kind,.int .i64 x.n,.string x.text,.slice a x.kids.length cap] 52)).heap[w.heap.size]? = some (.cells #[.int .i64 x.kind,.int .i64 x.n,.string x.text,.slice a x.kids.length cap] 52):=(MapKept.heap_alloc w _).1
 have P3:(w.alloc (.cells #[.int .i64 x.kind,.int .i64 x.n,.string x.text,.slice a x.kids.length cap] 52)).heap.size=w.heap.size+1:=by simp
 have HC:=(show Hid (_∧True) from ⟨hc,trivial⟩)
 have HE:Hid (RightE d):=hE
 have HB0:=(show Hid (_∧True) from ⟨B0,trivial⟩)
 have HO0:=(show Hid (_∧True) from ⟨O0,trivial⟩)
 have HRI:=(show Hid (_∧True) from ⟨hri,trivial⟩)
 clear hc hE B0 O0 hri
 have HBx:Hid (∀ wk:World,Below (w.alloc (.cells #[.int .i64 x.kind,.int .i64 x.n,.string x.text,.slice a x.kids.length cap] 52)).heap.size (w.alloc (.cells #[.int .i64 x.kind,.int .i64 x.n,.string x.text,.slice a x.kids.length cap] 52)) wk→Below w.heap.size w wk∧wk.heap[w.heap.size]? = some (.cells #[.int .i64 x.kind,.int .i64 x.n,.string x.text,.slice a x.kids.length cap] 52)∧w.heap.size<wk.heap.size):=fun wk hb=>⟨HB0.out.1.trans (hb.mono HB0.out.1.size),(hb.block _ (by rw [P3]; omega)).trans HO0.out.1,by have:=hb.size; rw [P3] at this; omega⟩
 have Y0:=cbk HO0.out.1 0 (.int .i64 x.kind) rfl
 have Y2:=cbk HO0.out.1 2 (.string x.text) rfl
 have Y3:=cbk HO0.out.1 3 (.slice a x.kids.length cap) rfl
 clear HB0 HO0
 by_cases hdp:deep<0
 ·have hr:x.right scope tops deep=false:=right_false fun h=>by have:=(HRI.out.1.1 h).1; omega
  rw [hr]
  clear HC HE HRI
  go_enter Tryz.func34,Tryz.ntmps34
  go_wp2_with fail
  generalize (w.alloc (.cells #[.int .i64 x.kind,.int .i64 x.n,.string x.text,.slice a x.kids.length cap] 52))=w2 at *
  have k0:=cell_regrown Y0
  have k2:=cell_regrown Y2
  have k3:=cell_regrown Y3
  refine wp_region_quiet_below (by kernel_rfl) (by kernel_rfl) ?_
  repeat (go_big_quiet_step ((go_at_call 63; exact Calls.regrown_of (l02Kids_any _ _))))
  refine wpQuiet_nil ?_
  intro _ hw'
  obtain ⟨⟨dq,osq⟩,hw''⟩:=hw'
  subst hw''
  go_wp2
  go_ret
  exact ⟨rfl,(HBx.out _ (below_regrown w2 dq osq)).1⟩
 have gd:decide (deep<0)=false:=by simp; omega
 by_cases hsp:(90:Int)<scope
 ·have hr:x.right scope tops deep=false:=right_false fun h=>by have:=(HRI.out.1.1 h).2.1; omega
  rw [hr]
  clear HC HE HRI
  go_enter Tryz.func34,Tryz.ntmps34
  go_wp2_with fail
  generalize (w.alloc (.cells #[.int .i64 x.kind,.int .i64 x.n,.string x.text,.slice a x.kids.length cap] 52))=w2 at *
  have k0:=cell_regrown Y0
  have k2:=cell_regrown Y2
  have k3:=cell_regrown Y3
  refine wp_region_quiet_below (by kernel_rfl) (by kernel_rfl) ?_
  repeat (go_big_quiet_step ((go_at_call 63; exact Calls.regrown_of (l02Kids_any _ _))))
  refine wpQuiet_nil ?_
  intro _ hw'
  obtain ⟨⟨dq,osq⟩,hw''⟩:=hw'
  subst hw''
  go_wp2
  go_ret
  exact ⟨rfl,(HBx.out _ (below_regrown w2 dq osq)).1⟩
 have gs:decide (90<scope)=false:=by simp; omega
 by_cases hlen:((x.kids.length:Nat):Int)=kidsOf x.kind
 case neg =>
  have gl:(((x.kids.length:Nat):Int) != kidsOf x.kind)=true:=by simp [hlen]
  have hr:x.right scope tops deep=false:=right_false fun h=>hlen (HRI.out.1.1 h).2.2.1
  rw [hr]
  clear HC HE HRI
  go_enter Tryz.func34,Tryz.ntmps34
  go_wp2_with fail
  generalize (w.alloc (.cells #[.int .i64 x.kind,.int .i64 x.n,.string x.text,.slice a x.kids.length cap] 52))=w2 at *
  have k0:=cell_regrown Y0
  have k2:=cell_regrown Y2
  have k3:=cell_regrown Y3
  refine wp_region_quiet_below (by kernel_rfl) (by kernel_rfl) ?_
  repeat (go_big_quiet_step ((go_at_call 63; exact Calls.regrown_of (l02Kids_any _ _))))
  refine wpQuiet_nil ?_
  intro _ hw'
  obtain ⟨⟨dq,osq⟩,hw''⟩:=hw'
  subst hw''
  go_wp2
  go_ret
  exact ⟨rfl,(HBx.out _ (below_regrown w2 dq osq)).1⟩
 have gl:(((x.kids.length:Nat):Int) != kidsOf x.kind)=false:=by simp [hlen]
 by_cases htx:¬ x.text.toList=[]∧x.kind≠10
 ·have g0:=htx.1
  have g1:(x.text.toList == [])=false:=by simp [htx.1]
  have g2:(x.kind != 10)=true:=by simp [htx.2]
  have g3:(x.text.toList != [])=true:=by simp [htx.1]
  have hr:x.right scope tops deep=false:=right_false fun h=>by
   have h4:=(HRI.out.1.1 h).2.2.2.1
   unfold fieldsB at h4
   rw [if_neg htx.2,if_pos htx.1] at h4
   cases h4
  rw [hr]
  clear HC HE HRI
  go_enter Tryz.func34,Tryz.ntmps34
  go_wp2_with fail
  generalize (w.alloc (.cells #[.int .i64 x.kind,.int .i64 x.n,.string x.text,.slice a x.kids.length cap] 52))=w2 at *
  have k0:=cell_regrown Y0
  have k2:=cell_regrown Y2
  have k3:=cell_regrown Y3
  refine wp_region_quiet_below (by kernel_rfl) (by kernel_rfl) ?_
  repeat (go_big_quiet_step ((go_at_call 63; exact Calls.regrown_of (l02Kids_any _ _))))
  refine wpQuiet_nil ?_
  intro _ hw'
  obtain ⟨⟨dq,osq⟩,hw''⟩:=hw'
  subst hw''
  go_wp2
  go_ret
  exact ⟨rfl,(HBx.out _ (below_regrown w2 dq osq)).1⟩
 have hk12:x.kind=0∨x.kind=1∨x.kind=2∨x.kind=3∨x.kind=4∨x.kind=5∨x.kind=6∨x.kind=7∨x.kind=8∨x.kind=9:=by
  have h0:0≤kidsOf x.kind:=by omega
  have hn:=h10 (by omega) (by omega) hlen htx
  unfold kidsOf at h0
  split at h0
  ·omega
  ·split at h0
   ·omega
   ·split at h0
    ·omega
    ·split at h0
     ·omega
     ·omega
 clear h10
 rcases hk12 with hkk | hkk | hkk | hkk | hkk | hkk | hkk | hkk | hkk | hkk
 all_goals
  have g1:x.text.toList=[]:=by
   by_cases h:x.text.toList=[]
   ·exact h
   ·exact absurd ⟨h,by omega⟩ htx
  have g2:(x.text.toList == [])=true:=by simp [g1]
  have g3:(x.text.toList != [])=false:=by simp [g1]
  have HLEN:=(show Hid (_∧_) from ⟨hlen,hkk⟩)
  clear htx hlen hkk
  go_enter Tryz.func34,Tryz.ntmps34
  go_wp2_with fail
  have HY1:(w.alloc (.cells #[.int .i64 x.kind,.int .i64 x.n,.string x.text,.slice a x.kids.length cap] 52)).heap[w.heap.size]? = some (.cells #[.int .i64 x.kind,.int .i64 x.n,.string x.text,.slice a x.kids.length cap] 52):=(MapKept.heap_alloc w _).1
  generalize (w.alloc (.cells #[.int .i64 x.kind,.int .i64 x.n,.string x.text,.slice a x.kids.length cap] 52))=w2 at *
  have k0:=cell_regrown Y0
  have k2:=cell_regrown Y2
  have k3:=cell_regrown Y3
  refine wp_region_quiet_below (by kernel_rfl) (by kernel_rfl) ?_
  repeat (go_big_quiet_step ((go_at_call 63; exact Calls.regrown_of (l02Kids_any _ _))))
  refine wpQuiet_nil ?_
  intro _ hw'
  obtain ⟨⟨dq,osq⟩,hw''⟩:=hw'
  subst hw''
  have HB3:=(show Hid (_∧True) from ⟨HBx.out _ (below_regrown w2 dq osq),trivial⟩)
  clear k0 k2 k3 Y0 Y2 Y3 HY1 HBx
  generalize Go.Sort.grow (redrawn w2 dq) osq=w3 at *
  have z0:=cbk HB3.out.1.2.1 0 (.int .i64 x.kind) rfl
  have z1:=cbk HB3.out.1.2.1 1 (.int .i64 x.n) rfl
  have z3:=cbk HB3.out.1.2.1 3 (.slice a x.kids.length cap) rfl
  have hlt3:w.heap.size<w3.heap.size:=HB3.out.1.2.2
  have hkk:=HLEN.out.2
  rw [hkk] at z0
  clear hkk
  go_wp2_with (go_at_call 21; refine (specIn_any _ _ _ _).mono ?_; rintro e wx ⟨rfl,rfl⟩)
  go_loopw [10,11] (fun okv i wr=>∃ k:Nat,k≤x.kids.length∧i = .int .i64 k∧∃ bb:Bool,okv = .bool bb∧(bb=true↔(fieldsB x.kind x.n x.text x.kids scope tops=true∧∀ (j:Nat) (y:Ex),j<k→x.kids[j]? = some y→y.right (scope+moreN x.kind x.n j) tops (deep - 1)=true))∧Below w.heap.size w wr∧wr.heap[w.heap.size]? = some (.cells #[.int .i64 x.kind,.int .i64 x.n,.string x.text,.slice a x.kids.length cap] 52)∧∃ m0 m1 m2:Int,wr.heap[w3.heap.size]? = some (.cells #[.int .i64 m0,.int .i64 m1,.int .i64 m2] 3)∧(0<x.kids.length→m0=moreN x.kind x.n 0)∧(1<x.kids.length→m1=moreN x.kind x.n 1)∧(2<x.kids.length→m2=moreN x.kind x.n 2)) (fun _ i _=>x.kids.length - (intOf i).toNat)
  case' atStart =>
   refine ⟨0,Nat.zero_le _,rfl,_,rfl,?_,HB3.out.1.1.alloc HB3.out.1.1.size _,(Below.heap_alloc _ _ _ hlt3).trans HB3.out.1.2.1,_,_,_,(MapKept.heap_alloc w3 _).1,?_⟩
   ·have hkk:=HLEN.out.2
    simp [fieldsB,inR,inB,hkk,g1]
   ·have hkk:=HLEN.out.2
    have hl9:=HLEN.out.1
    rw [hkk] at hl9
    simp only [kidsOf_lit] at hl9
    refine ⟨fun h9 => ?_,fun h9 => ?_,fun h9 => ?_⟩ <;> first | (exfalso; omega) | simp [moreN,hkk]
  case' round =>
   obtain ⟨k,hk,rfl,bb,rfl,hbb,hbw,hO,m0,m1,m2,hM,hm0,hm1,hm2⟩:=hrel
   have P1r:=cbk hO 3 (.slice a x.kids.length cap) rfl
   have hk3:x.kids.length≤3:=by
    have hl9:=HLEN.out.1
    have:kidsOf x.kind≤3:=by unfold kidsOf; split <;> (try split) <;> (try split) <;> (try split) <;> omega
    omega
   have HS:=(show Hid (_∧_∧_∧_) from ⟨hbb,hbw,hO,hM⟩)
   have HS2:=(show Hid (_∧_∧_) from ⟨hm0,hm1,hm2⟩)
   by_cases hgo:k<x.kids.length∧bb=true
   ·obtain ⟨hkl,rfl⟩:=hgo
    have hf:=(hbb.1 rfl).1
    have he:=List.getElem?_eq_getElem hkl
    generalize x.kids[k]=y at *
    obtain ⟨b,off,kv,rfl,-,hl1,c0,c1,c2,c3,r1,r2,r3,kk⟩:=HC.out.1 k y he
    rw [← hbw.cell (by exact hl1)] at c0 c1 c2 c3
    have HX:Hid (∀ wx:World,Below w.heap.size w wx→ExAt wx S d (.agg #[.int .i64 y.kind,.int .i64 y.n,.string y.text,kv]) y):=fun wx hx=>⟨kv,rfl,r1,r2,r3,kk.below hx⟩
    obtain ⟨ka,kc,rfl⟩:=kk.form
    have HEK:Hid (x.kids[k]? = some y):=he
    have hml:=moreN_le hf k
    have hmk:wr.cell? ⟨w3.heap.size,k,none⟩=some (.int .i64 (moreN x.kind x.n k)):=by
     rw [cell_of_block hM]
     match k,hkl with
     | 0,h=>rw [← hm0 h]; rfl
     | 1,h=>rw [← hm1 h]; rfl
     | 2,h=>rw [← hm2 h]; rfl
     | (n+3),h=>omega
    generalize hmm:moreN x.kind x.n k=mj at *
    have HMM:=(show Hid (_∧True) from ⟨hmm,trivial⟩)
    clear kk he HC r1 r2 r3 hbb hbw hO hM hm0 hm1 hm2 hf hmm z0 z1 z3
    have hlt':((k:Nat):Int)<((x.kids.length:Nat):Int):=by omega
    have hw1:IntKind.i64.wrap (scope+mj)=scope+mj:=by rw [IntKind.wrap_i64]; omega
    have hw2:IntKind.i64.wrap (deep - 1)=deep - 1:=by rw [IntKind.wrap_i64]; omega
    have K0:=cell_regrown c0
    have K1:=cell_regrown c1
    have K2:=cell_regrown c2
    have K3:=cell_regrown c3
    have KP:=cell_regrown P1r
    have KM:=cell_regrown hmk
    go_wp2_with fail
    refine wp_region_quiet_below (by kernel_rfl) (by kernel_rfl) ?_
    repeat (go_big_quiet_step ((go_at_call 34; exact Calls.regrown_of (HE.out _ y S _ _ _ _ (HX.out _ (HS.out.2.1.trans ((below_regrown wr _ _).mono HS.out.2.1.size))) ⟨by omega,by omega⟩ ht ⟨by omega,by omega⟩))))
    refine wpQuiet_nil ?_
    intro _ hw'
    obtain ⟨⟨dq,osq⟩,hw''⟩:=hw'
    subst hw''
    have b5:=below_regrown wr dq osq
    clear K0 K1 K2 K3 KP KM
    generalize Go.Sort.grow (redrawn wr dq) osq=w5 at *
    have HB5:Hid (Below wr.heap.size wr w5):=b5
    clear b5
    go_wp2
    refine ⟨⟨k+1,by omega,by go_num,_,rfl,?_,HS.out.2.1.trans (HB5.out.mono HS.out.2.1.size),(HB5.out.block _ (Array.getElem?_eq_some_iff.1 HS.out.2.2.1).1).trans HS.out.2.2.1,m0,m1,m2,(HB5.out.block _ (Array.getElem?_eq_some_iff.1 HS.out.2.2.2).1).trans HS.out.2.2.2,HS2.out⟩,by simp [intOf]; omega⟩
    have h0:=HS.out.1.1 (by simp)
    constructor
    ·intro hy
     refine ⟨h0.1,fun j z hj hz => ?_⟩
     by_cases hjk:j<k
     ·exact h0.2 j z hjk hz
     ·obtain rfl:j=k:=by omega
      rw [HEK.out] at hz
      cases hz
      rw [HMM.out.1]
      exact hy
    ·intro hy
     have:=hy.2 k y (by omega) HEK.out
     rw [HMM.out.1] at this
     exact this
   ·have hres:bb=x.right scope tops deep:=by
     have hri:=HRI.out.1
     have hl9:=HLEN.out.1
     rcases Nat.lt_or_ge k x.kids.length with hkl | hkl
     ·have hb0:bb=false:=by
       cases bb with
       | false=>rfl
       | true=>exact absurd ⟨hkl,rfl⟩ hgo
      rw [hb0]
      refine (right_false fun hr => ?_).symm
      have h5:=hri.1 hr
      have:=hbb.2 ⟨h5.2.2.2.1,fun j y _ hy=>h5.2.2.2.2 j y hy⟩
      rw [hb0] at this
      cases this
     ·refine Bool.eq_iff_iff.2 ?_
      rw [hbb,hri]
      constructor
      ·rintro ⟨h1,h2⟩
       exact ⟨by omega,by omega,hl9,h1,fun i y hy=>h2 i y (by have:=(List.getElem?_eq_some_iff.1 hy).1; omega) hy⟩
      ·rintro ⟨_,_,_,h4,h5⟩
       exact ⟨h4,fun j y _ hy=>h5 j y hy⟩
    have HRS:Hid (bb=x.right scope tops deep):=hres
    have hex:¬ k<x.kids.length∨bb=false:=by
     by_cases h:k<x.kids.length
     ·right
      cases bb with
      | false=>rfl
      | true=>exact absurd ⟨h,rfl⟩ hgo
     ·exact .inl h
    clear hres hbb hbw hO hM hm0 hm1 hm2 HC HE HRI hgo z0 z1 z3
    by_cases hkl:k<x.kids.length
    ·have hb0:bb=false:=hex.resolve_left (fun h=>h hkl)
     subst hb0
     have hlt':((k:Nat):Int)<((x.kids.length:Nat):Int):=by omega
     go_wp2
     go_ret
     exact ⟨ret_bool HRS.out.symm,HS.out.2.1⟩
    ·have hlt':¬ ((k:Nat):Int)<((x.kids.length:Nat):Int):=by omega
     go_wp2
     go_ret
     exact ⟨ret_bool HRS.out.symm,HS.out.2.1⟩
end Go.Proofs.YtljdgmfcgkimoaaGreatDoor
