/-
  Proofs.
-/
import Derived.Test.YtmmadoabejgffaaGreatDoorA
import Derived.Below
namespace Go.Proofs.YtmmadoabejgffaaGreatDoor
open Go.RowKit Go.Joins
set_option maxRecDepth 100000
set_option maxHeartbeats 51200000
inductive Dt where
 | int (z:Int)
 | str (b:ByteArray)
 | row (xs:List (List Dt))
mutual
def Dt.bulk:Dt→Nat
 | .int _=>0
 | .str b=>b.size
 | .row xs=>Dt.bS xs
def Dt.bS:List (List Dt)→Nat
 | []=>0
 | r :: t=>1+Dt.bR r+Dt.bS t
def Dt.bR:List Dt→Nat
 | []=>0
 | d :: t=>d.bulk+Dt.bR t
end
def preD (xs:List (List Dt)) (k:Nat):Nat:=((xs.take k).map Dt.bR).sum
theorem preD_succ {xs:List (List Dt)} {k:Nat} {r:List Dt} (h:xs[k]? = some r):preD xs (k+1)=preD xs k+Dt.bR r:=by
 unfold preD
 have hk:=(List.getElem?_eq_some_iff.1 h).1
 rw [List.take_succ_eq_append_getElem hk,List.map_append,List.sum_append,(List.getElem?_eq_some_iff.1 h).2]
 simp
theorem preD_le (xs:List (List Dt)) (k:Nat):preD xs k≤preD xs xs.length:=by
 unfold preD
 rw [List.take_length]
 conv=>rhs; rw [← List.take_append_drop k xs,List.map_append,List.sum_append]
 omega
theorem bulkS_eq:∀ xs:List (List Dt),Dt.bS xs=xs.length+preD xs xs.length
 | []=>by rw [Dt.bS]; simp [preD]
 | r :: t=>by
  have:=bulkS_eq t
  unfold preD at *
  rw [Dt.bS,this,List.take_length,List.take_length]
  simp
  omega
theorem bulkS_len (xs:List (List Dt)):xs.length≤Dt.bS xs:=by rw [bulkS_eq]; omega
theorem bulkS_at {xs:List (List Dt)} {i:Nat} {r:List Dt} (h:xs[i]? = some r):xs.length+Dt.bR r≤Dt.bS xs:=by
 have h1:=preD_succ h
 have h2:=preD_le xs (i+1)
 rw [bulkS_eq]
 omega
inductive FAt (w:World) (S:Nat→Prop):Value→Dt→Prop
 | int (z:Int) (h:inI64 z):FAt w S (.int .i64 z) (.int z)
 | str (b:ByteArray) (h:b.size≤maxLen):FAt w S (.string b) (.str b)
 | nil (a:Option Addr) (cap:Nat):FAt w S (.slice a 0 cap) (.row [])
 | row (b off cap n:Nat) (xs:List (List Dt)) (vs:Nat→Nat→Value) (hl:xs.length≤maxLen) (hS:S b) (hb:b<w.heap.size)
   (hn:∀ (i:Nat) (r:List Dt),xs[i]? = some r→r.length=n)
   (hc:∀ (i j:Nat) (r:List Dt) (d:Dt),xs[i]? = some r→r[j]? = some d→w.cell? ⟨b,off+i * n+j,none⟩=some (vs i j))
   (hd:∀ (i j:Nat) (r:List Dt) (d:Dt),xs[i]? = some r→r[j]? = some d→FAt w S (vs i j) d) :
   FAt w S (.slice (some ⟨b,off,none⟩) xs.length cap) (.row xs)
theorem FAt.kept {w w':World} {S S':Nat→Prop} (hw:∀ b,S b→b<w.heap.size→w'.heap[b]? = w.heap[b]?) (hsz:w.heap.size≤w'.heap.size) (hS':∀ b,S b→b<w.heap.size→S' b) {v:Value} {d:Dt} (h:FAt w S v d):FAt w' S' v d:=by
 induction h with
 | int z h=>exact .int z h
 | str b h=>exact .str b h
 | nil a cap=>exact .nil a cap
 | row b off cap n xs vs hl hS hb hn hc hd ih =>
  exact .row b off cap n xs vs hl (hS' b hS hb) (Nat.lt_of_lt_of_le hb hsz) hn (fun i j r d hr hj=>(World.cell?_of_block (hw b hS hb)).trans (hc i j r d hr hj)) ih
theorem FAt.up {w w':World} {S:Nat→Prop} {v:Value} {d:Dt} (h:FAt w S v d) (hb:Below w.heap.size w w'):FAt w' S v d :=
 h.kept (fun b _ hlt=>hb.block b hlt) hb.size (fun _ h _=>h)
theorem FAt.wide {w:World} {S S':Nat→Prop} {v:Value} {d:Dt} (h:FAt w S v d) (hS:∀ b,S b→S' b):FAt w S' v d :=
 h.kept (fun _ _ _=>rfl) (Nat.le_refl _) (fun b hb _=>hS b hb)
theorem FAt.form {w:World} {S:Nat→Prop} {v:Value} {xs:List (List Dt)} (h:FAt w S v (.row xs)):∃ a cap,v = .slice a xs.length cap:=by
 cases h with
 | nil a cap=>exact ⟨a,cap,rfl⟩
 | row b off cap n xs vs=>exact ⟨_,cap,rfl⟩
theorem FAt.len {w:World} {S:Nat→Prop} {v:Value} {xs:List (List Dt)} (h:FAt w S v (.row xs)):xs.length≤maxLen:=by
 cases h with
 | nil a cap=>exact Nat.zero_le _
 | row b off cap n xs vs hl=>exact hl
theorem FAt.ofInt {w:World} {S:Nat→Prop} {v:Value} {z:Int} (h:FAt w S v (.int z)):v = .int .i64 z∧inI64 z:=by
 cases h with
 | int z h=>exact ⟨rfl,h⟩
theorem FAt.ofStr {w:World} {S:Nat→Prop} {v:Value} {b:ByteArray} (h:FAt w S v (.str b)):v = .string b∧b.size≤maxLen:=by
 cases h with
 | str b h=>exact ⟨rfl,h⟩
theorem FAt.at {w:World} {S:Nat→Prop} {a:Option Addr} {n cap:Nat} {xs:List (List Dt)} (h:FAt w S (.slice a n cap) (.row xs)) {k:Nat} {r:List Dt} (hr:xs[k]? = some r) :
  ∃ b off,a=some ⟨b,off,none⟩∧S b∧b<w.heap.size∧∃ vs:Nat→Value,∀ (j:Nat) (d:Dt),r[j]? = some d→w.cell? ⟨b,off+k * r.length+j,none⟩=some (vs j)∧FAt w S (vs j) d:=by
 cases h with
 | nil a cap=>simp at hr
 | row b off cap n xs vs hl hS hb hn hc hd =>
  refine ⟨b,off,rfl,hS,hb,vs k,fun j d hj=>⟨?_,hd k j r d hr hj⟩⟩
  rw [hn k r hr]
  exact hc k j r d hr hj
def FsAt (w:World) (S:Nat→Prop):List Value→List Dt→Prop
 | [],[]=>True
 | v :: vs,d :: ds=>FAt w S v d∧FsAt w S vs ds
 | _,_=>False
theorem FsAt.kept {w w':World} {S S':Nat→Prop} (hw:∀ b,S b→b<w.heap.size→w'.heap[b]? = w.heap[b]?) (hsz:w.heap.size≤w'.heap.size) (hS':∀ b,S b→b<w.heap.size→S' b):∀ {vs:List Value} {ds:List Dt},FsAt w S vs ds→FsAt w' S' vs ds
 | [],[],_=>trivial
 | _ :: _,_ :: _,h=>⟨h.1.kept hw hsz hS',FsAt.kept hw hsz hS' h.2⟩
 | [],_ :: _,h=>h.elim
 | _ :: _,[],h=>h.elim
theorem FsAt.up {w w':World} {S:Nat→Prop} {vs:List Value} {ds:List Dt} (h:FsAt w S vs ds) (hb:Below w.heap.size w w'):FsAt w' S vs ds :=
 h.kept (fun b _ hlt=>hb.block b hlt) hb.size (fun _ h _=>h)
structure KB (X:Nat→Prop) (w w':World):Prop where
 os:w'.os=w.os
 tape:w'.tape=w.tape
 output:w'.output=w.output
 size:w.heap.size≤w'.heap.size
 block:∀ k,k<w.heap.size→¬ X k→w'.heap[k]? = w.heap[k]?
theorem KB.refl (X:Nat→Prop) (w:World):KB X w w:=⟨rfl,rfl,rfl,Nat.le_refl _,fun _ _ _=>rfl⟩
theorem KB.trans {X:Nat→Prop} {a b c:World} (h:KB X a b) (k:KB X b c):KB X a c :=
 ⟨k.os.trans h.os,k.tape.trans h.tape,k.output.trans h.output,Nat.le_trans h.size k.size,fun i hi hx=>(k.block i (Nat.lt_of_lt_of_le hi h.size) hx).trans (h.block i hi hx)⟩
theorem KB.more {X Y:Nat→Prop} {a b:World} (h:KB X a b) (hs:∀ k,k<a.heap.size→X k→Y k):KB Y a b :=
 ⟨h.os,h.tape,h.output,h.size,fun i hi hy=>h.block i hi (fun hx=>hy (hs i hi hx))⟩
theorem KB.of_below {X:Nat→Prop} {w w':World} (h:Below w.heap.size w w'):KB X w w':=⟨h.os,h.tape,h.output,h.size,fun k hk _=>h.block k hk⟩
theorem KB.setCell {X:Nat→Prop} {a w:World} (h:KB X a w) {p:Addr} (hp:X p.block) (u:Value):KB X a (w.setCell p u):=by
 have hb:Below 0 w (w.setCell p u):=(Below.refl 0 w).setCell (Nat.zero_le _) u
 refine ⟨hb.os.trans h.os,hb.tape.trans h.tape,hb.output.trans h.output,Nat.le_trans h.size hb.size,fun k hk hx => ?_⟩
 have hne:k≠p.block:=fun e=>hx (by rw [e]; exact hp)
 rw [Below.heap_setCell w p u k hne]
 exact h.block k hk hx
theorem KB.below {X:Nat→Prop} {w w':World} {B:Nat} (h:KB X w w') (hX:∀ k,X k→B≤k) (hB:B≤w.heap.size):Below B w w' :=
 ⟨h.os,h.tape,h.output,h.size,fun k hk=>h.block k (Nat.lt_of_lt_of_le hk hB) (fun hx=>by have:=hX k hx; omega)⟩
theorem KB.heap {X:Nat→Prop} {w w':World} {b:Nat} {o:Obj} (h:KB X w w') (hb:w.heap[b]? = some o) (hx:¬ X b):w'.heap[b]? = some o :=
 (h.block b (Array.getElem?_eq_some_iff.1 hb).1 hx).trans hb
theorem KB.grown {X:Nat→Prop} {a w w':World} {row:Option Nat} (h:KB X a w) (hg:w.grownBy w' row) (hr:∀ k,row=some k→a.heap.size≤k):KB X a w' :=
 ⟨hg.os.trans h.os,hg.tape.trans h.tape,hg.output.trans h.output,Nat.le_trans h.size hg.size,fun k hk hx =>
  (hg.block k (Nat.lt_of_lt_of_le hk h.size) (fun e=>by have:=hr k e.symm; omega)).trans (h.block k hk hx)⟩
theorem lh {w:World} {b:Nat} {o:Obj} (h:w.heap[b]? = some o):b<w.heap.size:=(Array.getElem?_eq_some_iff.1 h).1
inductive Own (w:World):Value→Dt→(Nat→Prop)→Prop
 | int (z:Int) (h:inI64 z) (X:Nat→Prop):Own w (.int .i64 z) (.int z) X
 | str (b:ByteArray) (h:b.size≤maxLen) (X:Nat→Prop):Own w (.string b) (.str b) X
 | nil (X:Nat→Prop):Own w (.slice none 0 0) (.row []) X
 | row (g off cap n:Nat) (e:TypeId) (cur:Array Value) (xs:List (List Dt)) (vs:Nat→Nat→Value) (Y:Nat→Nat→Nat→Prop) (X:Nat→Prop)
   (hl:xs.length≤cap) (hcap:cap≤maxLen) (hs:off+cap * n≤cur.size) (hg:X g) (hblk:w.heap[g]? = some (.cells cur e (0,0)))
   (hn:∀ (i:Nat) (r:List Dt),xs[i]? = some r→r.length=n)
   (hc:∀ (i j:Nat) (r:List Dt) (d:Dt),xs[i]? = some r→r[j]? = some d→cur[off+i * n+j]? = some (vs i j))
   (hk:∀ (i j:Nat) (r:List Dt) (d:Dt),xs[i]? = some r→r[j]? = some d→Own w (vs i j) d (Y i j))
   (hX:∀ i j b,Y i j b→X b∧b≠g)
   (hdis:∀ i j i' j' b,Y i j b→Y i' j' b→i=i'∧j=j') :
   Own w (.slice (some ⟨g,off,none⟩) xs.length cap) (.row xs) X
theorem Own.row0 {w:World} (g cap n:Nat) (e:TypeId) (cur:Array Value) (xs:List (List Dt)) (vs:Nat→Nat→Value) (Y:Nat→Nat→Nat→Prop) (X:Nat→Prop)
  (hl:xs.length≤cap) (hcap:cap≤maxLen) (hs:cur.size=cap * n) (hg:X g) (hblk:w.heap[g]? = some (.cells cur e (0,0)))
  (hn:∀ (i:Nat) (r:List Dt),xs[i]? = some r→r.length=n)
  (hc:∀ (i j:Nat) (r:List Dt) (d:Dt),xs[i]? = some r→r[j]? = some d→cur[i * n+j]? = some (vs i j))
  (hk:∀ (i j:Nat) (r:List Dt) (d:Dt),xs[i]? = some r→r[j]? = some d→Own w (vs i j) d (Y i j))
  (hX:∀ i j b,Y i j b→X b∧b≠g)
  (hdis:∀ i j i' j' b,Y i j b→Y i' j' b→i=i'∧j=j') :
  Own w (.slice (some ⟨g,0,none⟩) xs.length cap) (.row xs) X :=
 .row g 0 cap n e cur xs vs Y X hl hcap (by omega) hg hblk hn (fun i j r d hr hj=>by rw [Nat.zero_add]; exact hc i j r d hr hj) hk hX hdis
theorem Own.mono {w:World} {v:Value} {d:Dt} {X X':Nat→Prop} (h:Own w v d X) (hX:∀ b,X b→X' b):Own w v d X':=by
 cases h with
 | int z h=>exact .int z h _
 | str b h=>exact .str b h _
 | nil=>exact .nil _
 | row g off cap n e cur xs vs Y X hl hcap hs hg hblk hn hc hk hY hdis =>
  exact .row g off cap n e cur xs vs Y X' hl hcap hs (hX g hg) hblk hn hc hk (fun i j b hb=>⟨hX b (hY i j b hb).1,(hY i j b hb).2⟩) hdis
theorem Own.moved {w w':World} {v:Value} {d:Dt} {X:Nat→Prop} (h:Own w v d X) (hw:∀ b,X b→b<w.heap.size→w'.heap[b]? = w.heap[b]?):Own w' v d X:=by
 induction h with
 | int z h=>exact .int z h _
 | str b h=>exact .str b h _
 | nil=>exact .nil _
 | row g off cap n e cur xs vs Y X hl hcap hs hg hblk hn hc hk hY hdis ih =>
  exact .row g off cap n e cur xs vs Y X hl hcap hs hg ((hw g hg (lh hblk)).trans hblk) hn hc (fun i j r d hr hj=>ih i j r d hr hj (fun b hb hlt=>hw b (hY i j b hb).1 hlt)) hY hdis
theorem Own.up {w w':World} {v:Value} {d:Dt} {X:Nat→Prop} (h:Own w v d X) (hb:Below w.heap.size w w'):Own w' v d X :=
 h.moved (fun b _ hlt=>hb.block b hlt)
theorem Own.set {w:World} {v:Value} {d:Dt} {X:Nat→Prop} (h:Own w v d X) {p:Addr} (hp:¬ X p.block) (u:Value):Own (w.setCell p u) v d X :=
 h.moved (fun b hb _=>Below.heap_setCell w p u b (fun e=>hp (e ▸ hb)))
theorem Own.dom {w:World} {v:Value} {d:Dt} {X:Nat→Prop} (h:Own w v d X):Own w v d (fun b=>X b∧b<w.heap.size):=by
 induction h with
 | int z h=>exact .int z h _
 | str b h=>exact .str b h _
 | nil=>exact .nil _
 | row g off cap n e cur xs vs Y X hl hcap hs hg hblk hn hc hk hY hdis ih =>
  exact .row g off cap n e cur xs vs (fun i j b=>Y i j b∧b<w.heap.size) _ hl hcap hs ⟨hg,lh hblk⟩ hblk hn hc ih (fun i j b hb=>⟨⟨(hY i j b hb.1).1,hb.2⟩,(hY i j b hb.1).2⟩) (fun i j i' j' b h h'=>hdis i j i' j' b h.1 h'.1)
theorem Own.at {w:World} {v:Value} {d:Dt} {X:Nat→Prop} (h:Own w v d X):FAt w (fun b=>X b∧Pl w b) v d:=by
 induction h with
 | int z h=>exact .int z h
 | str b h=>exact .str b h
 | nil=>exact .nil none 0
 | row g off cap n e cur xs vs Y X hl hcap hs hg hblk hn hc hk hY hdis ih =>
  refine .row g off cap n xs vs (Nat.le_trans hl hcap) ⟨hg,cur,e,hblk⟩ (lh hblk) hn (fun i j r d hr hj => ?_) (fun i j r d hr hj=>(ih i j r d hr hj).wide (fun b hb=>⟨(hY i j b hb.1).1,hb.2⟩))
  rw [cell_of_block hblk]
  exact hc i j r d hr hj
theorem Own.form {w:World} {v:Value} {xs:List (List Dt)} {X:Nat→Prop} (h:Own w v (.row xs) X):∃ a cap,v = .slice a xs.length cap:=by
 cases h with
 | nil=>exact ⟨none,0,rfl⟩
 | row g off cap n e cur xs vs Y X=>exact ⟨_,cap,rfl⟩
def OFs (w:World):List Value→List Dt→(Nat→Prop)→Prop
 | [],[],_=>True
 | v :: vs,d :: ds,X=>∃ X1 X2:Nat→Prop,(∀ b,X1 b→X b)∧(∀ b,X2 b→X b)∧(∀ b,X1 b→X2 b→False)∧Own w v d X1∧OFs w vs ds X2
 | _,_,_=>False
theorem OFs.mono {w:World}:∀ {vs:List Value} {ds:List Dt} {X X':Nat→Prop},OFs w vs ds X→(∀ b,X b→X' b)→OFs w vs ds X'
 | [],[],_,_,_,_=>trivial
 | _ :: _,_ :: _,_,_,⟨X1,X2,h1,h2,h3,h4,h5⟩,hX=>⟨X1,X2,fun b hb=>hX b (h1 b hb),fun b hb=>hX b (h2 b hb),h3,h4,h5⟩
 | [],_ :: _,_,_,h,_=>h.elim
 | _ :: _,[],_,_,h,_=>h.elim
theorem OFs.moved {w w':World}:∀ {vs:List Value} {ds:List Dt} {X:Nat→Prop},OFs w vs ds X→(∀ b,X b→b<w.heap.size→w'.heap[b]? = w.heap[b]?)→OFs w' vs ds X
 | [],[],_,_,_=>trivial
 | _ :: _,_ :: _,_,⟨X1,X2,h1,h2,h3,h4,h5⟩,hw=>⟨X1,X2,h1,h2,h3,h4.moved (fun b hb=>hw b (h1 b hb)),h5.moved (fun b hb=>hw b (h2 b hb))⟩
 | [],_ :: _,_,h,_=>h.elim
 | _ :: _,[],_,h,_=>h.elim
theorem OFs.up {w w':World} {vs:List Value} {ds:List Dt} {X:Nat→Prop} (h:OFs w vs ds X) (hb:Below w.heap.size w w'):OFs w' vs ds X :=
 h.moved (fun b _ hlt=>hb.block b hlt)
theorem OFs.at {w:World}:∀ {vs:List Value} {ds:List Dt} {X:Nat→Prop},OFs w vs ds X→FsAt w (fun b=>X b∧Pl w b) vs ds
 | [],[],_,_=>trivial
 | _ :: _,_ :: _,_,⟨_,_,h1,h2,_,h4,h5⟩=>⟨h4.at.wide (fun b hb=>⟨h1 b hb.1,hb.2⟩),h5.at.kept (fun _ _ _=>rfl) (Nat.le_refl _) (fun b hb _=>⟨h2 b hb.1,hb.2⟩)⟩
 | [],_ :: _,_,h=>h.elim
 | _ :: _,[],_,h=>h.elim
abbrev Btw (lo hi:Nat):Nat→Prop:=fun b=>lo≤b∧b<hi
theorem OFs.cons {w:World} {v:Value} {vs:List Value} {d:Dt} {ds:List Dt} {lo mid hi:Nat} (h:Own w v d (Btw lo mid)) (hs:OFs w vs ds (Btw mid hi)) (h1:lo≤mid) (h2:mid≤hi):OFs w (v :: vs) (d :: ds) (Btw lo hi) :=
 ⟨_,_,fun _ hb=>⟨hb.1,Nat.lt_of_lt_of_le hb.2 h2⟩,fun _ hb=>⟨Nat.le_trans h1 hb.1,hb.2⟩,fun _ hb hb'=>by have:=hb.2; have:=hb'.1; omega,h,hs⟩
theorem OFs.int {w:World} {vs:List Value} {ds:List Dt} {X:Nat→Prop} {z:Int} (hz:inI64 z) (hs:OFs w vs ds X):OFs w (.int .i64 z :: vs) (.int z :: ds) X :=
 ⟨fun _=>False,X,fun _ h=>h.elim,fun _ h=>h,fun _ h _=>h,.int z hz _,hs⟩
theorem OFs.str {w:World} {vs:List Value} {ds:List Dt} {X:Nat→Prop} {b:ByteArray} (hb:b.size≤maxLen) (hs:OFs w vs ds X):OFs w (.string b :: vs) (.str b :: ds) X :=
 ⟨fun _=>False,X,fun _ h=>h.elim,fun _ h=>h,fun _ h _=>h,.str b hb _,hs⟩
theorem OFs.append {w:World} {lo mid hi:Nat} (h1:lo≤mid) (h2:mid≤hi):∀ {vs us:List Value} {ds es:List Dt} {X:Nat→Prop},OFs w vs ds X→(∀ b,X b→Btw lo mid b)→OFs w us es (Btw mid hi)→OFs w (vs ++ us) (ds ++ es) (fun b=>X b∨Btw mid hi b)
 | [],_,[],_,_,_,_,k=>k.mono (fun _ hb => .inr hb)
 | _ :: _,_,_ :: _,_,_,⟨X1,X2,g1,g2,g3,g4,g5⟩,hX,k=>⟨X1,_,fun b hb => .inl (g1 b hb),fun b hb=>hb.elim (fun hb => .inl (g2 b hb)) .inr,fun b hb hb'=>by
   rcases hb' with hb' | hb'
   ·exact g3 b hb hb'
   ·have:=(hX b (g1 b hb)).2; have:=hb'.1; omega,g4,OFs.append h1 h2 g5 (fun b hb=>hX b (g2 b hb)) k⟩
 | [],_,_ :: _,_,_,h,_,_=>h.elim
 | _ :: _,_,[],_,_,h,_,_=>h.elim
theorem OFs.app {w:World} {lo mid hi:Nat} {vs us:List Value} {ds es:List Dt} (h:OFs w vs ds (Btw lo mid)) (k:OFs w us es (Btw mid hi)) (h1:lo≤mid) (h2:mid≤hi):OFs w (vs ++ us) (ds ++ es) (Btw lo hi) :=
 (OFs.append h1 h2 h (fun _ hb=>hb) k).mono (fun _ hb=>hb.elim (fun hb=>⟨hb.1,Nat.lt_of_lt_of_le hb.2 h2⟩) (fun hb=>⟨Nat.le_trans h1 hb.1,hb.2⟩))
theorem OFs.fam {w:World}:∀ {vs:List Value} {ds:List Dt} {X:Nat→Prop},OFs w vs ds X→vs.length=ds.length∧∃ Y:Nat→Nat→Prop,(∀ j b,Y j b→X b)∧(∀ j j' b,Y j b→Y j' b→j=j')∧∀ (j:Nat) (v:Value) (d:Dt),vs[j]? = some v→ds[j]? = some d→Own w v d (Y j)
 | [],[],_,_=>⟨rfl,fun _ _=>False,fun _ _ h=>h.elim,fun _ _ _ h=>h.elim,fun j v d h=>by simp at h⟩
 | v :: vs,d :: ds,X,⟨X1,X2,h1,h2,h3,h4,h5⟩=>by
  obtain ⟨hl,Y,k1,k2,k3⟩:=OFs.fam h5
  refine ⟨by simp [hl],fun j=>match j with | 0=>X1 | j+1=>Y j,fun j b hb => ?_,fun j j' b hb hb' => ?_,fun j v' d' hv hd => ?_⟩
  ·cases j with
   | zero=>exact h1 b hb
   | succ j=>exact h2 b (k1 j b hb)
  ·cases j with
   | zero =>
    cases j' with
    | zero=>rfl
    | succ j'=>exact (h3 b hb (k1 j' b hb')).elim
   | succ j =>
    cases j' with
    | zero=>exact (h3 b hb' (k1 j b hb)).elim
    | succ j'=>rw [k2 j j' b hb hb']
  ·cases j with
   | zero=>simp at hv hd; subst hv hd; exact h4
   | succ j=>exact k3 j v' d' (by simpa using hv) (by simpa using hd)
 | [],_ :: _,_,h=>h.elim
 | _ :: _,[],_,h=>h.elim
def setN (w:World) (g p:Nat):Nat→List Value→World
 | _,[]=>w
 | j,v :: vs=>setN (w.setCell ⟨g,p+j,none⟩ v) g p (j+1) vs
theorem setN_size:∀ (vs:List Value) (w:World) (g p j:Nat),(setN w g p j vs).heap.size=w.heap.size
 | [],_,_,_,_=>rfl
 | v :: vs,w,g,p,j=>by rw [setN,setN_size vs]; simp
theorem setN_other (g p:Nat):∀ (vs:List Value) (w:World) (j:Nat) (b:Nat),b≠g→(setN w g p j vs).heap[b]? = w.heap[b]?
 | [],_,_,_,_=>rfl
 | v :: vs,w,j,b,hb=>by rw [setN,setN_other g p vs _ _ b hb,Below.heap_setCell _ _ _ _ (by simpa using hb)]
theorem setN_block {e:TypeId} (g p:Nat):∀ (vs:List Value) (w:World) (j:Nat) (cur:Array Value),w.heap[g]? = some (.cells cur e (0,0))→p+j+vs.length≤cur.size →
  ∃ cur',(setN w g p j vs).heap[g]? = some (.cells cur' e (0,0))∧cur'.size=cur.size∧(∀ i v,vs[i]? = some v→cur'[p+j+i]? = some v)∧∀ q,q<p+j∨p+j+vs.length≤q→cur'[q]? = cur[q]?
 | [],w,j,cur,h,_=>⟨cur,h,rfl,fun i v hv=>by simp at hv,fun _ _=>rfl⟩
 | v :: vs,w,j,cur,h,hb=>by
  rw [List.length_cons] at hb
  obtain ⟨cur',h1,h2,h3,h4⟩:=setN_block g p vs (w.setCell ⟨g,p+j,none⟩ v) (j+1) (cur.setIfInBounds (p+j) v) (block_setCell h v) (by simp; omega)
  refine ⟨cur',by rw [setN]; exact h1,by rw [h2]; simp,fun i u hu => ?_,fun q hq => ?_⟩
  ·cases i with
   | zero =>
    simp at hu; subst hu
    rw [h4 _ (by omega)]
    exact Array.getElem?_setIfInBounds_self_of_lt (by omega)
   | succ i =>
    have:=h3 i u (by simpa using hu)
    rw [show p+j+(i+1)=p+(j+1)+i by omega]
    exact this
  ·rw [List.length_cons] at hq
   rw [h4 q (by omega),Array.getElem?_setIfInBounds_ne (by omega)]
def RowTo (w:World) (e:TypeId) (g n k:Nat) (xs:List (List Dt)):Prop :=
 ∃ (cur:Array Value) (vs:Nat→Nat→Value) (Y:Nat→Nat→Nat→Prop),w.heap[g]? = some (.cells cur e (0,0))∧cur.size=xs.length * n ∧
  (∀ (i j:Nat) (r:List Dt) (d:Dt),i<k→xs[i]? = some r→r[j]? = some d→cur[i * n+j]? = some (vs i j)∧Own w (vs i j) d (Y i j)) ∧
  (∀ i j b,Y i j b→g<b∧b<w.heap.size)∧(∀ i j i' j' b,Y i j b→Y i' j' b→i=i'∧j=j')
theorem RowTo.start {w:World} {e:TypeId} {g n:Nat} {xs:List (List Dt)} {cur:Array Value} (h:w.heap[g]? = some (.cells cur e (0,0))) (hs:cur.size=xs.length * n):RowTo w e g n 0 xs :=
 ⟨cur,fun _ _ => .nilFunc,fun _ _ _=>False,h,hs,fun i j r d hi=>by omega,fun _ _ _ h=>h.elim,fun _ _ _ _ _ h=>h.elim⟩
theorem idx_le {i k n:Nat} (h:i<k):i * n+n≤k * n:=by
 have:=Nat.mul_le_mul_right n (show i+1≤k from h)
 rw [Nat.add_mul,Nat.one_mul] at this
 exact this
theorem RowTo.next {wr w1:World} {e:TypeId} {g n k:Nat} {xs:List (List Dt)} {r:List Dt} {us:List Value} (h:RowTo wr e g n k xs) (hb:Below wr.heap.size wr w1) (hr:xs[k]? = some r) (hN:∀ (i:Nat) (r:List Dt),xs[i]? = some r→r.length=n)
  (ho:OFs w1 us r (Btw wr.heap.size w1.heap.size)):RowTo (setN w1 g (k * n) 0 us) e g n (k+1) xs:=by
 obtain ⟨cur,vs,Y,hg,hs,hc,hY,hd⟩:=h
 have hn:=hN k r hr
 have hgl:=lh hg
 have hkl:k<xs.length:=(List.getElem?_eq_some_iff.1 hr).1
 obtain ⟨hul,Z,z1,z2,z3⟩:=ho.fam
 have hg1:w1.heap[g]? = some (.cells cur e (0,0)):=(hb.block g hgl).trans hg
 have hkn:=idx_le (n:=n) hkl
 obtain ⟨cur',b1,b2,b3,b4⟩:=setN_block (e:=e) g (k * n) us w1 0 cur hg1 (by rw [hul,hn,hs]; omega)
 have hoth:∀ b,b≠g→(setN w1 g (k * n) 0 us).heap[b]? = w1.heap[b]? := fun b hb=>setN_other g (k * n) us w1 0 b hb
 refine ⟨cur',fun i j=>if i=k then (us[j]?).getD .nilFunc else vs i j,fun i j b=>if i=k then Z j b else (Y i j b∧b<wr.heap.size),b1,by rw [b2,hs],fun i j r' d hi hr' hj => ?_,fun i j b hb' => ?_,fun i j i' j' b h1 h2 => ?_⟩
 ·by_cases hik:i=k
  ·subst hik
   obtain rfl:r=r':=Option.some.inj (hr.symm.trans hr')
   have hjl:j<us.length:=by have:=(List.getElem?_eq_some_iff.1 hj).1; omega
   have hu:=List.getElem?_eq_getElem hjl
   simp only [if_true,hu,Option.getD_some]
   refine ⟨by have:=b3 j _ hu; simpa using this,?_⟩
   refine (z3 j _ d hu hj).moved (fun b hb' hlt=>hoth b ?_)
   have:=(z1 j b hb').1
   omega
  ·simp only [if_neg hik]
   have hi':i<k:=by omega
   obtain ⟨q1,q2⟩:=hc i j r' d hi' hr' hj
   have hin:=idx_le (n:=n) hi'
   have hjn:j<n:=by have h1:=(List.getElem?_eq_some_iff.1 hj).1; have h2:=hN i r' hr'; omega
   refine ⟨by rw [b4 _ (by omega)]; exact q1,?_⟩
   have:=q2.dom
   refine this.moved (fun b hb' hlt => ?_)
   rw [hoth b (by have:=(hY i j b hb'.1).1; omega)]
   exact hb.block b hlt
 ·by_cases hik:i=k
  ·simp only [if_pos hik] at hb'
   have:=z1 j b hb'
   rw [setN_size]
   exact ⟨by have:=this.1; omega,this.2⟩
  ·simp only [if_neg hik] at hb'
   rw [setN_size]
   exact ⟨(hY i j b hb'.1).1,Nat.lt_of_lt_of_le hb'.2 hb.size⟩
 ·by_cases hik:i=k
  ·simp only [if_pos hik] at h1
   by_cases hik':i'=k
   ·simp only [if_pos hik'] at h2
    exact ⟨by omega,z2 j j' b h1 h2⟩
   ·simp only [if_neg hik'] at h2
    have:=(z1 j b h1).1
    have:=h2.2
    omega
  ·simp only [if_neg hik] at h1
   by_cases hik':i'=k
   ·simp only [if_pos hik'] at h2
    have:=(z1 j' b h2).1
    have:=h1.2
    omega
   ·simp only [if_neg hik'] at h2
    exact hd i j i' j' b h1.1 h2.1
theorem RowTo.done {w:World} {e:TypeId} {g n:Nat} {xs:List (List Dt)} {cap:Nat} (h:RowTo w e g n xs.length xs) (hn:∀ (i:Nat) (r:List Dt),xs[i]? = some r→r.length=n) (hl:xs.length≤maxLen) (hcap:cap=xs.length) :
  Own w (.slice (some ⟨g,0,none⟩) xs.length cap) (.row xs) (Btw g w.heap.size):=by
 subst hcap
 obtain ⟨cur,vs,Y,hg,hs,hc,hY,hd⟩:=h
 exact Own.row0 g xs.length n e cur xs vs Y _ (Nat.le_refl _) hl hs ⟨Nat.le_refl _,lh hg⟩ hg hn (fun i j r d hr hj=>(hc i j r d (List.getElem?_eq_some_iff.1 hr).1 hr hj).1) (fun i j r d hr hj=>(hc i j r d (List.getElem?_eq_some_iff.1 hr).1 hr hj).2)
  (fun i j b hb=>⟨⟨Nat.le_of_lt (hY i j b hb).1,(hY i j b hb).2⟩,by have:=(hY i j b hb).1; omega⟩) hd
def AllR (P:List Dt→Prop) (xs:List (List Dt)):Prop:=∀ (i:Nat) (r:List Dt),xs[i]? = some r→P r
theorem AllR.len {P:List Dt→Prop} {n:Nat} {xs:List (List Dt)} (h:AllR P xs) (hP:∀ r,P r→r.length=n):∀ (i:Nat) (r:List Dt),xs[i]? = some r→r.length=n:=fun i r hr=>hP r (h i r hr)
def IntR (r:List Dt):Prop:=∃ z:Int,r=[.int z]
def StringR (r:List Dt):Prop:=∃ b:ByteArray,r=[.str b]
theorem IntR.len (r:List Dt) (h:IntR r):r.length=1:=by obtain ⟨z,rfl⟩:=h; rfl
theorem StringR.len (r:List Dt) (h:StringR r):r.length=1:=by obtain ⟨z,rfl⟩:=h; rfl
def CodeR (r:List Dt):Prop:=∃ (z0:Int) (z1:Int) (b2:ByteArray) (x3:List (List Dt)),r=[.int z0,.int z1,.str b2,.row x3]∧AllR IntR x3
theorem CodeR.len (r:List Dt) (h:CodeR r):r.length=4:=by obtain ⟨z0,z1,b2,x3,rfl,_q3⟩:=h; rfl
def TableR (r:List Dt):Prop:=∃ (x0:List (List Dt)) (x1:List (List Dt)),r=[.row x0,.row x1]∧AllR CodeR x0∧AllR IntR x1
def CellR (r:List Dt):Prop:=∃ (z0:Int) (z1:Int) (z2:Int) (x3:List (List Dt)),r=[.int z0,.int z1,.int z2,.row x3]∧AllR IntR x3
theorem CellR.len (r:List Dt) (h:CellR r):r.length=4:=by obtain ⟨z0,z1,z2,x3,rfl,_q3⟩:=h; rfl
def FrameR (r:List Dt):Prop:=∃ (z0:Int) (z1:Int) (z2:Int) (x3:List (List Dt)),r=[.int z0,.int z1,.int z2,.row x3]∧AllR IntR x3
theorem FrameR.len (r:List Dt) (h:FrameR r):r.length=4:=by obtain ⟨z0,z1,z2,x3,rfl,_q3⟩:=h; rfl
def ThreadR (r:List Dt):Prop:=∃ (z0:Int) (z1:Int) (x2:List (List Dt)) (x3:List (List Dt)) (b4:ByteArray),r=[.int z0,.int z1,.row x2,.row x3,.str b4]∧AllR IntR x2∧AllR FrameR x3
theorem ThreadR.len (r:List Dt) (h:ThreadR r):r.length=5:=by obtain ⟨z0,z1,x2,x3,b4,rfl,_q2,_q3⟩:=h; rfl
def MsgR (r:List Dt):Prop:=∃ (z0:Int) (z1:Int) (z2:Int) (z3:Int) (z4:Int) (z5:Int) (z6:Int) (z7:Int) (x8:List (List Dt)),r=[.int z0,.int z1,.int z2,.int z3,.int z4,.int z5,.int z6,.int z7,.row x8]∧AllR IntR x8
theorem MsgR.len (r:List Dt) (h:MsgR r):r.length=9:=by obtain ⟨z0,z1,z2,z3,z4,z5,z6,z7,x8,rfl,_q8⟩:=h; rfl
def MachineR (r:List Dt):Prop:=∃ (x0:List (List Dt)) (x1:List (List Dt)) (x2:List (List Dt)) (x3:List (List Dt)) (x4:List (List Dt)) (x5:List (List Dt)) (x6:List (List Dt)),r=[.row x0,.row x1,.row x2,.row x3,.row x4,.row x5,.row x6]∧AllR CodeR x0∧AllR IntR x1∧AllR CellR x2∧AllR ThreadR x3∧AllR IntR x4∧AllR IntR x5∧AllR MsgR x6
def SentR (r:List Dt):Prop:=∃ (z0:Int) (z1:Int) (b2:ByteArray),r=[.int z0,.int z1,.str b2]
theorem SentR.len (r:List Dt) (h:SentR r):r.length=3:=by obtain ⟨z0,z1,b2,rfl⟩:=h; rfl
def SeenR (r:List Dt):Prop:=∃ (z0:Int) (x1:List (List Dt)),r=[.int z0,.row x1]∧AllR IntR x1
theorem SeenR.len (r:List Dt) (h:SeenR r):r.length=2:=by obtain ⟨z0,x1,rfl,_q1⟩:=h; rfl
def LinkR (r:List Dt):Prop:=∃ (z0:Int) (z1:Int) (x2:List (List Dt)) (x3:List (List Dt)),r=[.int z0,.int z1,.row x2,.row x3]∧AllR SentR x2∧AllR SeenR x3
def PeerR (r:List Dt):Prop:=∃ (x0:List (List Dt)) (x1:List (List Dt)) (x2:List (List Dt)) (x3:List (List Dt)) (x4:List (List Dt)) (x5:List (List Dt)) (x6:List (List Dt)) (z7:Int) (z8:Int) (x9:List (List Dt)) (x10:List (List Dt)),r=[.row x0,.row x1,.row x2,.row x3,.row x4,.row x5,.row x6,.int z7,.int z8,.row x9,.row x10]∧AllR CodeR x0∧AllR IntR x1∧AllR CellR x2∧AllR ThreadR x3∧AllR IntR x4∧AllR IntR x5∧AllR MsgR x6∧AllR SentR x9∧AllR SeenR x10
theorem fs2 {w:World} {S:Nat→Prop} {vs:List Value} {d0 d1:Dt} (h:FsAt w S vs [d0,d1]):∃ v0 v1,vs=[v0,v1]∧FAt w S v0 d0∧FAt w S v1 d1:=by
 match vs,h with
 | [v0,v1],⟨h0,h1,_⟩=>exact ⟨v0,v1,rfl,h0,h1⟩
theorem fs3 {w:World} {S:Nat→Prop} {vs:List Value} {d0 d1 d2:Dt} (h:FsAt w S vs [d0,d1,d2]):∃ v0 v1 v2,vs=[v0,v1,v2]∧FAt w S v0 d0∧FAt w S v1 d1∧FAt w S v2 d2:=by
 match vs,h with
 | [v0,v1,v2],⟨h0,h1,h2,_⟩=>exact ⟨v0,v1,v2,rfl,h0,h1,h2⟩
theorem fs4 {w:World} {S:Nat→Prop} {vs:List Value} {d0 d1 d2 d3:Dt} (h:FsAt w S vs [d0,d1,d2,d3]):∃ v0 v1 v2 v3,vs=[v0,v1,v2,v3]∧FAt w S v0 d0∧FAt w S v1 d1∧FAt w S v2 d2∧FAt w S v3 d3:=by
 match vs,h with
 | [v0,v1,v2,v3],⟨h0,h1,h2,h3,_⟩=>exact ⟨v0,v1,v2,v3,rfl,h0,h1,h2,h3⟩
theorem fs5 {w:World} {S:Nat→Prop} {vs:List Value} {d0 d1 d2 d3 d4:Dt} (h:FsAt w S vs [d0,d1,d2,d3,d4]):∃ v0 v1 v2 v3 v4,vs=[v0,v1,v2,v3,v4]∧FAt w S v0 d0∧FAt w S v1 d1∧FAt w S v2 d2∧FAt w S v3 d3∧FAt w S v4 d4:=by
 match vs,h with
 | [v0,v1,v2,v3,v4],⟨h0,h1,h2,h3,h4,_⟩=>exact ⟨v0,v1,v2,v3,v4,rfl,h0,h1,h2,h3,h4⟩
theorem fs7 {w:World} {S:Nat→Prop} {vs:List Value} {d0 d1 d2 d3 d4 d5 d6:Dt} (h:FsAt w S vs [d0,d1,d2,d3,d4,d5,d6]):∃ v0 v1 v2 v3 v4 v5 v6,vs=[v0,v1,v2,v3,v4,v5,v6]∧FAt w S v0 d0∧FAt w S v1 d1∧FAt w S v2 d2∧FAt w S v3 d3∧FAt w S v4 d4∧FAt w S v5 d5∧FAt w S v6 d6:=by
 match vs,h with
 | [v0,v1,v2,v3,v4,v5,v6],⟨h0,h1,h2,h3,h4,h5,h6,_⟩=>exact ⟨v0,v1,v2,v3,v4,v5,v6,rfl,h0,h1,h2,h3,h4,h5,h6⟩
theorem fs9 {w:World} {S:Nat→Prop} {vs:List Value} {d0 d1 d2 d3 d4 d5 d6 d7 d8:Dt} (h:FsAt w S vs [d0,d1,d2,d3,d4,d5,d6,d7,d8]):∃ v0 v1 v2 v3 v4 v5 v6 v7 v8,vs=[v0,v1,v2,v3,v4,v5,v6,v7,v8]∧FAt w S v0 d0∧FAt w S v1 d1∧FAt w S v2 d2∧FAt w S v3 d3∧FAt w S v4 d4∧FAt w S v5 d5∧FAt w S v6 d6∧FAt w S v7 d7∧FAt w S v8 d8:=by
 match vs,h with
 | [v0,v1,v2,v3,v4,v5,v6,v7,v8],⟨h0,h1,h2,h3,h4,h5,h6,h7,h8,_⟩=>exact ⟨v0,v1,v2,v3,v4,v5,v6,v7,v8,rfl,h0,h1,h2,h3,h4,h5,h6,h7,h8⟩
theorem fs11 {w:World} {S:Nat→Prop} {vs:List Value} {d0 d1 d2 d3 d4 d5 d6 d7 d8 d9 d10:Dt} (h:FsAt w S vs [d0,d1,d2,d3,d4,d5,d6,d7,d8,d9,d10]):∃ v0 v1 v2 v3 v4 v5 v6 v7 v8 v9 v10,vs=[v0,v1,v2,v3,v4,v5,v6,v7,v8,v9,v10]∧FAt w S v0 d0∧FAt w S v1 d1∧FAt w S v2 d2∧FAt w S v3 d3∧FAt w S v4 d4∧FAt w S v5 d5∧FAt w S v6 d6∧FAt w S v7 d7∧FAt w S v8 d8∧FAt w S v9 d9∧FAt w S v10 d10:=by
 match vs,h with
 | [v0,v1,v2,v3,v4,v5,v6,v7,v8,v9,v10],⟨h0,h1,h2,h3,h4,h5,h6,h7,h8,h9,h10,_⟩=>exact ⟨v0,v1,v2,v3,v4,v5,v6,v7,v8,v9,v10,rfl,h0,h1,h2,h3,h4,h5,h6,h7,h8,h9,h10⟩
def SzC (f:FuncId) (P:List Dt→Prop):Prop:=∀ (vs:List Value) (r:List Dt) (S:Nat→Prop) (w:World) (left:Int),P r→FsAt w S vs r→0≤left→left≤1048576 →
 Calls Tryz.prog f #[.agg vs.toArray,.int .i64 left] w fun e w'=>e = .returned (.int .i64 (szR left (Dt.bR r)))∧Below w.heap.size w w'
def SzS (f:FuncId) (P:List Dt→Prop):Prop:=∀ (v:Value) (xs:List (List Dt)) (S:Nat→Prop) (w:World) (left:Int),AllR P xs→FAt w S v (.row xs)→0≤left→left≤1048576 →
 Calls Tryz.prog f #[v,.int .i64 left] w fun e w'=>e = .returned (.int .i64 (szR left (Dt.bS xs)))∧Below w.heap.size w w'
def ToC (f:FuncId) (P:List Dt→Prop):Prop:=∀ (vs:List Value) (r:List Dt) (S:Nat→Prop) (w:World),P r→FsAt w S vs r→Dt.bR r≤1048576 →
 Calls Tryz.prog f #[.agg vs.toArray] w fun e w'=>∃ us:List Value,e = .returned (.agg us.toArray)∧OFs w' us r (Btw w.heap.size w'.heap.size)∧Below w.heap.size w w'
def ToS (f:FuncId) (P:List Dt→Prop):Prop:=∀ (v:Value) (xs:List (List Dt)) (S:Nat→Prop) (w:World),AllR P xs→FAt w S v (.row xs)→Dt.bS xs≤1048576 →
 Calls Tryz.prog f #[v] w fun e w'=>∃ u:Value,e = .returned u∧Own w' u (.row xs) (Btw w.heap.size w'.heap.size)∧Below w.heap.size w w'
def EqC (f:FuncId) (P:List Dt→Prop):Prop:=∀ (vs us:List Value) (r:List Dt) (S1 S2:Nat→Prop) (w:World),P r→FsAt w S1 vs r→FsAt w S2 us r→Dt.bR r≤4194304 →
 Calls Tryz.prog f #[.agg vs.toArray,.agg us.toArray] w fun e w'=>e = .returned (.bool true)∧Below w.heap.size w w'
def EqS (f:FuncId) (P:List Dt→Prop):Prop:=∀ (v u:Value) (xs:List (List Dt)) (S1 S2:Nat→Prop) (w:World),AllR P xs→FAt w S1 v (.row xs)→FAt w S2 u (.row xs)→Dt.bS xs≤4194304 →
 Calls Tryz.prog f #[v,u] w fun e w'=>e = .returned (.bool true)∧Below w.heap.size w w'
end Go.Proofs.YtmmadoabejgffaaGreatDoor
