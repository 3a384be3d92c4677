/-
  Proofs.
  Proofs.
  Proofs.
  Proofs.
  Proofs.
  Proofs.
-/
import Derived.Test.YtljdgmfcgkimoaaGreatDoorJ1
import Derived.Maps.AppendAt
import Derived.Laws.OwnMore
import Derived.WalkKit
import Derived.RegionTactic
import Derived.Deep.QuietTactic
import Derived.BigQuiet
import Derived.WalkSmall
import Derived.Deep.CutRange
import Derived.Lib.BufferOwn
import Derived.Deep.RegionWith
import Derived.OwnWalk
namespace Go.Proofs.YtljdgmfcgkimoaaGreatDoor
open Go.RowKit Go.Joins
set_option maxRecDepth 100000
def IntsAt (w:World) (S:Nat→Prop) (v:Value) (ts:List Int):Prop :=
 ∃ a cap,v = .slice a ts.length cap∧ts.length≤maxLen∧∀ i t,ts[i]? = some t→∃ b off,a=some ⟨b,off,none⟩∧S b∧b<w.heap.size∧w.cell? ⟨b,off+i,none⟩=some (.int .i64 t)∧inI64 t
theorem IntsAt.kept {w w':World} {S S':Nat→Prop} (hw:∀ b,S b→b<w.heap.size→w'.heap[b]? = w.heap[b]?) (hsz:w.heap.size≤w'.heap.size) (hS:∀ b,S b→b<w.heap.size→S' b) {v:Value} {ts:List Int} (h:IntsAt w S v ts):IntsAt w' S' v ts:=by
 obtain ⟨a,cap,hv,hl,hc⟩:=h
 refine ⟨a,cap,hv,hl,fun i t ht => ?_⟩
 obtain ⟨b,off,ha,hb,hlt,c0,r⟩:=hc i t ht
 exact ⟨b,off,ha,hS b hb hlt,Nat.lt_of_lt_of_le hlt hsz,(World.cell?_of_block (hw b hb hlt)).trans c0,r⟩
theorem IntsAt.below {w w':World} {S:Nat→Prop} {v:Value} {ts:List Int} (h:IntsAt w S v ts) (hb:Below w.heap.size w w'):IntsAt w' S v ts :=
 h.kept (fun b _ hlt=>hb.block b hlt) hb.size (fun _ h _=>h)
theorem IntsAt.form {w:World} {S:Nat→Prop} {v:Value} {ts:List Int} (h:IntsAt w S v ts):∃ a cap,v = .slice a ts.length cap:=by
 obtain ⟨a,cap,hv,_⟩:=h; exact ⟨a,cap,hv⟩
theorem IntsAt.len {w:World} {S:Nat→Prop} {v:Value} {ts:List Int} (h:IntsAt w S v ts):ts.length≤9223372036854775807:=by
 obtain ⟨a,cap,_,hl,_⟩:=h
 unfold maxLen at hl
 omega
theorem IntsAt.wide {w:World} {S S':Nat→Prop} {v:Value} {ts:List Int} (h:IntsAt w S v ts) (hS:∀ b,S b→S' b):IntsAt w S' v ts :=
 h.kept (fun _ _ _=>rfl) (Nat.le_refl _) (fun b hb _=>hS b hb)
theorem IntsAt.belowP {w w':World} {n:Nat} {v:Value} {ts:List Int} (h:IntsAt w (fun b=>n≤b∧Pl w b) v ts) (hb:Below w.heap.size w w'):IntsAt w' (fun b=>n≤b∧Pl w' b) v ts :=
 h.kept (fun b _ hlt=>hb.block b hlt) hb.size (fun _ h _=>⟨h.1,h.2.below hb⟩)
end Go.Proofs.YtljdgmfcgkimoaaGreatDoor

namespace Go.Proofs.YtljdgmfcgkimoaaGreatDoor
open Go.RowKit Go.Joins
set_option maxRecDepth 100000
theorem infoCdI:(Tryz.prog.info? 3).map (fun i=>(i.zero,i.size,i.bytes))=some (some (.int .i64 0),1,8):=by kernel_rfl
theorem own_form {w:World} {B n size:Nat} {e:TypeId} {v:Value} {xs:List Value} (h:w.ownsRow B e size v n xs):∃ a cap,v = .slice a n cap:=by
 rcases h.2 with ⟨rfl,rfl⟩ | ⟨g,cap,cur,rfl,_⟩
 ·exact ⟨none,0,rfl⟩
 ·exact ⟨_,_,rfl⟩
theorem own_formN {w:World} {B n size:Nat} {e:TypeId} {v:Value} {xs:List Value} (h:w.ownsRow B e size v n xs):∃ n' a cap,n'=n∧v = .slice a n' cap:=by
 obtain ⟨a,cap,rfl⟩:=own_form h
 exact ⟨n,a,cap,rfl,rfl⟩
theorem own_some {w:World} {B n size:Nat} {e:TypeId} {v:Value} {xs:List Value} (h:w.ownsRow B e size v n xs) (hn:0<n):∃ g cap,v = .slice (some ⟨g,0,none⟩) n cap:=by
 rcases h.2 with ⟨_,h0⟩ | ⟨g,cap,cur,hv,_⟩
 ·omega
 ·exact ⟨g,cap,hv⟩
def AptV (u v:Value):Prop:=u.ownBlock=none∨u.ownBlock≠v.ownBlock
theorem AptV.symm {u v:Value} (h:AptV u v):AptV v u:=by
 rcases h with h | h
 ·unfold AptV
  cases hv:v.ownBlock with
  | none=>exact .inl rfl
  | some k=>exact .inr (by rw [h]; simp)
 ·exact .inr (Ne.symm h)
theorem own_moved {W W':World} {B n size:Nat} {e:TypeId} {v:Value} {xs:List Value} (h:W.ownsRow B e size v n xs) (hb:∀ g,v.ownBlock=some g→W'.heap[g]? = W.heap[g]?):W'.ownsRow B e size v n xs:=by
 refine ⟨h.1,?_⟩
 rcases h.2 with h | ⟨g,cap,cur,rfl,h1,h2,h3⟩
 ·exact .inl h
 ·exact .inr ⟨g,cap,cur,rfl,h1,(hb g rfl).trans h2,h3⟩
theorem own_type {W:World} {B n size:Nat} {e:TypeId} {v:Value} {xs:List Value} (h:W.ownsRow B e size v n xs):∀ g,v.ownBlock=some g→B≤g∧∃ cs,W.heap[g]? = some (.cells cs e (0,0)):=by
 intro g hg
 rcases h.2 with ⟨rfl,_⟩ | ⟨g',cap,cur,rfl,h1,h2,_⟩
 ·simp [Value.ownBlock] at hg
 ·simp [Value.ownBlock] at hg; subst hg; exact ⟨h1,cur,h2⟩
theorem own_ne {W:World} {B B' n n' size size':Nat} {e e':TypeId} {v v':Value} {xs xs':List Value} (h:W.ownsRow B e size v n xs) (h':W.ownsRow B' e' size' v' n' xs') (he:e≠e'):∀ g,v.ownBlock=some g→some g≠v'.ownBlock:=by
 intro g hg hc
 obtain ⟨_,cs,h1⟩:=own_type h g hg
 obtain ⟨_,cs',h2⟩:=own_type h' g hc.symm
 rw [h1] at h2
 cases h2
 exact he rfl
theorem own_lt {W:World} {B n size:Nat} {e:TypeId} {v:Value} {xs:List Value} (h:W.ownsRow B e size v n xs):∀ g,v.ownBlock=some g→g<W.heap.size :=
 fun g hg=>(own_type h g hg).2.elim (fun _ hc=>(Array.getElem?_eq_some_iff.1 hc).1)
theorem AptV.grown {W:World} {B n size:Nat} {e:TypeId} {u v v':Value} {xs:List Value} (h:AptV u v) (hu:W.ownsRow B e size u n xs) (hat:v'.ownBlock=v.ownBlock∨v'.ownBlock=some W.heap.size):AptV u v':=by
 rcases hat with hat | hat
 ·unfold AptV at *; rw [hat]; exact h
 ·cases hb:u.ownBlock with
  | none=>exact .inl hb
  | some g =>
   refine .inr ?_
   rw [hat,hb]
   have:=own_lt hu g hb
   simp
   omega
theorem own_mono {W:World} {B B' n size:Nat} {e:TypeId} {v:Value} {xs:List Value} (h:W.ownsRow B e size v n xs) (hB:B'≤B):W.ownsRow B' e size v n xs:=by
 refine ⟨h.1,?_⟩
 rcases h.2 with h | ⟨g,cap,cur,hv,h1,h2⟩
 ·exact .inl h
 ·exact .inr ⟨g,cap,cur,hv,Nat.le_trans hB h1,h2⟩
end Go.Proofs.YtljdgmfcgkimoaaGreatDoor

namespace Go.Proofs.YtljdgmfcgkimoaaGreatDoor
open Go.RowKit Go.Joins
set_option maxRecDepth 100000
def ToksAt (w:World) (P:Nat) (v:Value) (n:Nat):Prop :=
 ∃ a cap,v = .slice a n cap∧n≤2000∧∀ i,i<n→∃ b off k t z l,a=some ⟨b,off,none⟩∧b≠P∧b<w.heap.size ∧
  w.cell? ⟨b,off+i * 4,none⟩=some (.int .i64 k)∧w.cell? ⟨b,off+i * 4+1,none⟩=some (.string t)∧w.cell? ⟨b,off+i * 4+2,none⟩=some (.int .i64 z)∧w.cell? ⟨b,off+i * 4+3,none⟩=some (.int .i64 l)∧t.size≤1048576∧inI64 z
structure Ps where
 P:Nat
 V:Value
 n:Nat
 T:Value
 ts:List ByteArray
def PsAt (w:World) (P:Nat) (v:Value) (ss:List ByteArray):Prop :=
 ∃ b off cap,v = .slice (some ⟨b,off,none⟩) ss.length cap∧b≠P∧b<w.heap.size∧∀ i t,ss[i]? = some t→w.cell? ⟨b,off+i,none⟩=some (.string t)∧t.size≤1048576
def ParAt (q:Ps) (w:World) (i:Nat) (bad lost:Bool):Prop :=
 w.heap[q.P]? = some (.cells #[q.V,.int .i64 i,.bool bad,.bool lost,q.T] 85)∧i≤q.n∧ToksAt w q.P q.V q.n∧StrsAt w (· ≠ q.P) q.T q.ts
theorem ToksAt.kb {w w':World} {P n:Nat} {v:Value} (h:ToksAt w P v n) (hk:KB (· = P) w w'):ToksAt w' P v n:=by
 obtain ⟨a,cap,hv,hn,hc⟩:=h
 refine ⟨a,cap,hv,hn,fun i hi => ?_⟩
 obtain ⟨b,off,k,t,z,l,ha,hb,hlt,c0,c1,c2,c3,r1,r2⟩:=hc i hi
 have hblk:=hk.block b hlt hb
 exact ⟨b,off,k,t,z,l,ha,hb,Nat.lt_of_lt_of_le hlt hk.size,(World.cell?_of_block hblk).trans c0,(World.cell?_of_block hblk).trans c1,(World.cell?_of_block hblk).trans c2,(World.cell?_of_block hblk).trans c3,r1,r2⟩
theorem StrsAt.kb {w w':World} {P:Nat} {v:Value} {ts:List ByteArray} (h:StrsAt w (· ≠ P) v ts) (hk:KB (· = P) w w'):StrsAt w' (· ≠ P) v ts :=
 h.kept (fun b hb hlt=>hk.block b hlt hb) hk.size (fun _ h _=>h)
theorem PsAt.kb {w w':World} {P:Nat} {v:Value} {ss:List ByteArray} (h:PsAt w P v ss) (hk:KB (· = P) w w'):PsAt w' P v ss:=by
 obtain ⟨b,off,cap,hv,hb,hlt,hc⟩:=h
 exact ⟨b,off,cap,hv,hb,Nat.lt_of_lt_of_le hlt hk.size,fun i t ht=>⟨(World.cell?_of_block (hk.block b hlt hb)).trans (hc i t ht).1,(hc i t ht).2⟩⟩
theorem PsAt.strs {w:World} {P:Nat} {v:Value} {ss:List ByteArray} (h:PsAt w P v ss) (hl:ss.length≤maxLen):StrsAt w (· ≠ P) v ss:=by
 obtain ⟨b,off,cap,hv,hb,hlt,hc⟩:=h
 exact ⟨_,cap,hv,hl,fun i t ht=>⟨b,off,rfl,hb,hlt,(hc i t ht).1,by have:=(hc i t ht).2; unfold maxLen; omega⟩⟩
theorem ParAt.lt {q:Ps} {w:World} {i:Nat} {bad lost:Bool} (h:ParAt q w i bad lost):q.P<w.heap.size:=lh h.1
theorem ParAt.on {q:Ps} {w w':World} {i j:Nat} {bad lost bad' lost':Bool} (h:ParAt q w i bad lost) (hk:KB (· = q.P) w w') (hc:w'.heap[q.P]? = some (.cells #[q.V,.int .i64 j,.bool bad',.bool lost',q.T] 85)) (hj:j≤q.n):ParAt q w' j bad' lost' :=
 ⟨hc,hj,h.2.2.1.kb hk,h.2.2.2.kb hk⟩
theorem ParAt.below {q:Ps} {w w':World} {i:Nat} {bad lost:Bool} (h:ParAt q w i bad lost) (hb:Below w.heap.size w w'):ParAt q w' i bad lost :=
 h.on (KB.of_below hb) ((hb.block q.P h.lt).trans h.1) h.2.1
def PAft (q:Ps) (w w':World) (i:Nat) (bad:Bool):Prop:=KB (· = q.P) w w'∧∃ i' bad' lost',i≤i'∧(bad=true→bad'=true)∧ParAt q w' i' bad' lost'
def AftS (q:Ps) (w w':World) (i:Nat) (bad:Bool):Prop:=KB (· = q.P) w w'∧∃ i' bad' lost',i≤i'∧(bad=true→bad'=true)∧(i<i'∨bad'=true)∧ParAt q w' i' bad' lost'
theorem st_on {i j k:Nat} {b c:Bool} (h:i<j∨b=true) (hjk:j≤k) (hbc:b=true→c=true):i<k∨c=true:=h.elim (fun h => .inl (Nat.lt_of_lt_of_le h hjk)) (fun h => .inr (hbc h))
theorem st_new {i j k:Nat} {c:Bool} (hij:i≤j) (h:j<k∨c=true):i<k∨c=true:=h.elim (fun h => .inl (Nat.lt_of_le_of_lt hij h)) .inr
def EV (S:Nat→Prop) (w:World) (v:Value):Prop :=
 ∃ (d:Nat) (e:Ex) (a:Option Addr),v = .agg #[.int .i64 e.kind,.int .i64 e.n,.string e.text,.slice a e.kids.length e.kids.length]∧inI64 e.kind∧inI64 e.n∧e.text.size≤maxLen∧KidsAt w (fun b=>S b∧Pl w b) d (.slice a e.kids.length e.kids.length) e.kids∧e.kids.length≤3
theorem Pl.setCell {w:World} {b:Nat} (h:Pl w b) (g i:Nat) (u:Value):Pl (w.setCell ⟨g,i,none⟩ u) b:=by
 obtain ⟨cs,t,hc⟩:=h
 by_cases e:b=g
 ·subst e
  exact ⟨_,_,block_setCell hc u⟩
 ·exact ⟨cs,t,(Below.heap_setCell w ⟨g,i,none⟩ u b e).trans hc⟩
theorem EV.kept {S S':Nat→Prop} {w w':World} {v:Value} (h:EV S w v) (hb:∀ b,S b→b<w.heap.size→w'.heap[b]? = w.heap[b]?) (hs:w.heap.size≤w'.heap.size) (hS:∀ b,S b→b<w.heap.size→S' b):EV S' w' v:=by
 obtain ⟨d,e,a,hv,h1,h2,h3,h4,h5⟩:=h
 exact ⟨d,e,a,hv,h1,h2,h3,h4.kept (fun b hb' hlt=>hb b hb'.1 hlt) hs (fun b hb' hlt=>⟨hS b hb'.1 hlt,hb'.2.of (hb b hb'.1 hlt)⟩),h5⟩
theorem EV.kb {S:Nat→Prop} {P:Nat} {w w':World} {v:Value} (h:EV S w v) (hk:KB (· = P) w w') (hP:¬ S P):EV S w' v :=
 h.kept (fun b hb hlt=>hk.block b hlt (fun e=>hP (e ▸ hb))) hk.size (fun _ h _=>h)
theorem EV.below {S:Nat→Prop} {w w':World} {v:Value} (h:EV S w v) (hb:Below w.heap.size w w'):EV S w' v :=
 h.kept (fun b _ hlt=>hb.block b hlt) hb.size (fun _ h _=>h)
theorem EV.wide {S S':Nat→Prop} {w:World} {v:Value} (h:EV S w v) (hS:∀ b,S b→b<w.heap.size→S' b):EV S' w v:=h.kept (fun _ _ _=>rfl) (Nat.le_refl _) hS
theorem EV.leaf (S:Nat→Prop) (w:World) {k n:Int} {t:ByteArray} (hk:inI64 k) (hn:inI64 n) (ht:t.size≤maxLen):EV S w (.agg #[.int .i64 k,.int .i64 n,.string t,.slice none 0 0]) :=
 ⟨1,.mk k n t [],none,rfl,hk,hn,ht,⟨none,0,rfl,Nat.zero_le _,fun i e he=>by simp [Ex.kids] at he⟩,by simp [Ex.kids]⟩
theorem EV.form {S:Nat→Prop} {w:World} {v:Value} (h:EV S w v):∃ k n t a m,v = .agg #[.int .i64 k,.int .i64 n,.string t,.slice a m m]:=by
 obtain ⟨d,e,a,hv,_⟩:=h
 exact ⟨_,_,_,_,_,hv⟩
def cellsV:Value→Array Value
 | .agg cs=>cs
 | _ => #[]
def cellsE (v:Value):List Value:=(cellsV v).toList
theorem EV.over {S:Nat→Prop} {g:Nat} {w:World} {vs:List Value} (hm:vs.length≤3) (hvs:∀ v ∈ vs,EV S w v) (hg:w.heap[g]? = some (.cells ⟨vs.flatMap cellsE⟩ 52)) (hB:S g) {k n:Int} {t:ByteArray} (hk:inI64 k) (hn:inI64 n) (ht:t.size≤maxLen) :
  EV S w (.agg #[.int .i64 k,.int .i64 n,.string t,.slice (some ⟨g,0,none⟩) vs.length vs.length]):=by
 have key:∀ (us:List Value),(∀ v ∈ us,EV S w v)→∃ (d:Nat) (es:List Ex) (ass:List (Option Addr)),es.length=us.length∧us.flatMap cellsE=(es.zip ass).flatMap (fun x=>[.int .i64 x.1.kind,.int .i64 x.1.n,.string x.1.text,.slice x.2 x.1.kids.length x.1.kids.length])∧ass.length=es.length ∧
   ∀ (i:Nat) (e:Ex) (a:Option Addr),es[i]? = some e→ass[i]? = some a→inI64 e.kind∧inI64 e.n∧e.text.size≤maxLen∧KidsAt w (fun b=>S b∧Pl w b) d (.slice a e.kids.length e.kids.length) e.kids:=by
  intro us
  induction us with
  | nil=>intro _; exact ⟨0,[],[],rfl,rfl,rfl,fun i e a h=>by simp at h⟩
  | cons u us ih =>
   intro h
   obtain ⟨d,es,ass,h1,h2,h3,h4⟩:=ih (fun v hv=>h v (List.mem_cons_of_mem _ hv))
   obtain ⟨d',e,a,hv,k1,k2,k3,k4,-⟩:=h u (List.mem_cons_self ..)
   refine ⟨max d d',e :: es,a :: ass,by simp [h1],?_,by simp [h3],fun i e2 a2 he ha => ?_⟩
   ·rw [List.flatMap_cons,h2,hv]; rfl
   ·cases i with
    | zero =>
     simp only [List.getElem?_cons_zero,Option.some.injEq] at he ha
     subst he; subst ha
     exact ⟨k1,k2,k3,k4.deep (Nat.le_max_right _ _)⟩
    | succ i =>
     obtain ⟨g1,g2,g3,g4⟩:=h4 i e2 a2 (by simpa using he) (by simpa using ha)
     exact ⟨g1,g2,g3,g4.deep (Nat.le_max_left _ _)⟩
 obtain ⟨d,es,ass,h1,h2,h3,h4⟩:=key vs hvs
 rw [← h1]
 have hcell:∀ (es:List Ex) (ass:List (Option Addr)),ass.length=es.length→∀ (i:Nat) (e:Ex),es[i]? = some e→∃ a:Option Addr,ass[i]? = some a∧(∀ (j:Nat) (u:Value),[Value.int .i64 e.kind,.int .i64 e.n,.string e.text,.slice a e.kids.length e.kids.length][j]? = some u→((es.zip ass).flatMap (fun x=>[Value.int .i64 x.1.kind,.int .i64 x.1.n,.string x.1.text,.slice x.2 x.1.kids.length x.1.kids.length]))[i * 4+j]? = some u):=by
  intro es
  induction es with
  | nil=>intro ass _ i e he; simp at he
  | cons x es ih =>
   intro ass hl i e he
   cases ass with
   | nil=>simp at hl
   | cons a ass =>
    cases i with
    | zero =>
     obtain rfl:x=e:=by simpa using he
     refine ⟨a,rfl,fun j u hu => ?_⟩
     have hj:j<4:=by have:=(List.getElem?_eq_some_iff.1 hu).1; simpa using this
     rw [List.zip_cons_cons,List.flatMap_cons,Nat.zero_mul,Nat.zero_add,List.getElem?_append_left (by simpa using hj)]
     exact hu
    | succ i =>
     obtain ⟨a',ha',hc⟩:=ih ass (by simpa using hl) i e (by simpa using he)
     refine ⟨a',by simpa using ha',fun j u hu => ?_⟩
     rw [List.zip_cons_cons,List.flatMap_cons,List.getElem?_append_right (by simp; omega)]
     rw [show (i+1) * 4+j - [Value.int .i64 x.kind,.int .i64 x.n,.string x.text,.slice a x.kids.length x.kids.length].length=i * 4+j by simp; omega]
     exact hc j u hu
 refine ⟨d+1,.mk k n t es,some ⟨g,0,none⟩,rfl,hk,hn,ht,⟨_,_,rfl,by unfold maxLen; simp only [Ex.kids]; omega,fun i e he => ?_⟩,by simp only [Ex.kids]; omega⟩
 obtain ⟨a,ha,hc⟩:=hcell es ass h3 i e he
 obtain ⟨g1,g2,g3,g4⟩:=h4 i e a he ha
 have at4:∀ j u,[Value.int .i64 e.kind,.int .i64 e.n,.string e.text,.slice a e.kids.length e.kids.length][j]? = some u→w.cell? ⟨g,0+i * 4+j,none⟩=some u:=fun j u hu=>by
  rw [cell_of_block hg,Nat.zero_add,h2,List.getElem?_toArray]
  exact hc j u hu
 exact ⟨g,0,_,rfl,⟨hB,_,_,hg⟩,lh hg,at4 0 _ rfl,at4 1 _ rfl,at4 2 _ rfl,at4 3 _ rfl,g1,g2,g3,g4⟩
end Go.Proofs.YtljdgmfcgkimoaaGreatDoor

namespace Go.Proofs.YtljdgmfcgkimoaaGreatDoor
open Go.RowKit Go.Joins
set_option maxRecDepth 100000
theorem ParAt.cells {q:Ps} {w:World} {i:Nat} {bad lost:Bool} (h:ParAt q w i bad lost):w.cell? ⟨q.P,0,none⟩=some q.V∧w.cell? ⟨q.P,1,none⟩=some (.int .i64 i)∧w.cell? ⟨q.P,2,none⟩=some (.bool bad)∧w.cell? ⟨q.P,3,none⟩=some (.bool lost)∧w.cell? ⟨q.P,4,none⟩=some q.T∧(∀ k,w.frozen? ⟨q.P,k,none⟩=false):=by
 refine ⟨?_,?_,?_,?_,?_,fun k=>unfrozen_of_block h.1 k⟩ <;> (rw [cell_of_block h.1]; rfl)
theorem ParAt.word {q:Ps} {w:World} {i:Nat} {bad lost:Bool} (h:ParAt q w i bad lost):∃ a cap,q.V = .slice a q.n cap∧q.n≤2000:=by
 obtain ⟨a,cap,hv,hn,_⟩:=h.2.2.1
 exact ⟨a,cap,hv,hn⟩
set_option maxHeartbeats 1600000 in
theorem is_any (q:Ps) (w:World) (i:Nat) (bad lost:Bool) (s:ByteArray) (h:ParAt q w i bad lost) :
  Calls Tryz.prog 90 #[.pointer (some ⟨q.P,0,none⟩),.string s] w fun r w'=>Below w.heap.size w w'∧∃ b:Bool,r = .returned (.bool b)∧(b=true→bad=false∧i<q.n):=by
 obtain ⟨c0,c1,c2,-,-,-⟩:=h.cells
 obtain ⟨a,cap,hV,hn,hc⟩:=h.2.2.1
 rw [hV] at c0
 have HH:=(show Hid (_∧_) from ⟨h,hV⟩)
 clear h hV
 cases bad with
 | true =>
  go_enter Tryz.func90,Tryz.ntmps90
  go_wp2
  go_quiet (fail)
  go_wp2
  go_ret
  exact ⟨below_drewN (Below.refl _ _) _,_,rfl,fun h=>by cases h⟩
 | false =>
  by_cases hi:i<q.n
  ·obtain ⟨b,off,k,t,z,l,rfl,hb,hlt,d0,d1,d2,d3,r1,r2⟩:=hc i hi
   clear hc d2 d3
   have hi':((i:Nat):Int)<((q.n:Nat):Int):=by omega
   rcases Bool.eq_false_or_eq_true (k == 2) with hk | hk
   ·rcases Bool.eq_false_or_eq_true (t.toList == s.toList) with ht | ht
    ·go_enter Tryz.func90,Tryz.ntmps90
     go_wp2
     go_quiet (fail)
     go_wp2
     go_ret
     exact ⟨below_drewN (Below.refl _ _) _,_,rfl,fun _=>(by simpa using hi)⟩
    ·go_enter Tryz.func90,Tryz.ntmps90
     go_wp2
     go_quiet (fail)
     go_wp2
     go_ret
     exact ⟨below_drewN (Below.refl _ _) _,_,rfl,fun _=>(by simpa using hi)⟩
   ·go_enter Tryz.func90,Tryz.ntmps90
    go_wp2
    go_quiet (fail)
    go_wp2
    go_ret
    exact ⟨below_drewN (Below.refl _ _) _,_,rfl,fun _=>(by simpa using hi)⟩
  ·clear hc
   have hi':¬ ((i:Nat):Int)<((q.n:Nat):Int):=by omega
   go_enter Tryz.func90,Tryz.ntmps90
   go_wp2
   go_quiet (fail)
   go_wp2
   go_ret
   exact ⟨below_drewN (Below.refl _ _) _,_,rfl,fun h=>by simp at h⟩
set_option maxHeartbeats 1600000 in
theorem kind_any (q:Ps) (w:World) (i:Nat) (bad lost:Bool) (s:Int) (h:ParAt q w i bad lost) :
  Calls Tryz.prog 67 #[.pointer (some ⟨q.P,0,none⟩),.int .i64 s] w fun r w'=>Below w.heap.size w w'∧∃ b:Bool,r = .returned (.bool b)∧(b=true→bad=false∧i<q.n):=by
 obtain ⟨c0,c1,c2,-,-,-⟩:=h.cells
 obtain ⟨a,cap,hV,hn,hc⟩:=h.2.2.1
 rw [hV] at c0
 have HH:=(show Hid (_∧_) from ⟨h,hV⟩)
 clear h hV
 cases bad with
 | true =>
  go_enter Tryz.func67,Tryz.ntmps67
  go_wp2
  go_quiet (fail)
  go_wp2
  go_ret
  exact ⟨below_drewN (Below.refl _ _) _,_,rfl,fun h=>by cases h⟩
 | false =>
  by_cases hi:i<q.n
  ·obtain ⟨b,off,k,t,z,l,rfl,hb,hlt,d0,d1,d2,d3,r1,r2⟩:=hc i hi
   clear hc d1 d2 d3
   have hi':((i:Nat):Int)<((q.n:Nat):Int):=by omega
   go_enter Tryz.func67,Tryz.ntmps67
   go_wp2
   go_quiet (fail)
   go_wp2
   go_ret
   exact ⟨below_drewN (Below.refl _ _) _,_,rfl,fun _=>(by simpa using hi)⟩
  ·clear hc
   have hi':¬ ((i:Nat):Int)<((q.n:Nat):Int):=by omega
   go_enter Tryz.func67,Tryz.ntmps67
   go_wp2
   go_quiet (fail)
   go_wp2
   go_ret
   exact ⟨below_drewN (Below.refl _ _) _,_,rfl,fun h=>by simp at h⟩
theorem kb_cell (P i:Nat) (u:Value) (w:World):KB (· = P) w (w.setCell ⟨P,i,none⟩ u):=KB.setCell (X:=(· = P)) (KB.refl _ w) rfl u
def MayP (q:Ps) (w w':World) (i:Nat) (bad lost b:Bool):Prop:=KB (· = q.P) w w'∧((b=false∧ParAt q w' i bad lost)∨(b=true∧bad=false∧i<q.n∧ParAt q w' (i+1) false lost))
set_option maxHeartbeats 1600000 in
theorem may_any (q:Ps) (w:World) (i:Nat) (bad lost:Bool) (s:ByteArray) (h:ParAt q w i bad lost) :
  Calls Tryz.prog 68 #[.pointer (some ⟨q.P,0,none⟩),.string s] w fun r w'=>∃ b:Bool,r = .returned (.bool b)∧MayP q w w' i bad lost b:=by
 have HH:=(show Hid (_∧True) from ⟨h,trivial⟩)
 clear h
 go_enter Tryz.func68,Tryz.ntmps68
 go_wp2_with fail
 refine (is_any q w i bad lost s HH.out.1).mono ?_
 rintro r w1 ⟨b1,b,rfl,hb⟩
 have h1:=HH.out.1.below b1
 have B1:=(show Hid (_∧_) from ⟨b1,h1⟩)
 cases b with
 | false =>
  clear hb b1 h1
  go_wp2_with fail
  go_ret
  exact ⟨_,rfl,⟨KB.of_below B1.out.1,Or.inl ⟨rfl,B1.out.2⟩⟩⟩
 | true =>
  obtain ⟨rfl,hi⟩:=hb rfl
  obtain ⟨-,c1,-,-,-,f0⟩:=h1.cells
  have f1:=f0 1
  have hi9:i<2000:=by obtain ⟨_,_,_,h9⟩:=h1.word; omega
  clear hb b1 h1 f0
  go_wp2_with fail
  go_ret
  have hk:KB (· = q.P) w1 (w1.setCell ⟨q.P,1,none⟩ (.int .i64 ((i:Int)+1))):=kb_cell _ _ _ _
  refine ⟨_,rfl,⟨(KB.of_below B1.out.1).trans hk,Or.inr ⟨rfl,rfl,hi,B1.out.2.on hk ?_ hi⟩⟩⟩
  exact block_setCell (i:=1) B1.out.2.1 _
theorem take_any (q:Ps) (w:World) (i:Nat) (bad lost:Bool) (s:ByteArray) (h:ParAt q w i bad lost) :
  Calls Tryz.prog 40 #[.pointer (some ⟨q.P,0,none⟩),.string s] w fun r w'=>r = .returned (.tuple #[])∧PAft q w w' i bad:=by
 have HH:=(show Hid (_∧True) from ⟨h,trivial⟩)
 clear h
 go_enter Tryz.func40,Tryz.ntmps40
 go_wp2_with fail
 refine (may_any q w i bad lost s HH.out.1).mono ?_
 rintro r w1 ⟨b,rfl,⟨k1,hb⟩⟩
 have K1:=(show Hid _ from k1)
 rcases hb with ⟨rfl,h1⟩ | ⟨rfl,hbd,hi,h1⟩
 ·have H1:=(show Hid (ParAt q w1 i bad lost) from h1)
  obtain ⟨-,-,c2,-,-,f0⟩:=h1.cells
  have f2:=f0 2
  clear k1 h1 f0
  go_wp2_with fail
  go_end0
  have hk:KB (· = q.P) w1 (w1.setCell ⟨q.P,2,none⟩ (.bool true)):=kb_cell _ _ _ _
  exact ⟨rfl,K1.out.trans hk,i,true,lost,Nat.le_refl _,fun _=>rfl,H1.out.on hk (block_setCell (i:=2) H1.out.1 _) H1.out.2.1⟩
 ·have H1:=(show Hid (ParAt q w1 (i+1) false lost) from h1)
  have hbf:bad=true→false=true:=fun e=>by rw [hbd] at e; exact e
  clear hbd
  clear k1 h1
  go_wp2_with fail
  go_end0
  exact ⟨rfl,K1.out,i+1,false,lost,Nat.le_succ _,hbf,H1.out⟩
theorem name_any (q:Ps) (w:World) (i:Nat) (bad lost:Bool) (h:ParAt q w i bad lost) :
  Calls Tryz.prog 38 #[.pointer (some ⟨q.P,0,none⟩)] w fun r w'=>∃ t:ByteArray,r = .returned (.string t)∧t.size≤1048576∧AftS q w w' i bad:=by
 have HH:=(show Hid (_∧True) from ⟨h,trivial⟩)
 clear h
 go_enter Tryz.func38,Tryz.ntmps38
 go_wp2_with fail
 refine (kind_any q w i bad lost _ HH.out.1).mono ?_
 rintro r w1 ⟨b1,b,rfl,hb⟩
 have h1:=HH.out.1.below b1
 have B1:=(show Hid (_∧_) from ⟨b1,h1⟩)
 cases b with
 | false =>
  obtain ⟨-,-,c2,-,-,f0⟩:=h1.cells
  have f2:=f0 2
  clear hb b1 h1 f0
  go_wp2_with fail
  go_ret
  have hk:KB (· = q.P) w1 (w1.setCell ⟨q.P,2,none⟩ (.bool true)):=kb_cell _ _ _ _
  exact ⟨_,rfl,by decide,(KB.of_below B1.out.1).trans hk,i,true,lost,Nat.le_refl _,fun _=>rfl,.inr rfl,B1.out.2.on hk (block_setCell (i:=2) B1.out.2.1 _) B1.out.2.2.1⟩
 | true =>
  obtain ⟨rfl,hi⟩:=hb rfl
  have hk:KB (· = q.P) w1 (w1.setCell ⟨q.P,1,none⟩ (.int .i64 ((i:Int)+1))):=kb_cell _ _ _ _
  have h2:ParAt q (w1.setCell ⟨q.P,1,none⟩ (.int .i64 ((i:Int)+1))) (i+1) false lost:=h1.on hk (block_setCell (i:=1) h1.1 _) hi
  obtain ⟨-,c1,-,-,-,f0⟩:=h1.cells
  have f1:=f0 1
  have hi9:i<2000:=by obtain ⟨_,_,_,h9⟩:=h1.word; omega
  obtain ⟨W2,hW2⟩:∃ W2,W2=w1.setCell ⟨q.P,1,none⟩ (.int .i64 ((i:Int)+1)):=⟨_,rfl⟩
  rw [← hW2] at hk h2
  obtain ⟨d0,d1,-,-,-,-⟩:=h2.cells
  obtain ⟨a,cap,hV,hn,hc⟩:=h2.2.2.1
  obtain ⟨b,off,k,t,z,l,rfl,hb,hlt,e0,e1,e2,e3,r1,r2⟩:=hc i hi
  rw [hV] at d0
  have HV:=(show Hid (_∧_∧_∧_∧_) from ⟨hV,hW2,hk,h2,r1⟩)
  have hin:((i:Nat):Int)<((q.n:Nat):Int):=by omega
  have hsub:((((i+1:Nat)):Int) - 1)=((i:Nat):Int):=(by omega)
  clear hb b1 h1 f0 hc e0 e2 e3 hV hW2 hk h2 r1 r2
  go_upto_region 5 with fail
  rw [← HV.out.2.1]
  go_quiet (fail)
  go_wp2
  go_ret
  exact ⟨_,rfl,HV.out.2.2.2.2,((KB.of_below B1.out.1).trans HV.out.2.2.1).trans (KB.of_below (below_drewN (Below.refl _ _) _)),i+1,false,lost,Nat.le_succ _,fun e=>e,.inl (Nat.lt_succ_self _),HV.out.2.2.2.1.below (below_drewN (Below.refl _ _) _)⟩
end Go.Proofs.YtljdgmfcgkimoaaGreatDoor

namespace Go.Proofs.YtljdgmfcgkimoaaGreatDoor
open Go.RowKit Go.Joins
set_option maxRecDepth 100000
theorem least_is {p:Nat→Prop} (h:∃ m,p m):∃ m,p m∧∀ k,p k→m≤k:=by
 obtain ⟨n,hn⟩:=h
 induction n using Nat.strongRecOn with
 | ind n ih =>
  by_cases hk:∃ k,k<n∧p k
  ·obtain ⟨k,hk,hp⟩:=hk
   exact ih k hk hp
  ·refine ⟨n,hn,fun k hp => ?_⟩
   by_cases hkn:k<n
   ·exact absurd ⟨k,hkn,hp⟩ hk
   ·omega
open Classical in
noncomputable def leastM (p:Nat→Prop):Nat:=if h:∃ m,p m then Classical.choose (least_is h) else 0
theorem leastM_spec {p:Nat→Prop} (h:∃ m,p m):p (leastM p):=by
 unfold leastM; rw [dif_pos h]; exact (Classical.choose_spec (least_is h)).1
theorem leastM_le {p:Nat→Prop} {m:Nat} (h:p m):leastM p≤m:=by
 unfold leastM; rw [dif_pos ⟨m,h⟩]; exact (Classical.choose_spec (least_is ⟨m,h⟩)).2 m h
mutual
def Ex.count:Ex→Nat
 | .mk _ _ _ ks=>1+Ex.countL ks
def Ex.countL:List Ex→Nat
 | []=>0
 | e :: r=>e.count+Ex.countL r
end
def NodeAt (w:World) (d:Nat) (p:Addr) (e:Ex):Prop :=
 ∃ b o kv,p=⟨b,o,none⟩∧Pl w b∧w.cell? ⟨b,o,none⟩=some (.int .i64 e.kind)∧w.cell? ⟨b,o+1,none⟩=some (.int .i64 e.n)∧w.cell? ⟨b,o+2,none⟩=some (.string e.text)∧w.cell? ⟨b,o+3,none⟩=some kv ∧
  inI64 e.kind∧inI64 e.n∧e.text.size≤maxLen∧KidsAt w (Pl w) d kv e.kids
theorem Pl.lt {w:World} {b:Nat} (h:Pl w b):b<w.heap.size:=by
 obtain ⟨cs,t,hc⟩:=h
 exact (Array.getElem?_eq_some_iff.1 hc).1
def RowOf (w:World) (p:Addr) (b o:Nat):Prop:=∃ l c,w.cell? ⟨p.block,p.off+3,none⟩=some (.slice (some ⟨b,o,none⟩) l c)
theorem RowOf.one {w:World} {p:Addr} {b o b' o':Nat} (h:RowOf w p b o) (h':RowOf w p b' o'):b=b'∧o=o':=by
 obtain ⟨l,c,h⟩:=h
 obtain ⟨l',c',h'⟩:=h'
 rw [h] at h'
 simp at h'
 exact h'.1
theorem NodeAt.kid {w:World} {d:Nat} {p:Addr} {e k:Ex} {i:Nat} (h:NodeAt w d p e) (hk:e.kids[i]? = some k):∃ d' b o,d=d'+1∧RowOf w p b o∧NodeAt w d' ⟨b,o+i * 4,none⟩ k:=by
 obtain ⟨b,o,kv,rfl,hp,c0,c1,c2,c3,r1,r2,r3,hks⟩:=h
 cases d with
 | zero=>exact hks.elim
 | succ d =>
  obtain ⟨a,cap,rfl,hl,hc⟩:=hks
  obtain ⟨b',o',kv',rfl,hb',_,k0,k1,k2,k3,s1,s2,s3,hkk⟩:=hc i k hk
  exact ⟨d,b',o',rfl,⟨_,_,c3⟩,b',o'+i * 4,kv',rfl,hb',k0,k1,k2,k3,s1,s2,s3,hkk⟩
def headSame (e f:Ex):Prop:=e.kind=f.kind∧e.n=f.n∧e.text=f.text∧e.kids.length=f.kids.length
theorem NodeAt.kidsVal {w:World} {d:Nat} {p:Addr} {e:Ex} (h:NodeAt w d p e):∃ a c,w.cell? ⟨p.block,p.off+3,none⟩=some (.slice a e.kids.length c)∧(0<e.kids.length→∃ b o,a=some ⟨b,o,none⟩):=by
 obtain ⟨b,o,kv,rfl,hp,c0,c1,c2,c3,r1,r2,r3,hks⟩:=h
 cases d with
 | zero=>exact hks.elim
 | succ d =>
  obtain ⟨a,cap,rfl,hl,hc⟩:=hks
  refine ⟨a,cap,c3,fun h0 => ?_⟩
  obtain ⟨b',o',_,ha,_⟩:=hc 0 _ (List.getElem?_eq_getElem h0)
  exact ⟨b',o',ha⟩
theorem NodeAt.head {w:World} {d d':Nat} {p:Addr} {e e':Ex} (h:NodeAt w d p e) (h':NodeAt w d' p e'):headSame e e':=by
 obtain ⟨a,c,hv,_⟩:=h.kidsVal
 obtain ⟨a',c',hv',_⟩:=h'.kidsVal
 rw [hv] at hv'
 obtain ⟨b,o,kv,rfl,hp,c0,c1,c2,c3,r1,r2,r3,hks⟩:=h
 obtain ⟨b',o',kv',hpp,hp',k0,k1,k2,k3,s1,s2,s3,hks'⟩:=h'
 cases hpp
 rw [c0] at k0
 rw [c1] at k1
 rw [c2] at k2
 simp at k0 k1 k2 hv'
 exact ⟨k0,k1,k2,hv'.2.1⟩
theorem NodeAt.below {w w':World} {d:Nat} {p:Addr} {e:Ex} (h:NodeAt w d p e) (hb:Below w.heap.size w w'):NodeAt w' d p e:=by
 obtain ⟨b,o,kv,rfl,hp,c0,c1,c2,c3,r1,r2,r3,hks⟩:=h
 have hblk:=hb.block b hp.lt
 exact ⟨b,o,kv,rfl,hp.below hb,(World.cell?_of_block hblk).trans c0,(World.cell?_of_block hblk).trans c1,(World.cell?_of_block hblk).trans c2,(World.cell?_of_block hblk).trans c3,r1,r2,r3,hks.belowPl hb⟩
theorem NodeAt.count {w:World}:∀ {d d':Nat} {p:Addr} {e e':Ex},NodeAt w d p e→NodeAt w d' p e'→e=e':=by
 intro d
 induction d with
 | zero=>intro d' p e e' h _; obtain ⟨b,o,kv,rfl,hp,c0,c1,c2,c3,r1,r2,r3,hks⟩:=h; exact hks.elim
 | succ d ih =>
  intro d' p e e' h h'
  obtain ⟨h1,h2,h3,h4⟩:=h.head h'
  have hks:e.kids=e'.kids:=by
   apply List.ext_getElem h4
   intro i hi hi'
   obtain ⟨d1,b,o,hd,hr,hn⟩:=h.kid (List.getElem?_eq_getElem hi)
   obtain ⟨d2,b',o',hd',hr',hn'⟩:=h'.kid (List.getElem?_eq_getElem hi')
   obtain ⟨rfl,rfl⟩:=hr.one hr'
   obtain rfl:d=d1:=by omega
   exact ih hn hn'
  cases e
  cases e'
  simp only [Ex.kind,Ex.n,Ex.text,Ex.kids] at h1 h2 h3 hks
  rw [h1,h2,h3,hks]
end Go.Proofs.YtljdgmfcgkimoaaGreatDoor

namespace Go.Proofs.YtljdgmfcgkimoaaGreatDoor
open Go.RowKit Go.Joins
set_option maxRecDepth 100000
theorem PtMap.kept {Kd:World→Value→Prop} {w w':World} {b:Nat} {f:Value→Option Value} (h:PtMap Kd w b f) (hb:w'.heap[b]? = w.heap[b]?) (hg:∀ v,Kd w v→Kd w' v):PtMap Kd w' b f:=by
 obtain ⟨es,clock,h1,h2,h3⟩:=h
 exact ⟨es,clock,hb.trans h1,fun e he=>hg _ (h2 e he),h3⟩
theorem KeysGo.sub {P:Program} {k:TypeId} {Kd Kd':World→Value→Prop} (K:KeysGo P k Kd) (h:∀ w v,Kd' w v→Kd w v) (hg:∀ (w w':World) (v:Value),(∀ b,Pl w b→Pl w' b)→Kd' w v→Kd' w' v):KeysGo P k Kd' :=
 ⟨fun w em v hv=>K.check w em v (h w v hv),fun w v hv=>K.same w v (h w v hv),fun w u v hu hv=>K.other w u v (h w u hu) (h w v hv),fun w u v hu hv=>K.slow w u v (h w u hu) (h w v hv),fun w v hv=>K.bits w v (h w v hv),hg⟩
theorem Below.grown {B:Nat} {a w w':World} {row:Option Nat} (h:Below B a w) (hg:w.grownBy w' row) (hr:∀ k,row=some k→B≤k) (hB:B≤w.heap.size):Below B a w' :=
 h.trans ⟨hg.os,hg.tape,hg.output,hg.size,fun k hk=>hg.block k (by omega) (fun e=>by have:=hr k e.symm; omega)⟩
theorem drewN_below {B:Nat} {a w:World} (h:Below B a w) (n:Nat):Below B a (w.drewN n):=h.trans ⟨rfl,rfl,rfl,Nat.le_refl _,fun _ _=>rfl⟩
theorem Pl.more {w:World} {b:Nat} (h:Pl w b) (o:Obj):Pl (w.alloc o) b:=by
 obtain ⟨cs,t,hc⟩:=h
 exact ⟨cs,t,(Below.heap_alloc _ _ _ (Array.getElem?_eq_some_iff.1 hc).1).trans hc⟩
end Go.Proofs.YtljdgmfcgkimoaaGreatDoor
