/-
  Proofs.
-/
import Derived.Test.YtmmadoabejgffaaGreatDoorA
import Derived.Maps.AppendAt
import Derived.Test.YtmmadoabejgffaaGreatDoorC
import Derived.Test.YtmmadoabejgffaaGreatDoorB
import Derived.BigRegion
namespace Go.Proofs.YtmmadoabejgffaaGreatDoor
open Go.RowKit Go.Joins
set_option maxRecDepth 100000
set_option maxHeartbeats 51200000
theorem nil_or_last {α : Type} (L:List α):L=[]∨∃ L' t,L=L' ++ [t]:=by
 rcases List.eq_nil_or_concat L with h | ⟨L',t,h⟩
 ·exact Or.inl h
 ·exact Or.inr ⟨L',t,by rw [h,List.concat_eq_append]⟩
theorem Below.grown {B:Nat} {a w w':World} {row:Option Nat} (h:Below B a w) (hg:w.grownBy w' row) (hr:∀ k,row=some k→B≤k) (hB:B≤w.heap.size):Below B a w' :=
 h.trans ⟨hg.os,hg.tape,hg.output,hg.size,fun k hk=>hg.block k (by omega) (fun e=>by have:=hr k e.symm; omega)⟩
theorem drewN_below {B:Nat} {a w:World} (h:Below B a w) (n:Nat):Below B a (w.drewN n):=h.trans ⟨rfl,rfl,rfl,Nat.le_refl _,fun _ _=>rfl⟩
structure Sn where
 seq:Int
 dst:Int
 body:ByteArray
structure Se where
 low:Int
 ids:List Int
structure Lk where
 id:Int
 next:Int
 out:List Sn
 seen:List Se
def Sn.bulk (s:Sn):Nat:=s.body.size
def Se.bulk (s:Se):Nat:=s.ids.length
def SentsAt (w:World) (S:Nat→Prop) (v:Value) (es:List Sn):Prop :=
 ∃ a cap,v = .slice a es.length cap∧es.length≤maxLen∧∀ i e,es[i]? = some e→∃ b off,a=some ⟨b,off,none⟩∧S b∧b<w.heap.size ∧
   w.cell? ⟨b,off+i * 3,none⟩=some (.int .i64 e.seq)∧w.cell? ⟨b,off+i * 3+1,none⟩=some (.int .i64 e.dst)∧w.cell? ⟨b,off+i * 3+2,none⟩=some (.string e.body) ∧
   inI64 e.seq∧inI64 e.dst∧e.body.size≤maxLen
def SeensAt (w:World) (S:Nat→Prop) (v:Value) (es:List Se):Prop :=
 ∃ a cap,v = .slice a es.length cap∧es.length≤maxLen∧∀ i e,es[i]? = some e→∃ b off kv,a=some ⟨b,off,none⟩∧S b∧b<w.heap.size ∧
   w.cell? ⟨b,off+i * 2,none⟩=some (.int .i64 e.low)∧w.cell? ⟨b,off+i * 2+1,none⟩=some kv∧inI64 e.low∧IntsAt w S kv e.ids
def LkAt (w:World) (S:Nat→Prop) (v:Value) (l:Lk):Prop :=
 ∃ ov sv,v = .agg #[.int .i64 l.id,.int .i64 l.next,ov,sv]∧inI64 l.id∧inI64 l.next∧SentsAt w S ov l.out∧SeensAt w S sv l.seen
theorem SentsAt.kept {w w':World} {S S':Nat→Prop} (hw:∀ b,S b→b<w.heap.size→w'.heap[b]? = w.heap[b]?) (hsz:w.heap.size≤w'.heap.size) (hS:∀ b,S b→b<w.heap.size→S' b) {v:Value} {es:List Sn} (h:SentsAt w S v es):SentsAt w' S' v es:=by
 obtain ⟨a,cap,hv,hl,hc⟩:=h
 refine ⟨a,cap,hv,hl,fun i e he => ?_⟩
 obtain ⟨b,off,ha,hb,hlt,c0,c1,c2,r⟩:=hc i e he
 have hcell:∀ o,w'.cell? ⟨b,o,none⟩=w.cell? ⟨b,o,none⟩:=fun o=>World.cell?_of_block (hw b hb hlt)
 exact ⟨b,off,ha,hS b hb hlt,Nat.lt_of_lt_of_le hlt hsz,(hcell _).trans c0,(hcell _).trans c1,(hcell _).trans c2,r⟩
theorem SeensAt.kept {w w':World} {S S':Nat→Prop} (hw:∀ b,S b→b<w.heap.size→w'.heap[b]? = w.heap[b]?) (hsz:w.heap.size≤w'.heap.size) (hS:∀ b,S b→b<w.heap.size→S' b) {v:Value} {es:List Se} (h:SeensAt w S v es):SeensAt w' S' v es:=by
 obtain ⟨a,cap,hv,hl,hc⟩:=h
 refine ⟨a,cap,hv,hl,fun i e he => ?_⟩
 obtain ⟨b,off,kv,ha,hb,hlt,c0,c1,r,hk⟩:=hc i e he
 have hcell:∀ o,w'.cell? ⟨b,o,none⟩=w.cell? ⟨b,o,none⟩:=fun o=>World.cell?_of_block (hw b hb hlt)
 exact ⟨b,off,kv,ha,hS b hb hlt,Nat.lt_of_lt_of_le hlt hsz,(hcell _).trans c0,(hcell _).trans c1,r,hk.kept hw hsz hS⟩
theorem LkAt.kept {w w':World} {S S':Nat→Prop} (hw:∀ b,S b→b<w.heap.size→w'.heap[b]? = w.heap[b]?) (hsz:w.heap.size≤w'.heap.size) (hS:∀ b,S b→b<w.heap.size→S' b) {v:Value} {l:Lk} (h:LkAt w S v l):LkAt w' S' v l:=by
 obtain ⟨ov,sv,hv,h1,h2,h3,h4⟩:=h
 exact ⟨ov,sv,hv,h1,h2,h3.kept hw hsz hS,h4.kept hw hsz hS⟩
theorem SentsAt.below {w w':World} {S:Nat→Prop} {v:Value} {es:List Sn} (h:SentsAt w S v es) (hb:Below w.heap.size w w'):SentsAt w' S v es :=
 h.kept (fun b _ hlt=>hb.block b hlt) hb.size (fun _ h _=>h)
theorem SeensAt.below {w w':World} {S:Nat→Prop} {v:Value} {es:List Se} (h:SeensAt w S v es) (hb:Below w.heap.size w w'):SeensAt w' S v es :=
 h.kept (fun b _ hlt=>hb.block b hlt) hb.size (fun _ h _=>h)
theorem LkAt.below {w w':World} {S:Nat→Prop} {v:Value} {l:Lk} (h:LkAt w S v l) (hb:Below w.heap.size w w'):LkAt w' S v l :=
 h.kept (fun b _ hlt=>hb.block b hlt) hb.size (fun _ h _=>h)
theorem SentsAt.form {w:World} {S:Nat→Prop} {v:Value} {es:List Sn} (h:SentsAt w S v es):∃ a cap,v = .slice a es.length cap:=by
 obtain ⟨a,cap,hv,_⟩:=h; exact ⟨a,cap,hv⟩
theorem SeensAt.form {w:World} {S:Nat→Prop} {v:Value} {es:List Se} (h:SeensAt w S v es):∃ a cap,v = .slice a es.length cap:=by
 obtain ⟨a,cap,hv,_⟩:=h; exact ⟨a,cap,hv⟩
theorem LkAt.form {w:World} {S:Nat→Prop} {v:Value} {l:Lk} (h:LkAt w S v l):∃ oa oc sa sc,v = .agg #[.int .i64 l.id,.int .i64 l.next,.slice oa l.out.length oc,.slice sa l.seen.length sc]∧SentsAt w S (.slice oa l.out.length oc) l.out∧SeensAt w S (.slice sa l.seen.length sc) l.seen:=by
 obtain ⟨ov,sv,rfl,_,_,h3,h4⟩:=h
 obtain ⟨oa,oc,rfl⟩:=h3.form
 obtain ⟨sa,sc,rfl⟩:=h4.form
 exact ⟨oa,oc,sa,sc,rfl,h3,h4⟩
theorem SentsAt.len {w:World} {S:Nat→Prop} {v:Value} {es:List Sn} (h:SentsAt w S v es):es.length≤maxLen:=by
 obtain ⟨a,cap,_,hl,_⟩:=h; exact hl
theorem SeensAt.len {w:World} {S:Nat→Prop} {v:Value} {es:List Se} (h:SeensAt w S v es):es.length≤maxLen:=by
 obtain ⟨a,cap,_,hl,_⟩:=h; exact hl
def preO (es:List Sn) (k:Nat):Nat:=((es.take k).map Sn.bulk).sum
def bulkO (es:List Sn):Nat:=es.length+preO es es.length
theorem preO_succ {es:List Sn} {k:Nat} {e:Sn} (h:es[k]? = some e):preO es (k+1)=preO es k+e.bulk:=by
 unfold preO
 have hk:=(List.getElem?_eq_some_iff.1 h).1
 rw [List.take_succ_eq_append_getElem hk,List.map_append,List.sum_append]
 rw [(List.getElem?_eq_some_iff.1 h).2]
 simp
theorem preO_le (es:List Sn) (k:Nat):preO es k≤preO es es.length:=by
 unfold preO
 rw [List.take_length]
 conv=>rhs; rw [← List.take_append_drop k es,List.map_append,List.sum_append]
 omega
theorem bulkO_at {es:List Sn} {i:Nat} {e:Sn} (h:es[i]? = some e):es.length+e.bulk≤bulkO es:=by
 have h1:=preO_succ h
 have h2:=preO_le es (i+1)
 unfold bulkO
 omega
def preN (es:List Se) (k:Nat):Nat:=((es.take k).map Se.bulk).sum
def bulkN (es:List Se):Nat:=es.length+preN es es.length
theorem preN_succ {es:List Se} {k:Nat} {e:Se} (h:es[k]? = some e):preN es (k+1)=preN es k+e.bulk:=by
 unfold preN
 have hk:=(List.getElem?_eq_some_iff.1 h).1
 rw [List.take_succ_eq_append_getElem hk,List.map_append,List.sum_append]
 rw [(List.getElem?_eq_some_iff.1 h).2]
 simp
theorem preN_le (es:List Se) (k:Nat):preN es k≤preN es es.length:=by
 unfold preN
 rw [List.take_length]
 conv=>rhs; rw [← List.take_append_drop k es,List.map_append,List.sum_append]
 omega
theorem bulkN_at {es:List Se} {i:Nat} {e:Se} (h:es[i]? = some e):es.length+e.bulk≤bulkN es:=by
 have h1:=preN_succ h
 have h2:=preN_le es (i+1)
 unfold bulkN
 omega
def Lk.bulk (l:Lk):Nat:=bulkO l.out+bulkN l.seen
theorem infoSent:(Tryz.prog.info? 93).map (fun i=>(i.zero,i.size,i.bytes))=some (some (.agg #[.int .i64 0,.int .i64 0,.string ByteArray.empty]),3,32):=by kernel_rfl
theorem infoSeen:(Tryz.prog.info? 147).map (fun i=>(i.zero,i.size,i.bytes))=some (some (.agg #[.int .i64 0,.slice none 0 0]),2,32):=by kernel_rfl
def snCells (s:Sn):List Value:=[.int .i64 s.seq,.int .i64 s.dst,.string s.body]
def SnOk (s:Sn):Prop:=inI64 s.seq∧inI64 s.dst∧s.body.size≤maxLen
def SnOwn (W:World) (B:Nat) (v:Value) (ns:List Sn):Prop:=W.ownsRow B 93 3 v ns.length (ns.flatMap snCells)∧∀ s ∈ ns,SnOk s
def seCells (r:Se×Value):List Value:=[.int .i64 r.1.low,r.2]
def SeOk (s:Se):Prop:=inI64 s.low∧∀ z ∈ s.ids,inI64 z
structure SeOwn (W:World) (B:Nat) (cv:Value) (rs:List (Se×Value)):Prop where
 cells:W.ownsRow B 147 2 cv rs.length (rs.flatMap seCells)
 kids:∀ r ∈ rs,W.ownsRow B 3 1 r.2 r.1.ids.length (intVs r.1.ids)∧SeOk r.1
 apart:(rs.map Prod.snd).Pairwise AptV
def SeBlk (cv:Value) (rs:List (Se×Value)) (b:Nat):Prop:=cv.ownBlock=some b∨∃ r ∈ rs,r.2.ownBlock=some b
structure LkOwn (W:World) (B:Nat) (v:Value) (l:Lk) (ov sv:Value) (rs:List (Se×Value)):Prop where
 val:v = .agg #[.int .i64 l.id,.int .i64 l.next,ov,sv]
 fits:inI64 l.id∧inI64 l.next
 out:SnOwn W B ov l.out
 seen:SeOwn W B sv rs
 is:rs.map Prod.fst=l.seen
def LkBlk (ov sv:Value) (rs:List (Se×Value)) (b:Nat):Prop:=ov.ownBlock=some b∨SeBlk sv rs b
theorem SnOwn.moved {W W':World} {B:Nat} {v:Value} {ns:List Sn} (h:SnOwn W B v ns) (hb:∀ b,v.ownBlock=some b→W'.heap[b]? = W.heap[b]?):SnOwn W' B v ns:=⟨own_moved h.1 hb,h.2⟩
theorem SeOwn.moved {W W':World} {B:Nat} {cv:Value} {rs:List (Se×Value)} (h:SeOwn W B cv rs) (hb:∀ b,SeBlk cv rs b→W'.heap[b]? = W.heap[b]?):SeOwn W' B cv rs :=
 ⟨own_moved h.cells (fun g hg=>hb g (.inl hg)),fun r hr=>⟨own_moved (h.kids r hr).1 (fun g hg=>hb g (.inr ⟨r,hr,hg⟩)),(h.kids r hr).2⟩,h.apart⟩
theorem SeOwn.own {W:World} {B:Nat} {cv:Value} {rs:List (Se×Value)} (h:SeOwn W B cv rs) {b:Nat} (hb:SeBlk cv rs b):B≤b∧b<W.heap.size:=by
 rcases hb with hb | ⟨r,hr,hb⟩
 ·exact ⟨(own_type h.cells b hb).1,own_lt h.cells b hb⟩
 ·exact ⟨(own_type (h.kids r hr).1 b hb).1,own_lt (h.kids r hr).1 b hb⟩
theorem LkOwn.own {W:World} {B:Nat} {v:Value} {l:Lk} {ov sv:Value} {rs:List (Se×Value)} (h:LkOwn W B v l ov sv rs) {b:Nat} (hb:LkBlk ov sv rs b):B≤b∧b<W.heap.size:=by
 rcases hb with hb | hb
 ·exact ⟨(own_type h.out.1 b hb).1,own_lt h.out.1 b hb⟩
 ·exact h.seen.own hb
theorem LkOwn.moved {W W':World} {B:Nat} {v:Value} {l:Lk} {ov sv:Value} {rs:List (Se×Value)} (h:LkOwn W B v l ov sv rs) (hb:∀ b,LkBlk ov sv rs b→W'.heap[b]? = W.heap[b]?):LkOwn W' B v l ov sv rs :=
 ⟨h.val,h.fits,h.out.moved (fun b hg=>hb b (.inl hg)),h.seen.moved (fun b hg=>hb b (.inr hg)),h.is⟩
theorem LkOwn.below {W W':World} {B:Nat} {v:Value} {l:Lk} {ov sv:Value} {rs:List (Se×Value)} (h:LkOwn W B v l ov sv rs) (hb:Below W.heap.size W W'):LkOwn W' B v l ov sv rs :=
 h.moved (fun b ho=>hb.block b (h.own ho).2)
theorem SnOwn.below {W W':World} {B:Nat} {v:Value} {ns:List Sn} (h:SnOwn W B v ns) (hb:Below W.heap.size W W'):SnOwn W' B v ns :=
 h.moved (fun b ho=>hb.block b (own_lt h.1 b ho))
theorem sn_len (ns:List Sn):(ns.flatMap snCells).length=ns.length * 3:=by
 induction ns with
 | nil=>rfl
 | cons a r ih=>rw [List.flatMap_cons,List.length_append,ih,List.length_cons]; simp [snCells]; omega
theorem sn_mid (A D:List Sn) (c:Sn) (i:Nat) (hi:i<3):((A ++ c :: D).flatMap snCells)[A.length * 3+i]? = (snCells c)[i]? := by
 rw [List.flatMap_append,List.flatMap_cons,List.getElem?_append_right (by rw [sn_len]; omega),sn_len,show A.length * 3+i - A.length * 3=i by omega,List.getElem?_append_left (by simp [snCells]; omega)]
theorem se_len (rs:List (Se×Value)):(rs.flatMap seCells).length=rs.length * 2:=by
 induction rs with
 | nil=>rfl
 | cons a r ih=>rw [List.flatMap_cons,List.length_append,ih,List.length_cons]; simp [seCells]; omega
theorem se_mid (A D:List (Se×Value)) (c:Se) (u:Value) (i:Nat) (hi:i<2):((A ++ (c,u) :: D).flatMap seCells)[A.length * 2+i]? = (seCells (c,u))[i]? := by
 rw [List.flatMap_append,List.flatMap_cons,List.getElem?_append_right (by rw [se_len]; omega),se_len,show A.length * 2+i - A.length * 2=i by omega,List.getElem?_append_left (by simp [seCells]; omega)]
theorem SnOwn.at {W:World} {B:Nat} {v:Value} {ns:List Sn} (h:SnOwn W B v ns):SentsAt W (fun b=>B≤b∧Pl W b) v ns:=by
 rcases h.1.2 with ⟨rfl,h0⟩ | ⟨g,cap,cur,rfl,hb,hc,hn,hcm,hs,ht⟩
 ·obtain rfl:ns=[]:=List.length_eq_zero_iff.1 h0
  exact ⟨none,0,rfl,Nat.zero_le _,fun i t h=>by simp at h⟩
 ·refine ⟨some ⟨g,0,none⟩,cap,rfl,by omega,fun i e he => ?_⟩
  have hil:=(List.getElem?_eq_some_iff.1 he).1
  have hsp:ns=ns.take i ++ e :: ns.drop (i+1):=by
   conv=>lhs; rw [← List.take_append_drop i ns,List.drop_eq_getElem_cons hil,(List.getElem?_eq_some_iff.1 he).2]
  have hlt:(ns.take i).length=i:=by rw [List.length_take]; omega
  have hcell:∀ j v,j<3→(snCells e)[j]? = some v→W.cell? ⟨g,i * 3+j,none⟩=some v:=fun j v hj hv=>by
   have:=h.1.cells (g:=g) rfl (i * 3+j) v (by
    have:=sn_mid (ns.take i) (ns.drop (i+1)) e j hj
    rw [hlt,← hsp] at this
    exact this.trans hv)
   rw [addr_addI,Nat.zero_add] at this
   exact this
  have hk:=h.2 e (List.mem_of_getElem? he)
  refine ⟨g,0,rfl,⟨hb,cur,_,hc⟩,(Array.getElem?_eq_some_iff.1 hc).1,?_,?_,?_,hk⟩
  ·rw [Nat.zero_add]; exact hcell 0 _ (by omega) rfl
  ·rw [Nat.zero_add]; exact hcell 1 _ (by omega) rfl
  ·rw [Nat.zero_add]; exact hcell 2 _ (by omega) rfl
theorem SeOwn.at {W:World} {B:Nat} {cv:Value} {rs:List (Se×Value)} (h:SeOwn W B cv rs):SeensAt W (fun b=>B≤b∧Pl W b) cv (rs.map Prod.fst):=by
 rcases h.cells.2 with ⟨rfl,h0⟩ | ⟨g,cap,cur,rfl,hb,hc,hn,hcm,hs,ht⟩
 ·obtain rfl:rs=[]:=List.length_eq_zero_iff.1 h0
  exact ⟨none,0,rfl,Nat.zero_le _,fun i t h=>by simp at h⟩
 ·refine ⟨some ⟨g,0,none⟩,cap,by simp,by simp; omega,fun i e he => ?_⟩
  rw [List.getElem?_map] at he
  obtain ⟨r,hr,rfl⟩:=Option.map_eq_some_iff.1 he
  have hil:=(List.getElem?_eq_some_iff.1 hr).1
  have hsp:rs=rs.take i ++ (r.1,r.2) :: rs.drop (i+1):=by
   conv=>lhs; rw [← List.take_append_drop i rs,List.drop_eq_getElem_cons hil,(List.getElem?_eq_some_iff.1 hr).2]
  have hlt:(rs.take i).length=i:=by rw [List.length_take]; omega
  have hcell:∀ j v,j<2→(seCells (r.1,r.2))[j]? = some v→W.cell? ⟨g,i * 2+j,none⟩=some v:=fun j v hj hv=>by
   have:=h.cells.cells (g:=g) rfl (i * 2+j) v (by
    have:=se_mid (rs.take i) (rs.drop (i+1)) r.1 r.2 j hj
    rw [hlt,← hsp] at this
    exact this.trans hv)
   rw [addr_addI,Nat.zero_add] at this
   exact this
  have hk:=h.kids r (List.mem_of_getElem? hr)
  refine ⟨g,0,r.2,rfl,⟨hb,cur,_,hc⟩,(Array.getElem?_eq_some_iff.1 hc).1,?_,?_,hk.2.1,own_ints hk.1 hk.2.2⟩
  ·rw [Nat.zero_add]; exact hcell 0 _ (by omega) rfl
  ·rw [Nat.zero_add]; exact hcell 1 _ (by omega) rfl
theorem LkOwn.at {W:World} {B:Nat} {v:Value} {l:Lk} {ov sv:Value} {rs:List (Se×Value)} (h:LkOwn W B v l ov sv rs):LkAt W (fun b=>B≤b∧Pl W b) v l :=
 ⟨ov,sv,h.val,h.fits.1,h.fits.2,h.out.at,by have:=h.seen.at; rw [h.is] at this; exact this⟩
structure Ce where
 kind:Int
 n:Int
 pos:Int
 kids:List Int
def CeAt (w:World) (S:Nat→Prop) (v:Value) (e:Ce):Prop :=
 ∃ kv,v = .agg #[.int .i64 e.kind,.int .i64 e.n,.int .i64 e.pos,kv]∧inI64 e.kind∧inI64 e.n∧inI64 e.pos∧IntsAt w S kv e.kids
theorem CeAt.belowM {w w':World} {S:Nat→Prop} {v:Value} {c:Ce} (h:CeAt w S v c) (hb:Below w.heap.size w w'):CeAt w' S v c:=by
 obtain ⟨kv,hv,r1,r2,r3,hk⟩:=h
 exact ⟨kv,hv,r1,r2,r3,hk.below hb⟩
structure Ms where
 kind:Int
 frm:Int
 dst:Int
 id:Int
 want:Int
 cell:Ce
abbrev Ms.row (m:Ms) (kv:Value):Array Value:=#[.int .i64 m.kind,.int .i64 m.frm,.int .i64 m.dst,.int .i64 m.id,.int .i64 m.want,.int .i64 m.cell.kind,.int .i64 m.cell.n,.int .i64 m.cell.pos,kv]
def MsAt (w:World) (S:Nat→Prop) (v:Value) (m:Ms):Prop :=
 ∃ kv,v = .agg (m.row kv)∧(inI64 m.kind∧inI64 m.frm∧inI64 m.dst∧inI64 m.id∧inI64 m.want)∧inI64 m.cell.kind∧inI64 m.cell.n∧inI64 m.cell.pos∧IntsAt w S kv m.cell.kids
theorem MsAt.below {w w':World} {S:Nat→Prop} {v:Value} {m:Ms} (h:MsAt w S v m) (hb:Below w.heap.size w w'):MsAt w' S v m:=by
 obtain ⟨kv,hv,h1,h2,h3,h4,hk⟩:=h
 exact ⟨kv,hv,h1,h2,h3,h4,hk.below hb⟩
theorem MsAt.form {w:World} {S:Nat→Prop} {v:Value} {m:Ms} (h:MsAt w S v m):∃ a c,v = .agg (m.row (.slice a m.cell.kids.length c)):=by
 obtain ⟨kv,hv,_,_,_,_,hk⟩:=h
 obtain ⟨a,c,rfl⟩:=hk.form
 exact ⟨a,c,hv⟩
theorem MsAt.cellAt {w:World} {S:Nat→Prop} {a:Option Addr} {n c:Nat} {m:Ms} (h:MsAt w S (.agg (m.row (.slice a n c))) m):CeAt w S (.agg #[.int .i64 m.cell.kind,.int .i64 m.cell.n,.int .i64 m.cell.pos,.slice a n c]) m.cell:=by
 obtain ⟨kv,hv,_,h2,h3,h4,hk⟩:=h
 have:kv = .slice a n c:=by simp [Ms.row] at hv; exact hv.symm
 subst this
 exact ⟨_,rfl,h2,h3,h4,hk⟩
abbrev Lk.row (l:Lk) (ov sv:Value):Array Value:=#[.int .i64 l.id,.int .i64 l.next,ov,sv]
theorem lbox {W:World} {b:Nat} {l:Lk} {ov sv:Value} {t:TypeId} {fz:Nat×Nat} (h:W.heap[b]? = some (.cells (l.row ov sv) t fz)):W.cell? ⟨b,0,none⟩=some (.int .i64 l.id)∧W.cell? ⟨b,1,none⟩=some (.int .i64 l.next)∧W.cell? ⟨b,2,none⟩=some ov∧W.cell? ⟨b,3,none⟩=some sv :=
 ⟨(cell_of_block h 0).trans rfl,(cell_of_block h 1).trans rfl,(cell_of_block h 2).trans rfl,(cell_of_block h 3).trans rfl⟩
abbrev Sn.row (s:Sn):Array Value:=#[.int .i64 s.seq,.int .i64 s.dst,.string s.body]
abbrev ptr8 (p:Nat):Array Value:=#[.pointer (some ⟨p,0,none⟩),.pointer (some ⟨p,1,none⟩),.pointer (some ⟨p,2,none⟩),.pointer (some ⟨p,3,none⟩),.pointer (some ⟨p,4,none⟩),.pointer (some ⟨p,5,none⟩),.pointer (some ⟨p,6,none⟩),.pointer (some ⟨p,7,none⟩)]
theorem msgFields_any (p:Nat) (w:World) :
  Calls Tryz.prog 185 #[.pointer (some ⟨p,0,none⟩)] w fun e w'=>e = .returned (.slice (some ⟨w.heap.size,0,none⟩) 8 8)∧w'.heap[w.heap.size]? = some (.cells (ptr8 p) 269)∧Below w.heap.size w w':=by
 go_enter Tryz.func185,Tryz.ntmps185
 go_wp2_with fail
 go_region
 go_wp2
 go_ret
 exact ⟨rfl,(MapKept.heap_alloc _ _).1,(Below.refl _ _).drew.alloc (Nat.le_refl _) _⟩
end Go.Proofs.YtmmadoabejgffaaGreatDoor
