/-
  Proofs.
-/
import Derived.Test.YtmmadoabejgffaaGreatDoorB
import Derived.Test.YtmmadoabejgffaaGreatDoorC
import Derived.Test.YtmmadoabejgffaaGreatDoorRows
import Derived.WalkKit
import Derived.Lib.Strings
import Derived.Deep.RegionLaw
import Derived.Shelf.Abstract
import Derived.OrdersHeld
namespace Go.Proofs.YtmmadoabejgffaaGreatDoor
open Go.RowKit Go.Joins Go.Shelf
set_option maxRecDepth 100000
set_option maxHeartbeats 51200000
theorem FAt.one {w:World} {S:Nat→Prop} {v:Value} {d:Dt} (h:FAt w S v d):v.oneCell'=true:=by cases h <;> rfl
theorem FAt.flat {w:World} {S:Nat→Prop} {ad:Addr} {len cap n:Nat} {xs:List (List Dt)} (h:FAt w S (.slice (some ad) len cap) (.row xs)) (hN:∀ (i:Nat) (r:List Dt),xs[i]? = some r→r.length=n) (hn:0<n) :
  ∃ flat:List Value,flat.length=xs.length * n∧(∀ (q:Nat) (u:Value),flat[q]? = some u→w.cell? (ad.add q)=some u∧ad.block<w.heap.size)∧(∀ u ∈ flat,u.oneCell'=true)∧∀ (i j:Nat) (r:List Dt) (d:Dt),xs[i]? = some r→r[j]? = some d→∃ u,flat[i * n+j]? = some u∧FAt w S u d:=by
 cases h with
 | nil a cap=>exact ⟨[],by simp,fun q u h=>by simp at h,fun u h=>by simp at h,fun i j r d h=>by simp at h⟩
 | row b off cap m xs vs hl hS hb hm hc hd =>
  by_cases h0:xs.length=0
  ·obtain rfl:xs=[]:=List.length_eq_zero_iff.1 h0
   exact ⟨[],by simp,fun q u h=>by simp at h,fun u h=>by simp at h,fun i j r d h=>by simp at h⟩
  obtain rfl:m=n:=by
   have hr:=List.getElem?_eq_getElem (show 0<xs.length by omega)
   exact (hm 0 _ hr).symm.trans (hN 0 _ hr)
  have get:∀ q,q<xs.length * m→∃ (r:List Dt) (d:Dt),xs[q / m]? = some r∧r[q % m]? = some d:=by
   intro q hq
   have h1:q / m<xs.length:=Nat.div_lt_of_lt_mul (by rw [Nat.mul_comm]; exact hq)
   have hr:=List.getElem?_eq_getElem h1
   have h2:q % m<(xs[q / m]).length:=by rw [hm _ _ hr]; exact Nat.mod_lt _ hn
   exact ⟨_,_,hr,List.getElem?_eq_getElem h2⟩
  refine ⟨(List.range (xs.length * m)).map (fun q=>vs (q / m) (q % m)),by simp,fun q u hq => ?_,fun u hu => ?_,fun i j r d hr hj => ?_⟩
  ·have hql:q<xs.length * m:=by have:=(List.getElem?_eq_some_iff.1 hq).1; simpa using this
   obtain rfl:vs (q / m) (q % m)=u:=by simpa [hql] using hq
   obtain ⟨r,d,hr,hj⟩:=get q hql
   have:=hc _ _ r d hr hj
   rw [addr_add]
   refine ⟨?_,hb⟩
   rw [show off+q=off+q / m * m+q % m by have:=Nat.div_add_mod q m; rw [Nat.mul_comm] at this; omega]
   exact this
  ·obtain ⟨q,hq,rfl⟩:=List.mem_map.1 hu
   obtain ⟨r,d,hr,hj⟩:=get q (by simpa using hq)
   exact (hd _ _ r d hr hj).one
  ·have hil:=(List.getElem?_eq_some_iff.1 hr).1
   have hjl:j<m:=by have:=(List.getElem?_eq_some_iff.1 hj).1; rw [hm i r hr] at this; exact this
   have h1:=idx_le (n:=m) hil
   have e1:(i * m+j) / m=i:=by rw [Nat.mul_comm,Nat.mul_add_div (by omega),Nat.div_eq_of_lt hjl,Nat.add_zero]
   have e2:(i * m+j) % m=j:=by rw [Nat.mul_comm,Nat.mul_add_mod,Nat.mod_eq_of_lt hjl]
   refine ⟨vs i j,?_,hd i j r d hr hj⟩
   rw [List.getElem?_map,List.getElem?_range (by omega)]
   simp [e1,e2]
def Cloned (w w':World) (S:Nat→Prop) (e:TypeId) (n:Nat) (u:Value) (xs:List (List Dt)):Prop :=
 (u = .slice none 0 0∧xs=[])∨∃ g cap cur,u = .slice (some ⟨g,0,none⟩) xs.length cap∧w.heap.size≤g∧w'.heap[g]? = some (.cells cur e (0,0))∧xs.length≤cap∧cap≤maxLen∧cur.size=cap * n ∧
  ∀ (i j:Nat) (r:List Dt) (d:Dt),xs[i]? = some r→r[j]? = some d→∃ z,cur[i * n+j]? = some z∧FAt w S z d
theorem add_block (a:Addr) (k:Nat):(a.add k).block=a.block:=by unfold Addr.add; split <;> rfl
theorem own_get {k n:Nat} {cur:Array Value} {flat:List Value} (ht:cur.toList.take (k * n)=flat) {q:Nat} {u:Value} (hq:flat[q]? = some u):cur[q]? = some u:=by
 rw [← ht,List.getElem?_take] at hq
 split at hq
 ·rw [← hq]; simp
 ·cases hq
theorem Cloned.of_own {w w':World} {S:Nat→Prop} {e:TypeId} {n:Nat} {u:Value} {xs:List (List Dt)} {flat:List Value} (h:w'.ownsRow w.heap.size e n u xs.length flat)
  (hf:∀ (i j:Nat) (r:List Dt) (d:Dt),xs[i]? = some r→r[j]? = some d→∃ z,flat[i * n+j]? = some z∧FAt w S z d):Cloned w w' S e n u xs:=by
 rcases h.2 with ⟨rfl,h0⟩ | ⟨g,cap,cur,rfl,hb,hg,hl,hm,hs,ht⟩
 ·exact .inl ⟨rfl,List.length_eq_zero_iff.1 h0⟩
 ·refine .inr ⟨g,cap,cur,rfl,hb,hg,hl,hm,hs,fun i j r d hr hj => ?_⟩
  obtain ⟨z,hz,hF⟩:=hf i j r d hr hj
  exact ⟨z,own_get ht hz,hF⟩
def Atom (d:Dt):Prop:=(∃ z,d = .int z)∨∃ b,d = .str b
theorem FAt.atom {w w':World} {S X:Nat→Prop} {v:Value} {d:Dt} (h:FAt w S v d) (ha:Atom d):Own w' v d X:=by
 rcases ha with ⟨z,rfl⟩ | ⟨b,rfl⟩
 ·obtain ⟨rfl,hz⟩:=h.ofInt
  exact .int z hz X
 ·obtain ⟨rfl,hb⟩:=h.ofStr
  exact .str b hb X
theorem IntR.atoms {r:List Dt} (h:IntR r):∀ (j:Nat) (d:Dt),r[j]? = some d→Atom d:=by
 obtain ⟨z,rfl⟩:=h
 intro j d hj
 match j,hj with
 | 0,hj=>simp at hj; exact .inl ⟨z,hj.symm⟩
theorem StringR.atoms {r:List Dt} (h:StringR r):∀ (j:Nat) (d:Dt),r[j]? = some d→Atom d:=by
 obtain ⟨z,rfl⟩:=h
 intro j d hj
 match j,hj with
 | 0,hj=>simp at hj; exact .inr ⟨z,hj.symm⟩
theorem Cloned.own {w w':World} {S:Nat→Prop} {e:TypeId} {n:Nat} {u:Value} {xs:List (List Dt)} (h:Cloned w w' S e n u xs) (hN:∀ (i:Nat) (r:List Dt),xs[i]? = some r→r.length=n)
  (ha:∀ (i j:Nat) (r:List Dt) (d:Dt),xs[i]? = some r→r[j]? = some d→Atom d):Own w' u (.row xs) (Btw w.heap.size w'.heap.size):=by
 rcases h with ⟨rfl,rfl⟩ | ⟨g,cap,cur,rfl,hb,hg,hl,hm,hs,hc⟩
 ·exact .nil _
 ·refine Own.row0 g cap n e cur xs (fun i j=>(cur[i * n+j]?).getD .nilFunc) (fun _ _ _=>False) _ hl hm hs ⟨hb,lh hg⟩ hg hN (fun i j r d hr hj => ?_) (fun i j r d hr hj => ?_) (fun _ _ _ h=>h.elim) (fun _ _ _ _ _ h=>h.elim)
  ·obtain ⟨z,hz,_⟩:=hc i j r d hr hj
   rw [hz]; rfl
  ·obtain ⟨z,hz,hF⟩:=hc i j r d hr hj
   rw [hz]
   exact hF.atom (ha i j r d hr hj)
def ClS (f:FuncId) (e:TypeId) (n:Nat) (P:List Dt→Prop):Prop:=∀ (v:Value) (xs:List (List Dt)) (S:Nat→Prop) (w:World),AllR P xs→FAt w S v (.row xs)→xs.length≤1048576 →
 Calls Tryz.prog f #[v] w fun r w'=>∃ u:Value,r = .returned u∧Cloned w w' S e n u xs∧Below w.heap.size w w'
def RowC (w0 w:World) (S:Nat→Prop) (e:TypeId) (g n cap k:Nat) (xs:List (List Dt)):Prop :=
 ∃ (cur:Array Value) (vs:Nat→Nat→Value) (Y:Nat→Nat→Nat→Prop),w.heap[g]? = some (.cells cur e (0,0))∧cur.size=cap * n ∧
  (∀ (i j:Nat) (r:List Dt) (d:Dt),i<k→xs[i]? = some r→r[j]? = some d→cur[i * n+j]? = some (vs i j)∧Own w (vs i j) d (Y i j)) ∧
  (∀ (i j:Nat) (r:List Dt) (d:Dt),k≤i→xs[i]? = some r→r[j]? = some d→∃ z,cur[i * n+j]? = some z∧FAt w0 S z d) ∧
  (∀ i j b,Y i j b→w0.heap.size≤b∧b≠g∧b<w.heap.size)∧(∀ i j i' j' b,Y i j b→Y i' j' b→i=i'∧j=j')
theorem RowC.start {w0 w:World} {S:Nat→Prop} {e:TypeId} {g n cap:Nat} {xs:List (List Dt)} {cur:Array Value} (h:w.heap[g]? = some (.cells cur e (0,0))) (hs:cur.size=cap * n)
  (hc:∀ (i j:Nat) (r:List Dt) (d:Dt),xs[i]? = some r→r[j]? = some d→∃ z,cur[i * n+j]? = some z∧FAt w0 S z d):RowC w0 w S e g n cap 0 xs :=
 ⟨cur,fun _ _ => .nilFunc,fun _ _ _=>False,h,hs,fun i j r d hi=>by omega,fun i j r d _ hr hj=>hc i j r d hr hj,fun _ _ _ h=>h.elim,fun _ _ _ _ _ h=>h.elim⟩
theorem RowC.next {w0 wr w1:World} {S:Nat→Prop} {e:TypeId} {g n cap k:Nat} {xs:List (List Dt)} {r:List Dt} {us:List Value} (h:RowC w0 wr S e g n cap k xs) (h0:w0.heap.size≤wr.heap.size) (hcap:xs.length≤cap) (hb:Below wr.heap.size wr w1) (hr:xs[k]? = some r) (hN:∀ (i:Nat) (r:List Dt),xs[i]? = some r→r.length=n)
  (ho:OFs w1 us r (Btw wr.heap.size w1.heap.size)):RowC w0 (setN w1 g (k * n) 0 us) S e g n cap (k+1) xs:=by
 obtain ⟨cur,vs,Y,hg,hs,hc,hraw,hY,hd⟩:=h
 have hn:=hN k r hr
 have hgl:=lh hg
 have hkl:k<xs.length:=(List.getElem?_eq_some_iff.1 hr).1
 obtain ⟨hul,Z,z1,z2,z3⟩:=ho.fam
 have hg1:w1.heap[g]? = some (.cells cur e (0,0)):=(hb.block g hgl).trans hg
 have hkn:=idx_le (n:=n) hkl
 have hcn:=Nat.mul_le_mul_right n hcap
 obtain ⟨cur',b1,b2,b3,b4⟩:=setN_block (e:=e) g (k * n) us w1 0 cur hg1 (by rw [hul,hn,hs]; omega)
 have hoth:∀ b,b≠g→(setN w1 g (k * n) 0 us).heap[b]? = w1.heap[b]? := fun b hb=>setN_other g (k * n) us w1 0 b hb
 refine ⟨cur',fun i j=>if i=k then (us[j]?).getD .nilFunc else vs i j,fun i j b=>if i=k then Z j b else (Y i j b∧b<wr.heap.size),b1,by rw [b2,hs],fun i j r' d hi hr' hj => ?_,fun i j r' d hi hr' hj => ?_,fun i j b hb' => ?_,fun i j i' j' b h1 h2 => ?_⟩
 ·by_cases hik:i=k
  ·subst hik
   obtain rfl:r=r':=Option.some.inj (hr.symm.trans hr')
   have hjl:j<us.length:=by have:=(List.getElem?_eq_some_iff.1 hj).1; omega
   have hu:=List.getElem?_eq_getElem hjl
   simp only [if_true,hu,Option.getD_some]
   refine ⟨by have:=b3 j _ hu; simpa using this,?_⟩
   refine (z3 j _ d hu hj).moved (fun b hb' hlt=>hoth b ?_)
   have:=(z1 j b hb').1
   omega
  ·simp only [if_neg hik]
   have hi':i<k:=by omega
   obtain ⟨q1,q2⟩:=hc i j r' d hi' hr' hj
   have hin:=idx_le (n:=n) hi'
   have hjn:j<n:=by have h1:=(List.getElem?_eq_some_iff.1 hj).1; have h2:=hN i r' hr'; omega
   refine ⟨by rw [b4 _ (by omega)]; exact q1,?_⟩
   have:=q2.dom
   refine this.moved (fun b hb' hlt => ?_)
   rw [hoth b (hY i j b hb'.1).2.1]
   exact hb.block b hlt
 ·obtain ⟨z,q1,q2⟩:=hraw i j r' d (by omega) hr' hj
  have hin:=idx_le (n:=n) (show k<i by omega)
  exact ⟨z,by rw [b4 _ (by omega)]; exact q1,q2⟩
 ·by_cases hik:i=k
  ·simp only [if_pos hik] at hb'
   have:=z1 j b hb'
   rw [setN_size]
   exact ⟨by have:=this.1; omega,by have:=this.1; omega,this.2⟩
  ·simp only [if_neg hik] at hb'
   rw [setN_size]
   exact ⟨(hY i j b hb'.1).1,(hY i j b hb'.1).2.1,Nat.lt_of_lt_of_le hb'.2 hb.size⟩
 ·by_cases hik:i=k
  ·simp only [if_pos hik] at h1
   by_cases hik':i'=k
   ·simp only [if_pos hik'] at h2
    exact ⟨by omega,z2 j j' b h1 h2⟩
   ·simp only [if_neg hik'] at h2
    have:=(z1 j b h1).1
    have:=h2.2
    omega
  ·simp only [if_neg hik] at h1
   by_cases hik':i'=k
   ·simp only [if_pos hik'] at h2
    have:=(z1 j' b h2).1
    have:=h1.2
    omega
   ·simp only [if_neg hik'] at h2
    exact hd i j i' j' b h1.1 h2.1
theorem RowC.done {w0 w:World} {S:Nat→Prop} {e:TypeId} {g n cap:Nat} {xs:List (List Dt)} (h:RowC w0 w S e g n cap xs.length xs) (hN:∀ (i:Nat) (r:List Dt),xs[i]? = some r→r.length=n) (hl:xs.length≤cap) (hm:cap≤maxLen) (hg0:w0.heap.size≤g) :
  Own w (.slice (some ⟨g,0,none⟩) xs.length cap) (.row xs) (Btw w0.heap.size w.heap.size):=by
 obtain ⟨cur,vs,Y,hg,hs,hc,_,hY,hd⟩:=h
 exact Own.row0 g cap n e cur xs vs Y _ hl hm hs ⟨hg0,lh hg⟩ hg hN (fun i j r d hr hj=>(hc i j r d (List.getElem?_eq_some_iff.1 hr).1 hr hj).1) (fun i j r d hr hj=>(hc i j r d (List.getElem?_eq_some_iff.1 hr).1 hr hj).2)
  (fun i j b hb=>⟨⟨(hY i j b hb).1,(hY i j b hb).2.2⟩,(hY i j b hb).2.1⟩) hd
theorem RowC.typed {w0 w:World} {S:Nat→Prop} {e:TypeId} {g n cap k:Nat} {xs:List (List Dt)} (h:RowC w0 w S e g n cap k xs) (hl:xs.length≤cap) (hm:cap≤maxLen) (hg0:w0.heap.size≤g):∃ flat,w.ownsRow w0.heap.size e n (.slice (some ⟨g,0,none⟩) xs.length cap) xs.length flat:=by
 obtain ⟨cur,_,_,hg,hs,_⟩:=h
 refine ⟨cur.toList.take (xs.length * n),?_,.inr ⟨g,cap,cur,rfl,hg0,hg,hl,hm,hs,rfl⟩⟩
 have:=Nat.mul_le_mul_right n hl
 have hcl:cur.toList.length=cap * n:=by simpa using hs
 rw [List.length_take,hcl]
 omega
def CpS (f cf:FuncId) (E:TypeId) (n:Nat) (P:List Dt→Prop):Prop:=∀ (v:Value) (xs:List (List Dt)) (S:Nat→Prop) (w:World),AllR P xs→FAt w S v (.row xs)→Dt.bS xs≤1048576 →
 Calls Tryz.prog f #[v,.func (.func cf) #[] #[]] w fun e w'=>∃ u:Value,e = .returned u∧Own w' u (.row xs) (Btw w.heap.size w'.heap.size)∧(∃ flat,w'.ownsRow w.heap.size E n u xs.length flat)∧Below w.heap.size w w'
def rowLen:Option Dt→Nat
 | some (.row xs)=>xs.length
 | _=>0
def ToMT (f:FuncId):Prop:=∀ (vs:List Value) (r:List Dt) (S:Nat→Prop) (w:World),MachineR r→FsAt w S vs r→Dt.bR r≤1048576 →
 Calls Tryz.prog f #[.agg vs.toArray] w fun e w'=>∃ us:List Value,e = .returned (.agg us.toArray)∧OFs w' us r (Btw w.heap.size w'.heap.size)∧(∃ u,us[3]? = some u∧∃ flat,w'.ownsRow w.heap.size 145 5 u (rowLen r[3]?) flat)∧Below w.heap.size w w'
def Grow (w:World) (lo:Nat) (e:TypeId) (n:Nat) (v:Value) (k:Nat) (xs:List (List Dt)):Prop :=
 ∃ (flat:List Value) (vs:Nat→Nat→Value) (Y:Nat→Nat→Nat→Prop),w.ownsRow lo e n v k flat ∧
  (∀ (i j:Nat) (r:List Dt) (d:Dt),i<k→xs[i]? = some r→r[j]? = some d→flat[i * n+j]? = some (vs i j)∧Own w (vs i j) d (Y i j)) ∧
  (∀ i j b,Y i j b→lo≤b∧b<w.heap.size∧v.ownBlock≠some b)∧(∀ i j i' j' b,Y i j b→Y i' j' b→i=i'∧j=j')
theorem Grow.start {w:World} {lo n:Nat} {e:TypeId} {v:Value} (h:w.ownsRow lo e n v 0 []) (xs:List (List Dt)):Grow w lo e n v 0 xs :=
 ⟨[],fun _ _ => .nilFunc,fun _ _ _=>False,h,fun i j r d hi=>by omega,fun _ _ _ h=>h.elim,fun _ _ _ _ _ h=>h.elim⟩
theorem Grow.row {w:World} {lo n k:Nat} {e:TypeId} {v:Value} {xs:List (List Dt)} (h:Grow w lo e n v k xs):∃ flat,w.ownsRow lo e n v k flat:=by
 obtain ⟨flat,_,_,h,_⟩:=h
 exact ⟨flat,h⟩
theorem Grow.moved {w w':World} {lo n k:Nat} {e:TypeId} {v:Value} {xs:List (List Dt)} (h:Grow w lo e n v k xs) (hb:∀ b,lo≤b→b<w.heap.size→w'.heap[b]? = w.heap[b]?) (hs:w.heap.size≤w'.heap.size):Grow w' lo e n v k xs:=by
 obtain ⟨flat,vs,Y,h1,h2,h3,h4⟩:=h
 exact ⟨flat,vs,Y,own_moved h1 (fun g hg=>hb g (own_type h1 g hg).1 (own_lt h1 g hg)),fun i j r d hi hr hj=>⟨(h2 i j r d hi hr hj).1,(h2 i j r d hi hr hj).2.moved (fun b hy hlt=>hb b (h3 i j b hy).1 hlt)⟩,fun i j b hb'=>⟨(h3 i j b hb').1,Nat.lt_of_lt_of_le (h3 i j b hb').2.1 hs,(h3 i j b hb').2.2⟩,h4⟩
theorem Grow.next {wr w1 w2:World} {lo n k:Nat} {e:TypeId} {v v':Value} {xs:List (List Dt)} {r:List Dt} {us flat:List Value} (h:Grow wr lo e n v k xs) (hb:Below wr.heap.size wr w1) (hlo:lo≤wr.heap.size) (hr:xs[k]? = some r) (hN:∀ (i:Nat) (r:List Dt),xs[i]? = some r→r.length=n)
  (ho:OFs w1 us r (Btw wr.heap.size w1.heap.size)) (hf:wr.ownsRow lo e n v k flat) (hown:w2.ownsRow lo e n v' (k+1) (flat ++ us)) (hg:w1.grownBy w2 v.ownBlock) (hat:v'.ownBlock=v.ownBlock∨v'.ownBlock=some w1.heap.size):Grow w2 lo e n v' (k+1) xs:=by
 obtain ⟨flat',vs,Y,h1,h2,h3,h4⟩:=h
 obtain rfl:flat=flat':=by
  rcases hf.2 with ⟨rfl,h0⟩ | ⟨g,cap,cur,rfl,_,hg1,_,_,_,ht⟩
  ·have e1:=hf.1
   have e2:=h1.1
   rw [h0,Nat.zero_mul] at e1 e2
   rw [List.length_eq_zero_iff.1 e1,List.length_eq_zero_iff.1 e2]
  ·rcases h1.2 with ⟨h',_⟩ | ⟨g',cap',cur',h',_,hg2,_,_,_,ht'⟩
   ·cases h'
   ·simp only [Value.slice.injEq,Option.some.injEq,Addr.mk.injEq,and_true,true_and] at h'
    obtain ⟨rfl,rfl⟩:=h'
    rw [hg1] at hg2
    cases hg2
    exact ht.symm.trans ht'
 have hn:=hN k r hr
 obtain ⟨hul,Z,z1,z2,z3⟩:=ho.fam
 have hfl:=hf.1
 have stay:∀ b,b<w1.heap.size→v.ownBlock≠some b→w2.heap[b]? = w1.heap[b]? := fun b hb' hne=>hg.block b hb' (fun e=>hne e.symm)
 have ownlt:∀ b,v.ownBlock=some b→b<wr.heap.size:=fun b hb'=>own_lt hf b hb'
 refine ⟨flat ++ us,fun i j=>if i=k then (us[j]?).getD .nilFunc else vs i j,fun i j b=>if i=k then Z j b else (Y i j b∧b<wr.heap.size),hown,fun i j r' d hi hr' hj => ?_,fun i j b hb' => ?_,fun i j i' j' b h1' h2' => ?_⟩
 ·by_cases hik:i=k
  ·subst hik
   obtain rfl:r=r':=Option.some.inj (hr.symm.trans hr')
   have hjl:j<us.length:=by have:=(List.getElem?_eq_some_iff.1 hj).1; omega
   have hu:=List.getElem?_eq_getElem hjl
   simp only [if_true,hu,Option.getD_some]
   refine ⟨?_,?_⟩
   ·rw [List.getElem?_append_right (by omega),hfl,Nat.add_sub_cancel_left]
    exact hu
   ·refine (z3 j _ d hu hj).moved (fun b hb' hlt=>stay b hlt (fun e => ?_))
    have:=(z1 j b hb').1
    have:=ownlt b e
    omega
  ·simp only [if_neg hik]
   have hi':i<k:=by omega
   obtain ⟨q1,q2⟩:=h2 i j r' d hi' hr' hj
   have hin:=idx_le (n:=n) hi'
   have hjn:j<n:=by have h1:=(List.getElem?_eq_some_iff.1 hj).1; have h2:=hN i r' hr'; omega
   refine ⟨by rw [List.getElem?_append_left (by omega)]; exact q1,?_⟩
   refine q2.dom.moved (fun b hb' hlt => ?_)
   rw [stay b (Nat.lt_of_lt_of_le hlt hb.size) (h3 i j b hb'.1).2.2]
   exact hb.block b hlt
 ·have hs:=hg.size
  by_cases hik:i=k
  ·simp only [if_pos hik] at hb'
   have hz:=z1 j b hb'
   refine ⟨by have:=hz.1; omega,by have:=hz.2; omega,fun e => ?_⟩
   rcases hat with hat | hat
   ·rw [hat] at e
    have:=ownlt b e
    have:=hz.1
    omega
   ·rw [hat] at e
    have:=Option.some.inj e
    have:=hz.2
    omega
  ·simp only [if_neg hik] at hb'
   have hz:=h3 i j b hb'.1
   have hbs:=hb.size
   refine ⟨hz.1,by have:=hb'.2; omega,fun e => ?_⟩
   rcases hat with hat | hat
   ·rw [hat] at e
    exact hz.2.2 e
   ·rw [hat] at e
    have:=Option.some.inj e
    have:=hb'.2
    omega
 ·by_cases hik:i=k
  ·simp only [if_pos hik] at h1'
   by_cases hik':i'=k
   ·simp only [if_pos hik'] at h2'
    exact ⟨by omega,z2 j j' b h1' h2'⟩
   ·simp only [if_neg hik'] at h2'
    have:=(z1 j b h1').1
    have:=h2'.2
    omega
  ·simp only [if_neg hik] at h1'
   by_cases hik':i'=k
   ·simp only [if_pos hik'] at h2'
    have:=(z1 j' b h2').1
    have:=h1'.2
    omega
   ·simp only [if_neg hik'] at h2'
    exact h4 i j i' j' b h1'.1 h2'.1
theorem Grow.done {w:World} {lo n:Nat} {e:TypeId} {v:Value} {xs:List (List Dt)} (h:Grow w lo e n v xs.length xs) (hN:∀ (i:Nat) (r:List Dt),xs[i]? = some r→r.length=n):Own w v (.row xs) (Btw lo w.heap.size):=by
 obtain ⟨flat,vs,Y,h1,h2,h3,h4⟩:=h
 rcases h1.2 with ⟨rfl,h0⟩ | ⟨g,cap,cur,rfl,hb,hg,hl,hm,hs,ht⟩
 ·obtain rfl:xs=[]:=List.length_eq_zero_iff.1 h0
  exact .nil _
 ·exact Own.row0 g cap n e cur xs vs Y _ hl hm hs ⟨hb,lh hg⟩ hg hN
   (fun i j r d hr hj=>own_get ht (h2 i j r d (List.getElem?_eq_some_iff.1 hr).1 hr hj).1)
   (fun i j r d hr hj=>(h2 i j r d (List.getElem?_eq_some_iff.1 hr).1 hr hj).2)
   (fun i j b hb'=>⟨⟨(h3 i j b hb').1,(h3 i j b hb').2.1⟩,fun e=>(h3 i j b hb').2.2 (by rw [e]; rfl)⟩) h4
theorem run_append_none {w:World} (base:Nat) (t ty e:TypeId) (i:TypeInfo) (size:Nat) (ht:Tryz.prog.underlying t=some (.slice e)) (hi:Tryz.prog.info? e=some i)
  (v:Value) (n c:Nat) (xs:List Value) (hown:w.ownsRow base e size v n xs):(Builtin.append_ #[t,t] ty #[v,.slice none 0 c]).run Tryz.prog w = .ok v w:=by
 rcases hown.2 with ⟨rfl,rfl⟩ | ⟨g,cap,cur,rfl,_,_,hnc,_⟩
 ·simp [Builtin.append_,run_underlying ht,sizeOf,typeInfo,hi,Builtin.lenOf,Builtin.firstCells]
 ·simp [Builtin.append_,run_underlying ht,sizeOf,typeInfo,hi,Builtin.lenOf,Builtin.firstCells,hnc,storeCells]
theorem grown_self (w:World) (row:Option Nat):w.grownBy w row:=⟨rfl,rfl,rfl,Nat.le_refl _,fun _ _ _=>rfl⟩
theorem run_append_fat {w:World} (base:Nat) (t ty e:TypeId) (i:TypeInfo) (z:Value) (size bytes:Nat) (ht:Tryz.prog.underlying t=some (.slice e)) (hi:Tryz.prog.info? e=some i) (hz:i.zero=some z)
  (hsize:i.size=size) (hby:i.bytes=bytes) (hzs:z.cells.size=size) (hsz:0<size) (v:Value) (n:Nat) (ys:List Value) (hown:w.ownsRow base e size v n ys)
  (sv:Value) (xs:List (List Dt)) (S:Nat→Prop) (hF:FAt w S sv (.row xs)) (hN:∀ (i:Nat) (r:List Dt),xs[i]? = some r→r.length=size) (h63:n+xs.length≤maxLen) (hbytes:(n+xs.length) * bytes≤140737488355328) (hbase:base≤w.heap.size) :
  ∃ (v':Value) (w':World) (flat:List Value),(Builtin.append_ #[t,t] ty #[v,sv]).run Tryz.prog w = .ok v' w'∧w'.ownsRow base e size v' (n+xs.length) (ys ++ flat)∧w.grownBy w' v.ownBlock∧(v'.ownBlock=v.ownBlock∨v'.ownBlock=some w.heap.size) ∧
   ∀ (i j:Nat) (r:List Dt) (d:Dt),xs[i]? = some r→r[j]? = some d→∃ u,flat[i * size+j]? = some u∧FAt w S u d:=by
 obtain ⟨a,cap,rfl⟩:=hF.form
 cases a with
 | none =>
  obtain rfl:xs=[]:=by
   cases xs with
   | nil=>rfl
   | cons x xs=>obtain ⟨b,off,he,_⟩:=hF.at (k:=0) rfl; cases he
  exact ⟨v,w,[],run_append_none base t ty e i size ht hi v n cap ys hown,by simpa using hown,grown_self w _,.inl rfl,fun i j r d h=>by simp at h⟩
 | some ad =>
  obtain ⟨flat,hfl,hsrc,hone,hcell⟩:=hF.flat hN hsz
  obtain ⟨v',w',hr,h2,h3,_,h5⟩:=run_append_own_at (P:=Tryz.prog) w base t ty e i z size bytes ht hi hz hsize hby hzs hsz v n ys hown ad xs.length cap flat hfl (fun j u hj=>(hsrc j u hj).1) hone h63 hbytes hbase
  exact ⟨v',w',flat,hr,h2,h3,h5,hcell⟩
theorem wpList_append_fat {w:World} {ops:Array Oper} {rest:List Oper} {o:Oper} {a:Act} {Q:Exit→Act→World→Prop} (hgd:o.guard=none) (s x:Operand) (t:TypeId)
  (ho:o.op = .call { callee:=.builtin .append,args:=#[s,x],argTypes:=#[t,t] })
  (base:Nat) (e:TypeId) (i:TypeInfo) (z:Value) (size bytes:Nat) (ht:Tryz.prog.underlying t=some (.slice e)) (hi:Tryz.prog.info? e=some i) (hz:i.zero=some z)
  (hsize:i.size=size) (hby:i.bytes=bytes) (hzs:z.cells.size=size) (hsz:0<size) (v:Value) (n:Nat) (ys:List Value) (hs:a.eval s=v) (hown:w.ownsRow base e size v n ys)
  (sv:Value) (hx:a.eval x=sv) (xs:List (List Dt)) (S:Nat→Prop) (hF:FAt w S sv (.row xs)) (hN:∀ (i:Nat) (r:List Dt),xs[i]? = some r→r.length=size) (h63:n+xs.length≤maxLen) (hbytes:(n+xs.length) * bytes≤140737488355328) (hbase:base≤w.heap.size)
  (h:∀ v' w' flat,w'.ownsRow base e size v' (n+xs.length) (ys ++ flat)→w.grownBy w' v.ownBlock→(v'.ownBlock=v.ownBlock∨v'.ownBlock=some w.heap.size) →
   (∀ (i j:Nat) (r:List Dt) (d:Dt),xs[i]? = some r→r[j]? = some d→∃ u,flat[i * size+j]? = some u∧FAt w S u d)→wpList Tryz.prog ops Q rest (a.put o.dst v') w') :
  wpList Tryz.prog ops Q (o :: rest) a w:=by
 refine wpList_plain hgd fun K hK => ?_
 obtain ⟨v',w',flat,hr,h2,h3,h4,h5⟩:=run_append_fat (w:=w) base t o.type e i z size bytes ht hi hz hsize hby hzs hsz v n ys hown sv xs S hF hN h63 hbytes hbase
 unfold Oper.wp execOp
 simp only [ho,resolve,invoke,builtin,Sem.run_bind,Sem.run_pure,Result.andThen_ok,List.map_toArray,List.map_cons,List.map_nil,hs,hx,hr]
 exact hK _ _ (h v' w' flat h2 h3 h4 h5)
theorem own_atoms {w w0:World} {S:Nat→Prop} {B n:Nat} {e:TypeId} {v:Value} {xs:List (List Dt)} {flat:List Value} (h:w.ownsRow B e n v xs.length flat) (hN:∀ (i:Nat) (r:List Dt),xs[i]? = some r→r.length=n)
  (hf:∀ (i j:Nat) (r:List Dt) (d:Dt),xs[i]? = some r→r[j]? = some d→∃ z,flat[i * n+j]? = some z∧FAt w0 S z d) (ha:∀ (i j:Nat) (r:List Dt) (d:Dt),xs[i]? = some r→r[j]? = some d→Atom d):Own w v (.row xs) (fun b=>B≤b∧v.ownBlock=some b):=by
 rcases h.2 with ⟨rfl,h0⟩ | ⟨g,cap,cur,rfl,hb,hg,hl,hm,hs,ht⟩
 ·obtain rfl:xs=[]:=List.length_eq_zero_iff.1 h0
  exact .nil _
 ·refine Own.row0 g cap n e cur xs (fun i j=>(cur[i * n+j]?).getD .nilFunc) (fun _ _ _=>False) _ hl hm hs ⟨hb,rfl⟩ hg hN (fun i j r d hr hj => ?_) (fun i j r d hr hj => ?_) (fun _ _ _ h=>h.elim) (fun _ _ _ _ _ h=>h.elim)
  ·obtain ⟨z,hz,_⟩:=hf i j r d hr hj
   rw [own_get ht hz]; rfl
  ·obtain ⟨z,hz,hF⟩:=hf i j r d hr hj
   rw [own_get ht hz]
   exact hF.atom (ha i j r d hr hj)
theorem infoAI:(Tryz.prog.info? 3).map (fun i=>(i.zero,i.size,i.bytes))=some (some (.int .i64 0),1,8):=by kernel_rfl
theorem OFs.mk {w:World}:∀ {vs:List Value} {ds:List Dt} {X:Nat→Prop} (Y:Nat→Nat→Prop),vs.length=ds.length→(∀ j b,Y j b→X b)→(∀ j j' b,Y j b→Y j' b→j=j')→(∀ (j:Nat) (v:Value) (d:Dt),vs[j]? = some v→ds[j]? = some d→Own w v d (Y j))→OFs w vs ds X
 | [],[],_,_,_,_,_,_=>trivial
 | v :: vs,d :: ds,X,Y,hl,hX,hd,ho=>by
  refine ⟨Y 0,fun b=>∃ j,Y (j+1) b,fun b hb=>hX 0 b hb,fun b ⟨j,hb⟩=>hX _ b hb,fun b hb ⟨j,hb'⟩=>by have:=hd 0 (j+1) b hb hb'; omega,ho 0 v d rfl rfl,?_⟩
  exact OFs.mk (fun j=>Y (j+1)) (by simpa using hl) (fun j b hb=>⟨j,hb⟩) (fun j j' b hb hb'=>by have:=hd _ _ b hb hb'; omega) (fun j v' d' hv hd'=>ho (j+1) v' d' (by simpa using hv) (by simpa using hd'))
 | [],_ :: _,_,_,hl,_,_,_=>by simp at hl
 | _ :: _,[],_,_,hl,_,_,_=>by simp at hl
def markD:Nat→Nat→List UInt8→List UInt8
 | 0,_,acc=>acc
 | f+1,n,acc=>if n=0 then acc else markD f (n / 10) (UInt8.ofNat (48+n % 10) :: acc)
def markT (k:Int):ByteArray:=if k≤0 then ⟨#[109,48]⟩ else ⟨(109 :: markD k.toNat k.toNat []).toArray⟩
theorem cat_cons (c:UInt8) (l:List UInt8):(⟨#[c]⟩ ++ ⟨l.toArray⟩:ByteArray)=⟨(c :: l).toArray⟩:=by
 apply ByteArray.ext
 simp [ByteArray.data_append]
theorem mark_conv (w:World) (n:Nat):(convert 124 9 (.slice (some ⟨w.heap.size,0,none⟩) 1 1)).run Tryz.prog (w.alloc (.cells #[.int .u8 (48+(n:Int) % 10)] 5)) = .ok (.string ⟨[UInt8.ofNat (48+n % 10)].toArray⟩) (w.alloc (.cells #[.int .u8 (48+(n:Int) % 10)] 5)):=by
 refine run_convert_bytes_back (P:=Tryz.prog) _ 124 9 5 ⟨w.heap.size,0,none⟩ 1 [UInt8.ofNat (48+n % 10)] Tryz.underlying124 Tryz.underlying5 Tryz.underlying9 ?_
 intro j hj
 obtain rfl:j=0:=by simpa using hj
 have e:((UInt8.ofNat (48+n % 10)).toNat:Int)=48+(n:Int) % 10:=by
  simp [UInt8.toNat_ofNat']
  omega
 rw [show ([UInt8.ofNat (48+n % 10)][0]'hj)=UInt8.ofNat (48+n % 10) from rfl,e]
 simp [Addr.add]
theorem markText_any (k:Int) (w:World) (h:k≤1000000000) :
  Calls Tryz.prog 26 #[.int .i64 k] w fun e w'=>e = .returned (.string (markT k))∧Below w.heap.size w w':=by
 by_cases hp:k≤0
 ·have HE:Hid (markT k=⟨#[109,48]⟩):=by unfold markT; rw [if_pos hp]; rfl
  go_enter Tryz.func26,Tryz.ntmps26
  go_wp2
  go_ret
  exact ⟨by rw [HE.out]; rfl,Below.refl _ _⟩
 obtain ⟨m,rfl⟩:=Int.eq_ofNat_of_zero_le (show 0≤k by omega)
 have HE:Hid (markT (m:Int)=⟨(109 :: markD m m []).toArray⟩):=by unfold markT; rw [if_neg hp]; rfl
 go_enter Tryz.func26,Tryz.ntmps26
 go_wp2
 go_loopw [0,3] (fun v t wr=>∃ (n f:Nat) (acc:List UInt8),v = .int .i64 n∧n≤m∧n≤f∧t = .string ⟨acc.toArray⟩∧acc.length+n≤m∧Hid (markD m m []=markD f n acc)∧Below w.heap.size w wr) (fun v _ _=>(intOf v).toNat)
 case atStart=>exact ⟨m,m,[],rfl,Nat.le_refl _,Nat.le_refl _,rfl,by simp,rfl,Below.refl _ _⟩
 case round =>
  obtain ⟨n,f,acc,rfl,hnm,hnf,rfl,hacc,hst,hbw⟩:=hrel
  have hsz:=hbw.size
  by_cases hz:0<n
  ·have hz':(0:Int)<(n:Int):=by omega
   have hcv:=mark_conv wr n
   obtain ⟨g,rfl⟩:∃ g,f=g+1:=⟨f - 1,by omega⟩
   have hst2:Hid (markD m m []=markD g (n / 10) (UInt8.ofNat (48+n % 10) :: acc)):=by
    have:=hst.out
    rw [markD,if_neg (by omega)] at this
    exact this
   generalize UInt8.ofNat (48+n % 10)=c at hcv hst2
   go_wp2
   refine ⟨⟨n / 10,g,c :: acc,by simp,by omega,by omega,by rw [cat_cons],by simp; omega,hst2,hbw.alloc hsz _⟩,by simp [intOf]; omega⟩
  ·have hz':¬ (0:Int)<(n:Int):=by omega
   have HF:Hid (markD m m []=acc):=by
    obtain rfl:n=0:=by omega
    rw [hst.out]
    cases f with
    | zero=>rfl
    | succ f=>rw [markD,if_pos rfl]; rfl
   go_wp2
   go_ret
   exact ⟨by rw [HE.out,HF.out,← cat_cons]; rfl,hbw⟩
mutual
def Dt.cnt:Dt→Nat
 | .int _=>1
 | .str _=>1
 | .row xs=>Dt.cS xs
def Dt.cS:List (List Dt)→Nat
 | []=>0
 | r :: t=>Dt.cntR r+Dt.cS t
def Dt.cntR:List Dt→Nat
 | []=>0
 | d :: t=>d.cnt+Dt.cntR t
end
mutual
def Dt.mk:Dt→Int→Dt
 | .int _,k => .int k
 | .str _,k => .str (markT k)
 | .row xs,k => .row (Dt.mkS xs k)
def Dt.mkS:List (List Dt)→Int→List (List Dt)
 | [],_=>[]
 | r :: t,k=>Dt.mkR r k :: Dt.mkS t (k+(Dt.cntR r:Int))
def Dt.mkR:List Dt→Int→List Dt
 | [],_=>[]
 | d :: t,k=>d.mk k :: Dt.mkR t (k+(d.cnt:Int))
end
def tcnt:List Dt→Nat
 | []=>0
 | .row xs :: t=>Dt.cS xs+tcnt t
 | _ :: t=>tcnt t
def tmk:List Dt→Int→List Dt
 | [],_=>[]
 | .row xs :: t,k => .row (Dt.mkS xs k) :: tmk t (k+(Dt.cS xs:Int))
 | d :: t,k=>d :: tmk t k
def preC (xs:List (List Dt)) (k:Nat):Nat:=((xs.take k).map Dt.cntR).sum
theorem preC_zero (xs:List (List Dt)):preC xs 0=0:=by simp [preC]
theorem preC_succ {xs:List (List Dt)} {k:Nat} {r:List Dt} (h:xs[k]? = some r):preC xs (k+1)=preC xs k+Dt.cntR r:=by
 unfold preC
 have hk:=(List.getElem?_eq_some_iff.1 h).1
 rw [List.take_succ_eq_append_getElem hk,List.map_append,List.sum_append,(List.getElem?_eq_some_iff.1 h).2]
 simp
theorem preC_le (xs:List (List Dt)) (k:Nat):preC xs k≤preC xs xs.length:=by
 unfold preC
 rw [List.take_length]
 conv=>rhs; rw [← List.take_append_drop k xs,List.map_append,List.sum_append]
 omega
theorem cntS_eq:∀ xs:List (List Dt),Dt.cS xs=preC xs xs.length
 | []=>by rw [Dt.cS]; simp [preC]
 | r :: t=>by
  have:=cntS_eq t
  unfold preC at *
  rw [Dt.cS,this,List.take_length,List.take_length]
  simp
theorem mkS_at:∀ {xs:List (List Dt)} {k:Nat} {r:List Dt} (k0:Int),xs[k]? = some r→(Dt.mkS xs k0)[k]? = some (Dt.mkR r (k0+(preC xs k:Int)))
 | [],_,_,_,h=>by simp at h
 | r :: t,0,r',k0,h=>by
  obtain rfl:r=r':=by simpa using h
  rw [Dt.mkS,preC_zero]
  simp
 | r :: t,k+1,r',k0,h=>by
  have:=mkS_at (xs:=t) (k:=k) (r:=r') (k0+(Dt.cntR r:Int)) (by simpa using h)
  rw [Dt.mkS,List.getElem?_cons_succ,this]
  have e:preC (r :: t) (k+1)=Dt.cntR r+preC t k:=by simp [preC]
  rw [e]
  congr 2
  omega
theorem mkS_len:∀ (xs:List (List Dt)) (k0:Int),(Dt.mkS xs k0).length=xs.length
 | [],_=>by rw [Dt.mkS]
 | r :: t,k0=>by rw [Dt.mkS,List.length_cons,mkS_len,List.length_cons]
def mids (xs:List (List Dt)) (k0:Int):Nat→List (List Dt)
 | 0=>xs
 | k+1=>(mids xs k0 k).set k (Dt.mkR (xs[k]?.getD []) (k0+(preC xs k:Int)))
theorem mids_len (xs:List (List Dt)) (k0:Int):∀ k,(mids xs k0 k).length=xs.length
 | 0=>rfl
 | k+1=>by rw [mids,List.length_set,mids_len]
theorem mids_later (xs:List (List Dt)) (k0:Int):∀ (k i:Nat),k≤i→(mids xs k0 k)[i]? = xs[i]?
 | 0,_,_=>rfl
 | k+1,i,h=>by rw [mids,List.getElem?_set_ne (by omega),mids_later xs k0 k i (by omega)]
theorem mids_done (xs:List (List Dt)) (k0:Int):∀ (k i:Nat) (r:List Dt),i<k→xs[i]? = some r→(mids xs k0 k)[i]? = some (Dt.mkR r (k0+(preC xs i:Int)))
 | 0,i,_,h,_=>by omega
 | k+1,i,r,h,hr=>by
  rw [mids]
  by_cases hi:i=k
  ·subst hi
   rw [List.getElem?_set_self (by rw [mids_len]; exact (List.getElem?_eq_some_iff.1 hr).1),hr]
   rfl
  ·rw [List.getElem?_set_ne (by omega)]
   exact mids_done xs k0 k i r (by omega) hr
theorem mids_all (xs:List (List Dt)) (k0:Int):mids xs k0 xs.length=Dt.mkS xs k0:=by
 refine List.ext_getElem? fun i => ?_
 by_cases hi:i<xs.length
 ·have hr:=List.getElem?_eq_getElem hi
  rw [mids_done xs k0 _ i _ hi hr,mkS_at k0 hr]
 ·rw [List.getElem?_eq_none (by rw [mids_len]; omega),List.getElem?_eq_none (by rw [mkS_len]; omega)]
theorem mids_succ {xs:List (List Dt)} {k:Nat} {r:List Dt} (k0:Int) (h:xs[k]? = some r):mids xs k0 (k+1)=(mids xs k0 k).set k (Dt.mkR r (k0+(preC xs k:Int))):=by
 rw [mids,h]; rfl
theorem Own.slot {w:World} {v:Value} {xs:List (List Dt)} {X:Nat→Prop} (h:Own w v (.row xs) X) {i j:Nat} {r:List Dt} {d:Dt} (hr:xs[i]? = some r) (hj:r[j]? = some d) :
  ∃ (g off cap:Nat) (u:Value) (Y:Nat→Prop),v = .slice (some ⟨g,off,none⟩) xs.length cap∧g<w.heap.size∧X g∧w.cell? ⟨g,off+i * r.length+j,none⟩=some u∧w.frozen? ⟨g,off+i * r.length+j,none⟩=false∧Own w u d Y∧(∀ b,Y b→X b∧b≠g) ∧
   (∀ (u':Value) (d':Dt),(∀ W:World,Own W u' d' Y)→Own (w.setCell ⟨g,off+i * r.length+j,none⟩ u') v (.row (xs.set i (r.set j d'))) X) ∧
   (∀ (w':World) (d':Dt),KB Y w w'→Own w' u d' Y→Own w' v (.row (xs.set i (r.set j d'))) X):=by
 cases h with
 | nil=>simp at hr
 | row g off cap n e cur xs vs Y X hl hcap hs hg hblk hn hc hk hY hdis =>
  have hrn:=hn i r hr
  have hgl:=lh hblk
  have hil:i<xs.length:=(List.getElem?_eq_some_iff.1 hr).1
  have hjl:j<r.length:=(List.getElem?_eq_some_iff.1 hj).1
  have hq:off+i * n+j<cur.size:=by
   have h1:=idx_le (n:=n) hil
   have h2:=Nat.mul_le_mul_right n hl
   omega
  have inj:∀ (i' j':Nat),j'<n→i' * n+j'=i * n+j→i'=i∧j'=j:=by
   intro i' j' hj' he
   have hjn:j<n:=by omega
   have e1:(i' * n+j') / n=i':=by rw [Nat.mul_comm,Nat.mul_add_div (by omega),Nat.div_eq_of_lt hj',Nat.add_zero]
   have e2:(i * n+j) / n=i:=by rw [Nat.mul_comm,Nat.mul_add_div (by omega),Nat.div_eq_of_lt hjn,Nat.add_zero]
   have:i'=i:=by rw [← e1,← e2,he]
   subst this
   exact ⟨rfl,by omega⟩
  have rows:∀ (d':Dt) (i':Nat) (r':List Dt),(xs.set i (r.set j d'))[i']? = some r'→(i'=i∧r'=r.set j d')∨(i'≠i∧xs[i']? = some r'):=by
   intro d' i' r' h'
   by_cases hi:i'=i
   ·subst hi
    rw [List.getElem?_set_self hil] at h'
    exact .inl ⟨rfl,(Option.some.inj h').symm⟩
   ·rw [List.getElem?_set_ne (Ne.symm hi)] at h'
    exact .inr ⟨hi,h'⟩
  have flds:∀ (d':Dt) (j':Nat) (q:Dt),(r.set j d')[j']? = some q→(j'=j∧q=d')∨(j'≠j∧r[j']? = some q):=by
   intro d' j' q h'
   by_cases hj':j'=j
   ·subst hj'
    rw [List.getElem?_set_self hjl] at h'
    exact .inl ⟨rfl,(Option.some.inj h').symm⟩
   ·rw [List.getElem?_set_ne (Ne.symm hj')] at h'
    exact .inr ⟨hj',h'⟩
  have hlen:∀ d':Dt,xs.length=(xs.set i (r.set j d')).length:=fun d'=>by rw [List.length_set]
  refine ⟨g,off,cap,vs i j,Y i j,rfl,hgl,hg,?_,unfrozen_of_block hblk _,hk i j r d hr hj,hY i j,fun u' d' ho => ?_,fun w' d' kb ho => ?_⟩
  ·rw [cell_of_block hblk,hrn]
   exact hc i j r d hr hj
  ·rw [hrn,hlen d']
   refine .row g off cap n e (cur.setIfInBounds (off+i * n+j) u') _ (fun i' j'=>if i'=i∧j'=j then u' else vs i' j') Y X (by rw [← hlen d']; exact hl) hcap (by simp [hs]) hg (block_setCell hblk u') (fun i' r' h' => ?_) (fun i' j' r' q h' hq' => ?_) (fun i' j' r' q h' hq' => ?_) hY hdis
   ·rcases rows d' i' r' h' with ⟨rfl,rfl⟩ | ⟨_,h2⟩
    ·rw [List.length_set]; exact hrn
    ·exact hn i' r' h2
   ·rcases rows d' i' r' h' with ⟨rfl,rfl⟩ | ⟨hne,h2⟩
    ·rcases flds d' j' q hq' with ⟨rfl,rfl⟩ | ⟨hne,h3⟩
     ·simp only [and_self,if_true]
      exact Array.getElem?_setIfInBounds_self_of_lt hq
     ·simp only [hne,and_false,if_false]
      rw [Array.getElem?_setIfInBounds_ne (by omega)]
      exact hc _ j' r q hr h3
    ·simp only [hne,false_and,if_false]
     have hj'n:j'<n:=by have h4:=(List.getElem?_eq_some_iff.1 hq').1; rw [hn i' r' h2] at h4; exact h4
     rw [Array.getElem?_setIfInBounds_ne (fun e=>hne (inj i' j' hj'n (by omega)).1)]
     exact hc i' j' r' q h2 hq'
   ·rcases rows d' i' r' h' with ⟨rfl,rfl⟩ | ⟨hne,h2⟩
    ·rcases flds d' j' q hq' with ⟨rfl,rfl⟩ | ⟨hne,h3⟩
     ·simp only [and_self,if_true]
      exact ho _
     ·simp only [hne,and_false,if_false]
      exact (hk _ j' r q hr h3).set (p:=⟨g,_,none⟩) (fun hy=>(hY _ j' g hy).2 rfl) u'
    ·simp only [hne,false_and,if_false]
     exact (hk i' j' r' q h2 hq').set (p:=⟨g,_,none⟩) (fun hy=>(hY i' j' g hy).2 rfl) u'
  ·rw [hlen d']
   have hblk':w'.heap[g]? = some (.cells cur e (0,0)):=kb.heap hblk (fun hy=>(hY i j g hy).2 rfl)
   refine .row g off cap n e cur _ vs Y X (by rw [← hlen d']; exact hl) hcap hs hg hblk' (fun i' r' h' => ?_) (fun i' j' r' q h' hq' => ?_) (fun i' j' r' q h' hq' => ?_) hY hdis
   ·rcases rows d' i' r' h' with ⟨rfl,rfl⟩ | ⟨_,h2⟩
    ·rw [List.length_set]; exact hrn
    ·exact hn i' r' h2
   ·rcases rows d' i' r' h' with ⟨rfl,rfl⟩ | ⟨hne,h2⟩
    ·rcases flds d' j' q hq' with ⟨rfl,rfl⟩ | ⟨hne,h3⟩
     ·exact hc _ _ r d hr hj
     ·exact hc _ j' r q hr h3
    ·exact hc i' j' r' q h2 hq'
   ·rcases rows d' i' r' h' with ⟨rfl,rfl⟩ | ⟨hne,h2⟩
    ·rcases flds d' j' q hq' with ⟨rfl,rfl⟩ | ⟨hne,h3⟩
     ·exact ho
     ·exact (hk _ j' r q hr h3).moved (fun b hb hlt=>kb.block b hlt (fun hy=>hne (hdis _ j' _ j b hb hy).2))
    ·exact (hk i' j' r' q h2 hq').moved (fun b hb hlt=>kb.block b hlt (fun hy=>hne (hdis i' j' i j b hb hy).1))
theorem Own.head {w:World} {a:Option Addr} {n cap:Nat} {xs:List (List Dt)} {X:Nat→Prop} (h:Own w (.slice a n cap) (.row xs) X) {i:Nat} {r:List Dt} (hr:xs[i]? = some r) :
  ∃ g off,a=some ⟨g,off,none⟩∧X g∧∃ cur e,w.heap[g]? = some (.cells cur e (0,0)):=by
 cases h with
 | nil=>simp at hr
 | row g off cap n e cur xs vs Y X hl hcap hs hg hblk=>exact ⟨g,off,rfl,hg,cur,e,hblk⟩
theorem Own.slotAt {w:World} {g off n cap:Nat} {xs:List (List Dt)} {X:Nat→Prop} (h:Own w (.slice (some ⟨g,off,none⟩) n cap) (.row xs) X) {i j:Nat} {r:List Dt} {d:Dt} (hr:xs[i]? = some r) (hj:r[j]? = some d) :
  ∃ (u:Value) (Y:Nat→Prop),w.cell? ⟨g,off+i * r.length+j,none⟩=some u∧w.frozen? ⟨g,off+i * r.length+j,none⟩=false∧Own w u d Y∧(∀ b,Y b→X b∧b≠g) ∧
   (∀ (u':Value) (d':Dt),(∀ W:World,Own W u' d' Y)→Own (w.setCell ⟨g,off+i * r.length+j,none⟩ u') (.slice (some ⟨g,off,none⟩) n cap) (.row (xs.set i (r.set j d'))) X) ∧
   (∀ (w':World) (d':Dt),KB Y w w'→Own w' u d' Y→Own w' (.slice (some ⟨g,off,none⟩) n cap) (.row (xs.set i (r.set j d'))) X):=by
 obtain ⟨g',off',cap',u,Y,hv,-,-,h1,h2,h3,h4,h5,h6⟩:=h.slot hr hj
 obtain ⟨⟨rfl,rfl⟩,-⟩:(g=g'∧off=off')∧_:=by simpa using hv
 exact ⟨u,Y,h1,h2,h3,h4,h5,h6⟩
theorem OFs.dom {w:World}:∀ {vs:List Value} {ds:List Dt} {X:Nat→Prop},OFs w vs ds X→OFs w vs ds (fun b=>X b∧b<w.heap.size)
 | [],[],_,_=>trivial
 | _ :: _,_ :: _,_,⟨_,_,h1,h2,h3,h4,h5⟩=>⟨_,_,fun b hb=>⟨h1 b hb.1,hb.2⟩,fun b hb=>⟨h2 b hb.1,hb.2⟩,fun b hb hb'=>h3 b hb.1 hb'.1,h4.dom,h5.dom⟩
 | [],_ :: _,_,h=>h.elim
 | _ :: _,[],_,h=>h.elim
theorem OFs.split {w:World}:∀ {vs us:List Value} {ds es:List Dt} {X:Nat→Prop},vs.length=ds.length→OFs w (vs ++ us) (ds ++ es) X→∃ X1 X2:Nat→Prop,(∀ b,X1 b→X b)∧(∀ b,X2 b→X b)∧(∀ b,X1 b→X2 b→False)∧OFs w vs ds X1∧OFs w us es X2
 | [],_,[],_,X,_,h=>⟨fun _=>False,X,fun _ h=>h.elim,fun _ h=>h,fun _ h _=>h,trivial,h⟩
 | v :: vs,us,d :: ds,es,X,hl,⟨X1,X2,h1,h2,h3,h4,h5⟩=>by
  obtain ⟨Z1,Z2,k1,k2,k3,k4,k5⟩:=OFs.split (vs:=vs) (us:=us) (ds:=ds) (es:=es) (by simpa using hl) h5
  exact ⟨fun b=>X1 b∨Z1 b,Z2,fun b hb=>hb.elim (h1 b) (fun hz=>h2 b (k1 b hz)),fun b hb=>h2 b (k2 b hb),fun b hb hz=>hb.elim (fun hx=>h3 b hx (k2 b hz)) (fun hx=>k3 b hx hz),
   ⟨X1,Z1,fun b hb => .inl hb,fun b hb => .inr hb,fun b hb hz=>h3 b hb (k1 b hz),h4,k4⟩,k5⟩
 | [],_,_ :: _,_,_,hl,_=>by simp at hl
 | _ :: _,_,[],_,_,hl,_=>by simp at hl
theorem OFs.join {w:World}:∀ {vs us:List Value} {ds es:List Dt} {X X1 X2:Nat→Prop},(∀ b,X1 b→X b)→(∀ b,X2 b→X b)→(∀ b,X1 b→X2 b→False)→OFs w vs ds X1→OFs w us es X2→OFs w (vs ++ us) (ds ++ es) X
 | [],_,[],_,_,_,_,_,h2,_,_,k=>k.mono h2
 | _ :: _,_,_ :: _,_,_,_,X2,h1,h2,h3,⟨Z1,Z2,k1,k2,k3,k4,k5⟩,k =>
  ⟨Z1,fun b=>Z2 b∨X2 b,fun b hb=>h1 b (k1 b hb),fun b hb=>hb.elim (fun hz=>h1 b (k2 b hz)) (h2 b),fun b hb hz=>hz.elim (k3 b hb) (h3 b (k1 b hb)),k4,OFs.join (fun _ hb => .inl hb) (fun _ hb => .inr hb) (fun b hb hz=>h3 b (k2 b hb) hz) k5 k⟩
 | [],_,_ :: _,_,_,_,_,_,_,_,h,_=>h.elim
 | _ :: _,_,[],_,_,_,_,_,_,_,h,_=>h.elim
def MkC (f:FuncId) (P:List Dt→Prop):Prop:=∀ (vs:List Value) (r:List Dt) (X:Nat→Prop) (w:World) (k:Int),P r→OFs w vs r X→0≤k→k+(tcnt r:Int)≤100000000 →
 Calls Tryz.prog f #[.agg vs.toArray,.int .i64 k] w fun e w'=>e = .returned (.int .i64 (k+(tcnt r:Int)))∧OFs w' vs (tmk r k) X∧KB X w w'
def MkSl (f:FuncId) (P:List Dt→Prop):Prop:=∀ (v:Value) (xs:List (List Dt)) (X:Nat→Prop) (w:World) (k:Int),AllR P xs→Own w v (.row xs) X→0≤k→k+(Dt.cS xs:Int)≤100000000 →
 Calls Tryz.prog f #[v,.int .i64 k] w fun e w'=>e = .returned (.int .i64 (k+(Dt.cS xs:Int)))∧Own w' v (.row (Dt.mkS xs k)) X∧KB X w w'
def HlC (f:FuncId) (P:List Dt→Prop):Prop:=∀ (vs:List Value) (r:List Dt) (S:Nat→Prop) (w:World) (k:Int),P r→FsAt w S vs (tmk r k)→0≤k→k+(tcnt r:Int)≤100000000 →
 Calls Tryz.prog f #[.agg vs.toArray,.int .i64 k] w fun e w'=>e = .returned (.int .i64 (k+(tcnt r:Int)))∧Below w.heap.size w w'
def HlSl (f:FuncId) (P:List Dt→Prop):Prop:=∀ (v:Value) (xs:List (List Dt)) (S:Nat→Prop) (w:World) (k:Int),AllR P xs→FAt w S v (.row (Dt.mkS xs k))→0≤k→k+(Dt.cS xs:Int)≤100000000 →
 Calls Tryz.prog f #[v,.int .i64 k] w fun e w'=>e = .returned (.int .i64 (k+(Dt.cS xs:Int)))∧Below w.heap.size w w'
theorem markT_len (k:Int) (h:k≤1000000000):(markT k).size≤maxLen:=by
 unfold markT maxLen
 split
 ·decide
 ·have:∀ (f n:Nat) (acc:List UInt8),(markD f n acc).length≤f+acc.length:=by
   intro f
   induction f with
   | zero=>intro n acc; simp [markD]
   | succ f ih =>
    intro n acc
    rw [markD]
    split
    ·omega
    ·have:=ih (n / 10) (UInt8.ofNat (48+n % 10) :: acc)
     simp only [List.length_cons] at this
     omega
  have h1:=this k.toNat k.toNat []
  simp only [ByteArray.size,List.size_toArray,List.length_cons]
  simp at h1
  omega
theorem step_append_row {P:Program} {ops:Array Oper} {o:Oper} {a:Act} {w:World} {K:Act→World→Prop} {Q:Exit→Act→World→Prop} {E:Prop}
  (hg:o.guard=none) (s x:Operand) (t:TypeId) (hop:o.op=Op.call { callee:=Callee.builtin Builtin.append,args:=#[s,x],argTypes:=#[t,t] })
  (base:Nat) (e:TypeId) (i:TypeInfo) (z:Value) (size bytes:Nat) (ht:P.underlying t=some (.slice e)) (hi:P.info? e=some i) (hz:i.zero=some z) (hsize:i.size=size) (hby:i.bytes=bytes) (hzs:z.cells.size=size) (hsz:0<size)
  (v:Value) (n:Nat) (xs:List Value) (hs:a.eval s=v) (hown:w.ownsRow base e size v n xs)
  (ad:Addr) (m c:Nat) (news:List Value) (hx:a.eval x = .slice (some ad) m c) (hl:news.length=m * size) (hnews:∀ j u,news[j]? = some u→w.cell? (ad.add j)=some u) (h1:∀ u ∈ news,u.oneCell'=true)
  (h63:n+m≤maxLen) (hbytes:(n+m) * bytes≤140737488355328) (hbase:base≤w.heap.size)
  (hK:∀ v' w',w'.ownsRow base e size v' (n+m) (xs ++ news)→w.grownBy w' v.ownBlock→(v'.ownBlock=v.ownBlock∨v'.ownBlock=some w.heap.size)→K (a.put o.dst v') w') :
  if Region.wanted o (yielded ops a.tmps)=true then Oper.wp P o a w K Q else E:=by
 have hw:Region.wanted o (yielded ops a.tmps)=true:=by simp [Region.wanted,hg]
 rw [if_pos hw]
 obtain ⟨v',w',hr,h2,h3,h4,h5⟩:=run_append_own_at (P:=P) w base t o.type e i z size bytes ht hi hz hsize hby hzs hsz v n xs hown ad m c news hl hnews h1 h63 hbytes hbase
 unfold Oper.wp execOp
 simp only [hop,resolve,invoke,builtin,Sem.run_bind,Sem.run_pure,Result.andThen_ok,List.map_toArray,List.map_cons,List.map_nil,hs,hx,hr]
 exact hK v' w' h2 h3 h5
theorem step_call1 {P:Program} {ops:Array Oper} {o:Oper} {a:Act} {w:World} {K:Act→World→Prop} {Q:Exit→Act→World→Prop} {E:Prop}
  (hg:o.guard=none) (f:FuncId) (x:Operand) (ts:Array TypeId) (hop:o.op=Op.call { callee:=Callee.value (.func f),args:=#[x],argTypes:=ts }) (hent:∀ args w,(callFunc f args).run P w = .ok (.enter f args) w)
  (u:Value) (hx:a.eval x=u) (Post:Value→World→Prop) (hc:Calls P f #[u] w fun e w'=>∃ r,e = .returned r∧Post r w') (hK:∀ r w',Post r w'→K (a.put o.dst r) w') :
  if Region.wanted o (yielded ops a.tmps)=true then Oper.wp P o a w K Q else E:=by
 have hw:Region.wanted o (yielded ops a.tmps)=true:=by simp [Region.wanted,hg]
 rw [if_pos hw]
 unfold Oper.wp execOp
 have hf:a.eval (.func f) = .func (.func f) #[] #[]:=rfl
 simp [hop,resolve,invoke,hx,hf,hent,Deferred.ofValue]
 refine hc.mono ?_
 rintro e w' ⟨r,rfl,h⟩
 exact hK r w' h
theorem step_callB {P:Program} {ops:Array Oper} {o:Oper} {a:Act} {w:World} {K:Act→World→Prop} {Q:Exit→Act→World→Prop} {E:Prop}
  (hg:o.guard=none) (f:FuncId) (x y:Operand) (ts:Array TypeId) (hop:o.op=Op.call { callee:=Callee.value (.func f),args:=#[x,y],argTypes:=ts }) (hent:∀ args w,(callFunc f args).run P w = .ok (.enter f args) w)
  (u v:Value) (hx:a.eval x=u) (hy:a.eval y=v) (Post:Value→World→Prop) (hc:Calls P f #[u,v] w fun e w'=>∃ r,e = .returned r∧Post r w') (hK:∀ r w',Post r w'→K (a.put o.dst r) w') :
  if Region.wanted o (yielded ops a.tmps)=true then Oper.wp P o a w K Q else E:=by
 have hw:Region.wanted o (yielded ops a.tmps)=true:=by simp [Region.wanted,hg]
 rw [if_pos hw]
 unfold Oper.wp execOp
 have hf:a.eval (.func f) = .func (.func f) #[] #[]:=rfl
 simp [hop,resolve,invoke,hx,hy,hf,hent,Deferred.ofValue]
 refine hc.mono ?_
 rintro e w' ⟨r,rfl,h⟩
 exact hK r w' h
theorem step_append_fat {ops:Array Oper} {o:Oper} {a:Act} {w:World} {K:Act→World→Prop} {Q:Exit→Act→World→Prop} {E:Prop}
  (hgd:o.guard=none) (s x:Operand) (t:TypeId) (ho:o.op = .call { callee:=.builtin .append,args:=#[s,x],argTypes:=#[t,t] })
  (base:Nat) (e:TypeId) (i:TypeInfo) (z:Value) (size bytes:Nat) (ht:Tryz.prog.underlying t=some (.slice e)) (hi:Tryz.prog.info? e=some i) (hz:i.zero=some z)
  (hsize:i.size=size) (hby:i.bytes=bytes) (hzs:z.cells.size=size) (hsz:0<size) (v:Value) (n:Nat) (ys:List Value) (hs:a.eval s=v) (hown:w.ownsRow base e size v n ys)
  (sv:Value) (hx:a.eval x=sv) (xs:List (List Dt)) (S:Nat→Prop) (hF:FAt w S sv (.row xs)) (hN:∀ (i:Nat) (r:List Dt),xs[i]? = some r→r.length=size) (h63:n+xs.length≤maxLen) (hbytes:(n+xs.length) * bytes≤140737488355328) (hbase:base≤w.heap.size)
  (h:∀ v' w' flat,w'.ownsRow base e size v' (n+xs.length) (ys ++ flat)→w.grownBy w' v.ownBlock→(v'.ownBlock=v.ownBlock∨v'.ownBlock=some w.heap.size) →
   (∀ (i j:Nat) (r:List Dt) (d:Dt),xs[i]? = some r→r[j]? = some d→∃ u,flat[i * size+j]? = some u∧FAt w S u d)→K (a.put o.dst v') w') :
  if Region.wanted o (yielded ops a.tmps)=true then Oper.wp Tryz.prog o a w K Q else E:=by
 have hw:Region.wanted o (yielded ops a.tmps)=true:=by simp [Region.wanted,hgd]
 rw [if_pos hw]
 obtain ⟨v',w',flat,hr,h2,h3,h4,h5⟩:=run_append_fat (w:=w) base t o.type e i z size bytes ht hi hz hsize hby hzs hsz v n ys hown sv xs S hF hN h63 hbytes hbase
 unfold Oper.wp execOp
 simp only [ho,resolve,invoke,builtin,Sem.run_bind,Sem.run_pure,Result.andThen_ok,List.map_toArray,List.map_cons,List.map_nil,hs,hx,hr]
 exact h v' w' flat h2 h3 h4 h5
theorem row_empty {w:World} {g B:Nat} {e:TypeId} (h:w.heap[g]? = some (.cells #[] e)) (hB:B≤g):w.ownsRow B e 1 (.slice (some ⟨g,0,none⟩) 0 0) 0 [] :=
 ⟨rfl,.inr ⟨g,0,#[],rfl,hB,h,Nat.le_refl _,Nat.zero_le _,rfl,rfl⟩⟩
end Go.Proofs.YtmmadoabejgffaaGreatDoor
