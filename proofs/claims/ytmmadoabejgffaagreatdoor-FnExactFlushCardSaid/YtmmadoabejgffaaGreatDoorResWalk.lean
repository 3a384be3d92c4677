/-
  Proofs.
-/
import Derived.Deep.RegionHeld3
namespace Go.Proofs.YtmmadoabejgffaaGreatDoor
structure ROp where
 op:Nat
 dst:Option Nat
 needs:List Nat
 uses:List Nat
def fillT (val:Nat→Value) (ls:Nat→Bool):List ROp→Array Value→Array Value
 | [],t=>t
 | p :: L,t=>fillT val ls L (if ls p.op=true then (match p.dst with | some d=>t.setIfInBounds d (val p.op) | none=>t) else t)
def dstsOf (L:List ROp):List Nat:=L.filterMap ROp.dst
theorem dsts_tail {d:Nat} {L:List ROp} (p:ROp) (h:d ∈ dstsOf L):d ∈ dstsOf (p :: L):=by
 unfold dstsOf at *
 rw [List.filterMap_cons]
 cases p.dst with
 | none=>exact h
 | some e=>exact List.mem_cons_of_mem _ h
theorem fillT_comm (val:Nat→Value) (ls:Nat→Bool) (d:Nat) (v:Value):∀ (L:List ROp) (t:Array Value),d ∉ dstsOf L→fillT val ls L (t.setIfInBounds d v)=(fillT val ls L t).setIfInBounds d v
 | [],_,_=>rfl
 | p :: L,t,h=>by
  have hL:d ∉ dstsOf L:=fun hm=>h (dsts_tail p hm)
  rw [fillT,fillT]
  split
  ·cases hp:p.dst with
   | none=>simp only []; exact fillT_comm val ls d v L t hL
   | some e =>
    simp only []
    have hne:d≠e:=fun he=>h (by unfold dstsOf; rw [List.filterMap_cons,hp]; simp [he])
    rw [Array.setIfInBounds_comm _ _ hne]
    exact fillT_comm val ls d v L _ hL
  ·exact fillT_comm val ls d v L t hL
theorem fillT_congr {val val':Nat→Value} {ls ls':Nat→Bool}:∀ (L:List ROp) (t:Array Value),(∀ p ∈ L,ls p.op=ls' p.op∧val p.op=val' p.op)→fillT val ls L t=fillT val' ls' L t
 | [],_,_=>rfl
 | p :: L,t,h=>by
  obtain ⟨h1,h2⟩:=h p (List.mem_cons_self ..)
  rw [fillT,fillT,h1,h2]
  exact fillT_congr L _ (fun q hq=>h q (List.mem_cons_of_mem _ hq))
def updV (val:Nat→Value) (i:Nat) (r:Value):Nat→Value:=fun j=>if j=i then r else val j
def updX (X:Nat→Nat→Prop) (i:Nat) (us:List Nat) (Y:Nat→Prop):Nat→Nat→Prop:=fun j b=>(j=i∧Y b)∨(j≠i∧j ∉ us∧X j b)
theorem updV_self (val:Nat→Value) (i:Nat) (r:Value):updV val i r i=r:=by simp [updV]
theorem updV_ne (val:Nat→Value) {i j:Nat} (r:Value) (h:j≠i):updV val i r j=val j:=by simp [updV,h]
theorem fillT_put (val:Nat→Value) (ls:Nat→Bool) {p:ROp} (r:Value) (hp:ls p.op=false):∀ (L:List ROp) (t:Array Value),p ∈ L→(L.map ROp.op).Nodup→(dstsOf L).Nodup →
  fillT (updV val p.op r) (fun i=>if i=p.op then true else ls i) L t=(match p.dst with | some d=>(fillT val ls L t).setIfInBounds d r | none=>fillT val ls L t)
 | [],_,h,_,_=>by cases h
 | q :: L,t,h,hn,hd=>by
  rw [List.map_cons,List.nodup_cons] at hn
  have hdL:(dstsOf L).Nodup:=by
   unfold dstsOf at hd ⊢
   rw [List.filterMap_cons] at hd
   split at hd
   ·exact hd
   ·exact (List.nodup_cons.1 hd).2
  rcases List.mem_cons.1 h with rfl | hm
  ·have hc:fillT (updV val p.op r) (fun i=>if i=p.op then true else ls i) L=fillT val ls L:=funext fun t=>fillT_congr L t (fun q hq=>by
    have hne:q.op≠p.op:=fun e=>hn.1 (by rw [← e]; exact List.mem_map_of_mem hq)
    exact ⟨by simp [hne],updV_ne val r hne⟩)
   rw [fillT,fillT,if_pos (by simp),if_neg (by rw [hp]; simp),hc,updV_self]
   cases hpd:p.dst with
   | none=>rfl
   | some d =>
    simp only []
    refine fillT_comm val ls d r L t (fun hm => ?_)
    unfold dstsOf at hd hm
    rw [List.filterMap_cons,hpd] at hd
    exact (List.nodup_cons.1 hd).1 hm
  ·have hne:q.op≠p.op:=fun e=>hn.1 (by rw [e]; exact List.mem_map_of_mem hm)
   rw [fillT,fillT,updV_ne val r hne]
   simp only [hne,if_false]
   exact fillT_put val ls r hp L _ hm hn.2 hdL
theorem fillT_else (val:Nat→Value) (ls:Nat→Bool) (d:Nat) (x:Value):∀ (L:List ROp) (t:Array Value),d ∉ dstsOf L→(fillT val ls L t).getD d x=t.getD d x
 | [],_,_=>rfl
 | p :: L,t,h=>by
  have hL:d ∉ dstsOf L:=fun hm=>h (dsts_tail p hm)
  rw [fillT,fillT_else val ls d x L _ hL]
  split
  ·cases hp:p.dst with
   | none=>rfl
   | some e =>
    have hne:e≠d:=fun he=>h (by unfold dstsOf; rw [List.filterMap_cons,hp]; simp [he])
    simp only []
    rw [Array.getD_eq_getD_getElem?,Array.getD_eq_getD_getElem?,Array.getElem?_setIfInBounds_ne hne]
  ·rfl
theorem fillT_get (val:Nat→Value) (ls:Nat→Bool) {p:ROp} {d:Nat} (x:Value) (hp:ls p.op=true) (hd:p.dst=some d):∀ (L:List ROp) (t:Array Value),p ∈ L→(dstsOf L).Nodup→d<t.size→(fillT val ls L t).getD d x=val p.op
 | [],_,h,_,_=>by cases h
 | q :: L,t,h,hn,hlt=>by
  have hdL:(dstsOf L).Nodup:=by
   unfold dstsOf at hn ⊢
   rw [List.filterMap_cons] at hn
   split at hn
   ·exact hn
   ·exact (List.nodup_cons.1 hn).2
  rcases List.mem_cons.1 h with rfl | hm
  ·have hnot:d ∉ dstsOf L:=fun hm=>by
    unfold dstsOf at hn hm
    rw [List.filterMap_cons,hd] at hn
    exact (List.nodup_cons.1 hn).1 hm
   rw [fillT,if_pos hp,hd]
   simp only []
   rw [fillT_else val ls d x L _ hnot,Array.getD_eq_getD_getElem?,Array.getElem?_setIfInBounds_self_of_lt hlt]
   rfl
  ·rw [fillT]
   refine fillT_get val ls x hp hd L _ hm hdL ?_
   split
   ·split
    ·simpa using hlt
    ·exact hlt
   ·exact hlt
def resOk (ops:Array Oper) (listed0:Array Bool) (L:List ROp):Bool :=
 (List.range ops.size).all (fun i=>listed0.getD i false || (L.map ROp.op).contains i) &&
 (listed0.size == ops.size) &&
 L.all (fun p=>listed0.getD p.op true == decide (ops.size≤p.op)) &&
 decide (L.map ROp.op).Nodup && decide (dstsOf L).Nodup &&
 L.all (fun p=>p.uses.all p.needs.contains) &&
 L.all (fun p=>match ops[p.op]? with | none=>p.dst == none && p.needs.isEmpty | some o=>(o.dst == p.dst) && p.needs.all (fun k=>decide (ops.size≤k) || o.after.toList.any (fun e=>Region.binds .any e && e.on == k)))
def topoOk (ops:Array Oper) (listed0:Array Bool):List Nat→List ROp→Bool
 | _,[]=>true
 | done,p :: L =>
  (match ops[p.op]? with | none=>true | some o=>o.after.all (fun e => !Region.binds .any e || listed0.getD e.on false || (done.contains e.on && decide (e.on<ops.size)))) &&
  topoOk ops listed0 (p.op :: done) L
def nextOf (ops:Array Oper) (i:Nat):List Nat:=match ops[i]? with | none=>[] | some o=>(o.after.toList.filter (Region.binds .any ·)).map (·.on)
def reachAll (ops:Array Oper):Nat→List Nat→List Nat
 | 0,l=>l
 | f+1,l=>reachAll ops f (l ++ l.flatMap (nextOf ops)).eraseDups
def takeOk (ops:Array Oper) (L:List ROp):Bool :=
 L.all fun p=>L.all fun q=>p.op == q.op || !(p.needs.any (fun k=>q.uses.contains k)) || decide (ops.size≤p.op) || (reachAll ops ops.size [q.op]).contains p.op
theorem ls_lt {listed:Array Bool} {i:Nat} (h:listed.getD i true=false):i<listed.size:=by
 by_cases hi:i<listed.size
 ·exact hi
 ·rw [Array.getD_eq_getD_getElem?,Array.getElem?_eq_none (by omega)] at h; cases h
theorem ls_same {listed:Array Bool} {i:Nat} (h:i<listed.size):listed.getD i true=listed.getD i false:=by
 rw [Array.getD_eq_getD_getElem?,Array.getD_eq_getD_getElem?,Array.getElem?_eq_getElem h]; rfl
theorem ls_ge {listed:Array Bool} {i:Nat} (h:listed.size≤i):listed.getD i true=true:=by
 rw [Array.getD_eq_getD_getElem?,Array.getElem?_eq_none h]; rfl
theorem ls_set {listed:Array Bool} {i:Nat} (hi:i<listed.size) (j:Nat) (d:Bool):(listed.setIfInBounds i true).getD j d=if j=i then true else listed.getD j d:=by
 by_cases hj:j=i
 ·subst hj
  rw [if_pos rfl,Array.getD_eq_getD_getElem?,Array.getElem?_setIfInBounds_self_of_lt hi]; rfl
 ·rw [if_neg hj,Array.getD_eq_getD_getElem?,Array.getD_eq_getD_getElem?,Array.getElem?_setIfInBounds_ne (Ne.symm hj)]
theorem topo_first {ops:Array Oper} {listed0 listed:Array Bool} (hsz:listed.size=ops.size) (hmono:∀ i,listed0.getD i false=true→listed.getD i false=true):∀ (L:List ROp) (done:List Nat),topoOk ops listed0 done L=true →
  (∀ k ∈ done,listed.getD k true=true)→(∃ p ∈ L,listed.getD p.op true=false)→∃ i,i ∈ Region.ready .any ops listed
 | [],_,_,_,h=>by obtain ⟨p,hp,_⟩:=h; cases hp
 | p :: L,done,ht,hd,h=>by
  rw [topoOk,Bool.and_eq_true] at ht
  cases hl:listed.getD p.op true with
  | false =>
   have hlt:p.op<ops.size:=by rw [← hsz]; exact ls_lt hl
   have hlt':=hlt
   refine ⟨p.op,mem_ready.2 ⟨hl,ops[p.op],Array.getElem?_eq_getElem hlt,fun e he hb => ?_⟩⟩
   have h1:=ht.1
   rw [Array.getElem?_eq_getElem hlt] at h1
   have h2:=Array.all_eq_true_iff_forall_mem.1 h1 e he
   rw [hb] at h2
   simp only [Bool.not_true,Bool.false_or,Bool.or_eq_true,Bool.and_eq_true,List.contains_iff_mem,decide_eq_true_eq] at h2
   rcases h2 with h3 | h3
   ·exact hmono _ h3
   ·rw [← ls_same (by rw [hsz]; exact h3.2)]; exact hd _ h3.1
  | true =>
   obtain ⟨q,hq,hqf⟩:=h
   refine topo_first hsz hmono L (p.op :: done) ht.2 (fun k hk => ?_) ⟨q,?_,hqf⟩
   ·rcases List.mem_cons.1 hk with rfl | hk
    ·exact hl
    ·exact hd k hk
   ·rcases List.mem_cons.1 hq with rfl | hq
    ·rw [hl] at hqf; cases hqf
    ·exact hq
def ClosedL (ops:Array Oper) (listed:Array Bool):Prop:=∀ i o,ops[i]? = some o→listed.getD i false=true→∀ e ∈ o.after,Region.binds .any e=true→listed.getD e.on false=true
theorem reach_closed {ops:Array Oper} {listed:Array Bool} (hc:ClosedL ops listed):∀ (f:Nat) (l:List Nat),(∀ k ∈ l,k<ops.size→listed.getD k false=true)→∀ k ∈ reachAll ops f l,k<ops.size→listed.getD k false=true
 | 0,l,h,k,hk,hlt=>h k hk hlt
 | f+1,l,h,k,hk,hlt=>by
  rw [reachAll] at hk
  refine reach_closed hc f _ (fun j hj hjl => ?_) k hk hlt
  rcases List.mem_append.1 (List.mem_eraseDups.1 hj) with hj | hj
  ·exact h j hj hjl
  ·obtain ⟨i,hi,hji⟩:=List.mem_flatMap.1 hj
   unfold nextOf at hji
   cases ho:ops[i]? with
   | none=>rw [ho] at hji; cases hji
   | some o =>
    rw [ho] at hji
    obtain ⟨e,he,rfl⟩:=List.mem_map.1 hji
    obtain ⟨he1,he2⟩:=List.mem_filter.1 he
    have hil:=(Array.getElem?_eq_some_iff.1 ho).1
    exact hc i o ho (h i hi hil) e (by simpa using he1) he2
section
variable {P:Program} {ops:Array Oper} {Q:Exit→Act→World→Prop} {S:World→Prop}
structure RInv (ops:Array Oper) (L:List ROp) (R:Nat→List Value→Value→(Nat→Prop)→World→Prop) (T0:Array Value) (ds:List Deferred) (listed0:Array Bool) (Fr:World→Prop) (lo:Nat) (listed:Array Bool) (a:Act) (w:World) (val:Nat→Value) (X:Nat→Nat→Prop):Prop where
 act:a=⟨fillT val (fun i=>listed.getD i true) L T0,ds⟩
 fr:Fr w
 size:listed.size=ops.size
 mono:∀ i,listed0.getD i false=true→listed.getD i false=true
 closed:ClosedL ops listed
 dom:∀ i b,X i b→lo≤b∧b<w.heap.size
 dis:∀ i j b,X i b→X j b→i=j
 res:∀ p ∈ L,listed.getD p.op true=true→(∀ q ∈ L,p.op ∈ q.uses→listed.getD q.op true=false)→R p.op (p.needs.map val) (val p.op) (X p.op) w
theorem wpAnyH_res (L:List ROp) (R:Nat→List Value→Value→(Nat→Prop)→World→Prop) (T0:Array Value) (ds:List Deferred) (listed0:Array Bool) (Fr:World→Prop) (lo:Nat)
  (hlo:∀ w,Fr w→lo≤w.heap.size) (hok:resOk ops listed0 L=true) (htopo:topoOk ops listed0 [] L=true) (htake:takeOk ops L=true) (hdst:∀ d ∈ dstsOf L,d<T0.size)
  (hR:∀ i vs v Y (w w':World),R i vs v Y w→(∀ b,Y b→b<w.heap.size→w'.heap[b]? = w.heap[b]?)→R i vs v Y w')
  (hstep:∀ p ∈ L,p.op<ops.size→∀ (val:Nat→Value) (X:Nat→Nat→Prop) (a:Act) (w:World),Fr w→a.defers=ds→(∀ d x,d ∉ dstsOf L→a.tmps.getD d x=T0.getD d x) →
   (∀ q ∈ L,q.op ∈ p.needs→(∀ d x,q.dst=some d→a.tmps.getD d x=val q.op)∧R q.op (q.needs.map val) (val q.op) (X q.op) w)→(∀ i b,X i b→lo≤b∧b<w.heap.size)→(∀ i j b,X i b→X j b→i=j) →
   wpOp P ops Q p.op (fun a' w'=>∃ (r:Value) (Y:Nat→Prop),a'=a.put p.dst r∧Fr w'∧S w'∧w.heap.size≤w'.heap.size∧(∀ b j,X j b→j ∉ p.uses→w'.heap[b]? = w.heap[b]?)∧(∀ b,Y b→(∃ k ∈ p.uses,X k b)∨(w.heap.size≤b∧b<w'.heap.size))∧R p.op (p.needs.map val) r Y w') a w)
  (hfin:∀ (val:Nat→Value) (X:Nat→Nat→Prop) (w:World),Fr w→(∀ i b,X i b→lo≤b∧b<w.heap.size)→(∀ i j b,X i b→X j b→i=j) →
   (∀ p ∈ L,(∀ q ∈ L,p.op ∉ q.uses)→R p.op (p.needs.map val) (val p.op) (X p.op) w)→Q .normal ⟨fillT val (fun _=>true) L T0,ds⟩ w) :
  ∀ (fuel:Nat) (listed:Array Bool) (a:Act) (w:World) (val:Nat→Value) (X:Nat→Nat→Prop),RInv ops L R T0 ds listed0 Fr lo listed a w val X→((List.range ops.size).filter (fun i => !listed.getD i true)).length≤fuel→wpAnyH P .any ops Q S fuel listed a w:=by
 unfold resOk at hok
 simp only [Bool.and_eq_true,List.all_eq_true,List.mem_range,beq_iff_eq,decide_eq_true_eq,Bool.or_eq_true,List.contains_iff_mem] at hok
 obtain ⟨⟨⟨⟨⟨⟨k1,k2⟩,k3⟩,k4⟩,k5⟩,k6⟩,k7⟩:=hok
 have inL:∀ {listed:Array Bool},listed.size=ops.size→(∀ i,listed0.getD i false=true→listed.getD i false=true)→∀ i,listed.getD i true=false→∃ p ∈ L,p.op=i:=fun {listed} hs hm i hi=>by
  have hlt:i<ops.size:=by rw [← hs]; exact ls_lt hi
  rcases k1 i hlt with h | h
  ·have:=hm i h
   rw [← ls_same (by rw [hs]; exact hlt),hi] at this
   cases this
  ·obtain ⟨p,hp,he⟩:=List.mem_map.1 h
   exact ⟨p,hp,he⟩
 have atEnd:∀ (listed:Array Bool) (a:Act) (w:World) (val:Nat→Value) (X:Nat→Nat→Prop),RInv ops L R T0 ds listed0 Fr lo listed a w val X→Region.ready .any ops listed=[]→Q .normal a w:=fun listed a w val X h hr=>by
  have hall:∀ i,listed.getD i true=true:=fun i=>by
   cases hi:listed.getD i true with
   | true=>rfl
   | false =>
    obtain ⟨p,hp,rfl⟩:=inL h.size h.mono i hi
    obtain ⟨j,hj⟩:=topo_first h.size h.mono L [] htopo (fun k hk=>by cases hk) ⟨p,hp,hi⟩
    rw [hr] at hj
    cases hj
  rw [h.act,show (fun i=>listed.getD i true)=(fun _=>true) from funext hall]
  exact hfin val X w h.fr h.dom h.dis (fun p hp hu=>h.res p hp (hall _) (fun q hq hm=>absurd hm (hu q hq)))
 intro fuel
 induction fuel with
 | zero =>
  intro listed a w val X h hc
  have hr:Region.ready .any ops listed=[]:=by
   cases hr:Region.ready .any ops listed with
   | nil=>rfl
   | cons i l =>
    have hi:i ∈ Region.ready .any ops listed:=by rw [hr]; exact List.mem_cons_self ..
    have h1:=(mem_ready.1 hi).1
    have hlt:i<ops.size:=by rw [← h.size]; exact ls_lt h1
    have:i ∈ (List.range ops.size).filter (fun i => !listed.getD i true):=List.mem_filter.2 ⟨List.mem_range.2 hlt,by rw [h1]; rfl⟩
    have:=List.length_pos_of_mem this
    omega
  exact ⟨hr,atEnd listed a w val X h hr⟩
 | succ fuel ih =>
  intro listed a w val X h hc
  refine ⟨atEnd listed a w val X h,fun i hi => ?_⟩
  obtain ⟨hun,o,ho,hready⟩:=mem_ready.1 hi
  obtain ⟨p,hp,rfl⟩:=inL h.size h.mono i hun
  have hlt:p.op<ops.size:=(Array.getElem?_eq_some_iff.1 ho).1
  have hls:p.op<listed.size:=by rw [h.size]; exact hlt
  have hk7:=k7 p hp
  rw [ho] at hk7
  simp only [Bool.and_eq_true,beq_iff_eq,List.all_eq_true,Bool.or_eq_true,decide_eq_true_eq,List.any_eq_true,Array.mem_toList_iff] at hk7
  have needL:∀ k ∈ p.needs,listed.getD k true=true:=fun k hk=>by
   rcases hk7.2 k hk with hge | ⟨e,he,hb,rfl⟩
   ·exact ls_ge (by rw [h.size]; exact hge)
   ·have:=hready e he hb
    rw [ls_same]
    ·exact this
    ·by_cases hz:e.on<listed.size
     ·exact hz
     ·rw [Array.getD_eq_getD_getElem?,Array.getElem?_eq_none (by omega)] at this; cases this
  have freeN:∀ q ∈ L,q.op ∈ p.needs→∀ z ∈ L,q.op ∈ z.uses→listed.getD z.op true=false:=fun q hq hqn z hz hu=>by
   cases hzl:listed.getD z.op true with
   | false=>rfl
   | true =>
    exfalso
    unfold takeOk at htake
    simp only [List.all_eq_true,Bool.or_eq_true,beq_iff_eq,Bool.not_eq_true',List.any_eq_false,List.contains_iff_mem,decide_eq_true_eq] at htake
    rcases htake p hp z hz with ((h1 | h1) | h1) | h1
    ·rw [← h1,hun] at hzl; cases hzl
    ·exact h1 q.op hqn hu
    ·omega
    ·by_cases hzs:z.op<ops.size
     ·have:=reach_closed h.closed ops.size [z.op] (fun k hk hkl=>by
       rw [List.mem_singleton] at hk
       subst hk
       rw [← ls_same (by rw [h.size]; exact hkl)]; exact hzl) p.op h1 hlt
      rw [← ls_same hls,hun] at this
      cases this
     ·have h2:=k7 z hz
      have h3:=k6 z hz q.op hu
      rw [Array.getElem?_eq_none (by omega)] at h2
      have hno:∀ f l,(∀ k ∈ l,ops.size≤k)→∀ k ∈ reachAll ops f l,ops.size≤k:=by
       intro f
       induction f with
       | zero=>intro l hl; exact hl
       | succ f ihf =>
        intro l hl
        rw [reachAll]
        refine ihf _ (fun k hk => ?_)
        rcases List.mem_append.1 (List.mem_eraseDups.1 hk) with hk | hk
        ·exact hl k hk
        ·obtain ⟨i,hi,hki⟩:=List.mem_flatMap.1 hk
         unfold nextOf at hki
         rw [Array.getElem?_eq_none (hl i hi)] at hki
         cases hki
      have:=hno _ _ (fun k hk=>by rw [List.mem_singleton] at hk; omega) p.op h1
      omega
  have hs:=hstep p hp hlt val X a w h.fr (by rw [h.act]) (fun d x hd=>by rw [h.act]; exact fillT_else val _ d x L T0 hd)
   (fun q hq hqn=>⟨fun d x hqd=>by
     rw [h.act]
     exact fillT_get val _ x (needL _ hqn) hqd L T0 hq k5 (hdst d (List.mem_filterMap.2 ⟨q,hq,hqd⟩)),h.res q hq (needL _ hqn) (freeN q hq hqn)⟩) h.dom h.dis
  refine wpOp_mono (fun a' w' ⟨r,Y,e1,e2,e3,e4,e5,e6,e7⟩=>⟨e3,?_⟩) hs
  have hset:∀ j,(listed.setIfInBounds p.op true).getD j true=if j=p.op then true else listed.getD j true:=fun j=>ls_set hls j true
  have selfN:∀ k ∈ p.needs,k≠p.op:=fun k hk e=>by have:=needL k hk; rw [e,hun] at this; cases this
  have needQ:∀ q ∈ L,listed.getD q.op true=true→∀ k ∈ q.needs,k≠p.op:=fun q hq hql k hk e=>by
   have h2:=k7 q hq
   by_cases hqs:q.op<ops.size
   ·rw [Array.getElem?_eq_getElem hqs] at h2
    simp only [Bool.and_eq_true,beq_iff_eq,List.all_eq_true,Bool.or_eq_true,decide_eq_true_eq,List.any_eq_true,Array.mem_toList_iff] at h2
    rcases h2.2 k hk with hge | ⟨e',he',hb',rfl⟩
    ·omega
    ·have:=h.closed q.op _ (Array.getElem?_eq_getElem hqs) (by rw [← ls_same (by rw [h.size]; exact hqs)]; exact hql) e' he' hb'
     rw [e,← ls_same hls,hun] at this
     cases this
   ·rw [Array.getElem?_eq_none (by omega)] at h2
    simp only [Bool.and_eq_true,List.isEmpty_iff] at h2
    rw [h2.2] at hk
    cases hk
  have mapN:∀ l:List Nat,(∀ k ∈ l,k≠p.op)→l.map (updV val p.op r)=l.map val:=fun l hl=>List.map_congr_left (fun k hk=>updV_ne val r (hl k hk))
  refine ih (listed.setIfInBounds p.op true) a' w' (updV val p.op r) (updX X p.op p.uses Y) ⟨?_,e2,by simp [h.size],fun j hj => ?_,fun j oj hoj hjl e he hb => ?_,fun j b hb => ?_,fun j k b hj hk => ?_,fun q hq hql hfree => ?_⟩ ?_
  ·rw [e1,h.act,show (fun j=>(listed.setIfInBounds p.op true).getD j true)=(fun j=>if j=p.op then true else listed.getD j true) from funext hset,fillT_put val (fun j=>listed.getD j true) r hun L T0 hp k4 k5]
   unfold Act.put
   cases p.dst <;> rfl
  ·rw [ls_set hls]
   split
   ·rfl
   ·exact h.mono j hj
  ·rw [ls_set hls] at hjl ⊢
   split
   ·rfl
   ·by_cases hjp:j=p.op
    ·subst hjp
     obtain rfl:o=oj:=Option.some.inj (ho.symm.trans hoj)
     exact hready e he hb
    ·rw [if_neg hjp] at hjl
     exact h.closed j oj hoj hjl e he hb
  ·have hl:=hlo w h.fr
   rcases hb with ⟨_,hb⟩ | ⟨_,_,hb⟩
   ·rcases e6 b hb with ⟨k,hk,hb'⟩ | hb'
    ·have:=h.dom k b hb'; omega
    ·omega
   ·have:=h.dom j b hb; omega
  ·have yx:∀ z,z ∉ p.uses→Y b→X z b→False:=fun z hz hy hx=>by
    have hd:=h.dom z b hx
    rcases e6 b hy with ⟨u,hu,hb'⟩ | hb'
    ·have:=h.dis u z b hb' hx
     exact hz (this ▸ hu)
    ·omega
   rcases hj with ⟨hj,hjy⟩ | ⟨hj,hju,hjx⟩ <;> rcases hk with ⟨hk,hky⟩ | ⟨hk,hku,hkx⟩
   ·rw [hj,hk]
   ·exact (yx k hku hjy hkx).elim
   ·exact (yx j hju hky hjx).elim
   ·exact h.dis j k b hjx hkx
  ·rw [hset] at hql
   by_cases hqp:q.op=p.op
   ·have hqe:q=p:=by
     have hn:=k4
     clear hql
     revert hq hp
     generalize L=M at hn
     intro hq hp
     induction M with
     | nil=>cases hq
     | cons z M ihM =>
      rw [List.map_cons,List.nodup_cons] at hn
      rcases List.mem_cons.1 hq with e1 | hq' <;> rcases List.mem_cons.1 hp with e2 | hp'
      ·rw [e1,e2]
      ·first | exact absurd (List.mem_map.2 ⟨_,hp',by rw [← hqp,e1]⟩) hn.1 | exact absurd (List.mem_map.2 ⟨_,hp',by rw [hqp,e1]⟩) hn.1
      ·first | exact absurd (List.mem_map.2 ⟨_,hq',by rw [← hqp,e2]⟩) hn.1 | exact absurd (List.mem_map.2 ⟨_,hq',by rw [hqp,e2]⟩) hn.1
      ·first | exact ihM hn.2 hq' hp' | exact ihM hn.2 hp' hq'
    subst hqe
    rw [mapN _ selfN,updV_self]
    have:updX X q.op q.uses Y q.op=Y:=funext fun b=>by
     unfold updX
     simp
    rw [this]
    exact e7
   ·rw [if_neg hqp] at hql
    have hnu:q.op ∉ p.uses:=fun hu=>by
     have:=hfree p hp hu
     rw [hset,if_pos rfl] at this
     cases this
    rw [mapN _ (needQ q hq hql),updV_ne val r hqp]
    have:updX X p.op p.uses Y q.op=X q.op:=funext fun b=>by
     unfold updX
     simp [hqp,hnu]
    rw [this]
    refine hR _ _ _ _ w w' (h.res q hq hql (fun z hz hzu => ?_)) (fun b hb _=>e5 b q.op hb hnu)
    have:=hfree z hz hzu
    rw [hset] at this
    split at this
    ·cases this
    ·exact this
  ·have hlt2:((List.range ops.size).filter (fun i => !(listed.setIfInBounds p.op true).getD i true)).length<((List.range ops.size).filter (fun i => !listed.getD i true)).length:=by
    have e:(List.range ops.size).filter (fun i => !(listed.setIfInBounds p.op true).getD i true)=((List.range ops.size).filter (fun i => !listed.getD i true)).filter (fun i => !(i == p.op)):=by
     rw [List.filter_filter]
     refine List.filter_congr (fun i _ => ?_)
     rw [hset]
     by_cases hip:i=p.op
     ·simp [hip]
     ·simp [hip]
    rw [e]
    exact List.length_filter_lt_length_iff_exists.2 ⟨p.op,List.mem_filter.2 ⟨List.mem_range.2 hlt,by rw [hun]; rfl⟩,by simp⟩
   omega
def closedOk (ops:Array Oper) (listed0:Array Bool):Bool :=
 (List.range ops.size).all fun i => !listed0.getD i false || (match ops[i]? with | none=>true | some o=>o.after.toList.all fun e => !Region.binds .any e || listed0.getD e.on false)
theorem closedOk_spec {listed0:Array Bool} (h:closedOk ops listed0=true):ClosedL ops listed0:=fun i o ho hi e he hb=>by
 unfold closedOk at h
 rw [List.all_eq_true] at h
 have:=h i (List.mem_range.2 (Array.getElem?_eq_some_iff.1 ho).1)
 rw [hi,ho] at this
 simp only [Bool.not_true,Bool.false_or,List.all_eq_true,Bool.or_eq_true,Bool.not_eq_true',Array.mem_toList_iff] at this
 rcases this e he with h1 | h1
 ·rw [hb] at h1; cases h1
 ·exact h1
def AllP (f:ROp→Prop):List ROp→Prop
 | []=>True
 | p :: L=>f p∧AllP f L
theorem AllP.mem {f:ROp→Prop}:∀ {L:List ROp},AllP f L→∀ p ∈ L,f p
 | [],_,_,h=>by cases h
 | q :: L,h,p,hp=>by
  rcases List.mem_cons.1 hp with rfl | hp
  ·exact h.1
  ·exact AllP.mem h.2 p hp
def countL (ops:Array Oper) (listed:Array Bool):Nat:=((List.range ops.size).filter (fun i => !listed.getD i true)).length
def RStep (P:Program) (ops:Array Oper) (Q:Exit→Act→World→Prop) (S:World→Prop) (L:List ROp) (R:Nat→List Value→Value→(Nat→Prop)→World→Prop) (T0:Array Value) (ds:List Deferred) (Fr:World→Prop) (lo:Nat) (p:ROp):Prop :=
 ops.size≤p.op∨∃ o,ops[p.op]? = some o∧∀ (val:Nat→Value) (X:Nat→Nat→Prop) (a:Act) (w:World) (K:Act→World→Prop),Fr w→a.defers=ds→(∀ d x,d ∉ dstsOf L→a.tmps.getD d x=T0.getD d x) →
   (∀ q ∈ L,q.op ∈ p.needs→(∀ d x,q.dst=some d→a.tmps.getD d x=val q.op)∧R q.op (q.needs.map val) (val q.op) (X q.op) w)→(∀ i b,X i b→lo≤b∧b<w.heap.size)→(∀ i j b,X i b→X j b→i=j) →
   (∀ (r:Value) (Y:Nat→Prop) (w':World),Fr w'→S w'→w.heap.size≤w'.heap.size→(∀ b j,X j b→j ∉ p.uses→w'.heap[b]? = w.heap[b]?)→(∀ b,Y b→(∃ k ∈ p.uses,X k b)∨(w.heap.size≤b∧b<w'.heap.size))→R p.op (p.needs.map val) r Y w'→K (a.put p.dst r) w') →
   if Region.wanted o (yielded ops a.tmps)=true then Oper.wp P o a w K Q else K (a.put o.dst undef) w
theorem step_yields {o:Oper} {a:Act} {w:World} {K:Act→World→Prop} {E:Prop} {v:Value} (hg:o.guard=none) (h:(execOp a.eval o).run P w = .ok (.value v) w) (hk:K (a.put o.dst v) w):if Region.wanted o (yielded ops a.tmps)=true then Oper.wp P o a w K Q else E:=by
 rw [if_pos (by simp [Region.wanted,hg])]
 unfold Oper.wp
 rw [h]
 exact hk
theorem step_callTwo {o:Oper} {a:Act} {w:World} {K:Act→World→Prop} {E:Prop}
  (hg:o.guard=none) (f:FuncId) (x y:Operand) (ts:Array TypeId) (hop:o.op=Op.call { callee:=Callee.value (.func f),args:=#[x,y],argTypes:=ts }) (hent:∀ args w,(callFunc f args).run P w = .ok (.enter f args) w)
  (u v:Value) (hx:a.eval x=u) (hy:a.eval y=v) (Post:Value→World→Prop) (hc:Calls P f #[u,v] w fun e w'=>∃ r,e = .returned r∧Post r w') (hK:∀ r w',Post r w'→K (a.put o.dst r) w') :
  if Region.wanted o (yielded ops a.tmps)=true then Oper.wp P o a w K Q else E:=by
 have hw:Region.wanted o (yielded ops a.tmps)=true:=by simp [Region.wanted,hg]
 rw [if_pos hw]
 unfold Oper.wp execOp
 have hf:a.eval (.func f) = .func (.func f) #[] #[]:=rfl
 simp [hop,resolve,invoke,hx,hy,hf,hent,Deferred.ofValue]
 refine hc.mono ?_
 rintro e w' ⟨r,rfl,h⟩
 exact hK r w' h
theorem region_res (L:List ROp) (R:Nat→List Value→Value→(Nat→Prop)→World→Prop) (Fr:World→Prop) (lo:Nat) (val0:Nat→Value) (X0:Nat→Nat→Prop) {T0:Array Value} {ds:List Deferred} {listed0:Array Bool} {w0:World} {fuel:Nat} (N:Nat) (hN:T0.size=N)
  (hok:(resOk ops listed0 L && topoOk ops listed0 [] L && takeOk ops L && closedOk ops listed0 && (dstsOf L).all (fun d=>decide (d<N)) && decide (countL ops listed0≤fuel))=true)
  (hlo:∀ w,Fr w→lo≤w.heap.size) (h0:Fr w0) (hd0:∀ i b,X0 i b→lo≤b∧b<w0.heap.size) (hs0:∀ i j b,X0 i b→X0 j b→i=j) (hr0:AllP (fun p=>ops.size≤p.op→R p.op (p.needs.map val0) (val0 p.op) (X0 p.op) w0) L)
  (hR:∀ i vs v Y (w w':World),R i vs v Y w→(∀ b,Y b→b<w.heap.size→w'.heap[b]? = w.heap[b]?)→R i vs v Y w')
  (hstep:AllP (RStep P ops Q S L R T0 ds Fr lo) L)
  (hfin:∀ (val:Nat→Value) (X:Nat→Nat→Prop) (w:World),Fr w→(∀ i b,X i b→lo≤b∧b<w.heap.size)→(∀ i j b,X i b→X j b→i=j) →
   (∀ p ∈ L,(∀ q ∈ L,p.op ∉ q.uses)→R p.op (p.needs.map val) (val p.op) (X p.op) w)→Q .normal ⟨fillT val (fun _=>true) L T0,ds⟩ w) :
  wpAnyH P .any ops Q S fuel listed0 ⟨T0,ds⟩ w0:=by
 simp only [Bool.and_eq_true,decide_eq_true_eq] at hok
 obtain ⟨⟨⟨⟨⟨k1,k2⟩,k3⟩,k4⟩,k5⟩,k6⟩:=hok
 have kk:=k1
 unfold resOk at kk
 simp only [Bool.and_eq_true,List.all_eq_true,beq_iff_eq,decide_eq_true_eq] at kk
 obtain ⟨⟨⟨⟨⟨⟨-,q2⟩,q3⟩,-⟩,-⟩,-⟩,q7⟩:=kk
 have hpse:∀ p ∈ L,listed0.getD p.op true=true→ops.size≤p.op∧p.dst=none:=fun p hp hl=>by
  have h3:=q3 p hp
  rw [hl] at h3
  have hge:ops.size≤p.op:=by simpa using h3
  have h7:=q7 p hp
  rw [Array.getElem?_eq_none hge] at h7
  simp only [Bool.and_eq_true,beq_iff_eq] at h7
  exact ⟨hge,h7.1⟩
 have hfill:∀ (M:List ROp) (t:Array Value),(∀ p ∈ M,p ∈ L)→fillT val0 (fun i=>listed0.getD i true) M t=t:=by
  intro M
  induction M with
  | nil=>intro t _; rfl
  | cons p M ih =>
   intro t hM
   rw [fillT]
   have:(if listed0.getD p.op true=true then (match p.dst with | some d=>t.setIfInBounds d (val0 p.op) | none=>t) else t)=t:=by
    split
    ·rename_i hl
     rw [(hpse p (hM p (List.mem_cons_self ..)) hl).2]
    ·rfl
   rw [this]
   exact ih t (fun q hq=>hM q (List.mem_cons_of_mem _ hq))
 refine wpAnyH_res L R T0 ds listed0 Fr lo hlo k1 k2 k3 (fun d hd=>by rw [hN]; exact of_decide_eq_true (List.all_eq_true.1 k5 d hd)) hR (fun p hp hlt val X a w f1 f2 f3 f4 f5 f6 => ?_) hfin fuel listed0 _ w0 val0 X0
  ⟨by rw [hfill L T0 (fun _ h=>h)],h0,q2,fun _ h=>h,closedOk_spec k4,hd0,hs0,fun p hp hl _=>hr0.mem p hp (hpse p hp hl).1⟩ k6
 rcases hstep.mem p hp with h | ⟨o,ho,h⟩
 ·omega
 ·exact wpOp_step ho (fun K hK=>h val X a w K f1 f2 f3 f4 f5 f6 (fun r Y w' g1 g2 g3 g4 g5 g6=>hK _ _ ⟨r,Y,rfl,g1,g2,g3,g4,g5,g6⟩))
end
end Go.Proofs.YtmmadoabejgffaaGreatDoor
