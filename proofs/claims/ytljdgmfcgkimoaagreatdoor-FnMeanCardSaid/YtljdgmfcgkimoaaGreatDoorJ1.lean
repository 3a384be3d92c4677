/-
  Cells.
  Proofs.
  Proofs.
  Proofs.
  Proofs.
  Proofs.
  Proofs.
-/
import Derived.Test.YtljdgmfcgkimoaaGreatDoorRows
import Derived.Lib.SmallJoins
import Derived.LaidEql
import Derived.Maps.OwnSet
import Derived.WalkKit
import Derived.ProofKit
import Derived.OpenShut
import Derived.ShutString
import Derived.Deep.Slices
import Derived.Deep.RegionWith
import Derived.Laws.MakeOwn
import Derived.Lib.BufferOwn
import Derived.RegionTactic
import Derived.OwnWalk
import Derived.Below
namespace Go.Proofs.YtljdgmfcgkimoaaGreatDoor
open Go.RowKit Go.Joins
theorem cbk {w : World} {g : Nat} {cs : Array Value} {t : TypeId} {fr : Nat × Nat} (h : w.heap[g]? = some (.cells cs t fr)) (i : Nat) (v : Value) (hv : cs[i]? = some v) : w.cell? ⟨g, i, none⟩ = some v := by rw [cell_of_block h]; exact hv
theorem ubk {w : World} {g : Nat} {cs : Array Value} {t : TypeId} (h : w.heap[g]? = some (.cells cs t (0, 0))) (i : Nat) : w.frozen? ⟨g, i, none⟩ = false := unfrozen_of_block h i
theorem lsk {α : Type} : (∀ (l : List α) (i : Nat) (a : α), l.toArray.setIfInBounds i a = (l.set i a).toArray) ∧ (∀ (a b : α) (l : List α), (a :: l).set 0 b = b :: l) ∧ (∀ (a b : α) (l : List α) (n : Nat), (a :: l).set (n + 1) b = a :: l.set n b) ∧ (∀ (l : List α) (i : Nat) (h : i < l.toArray.size), l.toArray[i] = l[i]'(by simpa using h)) ∧ (∀ (a : α) (l : List α) (h : 0 < (a :: l).length), (a :: l)[0] = a) ∧ (∀ (a : α) (l : List α) (i : Nat) (h : i + 1 < (a :: l).length), (a :: l)[i + 1] = l[i]'(by simpa using h)) := ⟨fun _ _ _ => by simp, fun _ _ _ => rfl, fun _ _ _ _ => rfl, fun _ _ _ => rfl, fun _ _ _ => rfl, fun _ _ _ _ => rfl⟩
end Go.Proofs.YtljdgmfcgkimoaaGreatDoor

namespace Go.Proofs.YtljdgmfcgkimoaaGreatDoor
open Go.RowKit Go.MapKept Go.ChangeMaps
set_option maxRecDepth 100000
def Pl (w:World) (b:Nat):Prop:=∃ cs t,w.heap[b]? = some (.cells cs t (0,0))
def MapIs (es:List MapEntry) (f:Value→Option Value):Prop :=
 es.Pairwise (fun x y=>x.key≠y.key)∧∀ k v,f k=some v↔∃ e ∈ es,e.key=k∧e.val=v
open Classical in
noncomputable def setAt (f:Value→Option Value) (k v:Value):Value→Option Value:=fun k'=>if k'=k then some v else f k'
theorem setAt_same (f:Value→Option Value) (k v:Value):setAt f k v k=some v:=by simp [setAt]
theorem setAt_other (f:Value→Option Value) (k v:Value) {k':Value} (h:k'≠k):setAt f k v k'=f k':=by simp [setAt,h]
structure KeysGo (P:Program) (k:TypeId) (Kd:World→Value→Prop):Prop where
 check:∀ (w:World) (em:Bool) (v:Value),Kd w v→(Instr.checkKey em 10000 k v).run P w = .ok () w
 same:∀ (w:World) (v:Value),Kd w v→(Op.equal k v v).run P w = .ok true w
 other:∀ (w:World) (u v:Value),Kd w u→Kd w v→u≠v→(Op.equal k u v).run P w = .ok false w
 slow:∀ (w:World) (u v:Value),Kd w u→Kd w v→∃ d,P.underlying k=some d∧Instr.sameNow d u v=none
 bits:∀ (w:World) (v:Value),Kd w v→Instr.sameBits 10000 v v=true
 grow:∀ (w w':World) (v:Value),(∀ b,Pl w b→Pl w' b)→Kd w v→Kd w' v
section
variable {P:Program} {k:TypeId} {Kd:World→Value→Prop}
theorem findAsking_run (K:KeysGo P k Kd) (w:World) (x:Value) (hx:Kd w x):∀ (es:List MapEntry) (i:Nat),(∀ e ∈ es,Kd w e.key) →
  ((Instr.findAsking k x es i).run P w = .ok none w∧∀ e ∈ es,e.key≠x)∨∃ j e,(Instr.findAsking k x es i).run P w = .ok (some (i+j,e.val)) w∧es[j]? = some e∧e.key=x
 | [],_,_ => .inl ⟨by simp [Instr.findAsking],by simp⟩
 | e :: es,i,h=>by
  by_cases hxe:x=e.key
  ·subst hxe
   exact .inr ⟨0,e,by simp [Instr.findAsking,K.same w _ hx,Result.andThen],rfl,rfl⟩
  ·have h0:=K.other w x e.key hx (h e (.head _)) hxe
   rcases findAsking_run K w x hx es (i+1) (fun y hy=>h y (.tail _ hy)) with ⟨h1,h2⟩ | ⟨j,e',h1,h2,h3⟩
   ·exact .inl ⟨by simp [Instr.findAsking,h0,Result.andThen,h1],fun y hy=>by
     cases hy with
     | head=>exact fun q=>hxe q.symm
     | tail _ hy=>exact h2 y hy⟩
   ·exact .inr ⟨j+1,e',by simp [Instr.findAsking,h0,Result.andThen,h1]; omega,by simpa using h2,h3⟩
theorem findKey_run (K:KeysGo P k Kd) (w:World) (x:Value) (hx:Kd w x) (es:List MapEntry) (h:∀ e ∈ es,Kd w e.key) :
  ((Instr.findKey k x es).run P w = .ok none w∧∀ e ∈ es,e.key≠x)∨∃ j e,(Instr.findKey k x es).run P w = .ok (some (j,e.val)) w∧es[j]? = some e∧e.key=x:=by
 obtain ⟨d,hd,_⟩:=K.slow w x x hx hx
 cases es with
 | nil=>exact .inl ⟨by simp [Instr.findKey,run_underlying hd,Result.andThen,Instr.findNow],by simp⟩
 | cons e es =>
  obtain ⟨d',hd',hs⟩:=K.slow w x e.key hx (h e (.head _))
  obtain rfl:d=d':=Option.some.inj (hd.symm.trans hd')
  rcases findAsking_run K w x hx (e :: es) 0 h with ⟨h1,h2⟩ | ⟨j,e',h1,h2,h3⟩
  ·exact .inl ⟨by simp [Instr.findKey,run_underlying hd,Result.andThen,Instr.findNow,hs,h1],h2⟩
  ·exact .inr ⟨j,e',by simpa [Instr.findKey,run_underlying hd,Result.andThen,Instr.findNow,hs] using h1,h2,h3⟩
def PtMap (Kd:World→Value→Prop) (w:World) (b:Nat) (f:Value→Option Value):Prop :=
 ∃ es clock,w.heap[b]? = some (.map es clock)∧(∀ e ∈ es.toList,Kd w e.key)∧MapIs es.toList f
theorem PtMap.made (w:World):PtMap Kd (w.alloc (.map #[] 0)) w.heap.size (fun _=>none) :=
 ⟨#[],0,(MapKept.heap_alloc w _).1,by simp,by simp,by simp⟩
theorem PtMap.lt {w:World} {b:Nat} {f:Value→Option Value} (h:PtMap Kd w b f):b<w.heap.size:=by
 obtain ⟨es,clock,hb,_⟩:=h
 exact (Array.getElem?_eq_some_iff.1 hb).1
theorem PtMap.grow (K:KeysGo P k Kd) {w w':World} {b:Nat} {f:Value→Option Value} (h:PtMap Kd w b f) (hb:w'.heap[b]? = w.heap[b]?) (hg:∀ b,Pl w b→Pl w' b):PtMap Kd w' b f:=by
 obtain ⟨es,clock,h1,h2,h3⟩:=h
 exact ⟨es,clock,hb.trans h1,fun e he=>K.grow w w' _ hg (h2 e he),h3⟩
theorem PtMap.key {w:World} {b:Nat} {f:Value→Option Value} (h:PtMap Kd w b f) {x v:Value} (hx:f x=some v):Kd w x:=by
 obtain ⟨es,clock,h1,h2,h3,h4⟩:=h
 obtain ⟨e,he,rfl,_⟩:=(h4 x v).1 hx
 exact h2 e he
theorem MapIs.none' {es:List MapEntry} {f:Value→Option Value} (h:MapIs es f) {x:Value} (hn:∀ e ∈ es,e.key≠x):f x=none:=by
 cases hf:f x with
 | none=>rfl
 | some v =>
  obtain ⟨e,he,hk,_⟩:=(h.2 x v).1 hf
  exact absurd hk (hn e he)
theorem MapIs.some' {es:List MapEntry} {f:Value→Option Value} (h:MapIs es f) {x:Value} {e:MapEntry} (he:e ∈ es) (hk:e.key=x):f x=some e.val:=(h.2 x e.val).2 ⟨e,he,hk,rfl⟩
theorem PtMap.look (K:KeysGo P k Kd) {w:World} {b:Nat} {f:Value→Option Value} (h:PtMap Kd w b f) {t e:TypeId} (ht:P.underlying t=some (.map k e)) {z:Value} (hz:(zeroValue e).run P w = .ok z w) {x:Value} (hx:Kd w x) (c:Bool) :
  (Instr.lookup t (.map (some b)) x c).run P w = .ok (if c then .tuple #[(f x).getD z,.bool (f x).isSome] else (f x).getD z) w:=by
 obtain ⟨es,clock,hb,hk,hm⟩:=h
 rcases findKey_run K w x hx es.toList hk with ⟨h1,h2⟩ | ⟨j,e0,h1,h2,h3⟩
 ·have:=hm.none' h2
  simp [Instr.lookup,run_underlying ht,MapKept.run_getObj_map hb,K.check w _ x hx,h1,hz,Result.andThen,this]
 ·have:=hm.some' (List.mem_of_getElem? h2) h3
  simp [Instr.lookup,run_underlying ht,MapKept.run_getObj_map hb,K.check w _ x hx,h1,Result.andThen,this]
theorem MapIs.push {es:List MapEntry} {f:Value→Option Value} (h:MapIs es f) {x v:Value} {n:Nat} (hn:∀ e ∈ es,e.key≠x):MapIs (es ++ [{ key:=x,val:=v,born:=n }]) (setAt f x v):=by
 refine ⟨?_,fun k u => ?_⟩
 ·rw [List.pairwise_append]
  exact ⟨h.1,by simp,fun a ha b hb=>by obtain rfl:=List.mem_singleton.1 hb; exact hn a ha⟩
 ·by_cases hk:k=x
  ·subst hk
   rw [setAt_same]
   constructor
   ·intro e; cases e; exact ⟨{ key:=k,val:=v,born:=n },by simp,rfl,rfl⟩
   ·rintro ⟨e,he,hk,rfl⟩
    rcases List.mem_append.1 he with he | he
    ·exact absurd hk (hn e he)
    ·obtain rfl:=List.mem_singleton.1 he; rfl
  ·rw [setAt_other _ _ _ hk,h.2]
   constructor
   ·rintro ⟨e,he,h1,h2⟩; exact ⟨e,List.mem_append_left _ he,h1,h2⟩
   ·rintro ⟨e,he,h1,h2⟩
    rcases List.mem_append.1 he with he | he
    ·exact ⟨e,he,h1,h2⟩
    ·obtain rfl:=List.mem_singleton.1 he; exact absurd h1.symm hk
theorem MapIs.put:∀ {es:List MapEntry} {f:Value→Option Value},MapIs es f→∀ {x v:Value} {j:Nat} {e0:MapEntry},es[j]? = some e0→e0.key=x→MapIs (es.modify j fun e => { e with key:=x,val:=v }) (setAt f x v):=by
 intro es f h x v j e0 hj hx
 have hlt:j<es.length:=(List.getElem?_eq_some_iff.1 hj).1
 have hget:∀ i:Nat,(es.modify j fun e => { e with key:=x,val:=v })[i]? = if i=j then some { e0 with key:=x,val:=v } else es[i]? := by
  intro i
  rw [List.getElem?_modify]
  by_cases hi:j=i
  ·subst hi; simp [hj]
  ·simp [hi,Ne.symm hi]
 have hd:∀ (a b:Nat) (ea eb:MapEntry),a≠b→es[a]? = some ea→es[b]? = some eb→ea.key≠eb.key:=by
  intro a b ea eb hab ha hb
  obtain ⟨ha1,ha2⟩:=List.getElem?_eq_some_iff.1 ha
  obtain ⟨hb1,hb2⟩:=List.getElem?_eq_some_iff.1 hb
  have hp:=List.pairwise_iff_getElem.1 h.1
  rcases Nat.lt_or_gt_of_ne hab with hl | hl
  ·have:=hp a b ha1 hb1 hl; rw [ha2,hb2] at this; exact this
  ·have:=hp b a hb1 ha1 hl; rw [ha2,hb2] at this; exact this.symm
 refine ⟨?_,fun k u => ?_⟩
 ·rw [List.pairwise_iff_getElem]
  intro a b ha hb hl
  have ga:=List.getElem?_eq_getElem ha
  have gb:=List.getElem?_eq_getElem hb
  rw [hget] at ga gb
  by_cases h1:a=j
  ·have h2:b≠j:=by omega
   rw [if_pos h1] at ga
   rw [if_neg h2] at gb
   rw [← Option.some.inj ga]
   have:=hd j b e0 _ (Ne.symm h2) hj gb
   rw [hx] at this
   exact this
  ·rw [if_neg h1] at ga
   by_cases h2:b=j
   ·rw [if_pos h2] at gb
    rw [← Option.some.inj gb]
    have:=hd a j _ e0 h1 ga hj
    rw [hx] at this
    exact this
   ·rw [if_neg h2] at gb
    exact hd a b _ _ (by omega) ga gb
 ·constructor
  ·intro hf
   by_cases hk:k=x
   ·subst hk
    rw [setAt_same] at hf
    cases hf
    exact ⟨{ e0 with key:=k,val:=v },List.mem_of_getElem? (i:=j) (by rw [hget,if_pos rfl]),rfl,rfl⟩
   ·rw [setAt_other _ _ _ hk] at hf
    obtain ⟨e,he,h1,h2⟩:=(h.2 k u).1 hf
    obtain ⟨i,hi⟩:=List.getElem?_of_mem he
    have hij:i≠j:=by
     rintro rfl
     rw [hj] at hi
     cases hi
     exact hk (h1.symm.trans hx)
    exact ⟨e,List.mem_of_getElem? (i:=i) (by rw [hget,if_neg hij]; exact hi),h1,h2⟩
  ·rintro ⟨e,he,h1,h2⟩
   obtain ⟨i,hi⟩:=List.getElem?_of_mem he
   rw [hget] at hi
   by_cases hij:i=j
   ·rw [if_pos hij] at hi
    cases hi
    subst h1 h2
    exact setAt_same _ _ _
   ·rw [if_neg hij] at hi
    have hk:k≠x:=by
     rintro rfl
     have:=hd i j e e0 hij hi hj
     exact this (h1.trans hx.symm)
    rw [setAt_other _ _ _ hk]
    exact (h.2 k u).2 ⟨e,List.mem_of_getElem? hi,h1,h2⟩
theorem Pl.turn {w:World} {b:Nat} {es es':Array MapEntry} {clock clock':Nat} (hb:w.heap[b]? = some (.map es clock)) {c:Nat} (h:Pl w c):Pl (setBlock w b (.map es' clock')) c:=by
 obtain ⟨cs,t,hc⟩:=h
 have hne:c≠b:=by rintro rfl; rw [hb] at hc; cases hc
 exact ⟨cs,t,(heap_setBlock_other hb _ hne).trans hc⟩
theorem PtMap.store (K:KeysGo P k Kd) {w:World} {b:Nat} {f:Value→Option Value} (h:PtMap Kd w b f) {t e:TypeId} (ht:P.underlying t=some (.map k e)) {x v:Value} (hx:Kd w x) :
  ∃ w',(Instr.mapUpdate t (.map (some b)) x v).run P w = .ok () w'∧PtMap Kd w' b (setAt f x v)∧w.mapTurned w' b:=by
 obtain ⟨es,clock,hb,hk,hm⟩:=h
 rcases findKey_run K w x hx es.toList hk with ⟨h1,h2⟩ | ⟨j,e0,h1,h2,h3⟩
 ·refine ⟨setBlock w b (.map (es.push { key:=x,val:=v,born:=clock }) (clock+1)),?_,⟨_,_,heap_setBlock_same hb _,?_,?_⟩,es,clock,_,_,hb,rfl⟩
  ·simp [Instr.mapUpdate,run_underlying ht,MapKept.run_getObj_map hb,K.check w _ x hx,h1,Result.andThen,MapKept.run_setObj_map _ hb]
   rfl
  ·intro e he
   rw [Array.toList_push] at he
   have hkx:∀ u,Kd w u→Kd (setBlock w b (.map (es.push { key:=x,val:=v,born:=clock }) (clock+1))) u:=fun u hu=>K.grow w _ u (fun c hc=>Pl.turn hb hc) hu
   rcases List.mem_append.1 he with he | he
   ·exact hkx _ (hk e he)
   ·obtain rfl:=List.mem_singleton.1 he; exact hkx _ hx
  ·rw [Array.toList_push]; exact hm.push h2
 ·have hget:((es[j]?).map (·.key)).getD x=x:=by
   have:es[j]? = some e0:=by rw [← Array.getElem?_toList]; exact h2
   simp [this,h3]
  refine ⟨setBlock w b (.map (es.modify j fun e => { e with key:=x,val:=v }) clock),?_,⟨_,_,heap_setBlock_same hb _,?_,?_⟩,es,clock,_,_,hb,rfl⟩
  ·simp [Instr.mapUpdate,run_underlying ht,MapKept.run_getObj_map hb,K.check w _ x hx,h1,Result.andThen,hget,Instr.keyThatStays,K.bits w x hx,MapKept.run_setObj_map _ hb]
   rfl
  ·intro e he
   have hkx:∀ u,Kd w u→Kd (setBlock w b (.map (es.modify j fun e => { e with key:=x,val:=v }) clock)) u:=fun u hu=>K.grow w _ u (fun c hc=>Pl.turn hb hc) hu
   rw [Array.toList_modify] at he
   obtain ⟨i,hi⟩:=List.getElem?_of_mem he
   rw [List.getElem?_modify] at hi
   by_cases hij:j=i
   ·subst hij
    rw [h2] at hi
    simp at hi
    subst hi
    exact hkx _ hx
   ·simp [hij] at hi
    exact hkx _ (hk e (by simpa using Array.mem_of_getElem? hi))
  ·rw [Array.toList_modify]; exact hm.put h2 h3
end
section
variable {P:Program} {k:TypeId} {Kd:World→Value→Prop} (w:World) {ops:Array Oper} {rest:List Oper} {o:Oper} {a:Act} {Q:Exit→Act→World→Prop}
end
def PtrIntK (w:World) (v:Value):Prop:=∃ a n,v = .agg #[.pointer (some a),.int .i64 n]∧Pl w a.block
section
variable {P:Program}
theorem equalIn_ptr {tp te:TypeId} {j:TypeInfo} (hp:P.underlying tp=some (.pointer te)) (hte:P.info? te=some j) (hsz:j.size≠0) (d:Nat) (w:World) {a b:Addr} (ha:Pl w a.block) (hb:Pl w b.block) :
  (Op.equalIn (d+1) tp (.pointer (some a)) (.pointer (some b))).run P w = .ok (decide (a=b)) w:=by
 obtain ⟨ca,ta,ha⟩:=ha
 obtain ⟨cb,tb,hb⟩:=hb
 by_cases hne:a=b
 ·subst hne
  simp [Op.equalIn,run_underlying hp,sizeOf,typeInfo,hte,run_sameAddr_same]
 ·simp [Op.equalIn,run_underlying hp,sizeOf,typeInfo,hte,hsz,run_sameAddr_other w hne ha hb,hne]
theorem checkKey_ptr {tp te:TypeId} (hp:P.underlying tp=some (.pointer te)) (em:Bool) (n:Nat) (w:World) (a:Option Addr):(Instr.checkKey em (n+1) tp (.pointer a)).run P w = .ok () w:=by
 simp [Instr.checkKey,run_underlying hp,Result.andThen]
theorem checkKey_int {t:TypeId} (ht:P.underlying t=some (.int .i64)) (em:Bool) (n:Nat) (w:World) (x:Int):(Instr.checkKey em (n+1) t (.int .i64 x)).run P w = .ok () w:=by
 simp [Instr.checkKey,run_underlying ht,Result.andThen]
theorem equal_of {t:TypeId} {u v:Value} {w:World} {r:Bool} (h:(Op.equalIn (9998+2) t u v).run P w = .ok r w):(Op.equal t u v).run P w = .ok r w:=h
theorem check_of {t:TypeId} {v:Value} {w:World} {em:Bool} (h:(Instr.checkKey em (9998+2) t v).run P w = .ok () w):(Instr.checkKey em 10000 t v).run P w = .ok () w:=h
theorem bits_of {v:Value} (h:Instr.sameBits (9998+2) v v=true):Instr.sameBits 10000 v v=true:=h
theorem sameBits_ptr (n:Nat) (a:Option Addr):Instr.sameBits n (.pointer a) (.pointer a)=true:=by cases n <;> simp [Instr.sameBits]
theorem sameBits_int (n:Nat) (a:Int):Instr.sameBits n (.int .i64 a) (.int .i64 a)=true:=by cases n <;> simp [Instr.sameBits]
theorem part_one {t:TypeId} {d:TypeDesc} (hd:P.underlying t=some d) (hna:(match d with | .struct _ | .array _ _=>true | _=>false)=false) (w:World) (cs:Array Value) (n:Nat) (x:Value) (hx:cs[n]? = some x):(part t cs n).run P w = .ok x w:=by
 have h1:(isAgg t).run P w = .ok false w:=by
  unfold isAgg
  cases d <;> simp_all [run_underlying hd,Result.andThen]
 simp [part,Result.andThen,h1,hx]
theorem checkKey_str {t t1 t2 : TypeId} {f1 f2 : Field} (ht : P.underlying t = some (.struct #[f1, f2])) (n1 : f1.name ≠ "_") (n2 : f2.name ≠ "_") (e1 : f1.type = t1) (e2 : f2.type = t2) (o1 : f1.offset = 0) (o2 : f2.offset = 1) (em : Bool) (n : Nat) (w : World) (x y : Value)
  (hx:(part t1 #[x,y] 0).run P w = .ok x w) (hy:(part t2 #[x,y] 1).run P w = .ok y w)
  (h1:(Instr.checkKey em n t1 x).run P w = .ok () w) (h2:(Instr.checkKey em n t2 y).run P w = .ok () w):(Instr.checkKey em (n+1) t (.agg #[x,y])).run P w = .ok () w:=by
 rw [Instr.checkKey]
 simp only [Sem.run_bind,run_underlying ht,Result.andThen_ok]
 simp [n1,n2,e1,e2,o1,o2,hx,hy,h1,h2,Result.andThen]
theorem equalIn_str {t t1 t2 : TypeId} {f1 f2 : Field} (ht : P.underlying t = some (.struct #[f1, f2])) (hp : P.stoodInHeld t = false) (n1 : f1.name ≠ "_") (n2 : f2.name ≠ "_") (e1 : f1.type = t1) (e2 : f2.type = t2) (o1 : f1.offset = 0) (o2 : f2.offset = 1) (n : Nat) (w : World) (x y u v : Value)
  (hx:(part t1 #[x,y] 0).run P w = .ok x w) (hy:(part t2 #[x,y] 1).run P w = .ok y w) (hu:(part t1 #[u,v] 0).run P w = .ok u w) (hv:(part t2 #[u,v] 1).run P w = .ok v w) {r1 r2:Bool}
  (h1:(Op.equalIn n t1 x u).run P w = .ok r1 w) (h2:(Op.equalIn n t2 y v).run P w = .ok r2 w):(Op.equalIn (n+1) t (.agg #[x,y]) (.agg #[u,v])).run P w = .ok (r1 && r2) w:=by
 rw [Op.equalIn]
 simp only [Sem.run_bind,run_underlying ht,Result.andThen_ok,run_program,hp]
 cases r1 <;> cases r2 <;>
 simp [n1,n2,e1,e2,o1,o2,hx,hy,hu,hv,h1,h2,Result.andThen]
theorem equalIn_int {t:TypeId} (ht:P.underlying t=some (.int .i64)) (n:Nat) (w:World) (x y:Int):(Op.equalIn (n+1) t (.int .i64 x) (.int .i64 y)).run P w = .ok (decide (x=y)) w:=by
 rw [Op.equalIn]
 simp only [Sem.run_bind,run_underlying ht,Result.andThen_ok]
 by_cases h:x=y <;> simp [h]
theorem ptrInt_keys {t tp te ti : TypeId} {f1 f2 : Field} {j : TypeInfo} (ht : P.underlying t = some (.struct #[f1, f2])) (hst : P.stoodInHeld t = false) (n1 : f1.name ≠ "_") (n2 : f2.name ≠ "_") (e1 : f1.type = tp) (e2 : f2.type = ti) (o1 : f1.offset = 0) (o2 : f2.offset = 1)
  (hp:P.underlying tp=some (.pointer te)) (hti:P.underlying ti=some (.int .i64)) (hte:P.info? te=some j) (hsz:j.size≠0):KeysGo P t PtrIntK:=by
 have p0:∀ (w:World) (x y:Value),(part tp #[x,y] 0).run P w = .ok x w:=fun w x y=>part_one hp rfl w _ _ _ (by simp)
 have p1:∀ (w:World) (x y:Value),(part ti #[x,y] 1).run P w = .ok y w:=fun w x y=>part_one hti rfl w _ _ _ (by simp)
 have eq:∀ (w:World) (a c:Addr) (b d:Int),Pl w a.block→Pl w c.block→(Op.equalIn (9998+2) t (.agg #[.pointer (some a),.int .i64 b]) (.agg #[.pointer (some c),.int .i64 d])).run P w = .ok (decide (a=c) && decide (b=d)) w:=fun w a c b d ha hc =>
  equalIn_str ht hst n1 n2 e1 e2 o1 o2 (9998+1) w _ _ _ _ (p0 w _ _) (p1 w _ _) (p0 w _ _) (p1 w _ _) (equalIn_ptr hp hte hsz _ w ha hc) (equalIn_int hti _ w b d)
 constructor
 ·rintro w em v ⟨a,b,rfl,ha⟩
  exact check_of (checkKey_str ht n1 n2 e1 e2 o1 o2 em (9998+1) w _ _ (p0 w _ _) (p1 w _ _) (checkKey_ptr hp em _ w _) (checkKey_int hti em _ w _))
 ·rintro w v ⟨a,b,rfl,ha⟩
  have:=eq w a a b b ha ha
  rw [decide_eq_true rfl,decide_eq_true rfl] at this
  exact equal_of this
 ·rintro w u v ⟨a,b,rfl,ha⟩ ⟨c,d,rfl,hc⟩ hne
  have:=eq w a c b d ha hc
  have hf:(decide (a=c) && decide (b=d))=false:=by
   cases hh:(decide (a=c) && decide (b=d)) with
   | false=>rfl
   | true =>
    simp at hh
    obtain ⟨rfl,rfl⟩:=hh
    exact absurd rfl hne
  rw [hf] at this
  exact equal_of this
 ·rintro w u v ⟨a,b,rfl,ha⟩ ⟨c,d,rfl,hc⟩
  exact ⟨_,ht,rfl⟩
 ·rintro w v ⟨a,b,rfl,ha⟩
  refine bits_of ?_
  rw [Instr.sameBits]
  simp [sameBits_ptr,sameBits_int]
 ·rintro w w' v hg ⟨a,b,rfl,ha⟩
  exact ⟨a,b,rfl,hg _ ha⟩
end
end Go.Proofs.YtljdgmfcgkimoaaGreatDoor

namespace Go.Proofs.YtljdgmfcgkimoaaGreatDoor
open Go.RowKit Go.Joins
set_option maxRecDepth 100000
inductive Ex where
 | mk:Int→Int→ByteArray→List Ex→Ex
def Ex.kind:Ex→Int | .mk k _ _ _=>k
def Ex.n:Ex→Int | .mk _ n _ _=>n
def Ex.text:Ex→ByteArray | .mk _ _ t _=>t
def Ex.kids:Ex→List Ex | .mk _ _ _ ks=>ks
mutual
def Ex.same:Ex→Ex→Bool
 | .mk k n t ks,.mk k' n' t' ks'=>k == k' && n == n' && t.toList == t'.toList && Ex.sameL ks ks'
def Ex.sameL:List Ex→List Ex→Bool
 | [],[]=>true
 | a :: r,b :: r'=>a.same b && Ex.sameL r r'
 | _,_=>false
end
def inI64 (z:Int):Prop:=-9223372036854775808≤z∧z≤9223372036854775807
def KidsAt (w:World) (S:Nat→Prop):Nat→Value→List Ex→Prop
 | 0,_,_=>False
 | d+1,v,es=>∃ a cap,v = .slice a es.length cap∧es.length≤maxLen∧∀ i e,es[i]? = some e→∃ b off kv,a=some ⟨b,off,none⟩∧S b∧b<w.heap.size ∧
   w.cell? ⟨b,off+i * 4,none⟩=some (.int .i64 e.kind)∧w.cell? ⟨b,off+i * 4+1,none⟩=some (.int .i64 e.n)∧w.cell? ⟨b,off+i * 4+2,none⟩=some (.string e.text)∧w.cell? ⟨b,off+i * 4+3,none⟩=some kv ∧
   inI64 e.kind∧inI64 e.n∧e.text.size≤maxLen∧KidsAt w S d kv e.kids
def ExAt (w:World) (S:Nat→Prop) (d:Nat) (v:Value) (e:Ex):Prop :=
 ∃ kv,v = .agg #[.int .i64 e.kind,.int .i64 e.n,.string e.text,kv]∧inI64 e.kind∧inI64 e.n∧e.text.size≤maxLen∧KidsAt w S d kv e.kids
theorem KidsAt.kept {w w':World} {S S':Nat→Prop} (hw:∀ b,S b→b<w.heap.size→w'.heap[b]? = w.heap[b]?) (hsz:w.heap.size≤w'.heap.size) (hS:∀ b,S b→b<w.heap.size→S' b):∀ {d:Nat} {v:Value} {es:List Ex},KidsAt w S d v es→KidsAt w' S' d v es
 | 0,_,_,h=>h.elim
 | d+1,v,es,⟨a,cap,hv,hl,hc⟩=>by
  refine ⟨a,cap,hv,hl,fun i e he => ?_⟩
  obtain ⟨b,off,kv,ha,hb,hlt,c0,c1,c2,c3,r1,r2,r3,hk⟩:=hc i e he
  have hblk:=hw b hb hlt
  exact ⟨b,off,kv,ha,hS b hb hlt,Nat.lt_of_lt_of_le hlt hsz,(World.cell?_of_block hblk).trans c0,(World.cell?_of_block hblk).trans c1,(World.cell?_of_block hblk).trans c2,(World.cell?_of_block hblk).trans c3,r1,r2,r3,KidsAt.kept hw hsz hS hk⟩
theorem KidsAt.below {w w':World} {S:Nat→Prop} {d:Nat} {v:Value} {es:List Ex} (h:KidsAt w S d v es) (hb:Below w.heap.size w w'):KidsAt w' S d v es :=
 h.kept (fun b _ hlt=>hb.block b hlt) hb.size (fun _ h _=>h)
theorem KidsAt.wide {w:World} {S S':Nat→Prop} {d:Nat} {v:Value} {es:List Ex} (h:KidsAt w S d v es) (hS:∀ b,S b→S' b):KidsAt w S' d v es :=
 h.kept (fun _ _ _=>rfl) (Nat.le_refl _) (fun b h _=>hS b h)
theorem ExAt.below {w w':World} {S:Nat→Prop} {d:Nat} {v:Value} {e:Ex} (h:ExAt w S d v e) (hb:Below w.heap.size w w'):ExAt w' S d v e:=by
 obtain ⟨kv,hv,h1,h2,h3,h4⟩:=h
 exact ⟨kv,hv,h1,h2,h3,h4.below hb⟩
theorem KidsAt.deeper {w:World} {S:Nat→Prop}:∀ {d:Nat} {v:Value} {es:List Ex},KidsAt w S d v es→KidsAt w S (d+1) v es
 | 0,_,_,h=>h.elim
 | d+1,v,es,⟨a,cap,hv,hl,hc⟩=>⟨a,cap,hv,hl,fun i e he=>by
  obtain ⟨b,off,kv,ha,hb,hlt,c0,c1,c2,c3,r1,r2,r3,hk⟩:=hc i e he
  exact ⟨b,off,kv,ha,hb,hlt,c0,c1,c2,c3,r1,r2,r3,KidsAt.deeper hk⟩⟩
theorem KidsAt.deep {w:World} {S:Nat→Prop} {d d':Nat} {v:Value} {es:List Ex} (h:KidsAt w S d v es) (hd:d≤d'):KidsAt w S d' v es:=by
 induction hd with
 | refl=>exact h
 | step _ ih=>exact ih.deeper
theorem KidsAt.form {w:World} {S:Nat→Prop} {d:Nat} {v:Value} {es:List Ex} (h:KidsAt w S d v es):∃ a cap,v = .slice a es.length cap:=by
 cases d with
 | zero=>exact h.elim
 | succ d=>obtain ⟨a,cap,hv,_⟩:=h; exact ⟨a,cap,hv⟩
theorem Pl.of {w w':World} {b:Nat} (h:Pl w b) (he:w'.heap[b]? = w.heap[b]?):Pl w' b:=by
 obtain ⟨cs,t,hc⟩:=h
 exact ⟨cs,t,he.trans hc⟩
theorem Pl.below {w w':World} {b:Nat} (h:Pl w b) (hb:Below w.heap.size w w'):Pl w' b:=by
 obtain ⟨cs,t,hc⟩:=h
 exact ⟨cs,t,(hb.block b (Array.getElem?_eq_some_iff.1 hc).1).trans hc⟩
theorem KidsAt.belowP {w w':World} {n d:Nat} {v:Value} {es:List Ex} (h:KidsAt w (fun b=>n≤b∧Pl w b) d v es) (hb:Below w.heap.size w w'):KidsAt w' (fun b=>n≤b∧Pl w' b) d v es :=
 h.kept (fun b _ hlt=>hb.block b hlt) hb.size (fun _ h _=>⟨h.1,h.2.below hb⟩)
theorem KidsAt.plain {w:World} {n d:Nat} {v:Value} {es:List Ex} (h:KidsAt w (fun b=>n≤b∧Pl w b) d v es):KidsAt w (Pl w) d v es:=h.wide (fun _ h=>h.2)
theorem KidsAt.belowPl {w w':World} {d:Nat} {v:Value} {es:List Ex} (h:KidsAt w (Pl w) d v es) (hb:Below w.heap.size w w'):KidsAt w' (Pl w') d v es :=
 h.kept (fun b _ hlt=>hb.block b hlt) hb.size (fun _ h _=>h.below hb)
end Go.Proofs.YtljdgmfcgkimoaaGreatDoor

namespace Go.Proofs.YtljdgmfcgkimoaaGreatDoor
open Go.RowKit Go.Joins
set_option maxRecDepth 100000
theorem ex_not (x:Bool) (w:World):(Op.unary .not (.bool x)).run Tryz.prog w = .ok (.bool (!x)) w:=rfl
theorem addr_add (b off k:Nat):(⟨b,off,none⟩:Addr).add k=⟨b,off+k,none⟩:=by
 unfold Addr.add
 split
 ·rename_i h; subst h; rfl
 ·rfl
end Go.Proofs.YtljdgmfcgkimoaaGreatDoor

namespace Go.Proofs.YtljdgmfcgkimoaaGreatDoor
open Go.RowKit
structure KB (X:Nat→Prop) (w w':World):Prop where
 os:w'.os=w.os
 tape:w'.tape=w.tape
 output:w'.output=w.output
 size:w.heap.size≤w'.heap.size
 block:∀ k,k<w.heap.size→¬ X k→w'.heap[k]? = w.heap[k]?
theorem KB.refl (X:Nat→Prop) (w:World):KB X w w:=⟨rfl,rfl,rfl,Nat.le_refl _,fun _ _ _=>rfl⟩
theorem KB.trans {X:Nat→Prop} {a b c:World} (h:KB X a b) (k:KB X b c):KB X a c :=
 ⟨k.os.trans h.os,k.tape.trans h.tape,k.output.trans h.output,Nat.le_trans h.size k.size,fun i hi hx=>(k.block i (Nat.lt_of_lt_of_le hi h.size) hx).trans (h.block i hi hx)⟩
theorem KB.more {X Y:Nat→Prop} {a b:World} (h:KB X a b) (hs:∀ k,k<a.heap.size→X k→Y k):KB Y a b :=
 ⟨h.os,h.tape,h.output,h.size,fun i hi hy=>h.block i hi (fun hx=>hy (hs i hi hx))⟩
theorem KB.of_below {X:Nat→Prop} {w w':World} (h:Below w.heap.size w w'):KB X w w':=⟨h.os,h.tape,h.output,h.size,fun k hk _=>h.block k hk⟩
theorem KB.setCell {X:Nat→Prop} {a w:World} (h:KB X a w) {p:Addr} (hp:X p.block) (u:Value):KB X a (w.setCell p u):=by
 have hb:Below 0 w (w.setCell p u):=(Below.refl 0 w).setCell (Nat.zero_le _) u
 refine ⟨hb.os.trans h.os,hb.tape.trans h.tape,hb.output.trans h.output,Nat.le_trans h.size hb.size,fun k hk hx => ?_⟩
 have hne:k≠p.block:=fun e=>hx (by rw [e]; exact hp)
 rw [Below.heap_setCell w p u k hne]
 exact h.block k hk hx
theorem KB.below {X:Nat→Prop} {w w':World} {B:Nat} (h:KB X w w') (hX:∀ k,X k→B≤k) (hB:B≤w.heap.size):Below B w w' :=
 ⟨h.os,h.tape,h.output,h.size,fun k hk=>h.block k (Nat.lt_of_lt_of_le hk hB) (fun hx=>by have:=hX k hx; omega)⟩
theorem KB.heap {X:Nat→Prop} {w w':World} {b:Nat} {o:Obj} (h:KB X w w') (hb:w.heap[b]? = some o) (hx:¬ X b):w'.heap[b]? = some o :=
 (h.block b (Array.getElem?_eq_some_iff.1 hb).1 hx).trans hb
theorem KB.grown {X:Nat→Prop} {a w w':World} {row:Option Nat} (h:KB X a w) (hg:w.grownBy w' row) (hr:∀ k,row=some k→a.heap.size≤k):KB X a w' :=
 ⟨hg.os.trans h.os,hg.tape.trans h.tape,hg.output.trans h.output,Nat.le_trans h.size hg.size,fun k hk hx =>
  (hg.block k (Nat.lt_of_lt_of_le hk h.size) (fun e=>by have:=hr k e.symm; omega)).trans (h.block k hk hx)⟩
theorem lh {w:World} {b:Nat} {o:Obj} (h:w.heap[b]? = some o):b<w.heap.size:=(Array.getElem?_eq_some_iff.1 h).1
end Go.Proofs.YtljdgmfcgkimoaaGreatDoor

namespace Go.Proofs.YtljdgmfcgkimoaaGreatDoor
open Go.RowKit Go.Joins
set_option maxRecDepth 100000
def StrsAt (w:World) (S:Nat→Prop) (v:Value) (ts:List ByteArray):Prop :=
 ∃ a cap,v = .slice a ts.length cap∧ts.length≤maxLen∧∀ i t,ts[i]? = some t→∃ b off,a=some ⟨b,off,none⟩∧S b∧b<w.heap.size∧w.cell? ⟨b,off+i,none⟩=some (.string t)∧t.size≤maxLen
theorem StrsAt.kept {w w':World} {S S':Nat→Prop} (hw:∀ b,S b→b<w.heap.size→w'.heap[b]? = w.heap[b]?) (hsz:w.heap.size≤w'.heap.size) (hS:∀ b,S b→b<w.heap.size→S' b) {v:Value} {ts:List ByteArray} (h:StrsAt w S v ts):StrsAt w' S' v ts:=by
 obtain ⟨a,cap,hv,hl,hc⟩:=h
 refine ⟨a,cap,hv,hl,fun i t ht => ?_⟩
 obtain ⟨b,off,ha,hb,hlt,c0,r⟩:=hc i t ht
 exact ⟨b,off,ha,hS b hb hlt,Nat.lt_of_lt_of_le hlt hsz,(World.cell?_of_block (hw b hb hlt)).trans c0,r⟩
theorem StrsAt.below {w w':World} {S:Nat→Prop} {v:Value} {ts:List ByteArray} (h:StrsAt w S v ts) (hb:Below w.heap.size w w'):StrsAt w' S v ts :=
 h.kept (fun b _ hlt=>hb.block b hlt) hb.size (fun _ h _=>h)
theorem StrsAt.form {w:World} {S:Nat→Prop} {v:Value} {ts:List ByteArray} (h:StrsAt w S v ts):∃ a cap,v = .slice a ts.length cap:=by
 obtain ⟨a,cap,hv,_⟩:=h; exact ⟨a,cap,hv⟩
end Go.Proofs.YtljdgmfcgkimoaaGreatDoor

namespace Go.Proofs.YtljdgmfcgkimoaaGreatDoor
open Go.RowKit Go.Joins
set_option maxRecDepth 100000
structure Pr where
 names:List ByteArray
 bodies:List Ex
def PrAt (w:World) (S:Nat→Prop) (d:Nat) (v:Value) (p:Pr):Prop :=
 ∃ nv bv,v = .agg #[nv,bv]∧StrsAt w S nv p.names∧KidsAt w S d bv p.bodies
theorem PrAt.below {w w':World} {S:Nat→Prop} {d:Nat} {v:Value} {p:Pr} (h:PrAt w S d v p) (hb:Below w.heap.size w w'):PrAt w' S d v p:=by
 obtain ⟨nv,bv,hv,h1,h2⟩:=h
 exact ⟨nv,bv,hv,h1.below hb,h2.below hb⟩
theorem StrsAt.belowP {w w':World} {n:Nat} {v:Value} {ts:List ByteArray} (h:StrsAt w (fun b=>n≤b∧Pl w b) v ts) (hb:Below w.heap.size w w'):StrsAt w' (fun b=>n≤b∧Pl w' b) v ts :=
 h.kept (fun b _ hlt=>hb.block b hlt) hb.size (fun _ h _=>⟨h.1,h.2.below hb⟩)
theorem PrAt.belowP {w w':World} {n d:Nat} {v:Value} {p:Pr} (h:PrAt w (fun b=>n≤b∧Pl w b) d v p) (hb:Below w.heap.size w w'):PrAt w' (fun b=>n≤b∧Pl w' b) d v p:=by
 obtain ⟨nv,bv,hv,h1,h2⟩:=h
 exact ⟨nv,bv,hv,h1.belowP hb,h2.belowP hb⟩
theorem PrAt.plain {w:World} {n d:Nat} {v:Value} {p:Pr} (h:PrAt w (fun b=>n≤b∧Pl w b) d v p):PrAt w (Pl w) d v p:=by
 obtain ⟨nv,bv,hv,h1,h2⟩:=h
 exact ⟨nv,bv,hv,h1.kept (fun _ _ _=>rfl) (Nat.le_refl _) (fun _ h _=>h.2),h2.plain⟩
end Go.Proofs.YtljdgmfcgkimoaaGreatDoor
