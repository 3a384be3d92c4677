/-
  Maps keyed by pointers: what such a map answers, and what a store makes of it.
  Expressions in plain words, and how they lie in memory.
  Pointers at expressions; the least measure of a relation.
  Maps keyed by pointers, carried from world to world.
  When an expression is right, in plain words.
-/
import Derived.LaidEql
import Derived.Maps.OwnSet
import Derived.WalkKit
import Derived.ProofKit
import Derived.Test.YtkhkmmjollcfaaaGreatDoorRows
import Derived.OpenShut
import Derived.ShutString
import Derived.Deep.Slices
import Derived.Deep.RegionWith
import Derived.Laws.MakeOwn
import Derived.Lib.SmallJoins
import Derived.Lib.BufferOwn
import Derived.OwnWalk
import Derived.Maps.AppendAt
namespace Go.Proofs.YtkhkmmjollcfaaaGreatDoor
open Go.RowKit Go.MapKept Go.ChangeMaps

set_option maxRecDepth 100000

/-- A block of cells that no string shares. -/
def Pl (w : World) (b : Nat) : Prop := ∃ cs t, w.heap[b]? = some (.cells cs t (0, 0))

/-- A map's entries as a function. -/
def MapIs (es : List MapEntry) (f : Value → Option Value) : Prop :=
  es.Pairwise (fun x y => x.key ≠ y.key) ∧ ∀ k v, f k = some v ↔ ∃ e ∈ es, e.key = k ∧ e.val = v

open Classical in
noncomputable def setAt (f : Value → Option Value) (k v : Value) : Value → Option Value := fun k' => if k' = k then some v else f k'
theorem setAt_same (f : Value → Option Value) (k v : Value) : setAt f k v k = some v := by simp [setAt]
theorem setAt_other (f : Value → Option Value) (k v : Value) {k' : Value} (h : k' ≠ k) : setAt f k v k' = f k' := by simp [setAt, h]

/-- What a map's laws ask of its keys. -/
structure KeysGo (P : Program) (k : TypeId) (Kd : World → Value → Prop) : Prop where
  check : ∀ (w : World) (em : Bool) (v : Value), Kd w v → (Instr.checkKey em 10000 k v).run P w = .ok () w
  same : ∀ (w : World) (v : Value), Kd w v → (Op.equal k v v).run P w = .ok true w
  other : ∀ (w : World) (u v : Value), Kd w u → Kd w v → u ≠ v → (Op.equal k u v).run P w = .ok false w
  slow : ∀ (w : World) (u v : Value), Kd w u → Kd w v → ∃ d, P.underlying k = some d ∧ Instr.sameNow d u v = none
  bits : ∀ (w : World) (v : Value), Kd w v → Instr.sameBits 10000 v v = true
  grow : ∀ (w w' : World) (v : Value), (∀ b, Pl w b → Pl w' b) → Kd w v → Kd w' v

section
variable {P : Program} {k : TypeId} {Kd : World → Value → Prop}

theorem findAsking_run (K : KeysGo P k Kd) (w : World) (x : Value) (hx : Kd w x) : ∀ (es : List MapEntry) (i : Nat), (∀ e ∈ es, Kd w e.key) →
    ((Instr.findAsking k x es i).run P w = .ok none w ∧ ∀ e ∈ es, e.key ≠ x) ∨ ∃ j e, (Instr.findAsking k x es i).run P w = .ok (some (i + j, e.val)) w ∧ es[j]? = some e ∧ e.key = x
  | [], _, _ => .inl ⟨by simp [Instr.findAsking], by simp⟩
  | e :: es, i, h => by
    by_cases hxe : x = e.key
    · subst hxe
      exact .inr ⟨0, e, by simp [Instr.findAsking, K.same w _ hx, Result.andThen], rfl, rfl⟩
    · have h0 := K.other w x e.key hx (h e (.head _)) hxe
      rcases findAsking_run K w x hx es (i + 1) (fun y hy => h y (.tail _ hy)) with ⟨h1, h2⟩ | ⟨j, e', h1, h2, h3⟩
      · exact .inl ⟨by simp [Instr.findAsking, h0, Result.andThen, h1], fun y hy => by
          cases hy with
          | head => exact fun q => hxe q.symm
          | tail _ hy => exact h2 y hy⟩
      · exact .inr ⟨j + 1, e', by simp [Instr.findAsking, h0, Result.andThen, h1]; omega, by simpa using h2, h3⟩

theorem findKey_run (K : KeysGo P k Kd) (w : World) (x : Value) (hx : Kd w x) (es : List MapEntry) (h : ∀ e ∈ es, Kd w e.key) :
    ((Instr.findKey k x es).run P w = .ok none w ∧ ∀ e ∈ es, e.key ≠ x) ∨ ∃ j e, (Instr.findKey k x es).run P w = .ok (some (j, e.val)) w ∧ es[j]? = some e ∧ e.key = x := by
  obtain ⟨d, hd, _⟩ := K.slow w x x hx hx
  cases es with
  | nil => exact .inl ⟨by simp [Instr.findKey, run_underlying hd, Result.andThen, Instr.findNow], by simp⟩
  | cons e es =>
    obtain ⟨d', hd', hs⟩ := K.slow w x e.key hx (h e (.head _))
    obtain rfl : d = d' := Option.some.inj (hd.symm.trans hd')
    rcases findAsking_run K w x hx (e :: es) 0 h with ⟨h1, h2⟩ | ⟨j, e', h1, h2, h3⟩
    · exact .inl ⟨by simp [Instr.findKey, run_underlying hd, Result.andThen, Instr.findNow, hs, h1], h2⟩
    · exact .inr ⟨j, e', by simpa [Instr.findKey, run_underlying hd, Result.andThen, Instr.findNow, hs] using h1, h2, h3⟩

/-- Block b is a map that answers f. -/
def PtMap (Kd : World → Value → Prop) (w : World) (b : Nat) (f : Value → Option Value) : Prop :=
  ∃ es clock, w.heap[b]? = some (.map es clock) ∧ (∀ e ∈ es.toList, Kd w e.key) ∧ MapIs es.toList f

theorem PtMap.made (w : World) : PtMap Kd (w.alloc (.map #[] 0)) w.heap.size (fun _ => none) :=
  ⟨#[], 0, (MapKept.heap_alloc w _).1, by simp, by simp, by simp⟩
theorem PtMap.lt {w : World} {b : Nat} {f : Value → Option Value} (h : PtMap Kd w b f) : b < w.heap.size := by
  obtain ⟨es, clock, hb, _⟩ := h
  exact (Array.getElem?_eq_some_iff.1 hb).1
theorem PtMap.grow (K : KeysGo P k Kd) {w w' : World} {b : Nat} {f : Value → Option Value} (h : PtMap Kd w b f) (hb : w'.heap[b]? = w.heap[b]?) (hg : ∀ b, Pl w b → Pl w' b) : PtMap Kd w' b f := by
  obtain ⟨es, clock, h1, h2, h3⟩ := h
  exact ⟨es, clock, hb.trans h1, fun e he => K.grow w w' _ hg (h2 e he), h3⟩
theorem PtMap.key {w : World} {b : Nat} {f : Value → Option Value} (h : PtMap Kd w b f) {x v : Value} (hx : f x = some v) : Kd w x := by
  obtain ⟨es, clock, h1, h2, h3, h4⟩ := h
  obtain ⟨e, he, rfl, _⟩ := (h4 x v).1 hx
  exact h2 e he

theorem MapIs.none' {es : List MapEntry} {f : Value → Option Value} (h : MapIs es f) {x : Value} (hn : ∀ e ∈ es, e.key ≠ x) : f x = none := by
  cases hf : f x with
  | none => rfl
  | some v =>
    obtain ⟨e, he, hk, _⟩ := (h.2 x v).1 hf
    exact absurd hk (hn e he)
theorem MapIs.some' {es : List MapEntry} {f : Value → Option Value} (h : MapIs es f) {x : Value} {e : MapEntry} (he : e ∈ es) (hk : e.key = x) : f x = some e.val := (h.2 x e.val).2 ⟨e, he, hk, rfl⟩

theorem PtMap.look (K : KeysGo P k Kd) {w : World} {b : Nat} {f : Value → Option Value} (h : PtMap Kd w b f) {t e : TypeId} (ht : P.underlying t = some (.map k e)) {z : Value} (hz : (zeroValue e).run P w = .ok z w) {x : Value} (hx : Kd w x) (c : Bool) :
    (Instr.lookup t (.map (some b)) x c).run P w = .ok (if c then .tuple #[(f x).getD z, .bool (f x).isSome] else (f x).getD z) w := by
  obtain ⟨es, clock, hb, hk, hm⟩ := h
  rcases findKey_run K w x hx es.toList hk with ⟨h1, h2⟩ | ⟨j, e0, h1, h2, h3⟩
  · have := hm.none' h2
    simp [Instr.lookup, run_underlying ht, MapKept.run_getObj_map hb, K.check w _ x hx, h1, hz, Result.andThen, this]
  · have := hm.some' (List.mem_of_getElem? h2) h3
    simp [Instr.lookup, run_underlying ht, MapKept.run_getObj_map hb, K.check w _ x hx, h1, Result.andThen, this]

theorem MapIs.push {es : List MapEntry} {f : Value → Option Value} (h : MapIs es f) {x v : Value} {n : Nat} (hn : ∀ e ∈ es, e.key ≠ x) : MapIs (es ++ [{ key := x, val := v, born := n }]) (setAt f x v) := by
  refine ⟨?_, fun k u => ?_⟩
  · rw [List.pairwise_append]
    exact ⟨h.1, by simp, fun a ha b hb => by obtain rfl := List.mem_singleton.1 hb; exact hn a ha⟩
  · by_cases hk : k = x
    · subst hk
      rw [setAt_same]
      constructor
      · intro e; cases e; exact ⟨{ key := k, val := v, born := n }, by simp, rfl, rfl⟩
      · rintro ⟨e, he, hk, rfl⟩
        rcases List.mem_append.1 he with he | he
        · exact absurd hk (hn e he)
        · obtain rfl := List.mem_singleton.1 he; rfl
    · rw [setAt_other _ _ _ hk, h.2]
      constructor
      · rintro ⟨e, he, h1, h2⟩; exact ⟨e, List.mem_append_left _ he, h1, h2⟩
      · rintro ⟨e, he, h1, h2⟩
        rcases List.mem_append.1 he with he | he
        · exact ⟨e, he, h1, h2⟩
        · obtain rfl := List.mem_singleton.1 he; exact absurd h1.symm hk

theorem MapIs.put : ∀ {es : List MapEntry} {f : Value → Option Value}, MapIs es f → ∀ {x v : Value} {j : Nat} {e0 : MapEntry}, es[j]? = some e0 → e0.key = x → MapIs (es.modify j fun e => { e with key := x, val := v }) (setAt f x v) := by
  intro es f h x v j e0 hj hx
  have hlt : j < es.length := (List.getElem?_eq_some_iff.1 hj).1
  have hget : ∀ i : Nat, (es.modify j fun e => { e with key := x, val := v })[i]? = if i = j then some { e0 with key := x, val := v } else es[i]? := by
    intro i
    rw [List.getElem?_modify]
    by_cases hi : j = i
    · subst hi; simp [hj]
    · simp [hi, Ne.symm hi]
  have hd : ∀ (a b : Nat) (ea eb : MapEntry), a ≠ b → es[a]? = some ea → es[b]? = some eb → ea.key ≠ eb.key := by
    intro a b ea eb hab ha hb
    obtain ⟨ha1, ha2⟩ := List.getElem?_eq_some_iff.1 ha
    obtain ⟨hb1, hb2⟩ := List.getElem?_eq_some_iff.1 hb
    have hp := List.pairwise_iff_getElem.1 h.1
    rcases Nat.lt_or_gt_of_ne hab with hl | hl
    · have := hp a b ha1 hb1 hl; rw [ha2, hb2] at this; exact this
    · have := hp b a hb1 ha1 hl; rw [ha2, hb2] at this; exact this.symm
  refine ⟨?_, fun k u => ?_⟩
  · rw [List.pairwise_iff_getElem]
    intro a b ha hb hl
    have ga := List.getElem?_eq_getElem ha
    have gb := List.getElem?_eq_getElem hb
    rw [hget] at ga gb
    by_cases h1 : a = j
    · have h2 : b ≠ j := by omega
      rw [if_pos h1] at ga
      rw [if_neg h2] at gb
      rw [← Option.some.inj ga]
      have := hd j b e0 _ (Ne.symm h2) hj gb
      rw [hx] at this
      exact this
    · rw [if_neg h1] at ga
      by_cases h2 : b = j
      · rw [if_pos h2] at gb
        rw [← Option.some.inj gb]
        have := hd a j _ e0 h1 ga hj
        rw [hx] at this
        exact this
      · rw [if_neg h2] at gb
        exact hd a b _ _ (by omega) ga gb
  · constructor
    · intro hf
      by_cases hk : k = x
      · subst hk
        rw [setAt_same] at hf
        cases hf
        exact ⟨{ e0 with key := k, val := v }, List.mem_of_getElem? (i := j) (by rw [hget, if_pos rfl]), rfl, rfl⟩
      · rw [setAt_other _ _ _ hk] at hf
        obtain ⟨e, he, h1, h2⟩ := (h.2 k u).1 hf
        obtain ⟨i, hi⟩ := List.getElem?_of_mem he
        have hij : i ≠ j := by
          rintro rfl
          rw [hj] at hi
          cases hi
          exact hk (h1.symm.trans hx)
        exact ⟨e, List.mem_of_getElem? (i := i) (by rw [hget, if_neg hij]; exact hi), h1, h2⟩
    · rintro ⟨e, he, h1, h2⟩
      obtain ⟨i, hi⟩ := List.getElem?_of_mem he
      rw [hget] at hi
      by_cases hij : i = j
      · rw [if_pos hij] at hi
        cases hi
        subst h1 h2
        exact setAt_same _ _ _
      · rw [if_neg hij] at hi
        have hk : k ≠ x := by
          rintro rfl
          have := hd i j e e0 hij hi hj
          exact this (h1.trans hx.symm)
        rw [setAt_other _ _ _ hk]
        exact (h.2 k u).2 ⟨e, List.mem_of_getElem? hi, h1, h2⟩

theorem Pl.turn {w : World} {b : Nat} {es es' : Array MapEntry} {clock clock' : Nat} (hb : w.heap[b]? = some (.map es clock)) {c : Nat} (h : Pl w c) : Pl (setBlock w b (.map es' clock')) c := by
  obtain ⟨cs, t, hc⟩ := h
  have hne : c ≠ b := by rintro rfl; rw [hb] at hc; cases hc
  exact ⟨cs, t, (heap_setBlock_other hb _ hne).trans hc⟩

theorem PtMap.store (K : KeysGo P k Kd) {w : World} {b : Nat} {f : Value → Option Value} (h : PtMap Kd w b f) {t e : TypeId} (ht : P.underlying t = some (.map k e)) {x v : Value} (hx : Kd w x) :
    ∃ w', (Instr.mapUpdate t (.map (some b)) x v).run P w = .ok () w' ∧ PtMap Kd w' b (setAt f x v) ∧ w.mapTurned w' b := by
  obtain ⟨es, clock, hb, hk, hm⟩ := h
  rcases findKey_run K w x hx es.toList hk with ⟨h1, h2⟩ | ⟨j, e0, h1, h2, h3⟩
  · refine ⟨setBlock w b (.map (es.push { key := x, val := v, born := clock }) (clock + 1)), ?_, ⟨_, _, heap_setBlock_same hb _, ?_, ?_⟩, es, clock, _, _, hb, rfl⟩
    · simp [Instr.mapUpdate, run_underlying ht, MapKept.run_getObj_map hb, K.check w _ x hx, h1, Result.andThen, MapKept.run_setObj_map _ hb]
      rfl
    · intro e he
      rw [Array.toList_push] at he
      have hkx : ∀ u, Kd w u → Kd (setBlock w b (.map (es.push { key := x, val := v, born := clock }) (clock + 1))) u := fun u hu => K.grow w _ u (fun c hc => Pl.turn hb hc) hu
      rcases List.mem_append.1 he with he | he
      · exact hkx _ (hk e he)
      · obtain rfl := List.mem_singleton.1 he; exact hkx _ hx
    · rw [Array.toList_push]; exact hm.push h2
  · have hget : ((es[j]?).map (·.key)).getD x = x := by
      have : es[j]? = some e0 := by rw [← Array.getElem?_toList]; exact h2
      simp [this, h3]
    refine ⟨setBlock w b (.map (es.modify j fun e => { e with key := x, val := v }) clock), ?_, ⟨_, _, heap_setBlock_same hb _, ?_, ?_⟩, es, clock, _, _, hb, rfl⟩
    · simp [Instr.mapUpdate, run_underlying ht, MapKept.run_getObj_map hb, K.check w _ x hx, h1, Result.andThen, hget, Instr.keyThatStays, K.bits w x hx, MapKept.run_setObj_map _ hb]
      rfl
    · intro e he
      have hkx : ∀ u, Kd w u → Kd (setBlock w b (.map (es.modify j fun e => { e with key := x, val := v }) clock)) u := fun u hu => K.grow w _ u (fun c hc => Pl.turn hb hc) hu
      rw [Array.toList_modify] at he
      obtain ⟨i, hi⟩ := List.getElem?_of_mem he
      rw [List.getElem?_modify] at hi
      by_cases hij : j = i
      · subst hij
        rw [h2] at hi
        simp at hi
        subst hi
        exact hkx _ hx
      · simp [hij] at hi
        exact hkx _ (hk e (by simpa using Array.mem_of_getElem? hi))
    · rw [Array.toList_modify]; exact hm.put h2 h3
end

section
variable {P : Program} {k : TypeId} {Kd : World → Value → Prop} (w : World) {ops : Array Oper} {rest : List Oper} {o : Oper} {a : Act} {Q : Exit → Act → World → Prop}

theorem wpList_lookup_pt (hg : o.guard = none) (m x : Operand) (t : TypeId) (c : Bool) (hop : o.op = Op.lookup t m x c) (e : TypeId) (K : KeysGo P k Kd) (ht : P.underlying t = some (.map k e)) {z : Value} (hz : (zeroValue e).run P w = .ok z w) (b : Nat) (f : Value → Option Value)
    (hm : a.eval m = .map (some b)) (hown : PtMap Kd w b f) (key : Value) (hx : a.eval x = key) (hkey : Kd w key)
    (hK : wpList P ops Q rest (a.put o.dst (if c then .tuple #[(f key).getD z, .bool (f key).isSome] else (f key).getD z)) w) :
    wpList P ops Q (o :: rest) a w := by
  refine wpList_plain hg fun K' hK' => ?_
  have hrun := hown.look K ht hz hkey c
  unfold Oper.wp
  simp [execOp, hop, hm, hx, hrun, Result.andThen]
  exact hK' _ _ hK

theorem wpList_mapUpdate_pt (hg : o.guard = none) (m x v : Operand) (t : TypeId) (hop : o.op = Op.mapUpdate t m x v) (e : TypeId) (K : KeysGo P k Kd) (ht : P.underlying t = some (.map k e)) (b : Nat) (f : Value → Option Value)
    (hm : a.eval m = .map (some b)) (hown : PtMap Kd w b f) (key val : Value) (hx : a.eval x = key) (hv : a.eval v = val) (hkey : Kd w key)
    (hK : ∀ w', PtMap Kd w' b (setAt f key val) → w.mapTurned w' b → wpList P ops Q rest (a.put o.dst undef) w') :
    wpList P ops Q (o :: rest) a w := by
  refine wpList_plain hg fun K' hK' => ?_
  obtain ⟨w', hrun, r1, r2⟩ := hown.store K ht (v := val) hkey
  unfold Oper.wp
  simp [execOp, hop, hm, hx, hv, hrun, Result.andThen]
  exact hK' _ _ (hK w' r1 r2)
end

/-! ### who is a key -/
/-- A pointer into a plain block. -/
def PtrK (w : World) (v : Value) : Prop := ∃ a, v = .pointer (some a) ∧ Pl w a.block
def PtrsK (w : World) (v : Value) : Prop := ∃ a b, v = .agg #[.pointer (some a), .pointer (some b)] ∧ Pl w a.block ∧ Pl w b.block
def PtrIntK (w : World) (v : Value) : Prop := ∃ a n, v = .agg #[.pointer (some a), .int .i64 n] ∧ Pl w a.block

section
variable {P : Program}
theorem equalIn_ptr {tp te : TypeId} {j : TypeInfo} (hp : P.underlying tp = some (.pointer te)) (hte : P.info? te = some j) (hsz : j.size ≠ 0) (d : Nat) (w : World) {a b : Addr} (ha : Pl w a.block) (hb : Pl w b.block) :
    (Op.equalIn (d + 1) tp (.pointer (some a)) (.pointer (some b))).run P w = .ok (decide (a = b)) w := by
  obtain ⟨ca, ta, ha⟩ := ha
  obtain ⟨cb, tb, hb⟩ := hb
  by_cases hne : a = b
  · subst hne
    simp [Op.equalIn, run_underlying hp, sizeOf, typeInfo, hte, run_sameAddr_same]
  · simp [Op.equalIn, run_underlying hp, sizeOf, typeInfo, hte, hsz, run_sameAddr_other w hne ha hb, hne]

theorem checkKey_ptr {tp te : TypeId} (hp : P.underlying tp = some (.pointer te)) (em : Bool) (n : Nat) (w : World) (a : Option Addr) : (Instr.checkKey em (n + 1) tp (.pointer a)).run P w = .ok () w := by
  simp [Instr.checkKey, run_underlying hp, Result.andThen]
theorem checkKey_int {t : TypeId} (ht : P.underlying t = some (.int .i64)) (em : Bool) (n : Nat) (w : World) (x : Int) : (Instr.checkKey em (n + 1) t (.int .i64 x)).run P w = .ok () w := by
  simp [Instr.checkKey, run_underlying ht, Result.andThen]
theorem equal_of {t : TypeId} {u v : Value} {w : World} {r : Bool} (h : (Op.equalIn (9998 + 2) t u v).run P w = .ok r w) : (Op.equal t u v).run P w = .ok r w := h
theorem check_of {t : TypeId} {v : Value} {w : World} {em : Bool} (h : (Instr.checkKey em (9998 + 2) t v).run P w = .ok () w) : (Instr.checkKey em 10000 t v).run P w = .ok () w := h
theorem bits_of {v : Value} (h : Instr.sameBits (9998 + 2) v v = true) : Instr.sameBits 10000 v v = true := h
theorem sameBits_ptr (n : Nat) (a : Option Addr) : Instr.sameBits n (.pointer a) (.pointer a) = true := by cases n <;> simp [Instr.sameBits]
theorem sameBits_int (n : Nat) (a : Int) : Instr.sameBits n (.int .i64 a) (.int .i64 a) = true := by cases n <;> simp [Instr.sameBits]

theorem ptr_keys {tp te : TypeId} {j : TypeInfo} (hp : P.underlying tp = some (.pointer te)) (hte : P.info? te = some j) (hsz : j.size ≠ 0) : KeysGo P tp PtrK where
  check := by
    rintro w em v ⟨a, rfl, ha⟩
    exact check_of (checkKey_ptr hp em _ w _)
  same := by
    rintro w v ⟨a, rfl, ha⟩
    have := equalIn_ptr hp hte hsz (9998 + 1) w ha ha
    rw [decide_eq_true rfl] at this
    exact equal_of this
  other := by
    rintro w u v ⟨a, rfl, ha⟩ ⟨b, rfl, hb⟩ hne
    have := equalIn_ptr hp hte hsz (9998 + 1) w ha hb
    rw [decide_eq_false (by rintro rfl; exact hne rfl)] at this
    exact equal_of this
  slow := by
    rintro w u v ⟨a, rfl, ha⟩ ⟨b, rfl, hb⟩
    exact ⟨_, hp, rfl⟩
  bits := by
    rintro w v ⟨a, rfl, ha⟩
    exact sameBits_ptr _ _
  grow := by
    rintro w w' v hg ⟨a, rfl, ha⟩
    exact ⟨a, rfl, hg _ ha⟩

theorem part_one {t : TypeId} {d : TypeDesc} (hd : P.underlying t = some d) (hna : (match d with | .struct _ | .array _ _ => true | _ => false) = false) (w : World) (cs : Array Value) (n : Nat) (x : Value) (hx : cs[n]? = some x) : (part t cs n).run P w = .ok x w := by
  have h1 : (isAgg t).run P w = .ok false w := by
    unfold isAgg
    cases d <;> simp_all [run_underlying hd, Result.andThen]
  simp [part, Result.andThen, h1, hx]

theorem checkKey_arr {t tp : TypeId} {i : TypeInfo} (ht : P.underlying t = some (.array 2 tp)) (hi : P.info? tp = some i) (hi1 : i.size = 1) (em : Bool) (n : Nat) (w : World) (x y : Value) (hx : (part tp #[x, y] 0).run P w = .ok x w) (hy : (part tp #[x, y] 1).run P w = .ok y w)
    (h1 : (Instr.checkKey em n tp x).run P w = .ok () w) (h2 : (Instr.checkKey em n tp y).run P w = .ok () w) : (Instr.checkKey em (n + 1) t (.agg #[x, y])).run P w = .ok () w := by
  rw [Instr.checkKey]
  simp only [Sem.run_bind, run_underlying ht, Result.andThen_ok]
  simp [Std.Legacy.Range.forIn_eq_forIn_range', Std.Legacy.Range.size, List.range'_succ, sizeOf, typeInfo, hi, hi1, hx, hy, h1, h2, Result.andThen]
theorem equalIn_arr {t tp : TypeId} {i : TypeInfo} (ht : P.underlying t = some (.array 2 tp)) (hi : P.info? tp = some i) (hi1 : i.size = 1) (n : Nat) (w : World) (x y u v : Value) (hx : (part tp #[x, y] 0).run P w = .ok x w) (hy : (part tp #[x, y] 1).run P w = .ok y w)
    (hu : (part tp #[u, v] 0).run P w = .ok u w) (hv : (part tp #[u, v] 1).run P w = .ok v w) {r1 r2 : Bool} (h1 : (Op.equalIn n tp x u).run P w = .ok r1 w) (h2 : (Op.equalIn n tp y v).run P w = .ok r2 w) : (Op.equalIn (n + 1) t (.agg #[x, y]) (.agg #[u, v])).run P w = .ok (r1 && r2) w := by
  rw [Op.equalIn]
  simp only [Sem.run_bind, run_underlying ht, Result.andThen_ok]
  cases r1 <;> cases r2 <;>
  simp [Std.Legacy.Range.forIn_eq_forIn_range', Std.Legacy.Range.size, List.range'_succ, sizeOf, typeInfo, hi, hi1, hx, hy, hu, hv, h1, h2, Result.andThen]

theorem checkKey_str {t t1 t2 : TypeId} {f1 f2 : Field} (ht : P.underlying t = some (.struct #[f1, f2])) (n1 : f1.name ≠ "_") (n2 : f2.name ≠ "_") (e1 : f1.type = t1) (e2 : f2.type = t2) (o1 : f1.offset = 0) (o2 : f2.offset = 1) (em : Bool) (n : Nat) (w : World) (x y : Value)
    (hx : (part t1 #[x, y] 0).run P w = .ok x w) (hy : (part t2 #[x, y] 1).run P w = .ok y w)
    (h1 : (Instr.checkKey em n t1 x).run P w = .ok () w) (h2 : (Instr.checkKey em n t2 y).run P w = .ok () w) : (Instr.checkKey em (n + 1) t (.agg #[x, y])).run P w = .ok () w := by
  rw [Instr.checkKey]
  simp only [Sem.run_bind, run_underlying ht, Result.andThen_ok]
  simp [n1, n2, e1, e2, o1, o2, hx, hy, h1, h2, Result.andThen]
theorem equalIn_str {t t1 t2 : TypeId} {f1 f2 : Field} (ht : P.underlying t = some (.struct #[f1, f2])) (hp : P.stoodInHeld t = false) (n1 : f1.name ≠ "_") (n2 : f2.name ≠ "_") (e1 : f1.type = t1) (e2 : f2.type = t2) (o1 : f1.offset = 0) (o2 : f2.offset = 1) (n : Nat) (w : World) (x y u v : Value)
    (hx : (part t1 #[x, y] 0).run P w = .ok x w) (hy : (part t2 #[x, y] 1).run P w = .ok y w) (hu : (part t1 #[u, v] 0).run P w = .ok u w) (hv : (part t2 #[u, v] 1).run P w = .ok v w) {r1 r2 : Bool}
    (h1 : (Op.equalIn n t1 x u).run P w = .ok r1 w) (h2 : (Op.equalIn n t2 y v).run P w = .ok r2 w) : (Op.equalIn (n + 1) t (.agg #[x, y]) (.agg #[u, v])).run P w = .ok (r1 && r2) w := by
  rw [Op.equalIn]
  simp only [Sem.run_bind, run_underlying ht, Result.andThen_ok, run_program, hp]
  cases r1 <;> cases r2 <;>
  simp [n1, n2, e1, e2, o1, o2, hx, hy, hu, hv, h1, h2, Result.andThen]

theorem ptrs_keys {t tp te : TypeId} {i j : TypeInfo} (ht : P.underlying t = some (.array 2 tp)) (hi : P.info? tp = some i) (hi1 : i.size = 1) (hp : P.underlying tp = some (.pointer te)) (hte : P.info? te = some j) (hsz : j.size ≠ 0) : KeysGo P t PtrsK := by
  have p0 : ∀ (w : World) (x y : Value), (part tp #[x, y] 0).run P w = .ok x w := fun w x y => part_one hp rfl w _ _ _ (by simp)
  have p1 : ∀ (w : World) (x y : Value), (part tp #[x, y] 1).run P w = .ok y w := fun w x y => part_one hp rfl w _ _ _ (by simp)
  have eq : ∀ (w : World) (a b c d : Addr), Pl w a.block → Pl w b.block → Pl w c.block → Pl w d.block → (Op.equalIn (9998 + 2) t (.agg #[.pointer (some a), .pointer (some b)]) (.agg #[.pointer (some c), .pointer (some d)])).run P w = .ok (decide (a = c) && decide (b = d)) w := fun w a b c d ha hb hc hd =>
    equalIn_arr ht hi hi1 (9998 + 1) w _ _ _ _ (p0 w _ _) (p1 w _ _) (p0 w _ _) (p1 w _ _) (equalIn_ptr hp hte hsz _ w ha hc) (equalIn_ptr hp hte hsz _ w hb hd)
  constructor
  · rintro w em v ⟨a, b, rfl, ha, hb⟩
    exact check_of (checkKey_arr ht hi hi1 em (9998 + 1) w _ _ (p0 w _ _) (p1 w _ _) (checkKey_ptr hp em _ w _) (checkKey_ptr hp em _ w _))
  · rintro w v ⟨a, b, rfl, ha, hb⟩
    have := eq w a b a b ha hb ha hb
    rw [decide_eq_true rfl, decide_eq_true rfl] at this
    exact equal_of this
  · rintro w u v ⟨a, b, rfl, ha, hb⟩ ⟨c, d, rfl, hc, hd⟩ hne
    have := eq w a b c d ha hb hc hd
    have hf : (decide (a = c) && decide (b = d)) = false := by
      cases hh : (decide (a = c) && decide (b = d)) with
      | false => rfl
      | true =>
        simp at hh
        obtain ⟨rfl, rfl⟩ := hh
        exact absurd rfl hne
    rw [hf] at this
    exact equal_of this
  · rintro w u v ⟨a, b, rfl, ha, hb⟩ ⟨c, d, rfl, hc, hd⟩
    exact ⟨_, ht, rfl⟩
  · rintro w v ⟨a, b, rfl, ha, hb⟩
    refine bits_of ?_
    rw [Instr.sameBits]
    simp [sameBits_ptr]
  · rintro w w' v hg ⟨a, b, rfl, ha, hb⟩
    exact ⟨a, b, rfl, hg _ ha, hg _ hb⟩

theorem equalIn_int {t : TypeId} (ht : P.underlying t = some (.int .i64)) (n : Nat) (w : World) (x y : Int) : (Op.equalIn (n + 1) t (.int .i64 x) (.int .i64 y)).run P w = .ok (decide (x = y)) w := by
  rw [Op.equalIn]
  simp only [Sem.run_bind, run_underlying ht, Result.andThen_ok]
  by_cases h : x = y <;> simp [h]

theorem ptrInt_keys {t tp te ti : TypeId} {f1 f2 : Field} {j : TypeInfo} (ht : P.underlying t = some (.struct #[f1, f2])) (hst : P.stoodInHeld t = false) (n1 : f1.name ≠ "_") (n2 : f2.name ≠ "_") (e1 : f1.type = tp) (e2 : f2.type = ti) (o1 : f1.offset = 0) (o2 : f2.offset = 1)
    (hp : P.underlying tp = some (.pointer te)) (hti : P.underlying ti = some (.int .i64)) (hte : P.info? te = some j) (hsz : j.size ≠ 0) : KeysGo P t PtrIntK := by
  have p0 : ∀ (w : World) (x y : Value), (part tp #[x, y] 0).run P w = .ok x w := fun w x y => part_one hp rfl w _ _ _ (by simp)
  have p1 : ∀ (w : World) (x y : Value), (part ti #[x, y] 1).run P w = .ok y w := fun w x y => part_one hti rfl w _ _ _ (by simp)
  have eq : ∀ (w : World) (a c : Addr) (b d : Int), Pl w a.block → Pl w c.block → (Op.equalIn (9998 + 2) t (.agg #[.pointer (some a), .int .i64 b]) (.agg #[.pointer (some c), .int .i64 d])).run P w = .ok (decide (a = c) && decide (b = d)) w := fun w a c b d ha hc =>
    equalIn_str ht hst n1 n2 e1 e2 o1 o2 (9998 + 1) w _ _ _ _ (p0 w _ _) (p1 w _ _) (p0 w _ _) (p1 w _ _) (equalIn_ptr hp hte hsz _ w ha hc) (equalIn_int hti _ w b d)
  constructor
  · rintro w em v ⟨a, b, rfl, ha⟩
    exact check_of (checkKey_str ht n1 n2 e1 e2 o1 o2 em (9998 + 1) w _ _ (p0 w _ _) (p1 w _ _) (checkKey_ptr hp em _ w _) (checkKey_int hti em _ w _))
  · rintro w v ⟨a, b, rfl, ha⟩
    have := eq w a a b b ha ha
    rw [decide_eq_true rfl, decide_eq_true rfl] at this
    exact equal_of this
  · rintro w u v ⟨a, b, rfl, ha⟩ ⟨c, d, rfl, hc⟩ hne
    have := eq w a c b d ha hc
    have hf : (decide (a = c) && decide (b = d)) = false := by
      cases hh : (decide (a = c) && decide (b = d)) with
      | false => rfl
      | true =>
        simp at hh
        obtain ⟨rfl, rfl⟩ := hh
        exact absurd rfl hne
    rw [hf] at this
    exact equal_of this
  · rintro w u v ⟨a, b, rfl, ha⟩ ⟨c, d, rfl, hc⟩
    exact ⟨_, ht, rfl⟩
  · rintro w v ⟨a, b, rfl, ha⟩
    refine bits_of ?_
    rw [Instr.sameBits]
    simp [sameBits_ptr, sameBits_int]
  · rintro w w' v hg ⟨a, b, rfl, ha⟩
    exact ⟨a, b, rfl, hg _ ha⟩
end

end Go.Proofs.YtkhkmmjollcfaaaGreatDoor

namespace Go.Proofs.YtkhkmmjollcfaaaGreatDoor
open Go.RowKit Go.Joins

set_option maxRecDepth 100000

/-- An expression: its kind, its number, its text, its kids. -/
inductive Ex where
  | mk : Int → Int → ByteArray → List Ex → Ex
def Ex.kind : Ex → Int | .mk k _ _ _ => k
def Ex.n : Ex → Int | .mk _ n _ _ => n
def Ex.text : Ex → ByteArray | .mk _ _ t _ => t
def Ex.kids : Ex → List Ex | .mk _ _ _ ks => ks

mutual
def Ex.bulk : Ex → Nat
  | .mk _ _ t ks => t.size + Ex.bulkL ks
def Ex.bulkL : List Ex → Nat
  | [] => 0
  | e :: r => 1 + e.bulk + Ex.bulkL r
end
theorem Ex.bulk_eq (e : Ex) : e.bulk = e.text.size + Ex.bulkL e.kids := by cases e; rw [Ex.bulk]; rfl

mutual
def Ex.same : Ex → Ex → Bool
  | .mk k n t ks, .mk k' n' t' ks' => k == k' && n == n' && t.toList == t'.toList && Ex.sameL ks ks'
def Ex.sameL : List Ex → List Ex → Bool
  | [], [] => true
  | a :: r, b :: r' => a.same b && Ex.sameL r r'
  | _, _ => false
end
theorem Ex.same_eq (a b : Ex) : a.same b = (a.kind == b.kind && a.n == b.n && a.text.toList == b.text.toList && Ex.sameL a.kids b.kids) := by cases a; cases b; rw [Ex.same]; rfl

def inI64 (z : Int) : Prop := -9223372036854775808 ≤ z ∧ z ≤ 9223372036854775807

/-- A row of expressions in memory, at most d deep, in blocks of S. -/
def KidsAt (w : World) (S : Nat → Prop) : Nat → Value → List Ex → Prop
  | 0, _, _ => False
  | d + 1, v, es => ∃ a cap, v = .slice a es.length cap ∧ es.length ≤ maxLen ∧ ∀ i e, es[i]? = some e → ∃ b off kv, a = some ⟨b, off, none⟩ ∧ S b ∧ b < w.heap.size ∧
      w.cell? ⟨b, off + i * 4, none⟩ = some (.int .i64 e.kind) ∧ w.cell? ⟨b, off + i * 4 + 1, none⟩ = some (.int .i64 e.n) ∧ w.cell? ⟨b, off + i * 4 + 2, none⟩ = some (.string e.text) ∧ w.cell? ⟨b, off + i * 4 + 3, none⟩ = some kv ∧
      inI64 e.kind ∧ inI64 e.n ∧ e.text.size ≤ maxLen ∧ KidsAt w S d kv e.kids
/-- An expression's value. -/
def ExAt (w : World) (S : Nat → Prop) (d : Nat) (v : Value) (e : Ex) : Prop :=
  ∃ kv, v = .agg #[.int .i64 e.kind, .int .i64 e.n, .string e.text, kv] ∧ inI64 e.kind ∧ inI64 e.n ∧ e.text.size ≤ maxLen ∧ KidsAt w S d kv e.kids

theorem KidsAt.kept {w w' : World} {S S' : Nat → Prop} (hw : ∀ b, S b → b < w.heap.size → w'.heap[b]? = w.heap[b]?) (hsz : w.heap.size ≤ w'.heap.size) (hS : ∀ b, S b → b < w.heap.size → S' b) : ∀ {d : Nat} {v : Value} {es : List Ex}, KidsAt w S d v es → KidsAt w' S' d v es
  | 0, _, _, h => h.elim
  | d + 1, v, es, ⟨a, cap, hv, hl, hc⟩ => by
    refine ⟨a, cap, hv, hl, fun i e he => ?_⟩
    obtain ⟨b, off, kv, ha, hb, hlt, c0, c1, c2, c3, r1, r2, r3, hk⟩ := hc i e he
    have hblk := hw b hb hlt
    exact ⟨b, off, kv, ha, hS b hb hlt, Nat.lt_of_lt_of_le hlt hsz, (World.cell?_of_block hblk).trans c0, (World.cell?_of_block hblk).trans c1, (World.cell?_of_block hblk).trans c2, (World.cell?_of_block hblk).trans c3, r1, r2, r3, KidsAt.kept hw hsz hS hk⟩
theorem KidsAt.below {w w' : World} {S : Nat → Prop} {d : Nat} {v : Value} {es : List Ex} (h : KidsAt w S d v es) (hb : Below w.heap.size w w') : KidsAt w' S d v es :=
  h.kept (fun b _ hlt => hb.block b hlt) hb.size (fun _ h _ => h)
theorem KidsAt.wide {w : World} {S S' : Nat → Prop} {d : Nat} {v : Value} {es : List Ex} (h : KidsAt w S d v es) (hS : ∀ b, S b → S' b) : KidsAt w S' d v es :=
  h.kept (fun _ _ _ => rfl) (Nat.le_refl _) (fun b h _ => hS b h)
theorem ExAt.below {w w' : World} {S : Nat → Prop} {d : Nat} {v : Value} {e : Ex} (h : ExAt w S d v e) (hb : Below w.heap.size w w') : ExAt w' S d v e := by
  obtain ⟨kv, hv, h1, h2, h3, h4⟩ := h
  exact ⟨kv, hv, h1, h2, h3, h4.below hb⟩
theorem KidsAt.deeper {w : World} {S : Nat → Prop} : ∀ {d : Nat} {v : Value} {es : List Ex}, KidsAt w S d v es → KidsAt w S (d + 1) v es
  | 0, _, _, h => h.elim
  | d + 1, v, es, ⟨a, cap, hv, hl, hc⟩ => ⟨a, cap, hv, hl, fun i e he => by
    obtain ⟨b, off, kv, ha, hb, hlt, c0, c1, c2, c3, r1, r2, r3, hk⟩ := hc i e he
    exact ⟨b, off, kv, ha, hb, hlt, c0, c1, c2, c3, r1, r2, r3, KidsAt.deeper hk⟩⟩
theorem KidsAt.deep {w : World} {S : Nat → Prop} {d d' : Nat} {v : Value} {es : List Ex} (h : KidsAt w S d v es) (hd : d ≤ d') : KidsAt w S d' v es := by
  induction hd with
  | refl => exact h
  | step _ ih => exact ih.deeper
theorem KidsAt.form {w : World} {S : Nat → Prop} {d : Nat} {v : Value} {es : List Ex} (h : KidsAt w S d v es) : ∃ a cap, v = .slice a es.length cap := by
  cases d with
  | zero => exact h.elim
  | succ d => obtain ⟨a, cap, hv, _⟩ := h; exact ⟨a, cap, hv⟩

theorem Pl.of {w w' : World} {b : Nat} (h : Pl w b) (he : w'.heap[b]? = w.heap[b]?) : Pl w' b := by
  obtain ⟨cs, t, hc⟩ := h
  exact ⟨cs, t, he.trans hc⟩
theorem Pl.below {w w' : World} {b : Nat} (h : Pl w b) (hb : Below w.heap.size w w') : Pl w' b := by
  obtain ⟨cs, t, hc⟩ := h
  exact ⟨cs, t, (hb.block b (Array.getElem?_eq_some_iff.1 hc).1).trans hc⟩
/-- A row in plain blocks from n on. -/
theorem KidsAt.belowP {w w' : World} {n d : Nat} {v : Value} {es : List Ex} (h : KidsAt w (fun b => n ≤ b ∧ Pl w b) d v es) (hb : Below w.heap.size w w') : KidsAt w' (fun b => n ≤ b ∧ Pl w' b) d v es :=
  h.kept (fun b _ hlt => hb.block b hlt) hb.size (fun _ h _ => ⟨h.1, h.2.below hb⟩)
theorem KidsAt.plain {w : World} {n d : Nat} {v : Value} {es : List Ex} (h : KidsAt w (fun b => n ≤ b ∧ Pl w b) d v es) : KidsAt w (Pl w) d v es := h.wide (fun _ h => h.2)
theorem KidsAt.belowPl {w w' : World} {d : Nat} {v : Value} {es : List Ex} (h : KidsAt w (Pl w) d v es) (hb : Below w.heap.size w w') : KidsAt w' (Pl w') d v es :=
  h.kept (fun b _ hlt => hb.block b hlt) hb.size (fun _ h _ => h.below hb)

theorem bulk_len : ∀ es : List Ex, es.length ≤ Ex.bulkL es
  | [] => Nat.zero_le _
  | e :: r => by have := bulk_len r; rw [Ex.bulkL, List.length_cons]; omega
theorem bulk_at : ∀ {es : List Ex} {i : Nat} {e : Ex}, es[i]? = some e → es.length + e.bulk ≤ Ex.bulkL es
  | [], _, _, h => by simp at h
  | a :: r, 0, e, h => by
    obtain rfl : a = e := by simpa using h
    have := bulk_len r
    rw [Ex.bulkL, List.length_cons]; omega
  | a :: r, i + 1, e, h => by
    have := bulk_at (es := r) (i := i) (by simpa using h)
    rw [Ex.bulkL, List.length_cons]; omega

end Go.Proofs.YtkhkmmjollcfaaaGreatDoor

namespace Go.Proofs.YtkhkmmjollcfaaaGreatDoor
open Go.RowKit Go.Joins

set_option maxRecDepth 100000

theorem least_is {p : Nat → Prop} (h : ∃ m, p m) : ∃ m, p m ∧ ∀ k, p k → m ≤ k := by
  obtain ⟨n, hn⟩ := h
  induction n using Nat.strongRecOn with
  | ind n ih =>
    by_cases hk : ∃ k, k < n ∧ p k
    · obtain ⟨k, hk, hp⟩ := hk
      exact ih k hk hp
    · refine ⟨n, hn, fun k hp => ?_⟩
      by_cases hkn : k < n
      · exact absurd ⟨k, hkn, hp⟩ hk
      · omega
open Classical in
noncomputable def leastM (p : Nat → Prop) : Nat := if h : ∃ m, p m then Classical.choose (least_is h) else 0
theorem leastM_spec {p : Nat → Prop} (h : ∃ m, p m) : p (leastM p) := by
  unfold leastM; rw [dif_pos h]; exact (Classical.choose_spec (least_is h)).1
theorem leastM_le {p : Nat → Prop} {m : Nat} (h : p m) : leastM p ≤ m := by
  unfold leastM; rw [dif_pos ⟨m, h⟩]; exact (Classical.choose_spec (least_is ⟨m, h⟩)).2 m h

mutual
/-- How many expressions there are in one. -/
def Ex.count : Ex → Nat
  | .mk _ _ _ ks => 1 + Ex.countL ks
def Ex.countL : List Ex → Nat
  | [] => 0
  | e :: r => e.count + Ex.countL r
end
theorem Ex.count_eq (e : Ex) : e.count = 1 + Ex.countL e.kids := by cases e; rw [Ex.count]; rfl
theorem Ex.countL_take : ∀ (ks : List Ex) (i : Nat) (k : Ex), ks[i]? = some k → Ex.countL (ks.take (i + 1)) = Ex.countL (ks.take i) + k.count
  | [], _, _, h => by simp at h
  | a :: r, 0, k, h => by
    obtain rfl : a = k := by simpa using h
    simp [Ex.countL]
  | a :: r, i + 1, k, h => by
    have := Ex.countL_take r i k (by simpa using h)
    rw [List.take_succ_cons, List.take_succ_cons, Ex.countL, Ex.countL, this]; omega
mutual
theorem Ex.count_bulk : ∀ e : Ex, e.count ≤ 1 + e.bulk
  | .mk _ _ t ks => by have := Ex.countL_bulk ks; rw [Ex.count, Ex.bulk]; omega
theorem Ex.countL_bulk : ∀ es : List Ex, Ex.countL es ≤ Ex.bulkL es
  | [] => by simp [Ex.countL]
  | e :: r => by have := Ex.count_bulk e; have := Ex.countL_bulk r; rw [Ex.countL, Ex.bulkL]; omega
end

/-- A pointer at an expression. -/
def NodeAt (w : World) (d : Nat) (p : Addr) (e : Ex) : Prop :=
  ∃ b o kv, p = ⟨b, o, none⟩ ∧ Pl w b ∧ w.cell? ⟨b, o, none⟩ = some (.int .i64 e.kind) ∧ w.cell? ⟨b, o + 1, none⟩ = some (.int .i64 e.n) ∧ w.cell? ⟨b, o + 2, none⟩ = some (.string e.text) ∧ w.cell? ⟨b, o + 3, none⟩ = some kv ∧
    inI64 e.kind ∧ inI64 e.n ∧ e.text.size ≤ maxLen ∧ KidsAt w (Pl w) d kv e.kids
theorem Pl.lt {w : World} {b : Nat} (h : Pl w b) : b < w.heap.size := by
  obtain ⟨cs, t, hc⟩ := h
  exact (Array.getElem?_eq_some_iff.1 hc).1
/-- Where an expression's kids lie. -/
def RowOf (w : World) (p : Addr) (b o : Nat) : Prop := ∃ l c, w.cell? ⟨p.block, p.off + 3, none⟩ = some (.slice (some ⟨b, o, none⟩) l c)
theorem RowOf.one {w : World} {p : Addr} {b o b' o' : Nat} (h : RowOf w p b o) (h' : RowOf w p b' o') : b = b' ∧ o = o' := by
  obtain ⟨l, c, h⟩ := h
  obtain ⟨l', c', h'⟩ := h'
  rw [h] at h'
  simp at h'
  exact h'.1
theorem NodeAt.kid {w : World} {d : Nat} {p : Addr} {e k : Ex} {i : Nat} (h : NodeAt w d p e) (hk : e.kids[i]? = some k) : ∃ d' b o, d = d' + 1 ∧ RowOf w p b o ∧ NodeAt w d' ⟨b, o + i * 4, none⟩ k := by
  obtain ⟨b, o, kv, rfl, hp, c0, c1, c2, c3, r1, r2, r3, hks⟩ := h
  cases d with
  | zero => exact hks.elim
  | succ d =>
    obtain ⟨a, cap, rfl, hl, hc⟩ := hks
    obtain ⟨b', o', kv', rfl, hb', _, k0, k1, k2, k3, s1, s2, s3, hkk⟩ := hc i k hk
    exact ⟨d, b', o', rfl, ⟨_, _, c3⟩, b', o' + i * 4, kv', rfl, hb', k0, k1, k2, k3, s1, s2, s3, hkk⟩
/-- The head of one: all but the kids. -/
def headSame (e f : Ex) : Prop := e.kind = f.kind ∧ e.n = f.n ∧ e.text = f.text ∧ e.kids.length = f.kids.length
theorem NodeAt.kidsVal {w : World} {d : Nat} {p : Addr} {e : Ex} (h : NodeAt w d p e) : ∃ a c, w.cell? ⟨p.block, p.off + 3, none⟩ = some (.slice a e.kids.length c) ∧ (0 < e.kids.length → ∃ b o, a = some ⟨b, o, none⟩) := by
  obtain ⟨b, o, kv, rfl, hp, c0, c1, c2, c3, r1, r2, r3, hks⟩ := h
  cases d with
  | zero => exact hks.elim
  | succ d =>
    obtain ⟨a, cap, rfl, hl, hc⟩ := hks
    refine ⟨a, cap, c3, fun h0 => ?_⟩
    obtain ⟨b', o', _, ha, _⟩ := hc 0 _ (List.getElem?_eq_getElem h0)
    exact ⟨b', o', ha⟩
/-- What a pointer points at is one thing. -/
theorem NodeAt.head {w : World} {d d' : Nat} {p : Addr} {e e' : Ex} (h : NodeAt w d p e) (h' : NodeAt w d' p e') : headSame e e' := by
  obtain ⟨a, c, hv, _⟩ := h.kidsVal
  obtain ⟨a', c', hv', _⟩ := h'.kidsVal
  rw [hv] at hv'
  obtain ⟨b, o, kv, rfl, hp, c0, c1, c2, c3, r1, r2, r3, hks⟩ := h
  obtain ⟨b', o', kv', hpp, hp', k0, k1, k2, k3, s1, s2, s3, hks'⟩ := h'
  cases hpp
  rw [c0] at k0
  rw [c1] at k1
  rw [c2] at k2
  simp at k0 k1 k2 hv'
  exact ⟨k0, k1, k2, hv'.2.1⟩
theorem NodeAt.below {w w' : World} {d : Nat} {p : Addr} {e : Ex} (h : NodeAt w d p e) (hb : Below w.heap.size w w') : NodeAt w' d p e := by
  obtain ⟨b, o, kv, rfl, hp, c0, c1, c2, c3, r1, r2, r3, hks⟩ := h
  have hblk := hb.block b hp.lt
  exact ⟨b, o, kv, rfl, hp.below hb, (World.cell?_of_block hblk).trans c0, (World.cell?_of_block hblk).trans c1, (World.cell?_of_block hblk).trans c2, (World.cell?_of_block hblk).trans c3, r1, r2, r3, hks.belowPl hb⟩
/-- The same expression has one count (and so has what a pointer points at). -/
theorem NodeAt.count {w : World} : ∀ {d d' : Nat} {p : Addr} {e e' : Ex}, NodeAt w d p e → NodeAt w d' p e' → e = e' := by
  intro d
  induction d with
  | zero => intro d' p e e' h _; obtain ⟨b, o, kv, rfl, hp, c0, c1, c2, c3, r1, r2, r3, hks⟩ := h; exact hks.elim
  | succ d ih =>
    intro d' p e e' h h'
    obtain ⟨h1, h2, h3, h4⟩ := h.head h'
    have hks : e.kids = e'.kids := by
      apply List.ext_getElem h4
      intro i hi hi'
      obtain ⟨d1, b, o, hd, hr, hn⟩ := h.kid (List.getElem?_eq_getElem hi)
      obtain ⟨d2, b', o', hd', hr', hn'⟩ := h'.kid (List.getElem?_eq_getElem hi')
      obtain ⟨rfl, rfl⟩ := hr.one hr'
      obtain rfl : d = d1 := by omega
      exact ih hn hn'
    cases e
    cases e'
    simp only [Ex.kind, Ex.n, Ex.text, Ex.kids] at h1 h2 h3 hks
    rw [h1, h2, h3, hks]

theorem exSameL_iff : ∀ (a b : List Ex), Ex.sameL a b = true ↔ a.length = b.length ∧ ∀ (i : Nat) (e f : Ex), a[i]? = some e → b[i]? = some f → e.same f = true
  | [], [] => by simp [Ex.sameL]
  | [], _ :: _ => by simp [Ex.sameL]
  | _ :: _, [] => by simp [Ex.sameL]
  | x :: r, y :: s => by
    rw [Ex.sameL, Bool.and_eq_true, exSameL_iff r s]
    constructor
    · rintro ⟨h1, h2, h3⟩
      refine ⟨by simp [h2], fun i e f he hf => ?_⟩
      cases i with
      | zero => simp at he hf; subst he hf; exact h1
      | succ i => exact h3 i e f (by simpa using he) (by simpa using hf)
    · rintro ⟨h1, h2⟩
      exact ⟨h2 0 x y rfl rfl, by simpa using h1, fun i e f he hf => h2 (i + 1) e f (by simpa using he) (by simpa using hf)⟩
theorem bytes_toList {s t : ByteArray} (h : s.toList = t.toList) : s = t := by
  rw [ByteArray.toList_eq, ByteArray.toList_eq] at h
  cases s
  cases t
  congr 1
  exact Array.ext' h
theorem same_iff (e f : Ex) : e.same f = true ↔ headSame e f ∧ ∀ (i : Nat) (k l : Ex), e.kids[i]? = some k → f.kids[i]? = some l → k.same l = true := by
  rw [Ex.same_eq]
  simp only [Bool.and_eq_true, beq_iff_eq, exSameL_iff]
  constructor
  · rintro ⟨⟨⟨h1, h2⟩, h3⟩, h4, h5⟩
    exact ⟨⟨h1, h2, bytes_toList h3, h4⟩, h5⟩
  · rintro ⟨⟨h1, h2, h3, h4⟩, h5⟩
    exact ⟨⟨⟨h1, h2⟩, by rw [h3]⟩, h4, h5⟩
end Go.Proofs.YtkhkmmjollcfaaaGreatDoor

namespace Go.Proofs.YtkhkmmjollcfaaaGreatDoor
open Go.RowKit Go.Joins

set_option maxRecDepth 100000

theorem nil_or_last {α : Type} (L : List α) : L = [] ∨ ∃ L' t, L = L' ++ [t] := by
  rcases List.eq_nil_or_concat L with h | ⟨L', t, h⟩
  · exact Or.inl h
  · exact Or.inr ⟨L', t, by rw [h, List.concat_eq_append]⟩
theorem PtMap.kept {Kd : World → Value → Prop} {w w' : World} {b : Nat} {f : Value → Option Value} (h : PtMap Kd w b f) (hb : w'.heap[b]? = w.heap[b]?) (hg : ∀ v, Kd w v → Kd w' v) : PtMap Kd w' b f := by
  obtain ⟨es, clock, h1, h2, h3⟩ := h
  exact ⟨es, clock, hb.trans h1, fun e he => hg _ (h2 e he), h3⟩
theorem KeysGo.sub {P : Program} {k : TypeId} {Kd Kd' : World → Value → Prop} (K : KeysGo P k Kd) (h : ∀ w v, Kd' w v → Kd w v) (hg : ∀ (w w' : World) (v : Value), (∀ b, Pl w b → Pl w' b) → Kd' w v → Kd' w' v) : KeysGo P k Kd' :=
  ⟨fun w em v hv => K.check w em v (h w v hv), fun w v hv => K.same w v (h w v hv), fun w u v hu hv => K.other w u v (h w u hu) (h w v hv), fun w u v hu hv => K.slow w u v (h w u hu) (h w v hv), fun w v hv => K.bits w v (h w v hv), hg⟩
theorem Below.grown {B : Nat} {a w w' : World} {row : Option Nat} (h : Below B a w) (hg : w.grownBy w' row) (hr : ∀ k, row = some k → B ≤ k) (hB : B ≤ w.heap.size) : Below B a w' :=
  h.trans ⟨hg.os, hg.tape, hg.output, hg.size, fun k hk => hg.block k (by omega) (fun e => by have := hr k e.symm; omega)⟩
theorem drewN_below {B : Nat} {a w : World} (h : Below B a w) (n : Nat) : Below B a (w.drewN n) := h.trans ⟨rfl, rfl, rfl, Nat.le_refl _, fun _ _ => rfl⟩


theorem Pl.more {w : World} {b : Nat} (h : Pl w b) (o : Obj) : Pl (w.alloc o) b := by
  obtain ⟨cs, t, hc⟩ := h
  exact ⟨cs, t, (Below.heap_alloc _ _ _ (Array.getElem?_eq_some_iff.1 hc).1).trans hc⟩
end Go.Proofs.YtkhkmmjollcfaaaGreatDoor

namespace Go.Proofs.YtkhkmmjollcfaaaGreatDoor
open Go.RowKit Go.Joins

set_option maxRecDepth 100000

def kidsOf (k : Int) : Int :=
  if k = 0 ∨ k = 1 ∨ k = 2 ∨ k = 7 then 0 else if k = 3 then 1 else if k = 4 ∨ k = 5 ∨ k = 8 ∨ k = 10 ∨ k = 11 then 2 else if k = 6 ∨ k = 9 then 3 else -1
def inR (n a b : Int) : Bool := decide (a ≤ n) && decide (n ≤ b)
def opTexts : List (List UInt8) := [[61, 61], [60], [43], [45], [42]]
def isOp (t : ByteArray) : Bool := opTexts.contains t.toList
def kind0 (ks : List Ex) : Int := (ks.head?.map Ex.kind).getD 0
def fieldsB (k n : Int) (t : ByteArray) (ks : List Ex) (scope tops : Int) : Bool :=
  if k = 10 then n == 0 && isOp t
  else if t.toList ≠ [] then false
  else if k = 0 then inR n 0 999999999
  else if k = 1 then inR n 0 (scope - 1)
  else if k = 2 then inR n 0 (tops - 1)
  else if k = 3 then inR n 1 6
  else if k = 11 then n == 0 && (kind0 ks == 1 || kind0 ks == 2)
  else n == 0
def moreN (k n : Int) (i : Nat) : Int := if k = 3 then n else if k = 5 then 1 else if k = 9 ∧ i = 2 then 2 else 0

mutual
def Ex.right : Ex → Int → Int → Int → Bool
  | .mk k n t ks, scope, tops, deep => decide (0 ≤ deep) && decide (scope ≤ 90) && decide ((ks.length : Int) = kidsOf k) && fieldsB k n t ks scope tops && Ex.rightL k n 0 ks scope tops (deep - 1)
def Ex.rightL : Int → Int → Nat → List Ex → Int → Int → Int → Bool
  | _, _, _, [], _, _, _ => true
  | k, n, i, e :: r, scope, tops, deep => e.right (scope + moreN k n i) tops deep && Ex.rightL k n (i + 1) r scope tops deep
end
theorem Ex.right_eq (e : Ex) (scope tops deep : Int) : e.right scope tops deep = (decide (0 ≤ deep) && decide (scope ≤ 90) && decide ((e.kids.length : Int) = kidsOf e.kind) && fieldsB e.kind e.n e.text e.kids scope tops && Ex.rightL e.kind e.n 0 e.kids scope tops (deep - 1)) := by
  cases e; rw [Ex.right]; rfl
theorem rightL_iff (k n : Int) (scope tops deep : Int) : ∀ (ks : List Ex) (j : Nat), Ex.rightL k n j ks scope tops deep = true ↔ ∀ (i : Nat) (e : Ex), ks[i]? = some e → e.right (scope + moreN k n (j + i)) tops deep = true
  | [], j => by simp [Ex.rightL]
  | x :: r, j => by
    rw [Ex.rightL, Bool.and_eq_true, rightL_iff k n scope tops deep r (j + 1)]
    constructor
    · rintro ⟨h1, h2⟩ i e he
      cases i with
      | zero => simp at he; subst he; exact h1
      | succ i => have := h2 i e (by simpa using he); rw [show j + (i + 1) = j + 1 + i by omega]; exact this
    · intro h
      exact ⟨h 0 x rfl, fun i e he => by have := h (i + 1) e (by simpa using he); rw [show j + 1 + i = j + (i + 1) by omega]; exact this⟩
theorem right_iff (e : Ex) (scope tops deep : Int) : e.right scope tops deep = true ↔ 0 ≤ deep ∧ scope ≤ 90 ∧ (e.kids.length : Int) = kidsOf e.kind ∧ fieldsB e.kind e.n e.text e.kids scope tops = true ∧ ∀ (i : Nat) (k : Ex), e.kids[i]? = some k → k.right (scope + moreN e.kind e.n i) tops (deep - 1) = true := by
  rw [Ex.right_eq]
  simp only [Bool.and_eq_true, decide_eq_true_eq, rightL_iff, Nat.zero_add]
  constructor
  · rintro ⟨⟨⟨⟨h1, h2⟩, h3⟩, h4⟩, h5⟩; exact ⟨h1, h2, h3, h4, h5⟩
  · rintro ⟨h1, h2, h3, h4, h5⟩; exact ⟨⟨⟨⟨h1, h2⟩, h3⟩, h4⟩, h5⟩

mutual
/-- What is right is right with more room below it. -/
theorem Ex.right_mono : ∀ (e : Ex) (scope tops deep deep' : Int), deep ≤ deep' → e.right scope tops deep = true → e.right scope tops deep' = true
  | .mk k n t ks, scope, tops, deep, deep', h, hr => by
    rw [Ex.right] at hr ⊢
    simp only [Bool.and_eq_true, decide_eq_true_eq] at hr ⊢
    obtain ⟨⟨⟨⟨h1, h2⟩, h3⟩, h4⟩, h5⟩ := hr
    exact ⟨⟨⟨⟨by omega, h2⟩, h3⟩, h4⟩, Ex.rightL_mono k n 0 ks scope tops _ _ (by omega) h5⟩
theorem Ex.rightL_mono : ∀ (k n : Int) (i : Nat) (ks : List Ex) (scope tops deep deep' : Int), deep ≤ deep' → Ex.rightL k n i ks scope tops deep = true → Ex.rightL k n i ks scope tops deep' = true
  | _, _, _, [], _, _, _, _, _, _ => by rw [Ex.rightL]
  | k, n, i, e :: r, scope, tops, deep, deep', h, hr => by
    rw [Ex.rightL, Bool.and_eq_true] at hr ⊢
    exact ⟨Ex.right_mono e _ tops _ _ h hr.1, Ex.rightL_mono k n (i + 1) r scope tops _ _ h hr.2⟩
end

/-- With fields that are right an expression brings few names. -/
theorem moreN_le {k n : Int} {t : ByteArray} {ks : List Ex} {scope tops : Int} (h : fieldsB k n t ks scope tops = true) (i : Nat) : 0 ≤ moreN k n i ∧ moreN k n i ≤ 6 := by
  unfold moreN
  by_cases h3 : k = 3
  · subst h3
    unfold fieldsB at h
    by_cases ht : t.toList ≠ []
    · rw [if_neg (by omega), if_pos ht] at h; cases h
    · rw [if_neg (by omega), if_neg ht, if_neg (by omega), if_neg (by omega), if_neg (by omega), if_pos rfl] at h
      unfold inR at h
      simp only [Bool.and_eq_true, decide_eq_true_eq] at h
      rw [if_pos rfl]; omega
  · rw [if_neg h3]
    split
    · omega
    · split <;> omega
end Go.Proofs.YtkhkmmjollcfaaaGreatDoor
