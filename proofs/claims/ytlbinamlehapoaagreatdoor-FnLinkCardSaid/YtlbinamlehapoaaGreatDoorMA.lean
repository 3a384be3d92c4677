/-
  Maps keyed by pointers: what such a map answers, and what a store makes of it.
  Expressions in plain words, and how they lie in memory.
  Small things about rows in memory.
  Rows of numbers in memory.
  Rows of a call's own, of whatever type: their form, their blocks, what keeps them.
  A row of numbers of a call's own is a row of numbers in memory.
-/
import Derived.LaidEql
import Derived.Maps.OwnSet
import Derived.WalkKit
import Derived.ProofKit
import Derived.Test.YtlbinamlehapoaaGreatDoorRows
import Derived.OpenShut
import Derived.ShutString
import Derived.Deep.Slices
import Derived.Deep.RegionWith
import Derived.Laws.MakeOwn
import Derived.Lib.SmallJoins
import Derived.Lib.BufferOwn
import Derived.RegionTactic
import Derived.OwnWalk
import Derived.Maps.AppendAt
import Derived.Laws.OwnMore
namespace Go.Proofs.YtlbinamlehapoaaGreatDoor
open Go.RowKit Go.MapKept Go.ChangeMaps

set_option maxRecDepth 100000

/-- A block of cells that no string shares. -/
def Pl (w : World) (b : Nat) : Prop := ∃ cs t, w.heap[b]? = some (.cells cs t (0, 0))

/-- A map's entries as a function. -/
def MapIs (es : List MapEntry) (f : Value → Option Value) : Prop :=
  es.Pairwise (fun x y => x.key ≠ y.key) ∧ ∀ k v, f k = some v ↔ ∃ e ∈ es, e.key = k ∧ e.val = v

open Classical in
noncomputable def setAt (f : Value → Option Value) (k v : Value) : Value → Option Value := fun k' => if k' = k then some v else f k'
theorem setAt_same (f : Value → Option Value) (k v : Value) : setAt f k v k = some v := by simp [setAt]
theorem setAt_other (f : Value → Option Value) (k v : Value) {k' : Value} (h : k' ≠ k) : setAt f k v k' = f k' := by simp [setAt, h]

/-- What a map's laws ask of its keys. -/
structure KeysGo (P : Program) (k : TypeId) (Kd : World → Value → Prop) : Prop where
  check : ∀ (w : World) (em : Bool) (v : Value), Kd w v → (Instr.checkKey em 10000 k v).run P w = .ok () w
  same : ∀ (w : World) (v : Value), Kd w v → (Op.equal k v v).run P w = .ok true w
  other : ∀ (w : World) (u v : Value), Kd w u → Kd w v → u ≠ v → (Op.equal k u v).run P w = .ok false w
  slow : ∀ (w : World) (u v : Value), Kd w u → Kd w v → ∃ d, P.underlying k = some d ∧ Instr.sameNow d u v = none
  bits : ∀ (w : World) (v : Value), Kd w v → Instr.sameBits 10000 v v = true
  grow : ∀ (w w' : World) (v : Value), (∀ b, Pl w b → Pl w' b) → Kd w v → Kd w' v

section
variable {P : Program} {k : TypeId} {Kd : World → Value → Prop}

theorem findAsking_run (K : KeysGo P k Kd) (w : World) (x : Value) (hx : Kd w x) : ∀ (es : List MapEntry) (i : Nat), (∀ e ∈ es, Kd w e.key) →
    ((Instr.findAsking k x es i).run P w = .ok none w ∧ ∀ e ∈ es, e.key ≠ x) ∨ ∃ j e, (Instr.findAsking k x es i).run P w = .ok (some (i + j, e.val)) w ∧ es[j]? = some e ∧ e.key = x
  | [], _, _ => .inl ⟨by simp [Instr.findAsking], by simp⟩
  | e :: es, i, h => by
    by_cases hxe : x = e.key
    · subst hxe
      exact .inr ⟨0, e, by simp [Instr.findAsking, K.same w _ hx, Result.andThen], rfl, rfl⟩
    · have h0 := K.other w x e.key hx (h e (.head _)) hxe
      rcases findAsking_run K w x hx es (i + 1) (fun y hy => h y (.tail _ hy)) with ⟨h1, h2⟩ | ⟨j, e', h1, h2, h3⟩
      · exact .inl ⟨by simp [Instr.findAsking, h0, Result.andThen, h1], fun y hy => by
          cases hy with
          | head => exact fun q => hxe q.symm
          | tail _ hy => exact h2 y hy⟩
      · exact .inr ⟨j + 1, e', by simp [Instr.findAsking, h0, Result.andThen, h1]; omega, by simpa using h2, h3⟩

theorem findKey_run (K : KeysGo P k Kd) (w : World) (x : Value) (hx : Kd w x) (es : List MapEntry) (h : ∀ e ∈ es, Kd w e.key) :
    ((Instr.findKey k x es).run P w = .ok none w ∧ ∀ e ∈ es, e.key ≠ x) ∨ ∃ j e, (Instr.findKey k x es).run P w = .ok (some (j, e.val)) w ∧ es[j]? = some e ∧ e.key = x := by
  obtain ⟨d, hd, _⟩ := K.slow w x x hx hx
  cases es with
  | nil => exact .inl ⟨by simp [Instr.findKey, run_underlying hd, Result.andThen, Instr.findNow], by simp⟩
  | cons e es =>
    obtain ⟨d', hd', hs⟩ := K.slow w x e.key hx (h e (.head _))
    obtain rfl : d = d' := Option.some.inj (hd.symm.trans hd')
    rcases findAsking_run K w x hx (e :: es) 0 h with ⟨h1, h2⟩ | ⟨j, e', h1, h2, h3⟩
    · exact .inl ⟨by simp [Instr.findKey, run_underlying hd, Result.andThen, Instr.findNow, hs, h1], h2⟩
    · exact .inr ⟨j, e', by simpa [Instr.findKey, run_underlying hd, Result.andThen, Instr.findNow, hs] using h1, h2, h3⟩

/-- Block b is a map that answers f. -/
def PtMap (Kd : World → Value → Prop) (w : World) (b : Nat) (f : Value → Option Value) : Prop :=
  ∃ es clock, w.heap[b]? = some (.map es clock) ∧ (∀ e ∈ es.toList, Kd w e.key) ∧ MapIs es.toList f

theorem PtMap.made (w : World) : PtMap Kd (w.alloc (.map #[] 0)) w.heap.size (fun _ => none) :=
  ⟨#[], 0, (MapKept.heap_alloc w _).1, by simp, by simp, by simp⟩
theorem PtMap.lt {w : World} {b : Nat} {f : Value → Option Value} (h : PtMap Kd w b f) : b < w.heap.size := by
  obtain ⟨es, clock, hb, _⟩ := h
  exact (Array.getElem?_eq_some_iff.1 hb).1
theorem PtMap.grow (K : KeysGo P k Kd) {w w' : World} {b : Nat} {f : Value → Option Value} (h : PtMap Kd w b f) (hb : w'.heap[b]? = w.heap[b]?) (hg : ∀ b, Pl w b → Pl w' b) : PtMap Kd w' b f := by
  obtain ⟨es, clock, h1, h2, h3⟩ := h
  exact ⟨es, clock, hb.trans h1, fun e he => K.grow w w' _ hg (h2 e he), h3⟩
theorem PtMap.key {w : World} {b : Nat} {f : Value → Option Value} (h : PtMap Kd w b f) {x v : Value} (hx : f x = some v) : Kd w x := by
  obtain ⟨es, clock, h1, h2, h3, h4⟩ := h
  obtain ⟨e, he, rfl, _⟩ := (h4 x v).1 hx
  exact h2 e he

theorem MapIs.none' {es : List MapEntry} {f : Value → Option Value} (h : MapIs es f) {x : Value} (hn : ∀ e ∈ es, e.key ≠ x) : f x = none := by
  cases hf : f x with
  | none => rfl
  | some v =>
    obtain ⟨e, he, hk, _⟩ := (h.2 x v).1 hf
    exact absurd hk (hn e he)
theorem MapIs.some' {es : List MapEntry} {f : Value → Option Value} (h : MapIs es f) {x : Value} {e : MapEntry} (he : e ∈ es) (hk : e.key = x) : f x = some e.val := (h.2 x e.val).2 ⟨e, he, hk, rfl⟩

theorem PtMap.look (K : KeysGo P k Kd) {w : World} {b : Nat} {f : Value → Option Value} (h : PtMap Kd w b f) {t e : TypeId} (ht : P.underlying t = some (.map k e)) {z : Value} (hz : (zeroValue e).run P w = .ok z w) {x : Value} (hx : Kd w x) (c : Bool) :
    (Instr.lookup t (.map (some b)) x c).run P w = .ok (if c then .tuple #[(f x).getD z, .bool (f x).isSome] else (f x).getD z) w := by
  obtain ⟨es, clock, hb, hk, hm⟩ := h
  rcases findKey_run K w x hx es.toList hk with ⟨h1, h2⟩ | ⟨j, e0, h1, h2, h3⟩
  · have := hm.none' h2
    simp [Instr.lookup, run_underlying ht, MapKept.run_getObj_map hb, K.check w _ x hx, h1, hz, Result.andThen, this]
  · have := hm.some' (List.mem_of_getElem? h2) h3
    simp [Instr.lookup, run_underlying ht, MapKept.run_getObj_map hb, K.check w _ x hx, h1, Result.andThen, this]

theorem MapIs.push {es : List MapEntry} {f : Value → Option Value} (h : MapIs es f) {x v : Value} {n : Nat} (hn : ∀ e ∈ es, e.key ≠ x) : MapIs (es ++ [{ key := x, val := v, born := n }]) (setAt f x v) := by
  refine ⟨?_, fun k u => ?_⟩
  · rw [List.pairwise_append]
    exact ⟨h.1, by simp, fun a ha b hb => by obtain rfl := List.mem_singleton.1 hb; exact hn a ha⟩
  · by_cases hk : k = x
    · subst hk
      rw [setAt_same]
      constructor
      · intro e; cases e; exact ⟨{ key := k, val := v, born := n }, by simp, rfl, rfl⟩
      · rintro ⟨e, he, hk, rfl⟩
        rcases List.mem_append.1 he with he | he
        · exact absurd hk (hn e he)
        · obtain rfl := List.mem_singleton.1 he; rfl
    · rw [setAt_other _ _ _ hk, h.2]
      constructor
      · rintro ⟨e, he, h1, h2⟩; exact ⟨e, List.mem_append_left _ he, h1, h2⟩
      · rintro ⟨e, he, h1, h2⟩
        rcases List.mem_append.1 he with he | he
        · exact ⟨e, he, h1, h2⟩
        · obtain rfl := List.mem_singleton.1 he; exact absurd h1.symm hk

theorem MapIs.put : ∀ {es : List MapEntry} {f : Value → Option Value}, MapIs es f → ∀ {x v : Value} {j : Nat} {e0 : MapEntry}, es[j]? = some e0 → e0.key = x → MapIs (es.modify j fun e => { e with key := x, val := v }) (setAt f x v) := by
  intro es f h x v j e0 hj hx
  have hlt : j < es.length := (List.getElem?_eq_some_iff.1 hj).1
  have hget : ∀ i : Nat, (es.modify j fun e => { e with key := x, val := v })[i]? = if i = j then some { e0 with key := x, val := v } else es[i]? := by
    intro i
    rw [List.getElem?_modify]
    by_cases hi : j = i
    · subst hi; simp [hj]
    · simp [hi, Ne.symm hi]
  have hd : ∀ (a b : Nat) (ea eb : MapEntry), a ≠ b → es[a]? = some ea → es[b]? = some eb → ea.key ≠ eb.key := by
    intro a b ea eb hab ha hb
    obtain ⟨ha1, ha2⟩ := List.getElem?_eq_some_iff.1 ha
    obtain ⟨hb1, hb2⟩ := List.getElem?_eq_some_iff.1 hb
    have hp := List.pairwise_iff_getElem.1 h.1
    rcases Nat.lt_or_gt_of_ne hab with hl | hl
    · have := hp a b ha1 hb1 hl; rw [ha2, hb2] at this; exact this
    · have := hp b a hb1 ha1 hl; rw [ha2, hb2] at this; exact this.symm
  refine ⟨?_, fun k u => ?_⟩
  · rw [List.pairwise_iff_getElem]
    intro a b ha hb hl
    have ga := List.getElem?_eq_getElem ha
    have gb := List.getElem?_eq_getElem hb
    rw [hget] at ga gb
    by_cases h1 : a = j
    · have h2 : b ≠ j := by omega
      rw [if_pos h1] at ga
      rw [if_neg h2] at gb
      rw [← Option.some.inj ga]
      have := hd j b e0 _ (Ne.symm h2) hj gb
      rw [hx] at this
      exact this
    · rw [if_neg h1] at ga
      by_cases h2 : b = j
      · rw [if_pos h2] at gb
        rw [← Option.some.inj gb]
        have := hd a j _ e0 h1 ga hj
        rw [hx] at this
        exact this
      · rw [if_neg h2] at gb
        exact hd a b _ _ (by omega) ga gb
  · constructor
    · intro hf
      by_cases hk : k = x
      · subst hk
        rw [setAt_same] at hf
        cases hf
        exact ⟨{ e0 with key := k, val := v }, List.mem_of_getElem? (i := j) (by rw [hget, if_pos rfl]), rfl, rfl⟩
      · rw [setAt_other _ _ _ hk] at hf
        obtain ⟨e, he, h1, h2⟩ := (h.2 k u).1 hf
        obtain ⟨i, hi⟩ := List.getElem?_of_mem he
        have hij : i ≠ j := by
          rintro rfl
          rw [hj] at hi
          cases hi
          exact hk (h1.symm.trans hx)
        exact ⟨e, List.mem_of_getElem? (i := i) (by rw [hget, if_neg hij]; exact hi), h1, h2⟩
    · rintro ⟨e, he, h1, h2⟩
      obtain ⟨i, hi⟩ := List.getElem?_of_mem he
      rw [hget] at hi
      by_cases hij : i = j
      · rw [if_pos hij] at hi
        cases hi
        subst h1 h2
        exact setAt_same _ _ _
      · rw [if_neg hij] at hi
        have hk : k ≠ x := by
          rintro rfl
          have := hd i j e e0 hij hi hj
          exact this (h1.trans hx.symm)
        rw [setAt_other _ _ _ hk]
        exact (h.2 k u).2 ⟨e, List.mem_of_getElem? hi, h1, h2⟩

theorem Pl.turn {w : World} {b : Nat} {es es' : Array MapEntry} {clock clock' : Nat} (hb : w.heap[b]? = some (.map es clock)) {c : Nat} (h : Pl w c) : Pl (setBlock w b (.map es' clock')) c := by
  obtain ⟨cs, t, hc⟩ := h
  have hne : c ≠ b := by rintro rfl; rw [hb] at hc; cases hc
  exact ⟨cs, t, (heap_setBlock_other hb _ hne).trans hc⟩

theorem PtMap.store (K : KeysGo P k Kd) {w : World} {b : Nat} {f : Value → Option Value} (h : PtMap Kd w b f) {t e : TypeId} (ht : P.underlying t = some (.map k e)) {x v : Value} (hx : Kd w x) :
    ∃ w', (Instr.mapUpdate t (.map (some b)) x v).run P w = .ok () w' ∧ PtMap Kd w' b (setAt f x v) ∧ w.mapTurned w' b := by
  obtain ⟨es, clock, hb, hk, hm⟩ := h
  rcases findKey_run K w x hx es.toList hk with ⟨h1, h2⟩ | ⟨j, e0, h1, h2, h3⟩
  · refine ⟨setBlock w b (.map (es.push { key := x, val := v, born := clock }) (clock + 1)), ?_, ⟨_, _, heap_setBlock_same hb _, ?_, ?_⟩, es, clock, _, _, hb, rfl⟩
    · simp [Instr.mapUpdate, run_underlying ht, MapKept.run_getObj_map hb, K.check w _ x hx, h1, Result.andThen, MapKept.run_setObj_map _ hb]
      rfl
    · intro e he
      rw [Array.toList_push] at he
      have hkx : ∀ u, Kd w u → Kd (setBlock w b (.map (es.push { key := x, val := v, born := clock }) (clock + 1))) u := fun u hu => K.grow w _ u (fun c hc => Pl.turn hb hc) hu
      rcases List.mem_append.1 he with he | he
      · exact hkx _ (hk e he)
      · obtain rfl := List.mem_singleton.1 he; exact hkx _ hx
    · rw [Array.toList_push]; exact hm.push h2
  · have hget : ((es[j]?).map (·.key)).getD x = x := by
      have : es[j]? = some e0 := by rw [← Array.getElem?_toList]; exact h2
      simp [this, h3]
    refine ⟨setBlock w b (.map (es.modify j fun e => { e with key := x, val := v }) clock), ?_, ⟨_, _, heap_setBlock_same hb _, ?_, ?_⟩, es, clock, _, _, hb, rfl⟩
    · simp [Instr.mapUpdate, run_underlying ht, MapKept.run_getObj_map hb, K.check w _ x hx, h1, Result.andThen, hget, Instr.keyThatStays, K.bits w x hx, MapKept.run_setObj_map _ hb]
      rfl
    · intro e he
      have hkx : ∀ u, Kd w u → Kd (setBlock w b (.map (es.modify j fun e => { e with key := x, val := v }) clock)) u := fun u hu => K.grow w _ u (fun c hc => Pl.turn hb hc) hu
      rw [Array.toList_modify] at he
      obtain ⟨i, hi⟩ := List.getElem?_of_mem he
      rw [List.getElem?_modify] at hi
      by_cases hij : j = i
      · subst hij
        rw [h2] at hi
        simp at hi
        subst hi
        exact hkx _ hx
      · simp [hij] at hi
        exact hkx _ (hk e (by simpa using Array.mem_of_getElem? hi))
    · rw [Array.toList_modify]; exact hm.put h2 h3
end

section
variable {P : Program} {k : TypeId} {Kd : World → Value → Prop} (w : World) {ops : Array Oper} {rest : List Oper} {o : Oper} {a : Act} {Q : Exit → Act → World → Prop}

theorem wpList_lookup_pt (hg : o.guard = none) (m x : Operand) (t : TypeId) (c : Bool) (hop : o.op = Op.lookup t m x c) (e : TypeId) (K : KeysGo P k Kd) (ht : P.underlying t = some (.map k e)) {z : Value} (hz : (zeroValue e).run P w = .ok z w) (b : Nat) (f : Value → Option Value)
    (hm : a.eval m = .map (some b)) (hown : PtMap Kd w b f) (key : Value) (hx : a.eval x = key) (hkey : Kd w key)
    (hK : wpList P ops Q rest (a.put o.dst (if c then .tuple #[(f key).getD z, .bool (f key).isSome] else (f key).getD z)) w) :
    wpList P ops Q (o :: rest) a w := by
  refine wpList_plain hg fun K' hK' => ?_
  have hrun := hown.look K ht hz hkey c
  unfold Oper.wp
  simp [execOp, hop, hm, hx, hrun, Result.andThen]
  exact hK' _ _ hK

theorem wpList_mapUpdate_pt (hg : o.guard = none) (m x v : Operand) (t : TypeId) (hop : o.op = Op.mapUpdate t m x v) (e : TypeId) (K : KeysGo P k Kd) (ht : P.underlying t = some (.map k e)) (b : Nat) (f : Value → Option Value)
    (hm : a.eval m = .map (some b)) (hown : PtMap Kd w b f) (key val : Value) (hx : a.eval x = key) (hv : a.eval v = val) (hkey : Kd w key)
    (hK : ∀ w', PtMap Kd w' b (setAt f key val) → w.mapTurned w' b → wpList P ops Q rest (a.put o.dst undef) w') :
    wpList P ops Q (o :: rest) a w := by
  refine wpList_plain hg fun K' hK' => ?_
  obtain ⟨w', hrun, r1, r2⟩ := hown.store K ht (v := val) hkey
  unfold Oper.wp
  simp [execOp, hop, hm, hx, hv, hrun, Result.andThen]
  exact hK' _ _ (hK w' r1 r2)
end

/-! ### who is a key -/
/-- A pointer into a plain block. -/
def PtrK (w : World) (v : Value) : Prop := ∃ a, v = .pointer (some a) ∧ Pl w a.block
def PtrsK (w : World) (v : Value) : Prop := ∃ a b, v = .agg #[.pointer (some a), .pointer (some b)] ∧ Pl w a.block ∧ Pl w b.block
def PtrIntK (w : World) (v : Value) : Prop := ∃ a n, v = .agg #[.pointer (some a), .int .i64 n] ∧ Pl w a.block

section
variable {P : Program}
theorem equalIn_ptr {tp te : TypeId} {j : TypeInfo} (hp : P.underlying tp = some (.pointer te)) (hte : P.info? te = some j) (hsz : j.size ≠ 0) (d : Nat) (w : World) {a b : Addr} (ha : Pl w a.block) (hb : Pl w b.block) :
    (Op.equalIn (d + 1) tp (.pointer (some a)) (.pointer (some b))).run P w = .ok (decide (a = b)) w := by
  obtain ⟨ca, ta, ha⟩ := ha
  obtain ⟨cb, tb, hb⟩ := hb
  by_cases hne : a = b
  · subst hne
    simp [Op.equalIn, run_underlying hp, sizeOf, typeInfo, hte, run_sameAddr_same]
  · simp [Op.equalIn, run_underlying hp, sizeOf, typeInfo, hte, hsz, run_sameAddr_other w hne ha hb, hne]

theorem checkKey_ptr {tp te : TypeId} (hp : P.underlying tp = some (.pointer te)) (em : Bool) (n : Nat) (w : World) (a : Option Addr) : (Instr.checkKey em (n + 1) tp (.pointer a)).run P w = .ok () w := by
  simp [Instr.checkKey, run_underlying hp, Result.andThen]
theorem checkKey_int {t : TypeId} (ht : P.underlying t = some (.int .i64)) (em : Bool) (n : Nat) (w : World) (x : Int) : (Instr.checkKey em (n + 1) t (.int .i64 x)).run P w = .ok () w := by
  simp [Instr.checkKey, run_underlying ht, Result.andThen]
theorem equal_of {t : TypeId} {u v : Value} {w : World} {r : Bool} (h : (Op.equalIn (9998 + 2) t u v).run P w = .ok r w) : (Op.equal t u v).run P w = .ok r w := h
theorem check_of {t : TypeId} {v : Value} {w : World} {em : Bool} (h : (Instr.checkKey em (9998 + 2) t v).run P w = .ok () w) : (Instr.checkKey em 10000 t v).run P w = .ok () w := h
theorem bits_of {v : Value} (h : Instr.sameBits (9998 + 2) v v = true) : Instr.sameBits 10000 v v = true := h
theorem sameBits_ptr (n : Nat) (a : Option Addr) : Instr.sameBits n (.pointer a) (.pointer a) = true := by cases n <;> simp [Instr.sameBits]
theorem sameBits_int (n : Nat) (a : Int) : Instr.sameBits n (.int .i64 a) (.int .i64 a) = true := by cases n <;> simp [Instr.sameBits]

theorem ptr_keys {tp te : TypeId} {j : TypeInfo} (hp : P.underlying tp = some (.pointer te)) (hte : P.info? te = some j) (hsz : j.size ≠ 0) : KeysGo P tp PtrK where
  check := by
    rintro w em v ⟨a, rfl, ha⟩
    exact check_of (checkKey_ptr hp em _ w _)
  same := by
    rintro w v ⟨a, rfl, ha⟩
    have := equalIn_ptr hp hte hsz (9998 + 1) w ha ha
    rw [decide_eq_true rfl] at this
    exact equal_of this
  other := by
    rintro w u v ⟨a, rfl, ha⟩ ⟨b, rfl, hb⟩ hne
    have := equalIn_ptr hp hte hsz (9998 + 1) w ha hb
    rw [decide_eq_false (by rintro rfl; exact hne rfl)] at this
    exact equal_of this
  slow := by
    rintro w u v ⟨a, rfl, ha⟩ ⟨b, rfl, hb⟩
    exact ⟨_, hp, rfl⟩
  bits := by
    rintro w v ⟨a, rfl, ha⟩
    exact sameBits_ptr _ _
  grow := by
    rintro w w' v hg ⟨a, rfl, ha⟩
    exact ⟨a, rfl, hg _ ha⟩

theorem part_one {t : TypeId} {d : TypeDesc} (hd : P.underlying t = some d) (hna : (match d with | .struct _ | .array _ _ => true | _ => false) = false) (w : World) (cs : Array Value) (n : Nat) (x : Value) (hx : cs[n]? = some x) : (part t cs n).run P w = .ok x w := by
  have h1 : (isAgg t).run P w = .ok false w := by
    unfold isAgg
    cases d <;> simp_all [run_underlying hd, Result.andThen]
  simp [part, Result.andThen, h1, hx]

theorem checkKey_arr {t tp : TypeId} {i : TypeInfo} (ht : P.underlying t = some (.array 2 tp)) (hi : P.info? tp = some i) (hi1 : i.size = 1) (em : Bool) (n : Nat) (w : World) (x y : Value) (hx : (part tp #[x, y] 0).run P w = .ok x w) (hy : (part tp #[x, y] 1).run P w = .ok y w)
    (h1 : (Instr.checkKey em n tp x).run P w = .ok () w) (h2 : (Instr.checkKey em n tp y).run P w = .ok () w) : (Instr.checkKey em (n + 1) t (.agg #[x, y])).run P w = .ok () w := by
  rw [Instr.checkKey]
  simp only [Sem.run_bind, run_underlying ht, Result.andThen_ok]
  simp [Std.Legacy.Range.forIn_eq_forIn_range', Std.Legacy.Range.size, List.range'_succ, sizeOf, typeInfo, hi, hi1, hx, hy, h1, h2, Result.andThen]
theorem equalIn_arr {t tp : TypeId} {i : TypeInfo} (ht : P.underlying t = some (.array 2 tp)) (hi : P.info? tp = some i) (hi1 : i.size = 1) (n : Nat) (w : World) (x y u v : Value) (hx : (part tp #[x, y] 0).run P w = .ok x w) (hy : (part tp #[x, y] 1).run P w = .ok y w)
    (hu : (part tp #[u, v] 0).run P w = .ok u w) (hv : (part tp #[u, v] 1).run P w = .ok v w) {r1 r2 : Bool} (h1 : (Op.equalIn n tp x u).run P w = .ok r1 w) (h2 : (Op.equalIn n tp y v).run P w = .ok r2 w) : (Op.equalIn (n + 1) t (.agg #[x, y]) (.agg #[u, v])).run P w = .ok (r1 && r2) w := by
  rw [Op.equalIn]
  simp only [Sem.run_bind, run_underlying ht, Result.andThen_ok]
  cases r1 <;> cases r2 <;>
  simp [Std.Legacy.Range.forIn_eq_forIn_range', Std.Legacy.Range.size, List.range'_succ, sizeOf, typeInfo, hi, hi1, hx, hy, hu, hv, h1, h2, Result.andThen]

theorem checkKey_str {t t1 t2 : TypeId} {f1 f2 : Field} (ht : P.underlying t = some (.struct #[f1, f2])) (n1 : f1.name ≠ "_") (n2 : f2.name ≠ "_") (e1 : f1.type = t1) (e2 : f2.type = t2) (o1 : f1.offset = 0) (o2 : f2.offset = 1) (em : Bool) (n : Nat) (w : World) (x y : Value)
    (hx : (part t1 #[x, y] 0).run P w = .ok x w) (hy : (part t2 #[x, y] 1).run P w = .ok y w)
    (h1 : (Instr.checkKey em n t1 x).run P w = .ok () w) (h2 : (Instr.checkKey em n t2 y).run P w = .ok () w) : (Instr.checkKey em (n + 1) t (.agg #[x, y])).run P w = .ok () w := by
  rw [Instr.checkKey]
  simp only [Sem.run_bind, run_underlying ht, Result.andThen_ok]
  simp [n1, n2, e1, e2, o1, o2, hx, hy, h1, h2, Result.andThen]
theorem equalIn_str {t t1 t2 : TypeId} {f1 f2 : Field} (ht : P.underlying t = some (.struct #[f1, f2])) (hp : P.stoodInHeld t = false) (n1 : f1.name ≠ "_") (n2 : f2.name ≠ "_") (e1 : f1.type = t1) (e2 : f2.type = t2) (o1 : f1.offset = 0) (o2 : f2.offset = 1) (n : Nat) (w : World) (x y u v : Value)
    (hx : (part t1 #[x, y] 0).run P w = .ok x w) (hy : (part t2 #[x, y] 1).run P w = .ok y w) (hu : (part t1 #[u, v] 0).run P w = .ok u w) (hv : (part t2 #[u, v] 1).run P w = .ok v w) {r1 r2 : Bool}
    (h1 : (Op.equalIn n t1 x u).run P w = .ok r1 w) (h2 : (Op.equalIn n t2 y v).run P w = .ok r2 w) : (Op.equalIn (n + 1) t (.agg #[x, y]) (.agg #[u, v])).run P w = .ok (r1 && r2) w := by
  rw [Op.equalIn]
  simp only [Sem.run_bind, run_underlying ht, Result.andThen_ok, run_program, hp]
  cases r1 <;> cases r2 <;>
  simp [n1, n2, e1, e2, o1, o2, hx, hy, hu, hv, h1, h2, Result.andThen]

theorem ptrs_keys {t tp te : TypeId} {i j : TypeInfo} (ht : P.underlying t = some (.array 2 tp)) (hi : P.info? tp = some i) (hi1 : i.size = 1) (hp : P.underlying tp = some (.pointer te)) (hte : P.info? te = some j) (hsz : j.size ≠ 0) : KeysGo P t PtrsK := by
  have p0 : ∀ (w : World) (x y : Value), (part tp #[x, y] 0).run P w = .ok x w := fun w x y => part_one hp rfl w _ _ _ (by simp)
  have p1 : ∀ (w : World) (x y : Value), (part tp #[x, y] 1).run P w = .ok y w := fun w x y => part_one hp rfl w _ _ _ (by simp)
  have eq : ∀ (w : World) (a b c d : Addr), Pl w a.block → Pl w b.block → Pl w c.block → Pl w d.block → (Op.equalIn (9998 + 2) t (.agg #[.pointer (some a), .pointer (some b)]) (.agg #[.pointer (some c), .pointer (some d)])).run P w = .ok (decide (a = c) && decide (b = d)) w := fun w a b c d ha hb hc hd =>
    equalIn_arr ht hi hi1 (9998 + 1) w _ _ _ _ (p0 w _ _) (p1 w _ _) (p0 w _ _) (p1 w _ _) (equalIn_ptr hp hte hsz _ w ha hc) (equalIn_ptr hp hte hsz _ w hb hd)
  constructor
  · rintro w em v ⟨a, b, rfl, ha, hb⟩
    exact check_of (checkKey_arr ht hi hi1 em (9998 + 1) w _ _ (p0 w _ _) (p1 w _ _) (checkKey_ptr hp em _ w _) (checkKey_ptr hp em _ w _))
  · rintro w v ⟨a, b, rfl, ha, hb⟩
    have := eq w a b a b ha hb ha hb
    rw [decide_eq_true rfl, decide_eq_true rfl] at this
    exact equal_of this
  · rintro w u v ⟨a, b, rfl, ha, hb⟩ ⟨c, d, rfl, hc, hd⟩ hne
    have := eq w a b c d ha hb hc hd
    have hf : (decide (a = c) && decide (b = d)) = false := by
      cases hh : (decide (a = c) && decide (b = d)) with
      | false => rfl
      | true =>
        simp at hh
        obtain ⟨rfl, rfl⟩ := hh
        exact absurd rfl hne
    rw [hf] at this
    exact equal_of this
  · rintro w u v ⟨a, b, rfl, ha, hb⟩ ⟨c, d, rfl, hc, hd⟩
    exact ⟨_, ht, rfl⟩
  · rintro w v ⟨a, b, rfl, ha, hb⟩
    refine bits_of ?_
    rw [Instr.sameBits]
    simp [sameBits_ptr]
  · rintro w w' v hg ⟨a, b, rfl, ha, hb⟩
    exact ⟨a, b, rfl, hg _ ha, hg _ hb⟩

theorem equalIn_int {t : TypeId} (ht : P.underlying t = some (.int .i64)) (n : Nat) (w : World) (x y : Int) : (Op.equalIn (n + 1) t (.int .i64 x) (.int .i64 y)).run P w = .ok (decide (x = y)) w := by
  rw [Op.equalIn]
  simp only [Sem.run_bind, run_underlying ht, Result.andThen_ok]
  by_cases h : x = y <;> simp [h]

theorem ptrInt_keys {t tp te ti : TypeId} {f1 f2 : Field} {j : TypeInfo} (ht : P.underlying t = some (.struct #[f1, f2])) (hst : P.stoodInHeld t = false) (n1 : f1.name ≠ "_") (n2 : f2.name ≠ "_") (e1 : f1.type = tp) (e2 : f2.type = ti) (o1 : f1.offset = 0) (o2 : f2.offset = 1)
    (hp : P.underlying tp = some (.pointer te)) (hti : P.underlying ti = some (.int .i64)) (hte : P.info? te = some j) (hsz : j.size ≠ 0) : KeysGo P t PtrIntK := by
  have p0 : ∀ (w : World) (x y : Value), (part tp #[x, y] 0).run P w = .ok x w := fun w x y => part_one hp rfl w _ _ _ (by simp)
  have p1 : ∀ (w : World) (x y : Value), (part ti #[x, y] 1).run P w = .ok y w := fun w x y => part_one hti rfl w _ _ _ (by simp)
  have eq : ∀ (w : World) (a c : Addr) (b d : Int), Pl w a.block → Pl w c.block → (Op.equalIn (9998 + 2) t (.agg #[.pointer (some a), .int .i64 b]) (.agg #[.pointer (some c), .int .i64 d])).run P w = .ok (decide (a = c) && decide (b = d)) w := fun w a c b d ha hc =>
    equalIn_str ht hst n1 n2 e1 e2 o1 o2 (9998 + 1) w _ _ _ _ (p0 w _ _) (p1 w _ _) (p0 w _ _) (p1 w _ _) (equalIn_ptr hp hte hsz _ w ha hc) (equalIn_int hti _ w b d)
  constructor
  · rintro w em v ⟨a, b, rfl, ha⟩
    exact check_of (checkKey_str ht n1 n2 e1 e2 o1 o2 em (9998 + 1) w _ _ (p0 w _ _) (p1 w _ _) (checkKey_ptr hp em _ w _) (checkKey_int hti em _ w _))
  · rintro w v ⟨a, b, rfl, ha⟩
    have := eq w a a b b ha ha
    rw [decide_eq_true rfl, decide_eq_true rfl] at this
    exact equal_of this
  · rintro w u v ⟨a, b, rfl, ha⟩ ⟨c, d, rfl, hc⟩ hne
    have := eq w a c b d ha hc
    have hf : (decide (a = c) && decide (b = d)) = false := by
      cases hh : (decide (a = c) && decide (b = d)) with
      | false => rfl
      | true =>
        simp at hh
        obtain ⟨rfl, rfl⟩ := hh
        exact absurd rfl hne
    rw [hf] at this
    exact equal_of this
  · rintro w u v ⟨a, b, rfl, ha⟩ ⟨c, d, rfl, hc⟩
    exact ⟨_, ht, rfl⟩
  · rintro w v ⟨a, b, rfl, ha⟩
    refine bits_of ?_
    rw [Instr.sameBits]
    simp [sameBits_ptr, sameBits_int]
  · rintro w w' v hg ⟨a, b, rfl, ha⟩
    exact ⟨a, b, rfl, hg _ ha⟩
end

end Go.Proofs.YtlbinamlehapoaaGreatDoor

namespace Go.Proofs.YtlbinamlehapoaaGreatDoor
open Go.RowKit Go.Joins

set_option maxRecDepth 100000

/-- An expression: its kind, its number, its text, its kids. -/
inductive Ex where
  | mk : Int → Int → ByteArray → List Ex → Ex
def Ex.kind : Ex → Int | .mk k _ _ _ => k
def Ex.n : Ex → Int | .mk _ n _ _ => n
def Ex.text : Ex → ByteArray | .mk _ _ t _ => t
def Ex.kids : Ex → List Ex | .mk _ _ _ ks => ks

mutual
def Ex.bulk : Ex → Nat
  | .mk _ _ t ks => t.size + Ex.bulkL ks
def Ex.bulkL : List Ex → Nat
  | [] => 0
  | e :: r => 1 + e.bulk + Ex.bulkL r
end
theorem Ex.bulk_eq (e : Ex) : e.bulk = e.text.size + Ex.bulkL e.kids := by cases e; rw [Ex.bulk]; rfl

mutual
def Ex.same : Ex → Ex → Bool
  | .mk k n t ks, .mk k' n' t' ks' => k == k' && n == n' && t.toList == t'.toList && Ex.sameL ks ks'
def Ex.sameL : List Ex → List Ex → Bool
  | [], [] => true
  | a :: r, b :: r' => a.same b && Ex.sameL r r'
  | _, _ => false
end
theorem Ex.same_eq (a b : Ex) : a.same b = (a.kind == b.kind && a.n == b.n && a.text.toList == b.text.toList && Ex.sameL a.kids b.kids) := by cases a; cases b; rw [Ex.same]; rfl

def inI64 (z : Int) : Prop := -9223372036854775808 ≤ z ∧ z ≤ 9223372036854775807

/-- A row of expressions in memory, at most d deep, in blocks of S. -/
def KidsAt (w : World) (S : Nat → Prop) : Nat → Value → List Ex → Prop
  | 0, _, _ => False
  | d + 1, v, es => ∃ a cap, v = .slice a es.length cap ∧ es.length ≤ maxLen ∧ ∀ i e, es[i]? = some e → ∃ b off kv, a = some ⟨b, off, none⟩ ∧ S b ∧ b < w.heap.size ∧
      w.cell? ⟨b, off + i * 4, none⟩ = some (.int .i64 e.kind) ∧ w.cell? ⟨b, off + i * 4 + 1, none⟩ = some (.int .i64 e.n) ∧ w.cell? ⟨b, off + i * 4 + 2, none⟩ = some (.string e.text) ∧ w.cell? ⟨b, off + i * 4 + 3, none⟩ = some kv ∧
      inI64 e.kind ∧ inI64 e.n ∧ e.text.size ≤ maxLen ∧ KidsAt w S d kv e.kids
/-- An expression's value. -/
def ExAt (w : World) (S : Nat → Prop) (d : Nat) (v : Value) (e : Ex) : Prop :=
  ∃ kv, v = .agg #[.int .i64 e.kind, .int .i64 e.n, .string e.text, kv] ∧ inI64 e.kind ∧ inI64 e.n ∧ e.text.size ≤ maxLen ∧ KidsAt w S d kv e.kids

theorem KidsAt.kept {w w' : World} {S S' : Nat → Prop} (hw : ∀ b, S b → b < w.heap.size → w'.heap[b]? = w.heap[b]?) (hsz : w.heap.size ≤ w'.heap.size) (hS : ∀ b, S b → b < w.heap.size → S' b) : ∀ {d : Nat} {v : Value} {es : List Ex}, KidsAt w S d v es → KidsAt w' S' d v es
  | 0, _, _, h => h.elim
  | d + 1, v, es, ⟨a, cap, hv, hl, hc⟩ => by
    refine ⟨a, cap, hv, hl, fun i e he => ?_⟩
    obtain ⟨b, off, kv, ha, hb, hlt, c0, c1, c2, c3, r1, r2, r3, hk⟩ := hc i e he
    have hblk := hw b hb hlt
    exact ⟨b, off, kv, ha, hS b hb hlt, Nat.lt_of_lt_of_le hlt hsz, (World.cell?_of_block hblk).trans c0, (World.cell?_of_block hblk).trans c1, (World.cell?_of_block hblk).trans c2, (World.cell?_of_block hblk).trans c3, r1, r2, r3, KidsAt.kept hw hsz hS hk⟩
theorem KidsAt.below {w w' : World} {S : Nat → Prop} {d : Nat} {v : Value} {es : List Ex} (h : KidsAt w S d v es) (hb : Below w.heap.size w w') : KidsAt w' S d v es :=
  h.kept (fun b _ hlt => hb.block b hlt) hb.size (fun _ h _ => h)
theorem KidsAt.wide {w : World} {S S' : Nat → Prop} {d : Nat} {v : Value} {es : List Ex} (h : KidsAt w S d v es) (hS : ∀ b, S b → S' b) : KidsAt w S' d v es :=
  h.kept (fun _ _ _ => rfl) (Nat.le_refl _) (fun b h _ => hS b h)
theorem ExAt.below {w w' : World} {S : Nat → Prop} {d : Nat} {v : Value} {e : Ex} (h : ExAt w S d v e) (hb : Below w.heap.size w w') : ExAt w' S d v e := by
  obtain ⟨kv, hv, h1, h2, h3, h4⟩ := h
  exact ⟨kv, hv, h1, h2, h3, h4.below hb⟩
theorem KidsAt.deeper {w : World} {S : Nat → Prop} : ∀ {d : Nat} {v : Value} {es : List Ex}, KidsAt w S d v es → KidsAt w S (d + 1) v es
  | 0, _, _, h => h.elim
  | d + 1, v, es, ⟨a, cap, hv, hl, hc⟩ => ⟨a, cap, hv, hl, fun i e he => by
    obtain ⟨b, off, kv, ha, hb, hlt, c0, c1, c2, c3, r1, r2, r3, hk⟩ := hc i e he
    exact ⟨b, off, kv, ha, hb, hlt, c0, c1, c2, c3, r1, r2, r3, KidsAt.deeper hk⟩⟩
theorem KidsAt.deep {w : World} {S : Nat → Prop} {d d' : Nat} {v : Value} {es : List Ex} (h : KidsAt w S d v es) (hd : d ≤ d') : KidsAt w S d' v es := by
  induction hd with
  | refl => exact h
  | step _ ih => exact ih.deeper
theorem KidsAt.form {w : World} {S : Nat → Prop} {d : Nat} {v : Value} {es : List Ex} (h : KidsAt w S d v es) : ∃ a cap, v = .slice a es.length cap := by
  cases d with
  | zero => exact h.elim
  | succ d => obtain ⟨a, cap, hv, _⟩ := h; exact ⟨a, cap, hv⟩

theorem Pl.of {w w' : World} {b : Nat} (h : Pl w b) (he : w'.heap[b]? = w.heap[b]?) : Pl w' b := by
  obtain ⟨cs, t, hc⟩ := h
  exact ⟨cs, t, he.trans hc⟩
theorem Pl.below {w w' : World} {b : Nat} (h : Pl w b) (hb : Below w.heap.size w w') : Pl w' b := by
  obtain ⟨cs, t, hc⟩ := h
  exact ⟨cs, t, (hb.block b (Array.getElem?_eq_some_iff.1 hc).1).trans hc⟩
/-- A row in plain blocks from n on. -/
theorem KidsAt.belowP {w w' : World} {n d : Nat} {v : Value} {es : List Ex} (h : KidsAt w (fun b => n ≤ b ∧ Pl w b) d v es) (hb : Below w.heap.size w w') : KidsAt w' (fun b => n ≤ b ∧ Pl w' b) d v es :=
  h.kept (fun b _ hlt => hb.block b hlt) hb.size (fun _ h _ => ⟨h.1, h.2.below hb⟩)
theorem KidsAt.plain {w : World} {n d : Nat} {v : Value} {es : List Ex} (h : KidsAt w (fun b => n ≤ b ∧ Pl w b) d v es) : KidsAt w (Pl w) d v es := h.wide (fun _ h => h.2)
theorem KidsAt.belowPl {w w' : World} {d : Nat} {v : Value} {es : List Ex} (h : KidsAt w (Pl w) d v es) (hb : Below w.heap.size w w') : KidsAt w' (Pl w') d v es :=
  h.kept (fun b _ hlt => hb.block b hlt) hb.size (fun _ h _ => h.below hb)

theorem bulk_len : ∀ es : List Ex, es.length ≤ Ex.bulkL es
  | [] => Nat.zero_le _
  | e :: r => by have := bulk_len r; rw [Ex.bulkL, List.length_cons]; omega
theorem bulk_at : ∀ {es : List Ex} {i : Nat} {e : Ex}, es[i]? = some e → es.length + e.bulk ≤ Ex.bulkL es
  | [], _, _, h => by simp at h
  | a :: r, 0, e, h => by
    obtain rfl : a = e := by simpa using h
    have := bulk_len r
    rw [Ex.bulkL, List.length_cons]; omega
  | a :: r, i + 1, e, h => by
    have := bulk_at (es := r) (i := i) (by simpa using h)
    rw [Ex.bulkL, List.length_cons]; omega

end Go.Proofs.YtlbinamlehapoaaGreatDoor

namespace Go.Proofs.YtlbinamlehapoaaGreatDoor
open Go.RowKit Go.Joins

set_option maxRecDepth 100000

def szR (left : Int) (b : Nat) : Int := if (b : Int) ≤ left then left - b else -1
theorem int_val {a b : Int} (h : a = b) : Value.int .i64 a = .int .i64 b := by rw [h]
theorem int_ret {a b : Int} (h : a = b) : Ending.returned (.int .i64 a) = .returned (.int .i64 b) := by rw [h]

theorem set4_other (cur : Array Value) (p q : Nat) (a b c e : Value) (h0 : q ≠ p) (h1 : q ≠ p + 1) (h2 : q ≠ p + 2) (h3 : q ≠ p + 3) : ((((cur.setIfInBounds p a).setIfInBounds (p + 1) b).setIfInBounds (p + 2) c).setIfInBounds (p + 3) e)[q]? = cur[q]? := by
  rw [Array.getElem?_setIfInBounds_ne (Ne.symm h3), Array.getElem?_setIfInBounds_ne (Ne.symm h2), Array.getElem?_setIfInBounds_ne (Ne.symm h1), Array.getElem?_setIfInBounds_ne (Ne.symm h0)]
theorem set4_same (cur : Array Value) (p : Nat) (a b c e : Value) (h : p + 4 ≤ cur.size) : ((((cur.setIfInBounds p a).setIfInBounds (p + 1) b).setIfInBounds (p + 2) c).setIfInBounds (p + 3) e)[p]? = some a ∧ ((((cur.setIfInBounds p a).setIfInBounds (p + 1) b).setIfInBounds (p + 2) c).setIfInBounds (p + 3) e)[p + 1]? = some b ∧ ((((cur.setIfInBounds p a).setIfInBounds (p + 1) b).setIfInBounds (p + 2) c).setIfInBounds (p + 3) e)[p + 2]? = some c ∧ ((((cur.setIfInBounds p a).setIfInBounds (p + 1) b).setIfInBounds (p + 2) c).setIfInBounds (p + 3) e)[p + 3]? = some e := by
  refine ⟨?_, ?_, ?_, ?_⟩
  · rw [Array.getElem?_setIfInBounds_ne (by omega), Array.getElem?_setIfInBounds_ne (by omega), Array.getElem?_setIfInBounds_ne (by omega), Array.getElem?_setIfInBounds_self_of_lt (by omega)]
  · rw [Array.getElem?_setIfInBounds_ne (by omega), Array.getElem?_setIfInBounds_ne (by omega), Array.getElem?_setIfInBounds_self_of_lt (by simp; omega)]
  · rw [Array.getElem?_setIfInBounds_ne (by omega), Array.getElem?_setIfInBounds_self_of_lt (by simp; omega)]
  · rw [Array.getElem?_setIfInBounds_self_of_lt (by simp; omega)]

abbrev set4 (w : World) (g p : Nat) (a b c e : Value) : World := (((w.setCell ⟨g, p, none⟩ a).setCell ⟨g, p + 1, none⟩ b).setCell ⟨g, p + 2, none⟩ c).setCell ⟨g, p + 3, none⟩ e
theorem set4_heap (w : World) (g p : Nat) (a b c e : Value) (k : Nat) (hk : k ≠ g) : (set4 w g p a b c e).heap[k]? = w.heap[k]? := by
  unfold set4
  rw [Below.heap_setCell _ _ _ k (by simpa using hk), Below.heap_setCell _ _ _ k (by simpa using hk), Below.heap_setCell _ _ _ k (by simpa using hk), Below.heap_setCell _ _ _ k (by simpa using hk)]

theorem ex_not (x : Bool) (w : World) : (Op.unary .not (.bool x)).run Tryz.prog w = .ok (.bool (!x)) w := rfl

theorem cells4 {w : World} {a : Addr} {cs : List Value} (h : w.cells? 0 a 4 = some cs) : ∃ c0 c1 c2 c3, cs = [c0, c1, c2, c3] ∧ w.cell? a = some c0 ∧ w.cell? (a.add 1) = some c1 ∧ w.cell? (a.add 2) = some c2 ∧ w.cell? (a.add 3) = some c3 := by
  unfold World.cells? at h
  rw [if_pos (Nat.zero_le _)] at h
  simp only [show List.range 4 = [0, 1, 2, 3] from rfl, List.mapM_cons, List.mapM_nil] at h
  cases h0 : w.cell? (a.add 0) with
  | none => simp [h0] at h
  | some c0 =>
    cases h1 : w.cell? (a.add 1) with
    | none => simp [h0, h1] at h
    | some c1 =>
      cases h2 : w.cell? (a.add 2) with
      | none => simp [h0, h1, h2] at h
      | some c2 =>
        cases h3 : w.cell? (a.add 3) with
        | none => simp [h0, h1, h2, h3] at h
        | some c3 =>
          simp [h0, h1, h2, h3] at h
          exact ⟨c0, c1, c2, c3, h.symm, by simpa [Addr.add] using h0, rfl, rfl, rfl⟩

theorem addr_add (b off k : Nat) : (⟨b, off, none⟩ : Addr).add k = ⟨b, off + k, none⟩ := by
  unfold Addr.add
  split
  · rename_i h; subst h; rfl
  · rfl

end Go.Proofs.YtlbinamlehapoaaGreatDoor

namespace Go.Proofs.YtlbinamlehapoaaGreatDoor
open Go.RowKit Go.Joins

set_option maxRecDepth 100000

theorem addr_addI (b off k : Nat) : (⟨b, off, none⟩ : Addr).add k = ⟨b, off + k, none⟩ := by
  unfold Addr.add
  split
  · rename_i h; subst h; rfl
  · rfl

def IntsAt (w : World) (S : Nat → Prop) (v : Value) (ts : List Int) : Prop :=
  ∃ a cap, v = .slice a ts.length cap ∧ ts.length ≤ maxLen ∧ ∀ i t, ts[i]? = some t → ∃ b off, a = some ⟨b, off, none⟩ ∧ S b ∧ b < w.heap.size ∧ w.cell? ⟨b, off + i, none⟩ = some (.int .i64 t) ∧ inI64 t
theorem IntsAt.kept {w w' : World} {S S' : Nat → Prop} (hw : ∀ b, S b → b < w.heap.size → w'.heap[b]? = w.heap[b]?) (hsz : w.heap.size ≤ w'.heap.size) (hS : ∀ b, S b → b < w.heap.size → S' b) {v : Value} {ts : List Int} (h : IntsAt w S v ts) : IntsAt w' S' v ts := by
  obtain ⟨a, cap, hv, hl, hc⟩ := h
  refine ⟨a, cap, hv, hl, fun i t ht => ?_⟩
  obtain ⟨b, off, ha, hb, hlt, c0, r⟩ := hc i t ht
  exact ⟨b, off, ha, hS b hb hlt, Nat.lt_of_lt_of_le hlt hsz, (World.cell?_of_block (hw b hb hlt)).trans c0, r⟩
theorem IntsAt.below {w w' : World} {S : Nat → Prop} {v : Value} {ts : List Int} (h : IntsAt w S v ts) (hb : Below w.heap.size w w') : IntsAt w' S v ts :=
  h.kept (fun b _ hlt => hb.block b hlt) hb.size (fun _ h _ => h)
theorem IntsAt.form {w : World} {S : Nat → Prop} {v : Value} {ts : List Int} (h : IntsAt w S v ts) : ∃ a cap, v = .slice a ts.length cap := by
  obtain ⟨a, cap, hv, _⟩ := h; exact ⟨a, cap, hv⟩

theorem IntsAt.len {w : World} {S : Nat → Prop} {v : Value} {ts : List Int} (h : IntsAt w S v ts) : ts.length ≤ 9223372036854775807 := by
  obtain ⟨a, cap, _, hl, _⟩ := h
  unfold maxLen at hl
  omega
theorem IntsAt.wide {w : World} {S S' : Nat → Prop} {v : Value} {ts : List Int} (h : IntsAt w S v ts) (hS : ∀ b, S b → S' b) : IntsAt w S' v ts :=
  h.kept (fun _ _ _ => rfl) (Nat.le_refl _) (fun b hb _ => hS b hb)
theorem IntsAt.belowP {w w' : World} {n : Nat} {v : Value} {ts : List Int} (h : IntsAt w (fun b => n ≤ b ∧ Pl w b) v ts) (hb : Below w.heap.size w w') : IntsAt w' (fun b => n ≤ b ∧ Pl w' b) v ts :=
  h.kept (fun b _ hlt => hb.block b hlt) hb.size (fun _ h _ => ⟨h.1, h.2.below hb⟩)
end Go.Proofs.YtlbinamlehapoaaGreatDoor

namespace Go.Proofs.YtlbinamlehapoaaGreatDoor
open Go.RowKit Go.Joins

set_option maxRecDepth 100000

theorem infoCdI : (Tryz.prog.info? 3).map (fun i => (i.zero, i.size, i.bytes)) = some (some (.int .i64 0), 1, 8) := by kernel_rfl
theorem own_form {w : World} {B n size : Nat} {e : TypeId} {v : Value} {xs : List Value} (h : w.ownsRow B e size v n xs) : ∃ a cap, v = .slice a n cap := by
  rcases h.2 with ⟨rfl, rfl⟩ | ⟨g, cap, cur, rfl, _⟩
  · exact ⟨none, 0, rfl⟩
  · exact ⟨_, _, rfl⟩
theorem own_formN {w : World} {B n size : Nat} {e : TypeId} {v : Value} {xs : List Value} (h : w.ownsRow B e size v n xs) : ∃ n' a cap, n' = n ∧ v = .slice a n' cap := by
  obtain ⟨a, cap, rfl⟩ := own_form h
  exact ⟨n, a, cap, rfl, rfl⟩
theorem own_some {w : World} {B n size : Nat} {e : TypeId} {v : Value} {xs : List Value} (h : w.ownsRow B e size v n xs) (hn : 0 < n) : ∃ g cap, v = .slice (some ⟨g, 0, none⟩) n cap := by
  rcases h.2 with ⟨_, h0⟩ | ⟨g, cap, cur, hv, _⟩
  · omega
  · exact ⟨g, cap, hv⟩
/-- Two growths one behind the other, the second of a row that is the first's or new. -/
theorem grown_two {w w1 w2 : World} {row row' : Option Nat} (h1 : w.grownBy w1 row) (h2 : w1.grownBy w2 row') (hr : ∀ g, row' = some g → row = some g ∨ w.heap.size ≤ g) : w.grownBy w2 row := by
  refine ⟨h2.os.trans h1.os, h2.tape.trans h1.tape, h2.output.trans h1.output, Nat.le_trans h1.size h2.size, fun k hk hn => ?_⟩
  have hk1 : k < w1.heap.size := Nat.lt_of_lt_of_le hk h1.size
  refine (h2.block k hk1 (fun e => ?_)).trans (h1.block k hk hn)
  rcases hr k e.symm with h | h
  · exact hn h.symm
  · omega
theorem int_one (z : Int) : ∀ u ∈ [Value.int .i64 z], u.oneCell' = true := by
  intro u hu
  rw [List.mem_singleton.1 hu]
  rfl
theorem irow_empty (w : World) (base : Nat) (h : base ≤ w.heap.size) : (w.alloc (.cells #[] 3)).ownsRow base 3 1 (.slice (some ⟨w.heap.size, 0, none⟩) 0 0) 0 [] :=
  World.ownsRow_made (size := 1) (e := 3) w #[] 0 h (Nat.zero_le _) (by simp)
def AptV (u v : Value) : Prop := u.ownBlock = none ∨ u.ownBlock ≠ v.ownBlock
theorem AptV.symm {u v : Value} (h : AptV u v) : AptV v u := by
  rcases h with h | h
  · unfold AptV
    cases hv : v.ownBlock with
    | none => exact .inl rfl
    | some k => exact .inr (by rw [h]; simp)
  · exact .inr (Ne.symm h)
abbrev intVs (zs : List Int) : List Value := zs.map (fun z => Value.int .i64 z)
theorem own_moved {W W' : World} {B n size : Nat} {e : TypeId} {v : Value} {xs : List Value} (h : W.ownsRow B e size v n xs) (hb : ∀ g, v.ownBlock = some g → W'.heap[g]? = W.heap[g]?) : W'.ownsRow B e size v n xs := by
  refine ⟨h.1, ?_⟩
  rcases h.2 with h | ⟨g, cap, cur, rfl, h1, h2, h3⟩
  · exact .inl h
  · exact .inr ⟨g, cap, cur, rfl, h1, (hb g rfl).trans h2, h3⟩
theorem own_type {W : World} {B n size : Nat} {e : TypeId} {v : Value} {xs : List Value} (h : W.ownsRow B e size v n xs) : ∀ g, v.ownBlock = some g → B ≤ g ∧ ∃ cs, W.heap[g]? = some (.cells cs e (0, 0)) := by
  intro g hg
  rcases h.2 with ⟨rfl, _⟩ | ⟨g', cap, cur, rfl, h1, h2, _⟩
  · simp [Value.ownBlock] at hg
  · simp [Value.ownBlock] at hg; subst hg; exact ⟨h1, cur, h2⟩
theorem own_ne {W : World} {B B' n n' size size' : Nat} {e e' : TypeId} {v v' : Value} {xs xs' : List Value} (h : W.ownsRow B e size v n xs) (h' : W.ownsRow B' e' size' v' n' xs') (he : e ≠ e') : ∀ g, v.ownBlock = some g → some g ≠ v'.ownBlock := by
  intro g hg hc
  obtain ⟨_, cs, h1⟩ := own_type h g hg
  obtain ⟨_, cs', h2⟩ := own_type h' g hc.symm
  rw [h1] at h2
  cases h2
  exact he rfl
theorem own_lt {W : World} {B n size : Nat} {e : TypeId} {v : Value} {xs : List Value} (h : W.ownsRow B e size v n xs) : ∀ g, v.ownBlock = some g → g < W.heap.size :=
  fun g hg => (own_type h g hg).2.elim (fun _ hc => (Array.getElem?_eq_some_iff.1 hc).1)
/-- What was apart from a row is apart from it when it has grown. -/
theorem AptV.grown {W : World} {B n size : Nat} {e : TypeId} {u v v' : Value} {xs : List Value} (h : AptV u v) (hu : W.ownsRow B e size u n xs) (hat : v'.ownBlock = v.ownBlock ∨ v'.ownBlock = some W.heap.size) : AptV u v' := by
  rcases hat with hat | hat
  · unfold AptV at *; rw [hat]; exact h
  · cases hb : u.ownBlock with
    | none => exact .inl hb
    | some g =>
      refine .inr ?_
      rw [hat, hb]
      have := own_lt hu g hb
      simp
      omega
theorem own_kept {W W' : World} {B n size : Nat} {e : TypeId} {u v : Value} {xs : List Value} (hu : W.ownsRow B e size u n xs) (hg : W.grownBy W' v.ownBlock) (h : AptV u v) : W'.ownsRow B e size u n xs :=
  own_moved hu (fun g hgo => hg.block g (own_lt hu g hgo) (fun e => by
    rcases h with h | h
    · rw [h] at hgo; cases hgo
    · exact h (hgo.trans e)))
theorem int_eqv {a b : Int} (h : a = b) : Value.int .i64 a = .int .i64 b := by rw [h]
theorem inI64_small {k : Int} (h0 : 0 ≤ k) (h1 : k ≤ 1000000000) : inI64 k := ⟨by omega, by omega⟩
theorem own_mono {W : World} {B B' n size : Nat} {e : TypeId} {v : Value} {xs : List Value} (h : W.ownsRow B e size v n xs) (hB : B' ≤ B) : W.ownsRow B' e size v n xs := by
  refine ⟨h.1, ?_⟩
  rcases h.2 with h | ⟨g, cap, cur, hv, h1, h2⟩
  · exact .inl h
  · exact .inr ⟨g, cap, cur, hv, Nat.le_trans hB h1, h2⟩
end Go.Proofs.YtlbinamlehapoaaGreatDoor

namespace Go.Proofs.YtlbinamlehapoaaGreatDoor
open Go.RowKit Go.Joins

set_option maxRecDepth 100000

/-- A row of numbers of the call's own is a row of numbers in memory. -/
theorem own_ints {w : World} {B : Nat} {v : Value} {zs : List Int} (h : w.ownsRow B 3 1 v zs.length (intVs zs)) (hz : ∀ z ∈ zs, inI64 z) : IntsAt w (fun b => B ≤ b ∧ Pl w b) v zs := by
  rcases h.2 with ⟨rfl, h0⟩ | ⟨g, cap, cur, rfl, hb, hc, hn, hcm, hs, ht⟩
  · obtain rfl : zs = [] := List.length_eq_zero_iff.1 h0
    exact ⟨none, 0, rfl, Nat.zero_le _, fun i t h => by simp at h⟩
  · refine ⟨_, _, rfl, Nat.le_trans hn hcm, fun i z hi => ⟨g, 0, rfl, ⟨hb, cur, _, hc⟩, (Array.getElem?_eq_some_iff.1 hc).1, ?_, hz z (List.mem_of_getElem? hi)⟩⟩
    have := h.cells (g := g) rfl i (.int .i64 z) (by rw [List.getElem?_map, hi]; rfl)
    rw [addr_addI] at this
    exact this
end Go.Proofs.YtlbinamlehapoaaGreatDoor
