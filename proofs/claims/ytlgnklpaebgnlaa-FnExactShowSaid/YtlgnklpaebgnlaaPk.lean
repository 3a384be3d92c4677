/-
  Maps keyed by pointers: what such a map answers, and what a store makes of it.
-/
import Derived.LaidEql
import Derived.Maps.OwnSet
import Derived.WalkKit
import Derived.ProofKit
namespace Go.Proofs.Ytlgnklpaebgnlaa
open Go.RowKit Go.MapKept Go.ChangeMaps

set_option maxRecDepth 100000

/-- A block of cells that no string shares. -/
def Pl (w : World) (b : Nat) : Prop := ∃ cs t, w.heap[b]? = some (.cells cs t (0, 0))

/-- A map's entries as a function. -/
def MapIs (es : List MapEntry) (f : Value → Option Value) : Prop :=
  es.Pairwise (fun x y => x.key ≠ y.key) ∧ ∀ k v, f k = some v ↔ ∃ e ∈ es, e.key = k ∧ e.val = v

open Classical in
noncomputable def setAt (f : Value → Option Value) (k v : Value) : Value → Option Value := fun k' => if k' = k then some v else f k'
theorem setAt_same (f : Value → Option Value) (k v : Value) : setAt f k v k = some v := by simp [setAt]
theorem setAt_other (f : Value → Option Value) (k v : Value) {k' : Value} (h : k' ≠ k) : setAt f k v k' = f k' := by simp [setAt, h]

/-- What a map's laws ask of its keys. -/
structure KeysGo (P : Program) (k : TypeId) (Kd : World → Value → Prop) : Prop where
  check : ∀ (w : World) (em : Bool) (v : Value), Kd w v → (Instr.checkKey em 10000 k v).run P w = .ok () w
  same : ∀ (w : World) (v : Value), Kd w v → (Op.equal k v v).run P w = .ok true w
  other : ∀ (w : World) (u v : Value), Kd w u → Kd w v → u ≠ v → (Op.equal k u v).run P w = .ok false w
  slow : ∀ (w : World) (u v : Value), Kd w u → Kd w v → ∃ d, P.underlying k = some d ∧ Instr.sameNow d u v = none
  bits : ∀ (w : World) (v : Value), Kd w v → Instr.sameBits 10000 v v = true
  grow : ∀ (w w' : World) (v : Value), (∀ b, Pl w b → Pl w' b) → Kd w v → Kd w' v

section
variable {P : Program} {k : TypeId} {Kd : World → Value → Prop}

theorem findAsking_run (K : KeysGo P k Kd) (w : World) (x : Value) (hx : Kd w x) : ∀ (es : List MapEntry) (i : Nat), (∀ e ∈ es, Kd w e.key) →
    ((Instr.findAsking k x es i).run P w = .ok none w ∧ ∀ e ∈ es, e.key ≠ x) ∨ ∃ j e, (Instr.findAsking k x es i).run P w = .ok (some (i + j, e.val)) w ∧ es[j]? = some e ∧ e.key = x
  | [], _, _ => .inl ⟨by simp [Instr.findAsking], by simp⟩
  | e :: es, i, h => by
    by_cases hxe : x = e.key
    · subst hxe
      exact .inr ⟨0, e, by simp [Instr.findAsking, K.same w _ hx, Result.andThen], rfl, rfl⟩
    · have h0 := K.other w x e.key hx (h e (.head _)) hxe
      rcases findAsking_run K w x hx es (i + 1) (fun y hy => h y (.tail _ hy)) with ⟨h1, h2⟩ | ⟨j, e', h1, h2, h3⟩
      · exact .inl ⟨by simp [Instr.findAsking, h0, Result.andThen, h1], fun y hy => by
          cases hy with
          | head => exact fun q => hxe q.symm
          | tail _ hy => exact h2 y hy⟩
      · exact .inr ⟨j + 1, e', by simp [Instr.findAsking, h0, Result.andThen, h1]; omega, by simpa using h2, h3⟩

theorem findKey_run (K : KeysGo P k Kd) (w : World) (x : Value) (hx : Kd w x) (es : List MapEntry) (h : ∀ e ∈ es, Kd w e.key) :
    ((Instr.findKey k x es).run P w = .ok none w ∧ ∀ e ∈ es, e.key ≠ x) ∨ ∃ j e, (Instr.findKey k x es).run P w = .ok (some (j, e.val)) w ∧ es[j]? = some e ∧ e.key = x := by
  obtain ⟨d, hd, _⟩ := K.slow w x x hx hx
  cases es with
  | nil => exact .inl ⟨by simp [Instr.findKey, run_underlying hd, Result.andThen, Instr.findNow], by simp⟩
  | cons e es =>
    obtain ⟨d', hd', hs⟩ := K.slow w x e.key hx (h e (.head _))
    obtain rfl : d = d' := Option.some.inj (hd.symm.trans hd')
    rcases findAsking_run K w x hx (e :: es) 0 h with ⟨h1, h2⟩ | ⟨j, e', h1, h2, h3⟩
    · exact .inl ⟨by simp [Instr.findKey, run_underlying hd, Result.andThen, Instr.findNow, hs, h1], h2⟩
    · exact .inr ⟨j, e', by simpa [Instr.findKey, run_underlying hd, Result.andThen, Instr.findNow, hs] using h1, h2, h3⟩

/-- Block b is a map that answers f. -/
def PtMap (Kd : World → Value → Prop) (w : World) (b : Nat) (f : Value → Option Value) : Prop :=
  ∃ es clock, w.heap[b]? = some (.map es clock) ∧ (∀ e ∈ es.toList, Kd w e.key) ∧ MapIs es.toList f

theorem PtMap.made (w : World) : PtMap Kd (w.alloc (.map #[] 0)) w.heap.size (fun _ => none) :=
  ⟨#[], 0, (MapKept.heap_alloc w _).1, by simp, by simp, by simp⟩
theorem PtMap.lt {w : World} {b : Nat} {f : Value → Option Value} (h : PtMap Kd w b f) : b < w.heap.size := by
  obtain ⟨es, clock, hb, _⟩ := h
  exact (Array.getElem?_eq_some_iff.1 hb).1
theorem PtMap.grow (K : KeysGo P k Kd) {w w' : World} {b : Nat} {f : Value → Option Value} (h : PtMap Kd w b f) (hb : w'.heap[b]? = w.heap[b]?) (hg : ∀ b, Pl w b → Pl w' b) : PtMap Kd w' b f := by
  obtain ⟨es, clock, h1, h2, h3⟩ := h
  exact ⟨es, clock, hb.trans h1, fun e he => K.grow w w' _ hg (h2 e he), h3⟩
theorem PtMap.key {w : World} {b : Nat} {f : Value → Option Value} (h : PtMap Kd w b f) {x v : Value} (hx : f x = some v) : Kd w x := by
  obtain ⟨es, clock, h1, h2, h3, h4⟩ := h
  obtain ⟨e, he, rfl, _⟩ := (h4 x v).1 hx
  exact h2 e he

theorem MapIs.none' {es : List MapEntry} {f : Value → Option Value} (h : MapIs es f) {x : Value} (hn : ∀ e ∈ es, e.key ≠ x) : f x = none := by
  cases hf : f x with
  | none => rfl
  | some v =>
    obtain ⟨e, he, hk, _⟩ := (h.2 x v).1 hf
    exact absurd hk (hn e he)
theorem MapIs.some' {es : List MapEntry} {f : Value → Option Value} (h : MapIs es f) {x : Value} {e : MapEntry} (he : e ∈ es) (hk : e.key = x) : f x = some e.val := (h.2 x e.val).2 ⟨e, he, hk, rfl⟩

theorem PtMap.look (K : KeysGo P k Kd) {w : World} {b : Nat} {f : Value → Option Value} (h : PtMap Kd w b f) {t e : TypeId} (ht : P.underlying t = some (.map k e)) {z : Value} (hz : (zeroValue e).run P w = .ok z w) {x : Value} (hx : Kd w x) (c : Bool) :
    (Instr.lookup t (.map (some b)) x c).run P w = .ok (if c then .tuple #[(f x).getD z, .bool (f x).isSome] else (f x).getD z) w := by
  obtain ⟨es, clock, hb, hk, hm⟩ := h
  rcases findKey_run K w x hx es.toList hk with ⟨h1, h2⟩ | ⟨j, e0, h1, h2, h3⟩
  · have := hm.none' h2
    simp [Instr.lookup, run_underlying ht, MapKept.run_getObj_map hb, K.check w _ x hx, h1, hz, Result.andThen, this]
  · have := hm.some' (List.mem_of_getElem? h2) h3
    simp [Instr.lookup, run_underlying ht, MapKept.run_getObj_map hb, K.check w _ x hx, h1, Result.andThen, this]

theorem MapIs.push {es : List MapEntry} {f : Value → Option Value} (h : MapIs es f) {x v : Value} {n : Nat} (hn : ∀ e ∈ es, e.key ≠ x) : MapIs (es ++ [{ key := x, val := v, born := n }]) (setAt f x v) := by
  refine ⟨?_, fun k u => ?_⟩
  · rw [List.pairwise_append]
    exact ⟨h.1, by simp, fun a ha b hb => by obtain rfl := List.mem_singleton.1 hb; exact hn a ha⟩
  · by_cases hk : k = x
    · subst hk
      rw [setAt_same]
      constructor
      · intro e; cases e; exact ⟨{ key := k, val := v, born := n }, by simp, rfl, rfl⟩
      · rintro ⟨e, he, hk, rfl⟩
        rcases List.mem_append.1 he with he | he
        · exact absurd hk (hn e he)
        · obtain rfl := List.mem_singleton.1 he; rfl
    · rw [setAt_other _ _ _ hk, h.2]
      constructor
      · rintro ⟨e, he, h1, h2⟩; exact ⟨e, List.mem_append_left _ he, h1, h2⟩
      · rintro ⟨e, he, h1, h2⟩
        rcases List.mem_append.1 he with he | he
        · exact ⟨e, he, h1, h2⟩
        · obtain rfl := List.mem_singleton.1 he; exact absurd h1.symm hk

theorem MapIs.put : ∀ {es : List MapEntry} {f : Value → Option Value}, MapIs es f → ∀ {x v : Value} {j : Nat} {e0 : MapEntry}, es[j]? = some e0 → e0.key = x → MapIs (es.modify j fun e => { e with key := x, val := v }) (setAt f x v) := by
  intro es f h x v j e0 hj hx
  have hlt : j < es.length := (List.getElem?_eq_some_iff.1 hj).1
  have hget : ∀ i : Nat, (es.modify j fun e => { e with key := x, val := v })[i]? = if i = j then some { e0 with key := x, val := v } else es[i]? := by
    intro i
    rw [List.getElem?_modify]
    by_cases hi : j = i
    · subst hi; simp [hj]
    · simp [hi, Ne.symm hi]
  have hd : ∀ (a b : Nat) (ea eb : MapEntry), a ≠ b → es[a]? = some ea → es[b]? = some eb → ea.key ≠ eb.key := by
    intro a b ea eb hab ha hb
    obtain ⟨ha1, ha2⟩ := List.getElem?_eq_some_iff.1 ha
    obtain ⟨hb1, hb2⟩ := List.getElem?_eq_some_iff.1 hb
    have hp := List.pairwise_iff_getElem.1 h.1
    rcases Nat.lt_or_gt_of_ne hab with hl | hl
    · have := hp a b ha1 hb1 hl; rw [ha2, hb2] at this; exact this
    · have := hp b a hb1 ha1 hl; rw [ha2, hb2] at this; exact this.symm
  refine ⟨?_, fun k u => ?_⟩
  · rw [List.pairwise_iff_getElem]
    intro a b ha hb hl
    have ga := List.getElem?_eq_getElem ha
    have gb := List.getElem?_eq_getElem hb
    rw [hget] at ga gb
    by_cases h1 : a = j
    · have h2 : b ≠ j := by omega
      rw [if_pos h1] at ga
      rw [if_neg h2] at gb
      rw [← Option.some.inj ga]
      have := hd j b e0 _ (Ne.symm h2) hj gb
      rw [hx] at this
      exact this
    · rw [if_neg h1] at ga
      by_cases h2 : b = j
      · rw [if_pos h2] at gb
        rw [← Option.some.inj gb]
        have := hd a j _ e0 h1 ga hj
        rw [hx] at this
        exact this
      · rw [if_neg h2] at gb
        exact hd a b _ _ (by omega) ga gb
  · constructor
    · intro hf
      by_cases hk : k = x
      · subst hk
        rw [setAt_same] at hf
        cases hf
        exact ⟨{ e0 with key := k, val := v }, List.mem_of_getElem? (i := j) (by rw [hget, if_pos rfl]), rfl, rfl⟩
      · rw [setAt_other _ _ _ hk] at hf
        obtain ⟨e, he, h1, h2⟩ := (h.2 k u).1 hf
        obtain ⟨i, hi⟩ := List.getElem?_of_mem he
        have hij : i ≠ j := by
          rintro rfl
          rw [hj] at hi
          cases hi
          exact hk (h1.symm.trans hx)
        exact ⟨e, List.mem_of_getElem? (i := i) (by rw [hget, if_neg hij]; exact hi), h1, h2⟩
    · rintro ⟨e, he, h1, h2⟩
      obtain ⟨i, hi⟩ := List.getElem?_of_mem he
      rw [hget] at hi
      by_cases hij : i = j
      · rw [if_pos hij] at hi
        cases hi
        subst h1 h2
        exact setAt_same _ _ _
      · rw [if_neg hij] at hi
        have hk : k ≠ x := by
          rintro rfl
          have := hd i j e e0 hij hi hj
          exact this (h1.trans hx.symm)
        rw [setAt_other _ _ _ hk]
        exact (h.2 k u).2 ⟨e, List.mem_of_getElem? hi, h1, h2⟩

theorem Pl.turn {w : World} {b : Nat} {es es' : Array MapEntry} {clock clock' : Nat} (hb : w.heap[b]? = some (.map es clock)) {c : Nat} (h : Pl w c) : Pl (setBlock w b (.map es' clock')) c := by
  obtain ⟨cs, t, hc⟩ := h
  have hne : c ≠ b := by rintro rfl; rw [hb] at hc; cases hc
  exact ⟨cs, t, (heap_setBlock_other hb _ hne).trans hc⟩

theorem PtMap.store (K : KeysGo P k Kd) {w : World} {b : Nat} {f : Value → Option Value} (h : PtMap Kd w b f) {t e : TypeId} (ht : P.underlying t = some (.map k e)) {x v : Value} (hx : Kd w x) :
    ∃ w', (Instr.mapUpdate t (.map (some b)) x v).run P w = .ok () w' ∧ PtMap Kd w' b (setAt f x v) ∧ w.mapTurned w' b := by
  obtain ⟨es, clock, hb, hk, hm⟩ := h
  rcases findKey_run K w x hx es.toList hk with ⟨h1, h2⟩ | ⟨j, e0, h1, h2, h3⟩
  · refine ⟨setBlock w b (.map (es.push { key := x, val := v, born := clock }) (clock + 1)), ?_, ⟨_, _, heap_setBlock_same hb _, ?_, ?_⟩, es, clock, _, _, hb, rfl⟩
    · simp [Instr.mapUpdate, run_underlying ht, MapKept.run_getObj_map hb, K.check w _ x hx, h1, Result.andThen, MapKept.run_setObj_map _ hb]
      rfl
    · intro e he
      rw [Array.toList_push] at he
      have hkx : ∀ u, Kd w u → Kd (setBlock w b (.map (es.push { key := x, val := v, born := clock }) (clock + 1))) u := fun u hu => K.grow w _ u (fun c hc => Pl.turn hb hc) hu
      rcases List.mem_append.1 he with he | he
      · exact hkx _ (hk e he)
      · obtain rfl := List.mem_singleton.1 he; exact hkx _ hx
    · rw [Array.toList_push]; exact hm.push h2
  · have hget : ((es[j]?).map (·.key)).getD x = x := by
      have : es[j]? = some e0 := by rw [← Array.getElem?_toList]; exact h2
      simp [this, h3]
    refine ⟨setBlock w b (.map (es.modify j fun e => { e with key := x, val := v }) clock), ?_, ⟨_, _, heap_setBlock_same hb _, ?_, ?_⟩, es, clock, _, _, hb, rfl⟩
    · simp [Instr.mapUpdate, run_underlying ht, MapKept.run_getObj_map hb, K.check w _ x hx, h1, Result.andThen, hget, Instr.keyThatStays, K.bits w x hx, MapKept.run_setObj_map _ hb]
      rfl
    · intro e he
      have hkx : ∀ u, Kd w u → Kd (setBlock w b (.map (es.modify j fun e => { e with key := x, val := v }) clock)) u := fun u hu => K.grow w _ u (fun c hc => Pl.turn hb hc) hu
      rw [Array.toList_modify] at he
      obtain ⟨i, hi⟩ := List.getElem?_of_mem he
      rw [List.getElem?_modify] at hi
      by_cases hij : j = i
      · subst hij
        rw [h2] at hi
        simp at hi
        subst hi
        exact hkx _ hx
      · simp [hij] at hi
        exact hkx _ (hk e (by simpa using Array.mem_of_getElem? hi))
    · rw [Array.toList_modify]; exact hm.put h2 h3
end

section
variable {P : Program} {k : TypeId} {Kd : World → Value → Prop} (w : World) {ops : Array Oper} {rest : List Oper} {o : Oper} {a : Act} {Q : Exit → Act → World → Prop}

theorem wpList_lookup_pt (hg : o.guard = none) (m x : Operand) (t : TypeId) (c : Bool) (hop : o.op = Op.lookup t m x c) (e : TypeId) (K : KeysGo P k Kd) (ht : P.underlying t = some (.map k e)) {z : Value} (hz : (zeroValue e).run P w = .ok z w) (b : Nat) (f : Value → Option Value)
    (hm : a.eval m = .map (some b)) (hown : PtMap Kd w b f) (key : Value) (hx : a.eval x = key) (hkey : Kd w key)
    (hK : wpList P ops Q rest (a.put o.dst (if c then .tuple #[(f key).getD z, .bool (f key).isSome] else (f key).getD z)) w) :
    wpList P ops Q (o :: rest) a w := by
  refine wpList_plain hg fun K' hK' => ?_
  have hrun := hown.look K ht hz hkey c
  unfold Oper.wp
  simp [execOp, hop, hm, hx, hrun, Result.andThen]
  exact hK' _ _ hK

theorem wpList_mapUpdate_pt (hg : o.guard = none) (m x v : Operand) (t : TypeId) (hop : o.op = Op.mapUpdate t m x v) (e : TypeId) (K : KeysGo P k Kd) (ht : P.underlying t = some (.map k e)) (b : Nat) (f : Value → Option Value)
    (hm : a.eval m = .map (some b)) (hown : PtMap Kd w b f) (key val : Value) (hx : a.eval x = key) (hv : a.eval v = val) (hkey : Kd w key)
    (hK : ∀ w', PtMap Kd w' b (setAt f key val) → w.mapTurned w' b → wpList P ops Q rest (a.put o.dst undef) w') :
    wpList P ops Q (o :: rest) a w := by
  refine wpList_plain hg fun K' hK' => ?_
  obtain ⟨w', hrun, r1, r2⟩ := hown.store K ht (v := val) hkey
  unfold Oper.wp
  simp [execOp, hop, hm, hx, hv, hrun, Result.andThen]
  exact hK' _ _ (hK w' r1 r2)
end

/-! ### who is a key -/
/-- A pointer into a plain block. -/
def PtrK (w : World) (v : Value) : Prop := ∃ a, v = .pointer (some a) ∧ Pl w a.block
def PtrsK (w : World) (v : Value) : Prop := ∃ a b, v = .agg #[.pointer (some a), .pointer (some b)] ∧ Pl w a.block ∧ Pl w b.block
def PtrIntK (w : World) (v : Value) : Prop := ∃ a n, v = .agg #[.pointer (some a), .int .i64 n] ∧ Pl w a.block

section
variable {P : Program}
theorem equalIn_ptr {tp te : TypeId} {j : TypeInfo} (hp : P.underlying tp = some (.pointer te)) (hte : P.info? te = some j) (hsz : j.size ≠ 0) (d : Nat) (w : World) {a b : Addr} (ha : Pl w a.block) (hb : Pl w b.block) :
    (Op.equalIn (d + 1) tp (.pointer (some a)) (.pointer (some b))).run P w = .ok (decide (a = b)) w := by
  obtain ⟨ca, ta, ha⟩ := ha
  obtain ⟨cb, tb, hb⟩ := hb
  by_cases hne : a = b
  · subst hne
    simp [Op.equalIn, run_underlying hp, sizeOf, typeInfo, hte, run_sameAddr_same]
  · simp [Op.equalIn, run_underlying hp, sizeOf, typeInfo, hte, hsz, run_sameAddr_other w hne ha hb, hne]

theorem checkKey_ptr {tp te : TypeId} (hp : P.underlying tp = some (.pointer te)) (em : Bool) (n : Nat) (w : World) (a : Option Addr) : (Instr.checkKey em (n + 1) tp (.pointer a)).run P w = .ok () w := by
  simp [Instr.checkKey, run_underlying hp, Result.andThen]
theorem checkKey_int {t : TypeId} (ht : P.underlying t = some (.int .i64)) (em : Bool) (n : Nat) (w : World) (x : Int) : (Instr.checkKey em (n + 1) t (.int .i64 x)).run P w = .ok () w := by
  simp [Instr.checkKey, run_underlying ht, Result.andThen]
theorem equal_of {t : TypeId} {u v : Value} {w : World} {r : Bool} (h : (Op.equalIn (9998 + 2) t u v).run P w = .ok r w) : (Op.equal t u v).run P w = .ok r w := h
theorem check_of {t : TypeId} {v : Value} {w : World} {em : Bool} (h : (Instr.checkKey em (9998 + 2) t v).run P w = .ok () w) : (Instr.checkKey em 10000 t v).run P w = .ok () w := h
theorem bits_of {v : Value} (h : Instr.sameBits (9998 + 2) v v = true) : Instr.sameBits 10000 v v = true := h
theorem sameBits_ptr (n : Nat) (a : Option Addr) : Instr.sameBits n (.pointer a) (.pointer a) = true := by cases n <;> simp [Instr.sameBits]
theorem sameBits_int (n : Nat) (a : Int) : Instr.sameBits n (.int .i64 a) (.int .i64 a) = true := by cases n <;> simp [Instr.sameBits]

theorem ptr_keys {tp te : TypeId} {j : TypeInfo} (hp : P.underlying tp = some (.pointer te)) (hte : P.info? te = some j) (hsz : j.size ≠ 0) : KeysGo P tp PtrK where
  check := by
    rintro w em v ⟨a, rfl, ha⟩
    exact check_of (checkKey_ptr hp em _ w _)
  same := by
    rintro w v ⟨a, rfl, ha⟩
    have := equalIn_ptr hp hte hsz (9998 + 1) w ha ha
    rw [decide_eq_true rfl] at this
    exact equal_of this
  other := by
    rintro w u v ⟨a, rfl, ha⟩ ⟨b, rfl, hb⟩ hne
    have := equalIn_ptr hp hte hsz (9998 + 1) w ha hb
    rw [decide_eq_false (by rintro rfl; exact hne rfl)] at this
    exact equal_of this
  slow := by
    rintro w u v ⟨a, rfl, ha⟩ ⟨b, rfl, hb⟩
    exact ⟨_, hp, rfl⟩
  bits := by
    rintro w v ⟨a, rfl, ha⟩
    exact sameBits_ptr _ _
  grow := by
    rintro w w' v hg ⟨a, rfl, ha⟩
    exact ⟨a, rfl, hg _ ha⟩

theorem part_one {t : TypeId} {d : TypeDesc} (hd : P.underlying t = some d) (hna : (match d with | .struct _ | .array _ _ => true | _ => false) = false) (w : World) (cs : Array Value) (n : Nat) (x : Value) (hx : cs[n]? = some x) : (part t cs n).run P w = .ok x w := by
  have h1 : (isAgg t).run P w = .ok false w := by
    unfold isAgg
    cases d <;> simp_all [run_underlying hd, Result.andThen]
  simp [part, Result.andThen, h1, hx]

theorem checkKey_arr {t tp : TypeId} {i : TypeInfo} (ht : P.underlying t = some (.array 2 tp)) (hi : P.info? tp = some i) (hi1 : i.size = 1) (em : Bool) (n : Nat) (w : World) (x y : Value) (hx : (part tp #[x, y] 0).run P w = .ok x w) (hy : (part tp #[x, y] 1).run P w = .ok y w)
    (h1 : (Instr.checkKey em n tp x).run P w = .ok () w) (h2 : (Instr.checkKey em n tp y).run P w = .ok () w) : (Instr.checkKey em (n + 1) t (.agg #[x, y])).run P w = .ok () w := by
  rw [Instr.checkKey]
  simp only [Sem.run_bind, run_underlying ht, Result.andThen_ok]
  simp [Std.Legacy.Range.forIn_eq_forIn_range', Std.Legacy.Range.size, List.range'_succ, sizeOf, typeInfo, hi, hi1, hx, hy, h1, h2, Result.andThen]
theorem equalIn_arr {t tp : TypeId} {i : TypeInfo} (ht : P.underlying t = some (.array 2 tp)) (hi : P.info? tp = some i) (hi1 : i.size = 1) (n : Nat) (w : World) (x y u v : Value) (hx : (part tp #[x, y] 0).run P w = .ok x w) (hy : (part tp #[x, y] 1).run P w = .ok y w)
    (hu : (part tp #[u, v] 0).run P w = .ok u w) (hv : (part tp #[u, v] 1).run P w = .ok v w) {r1 r2 : Bool} (h1 : (Op.equalIn n tp x u).run P w = .ok r1 w) (h2 : (Op.equalIn n tp y v).run P w = .ok r2 w) : (Op.equalIn (n + 1) t (.agg #[x, y]) (.agg #[u, v])).run P w = .ok (r1 && r2) w := by
  rw [Op.equalIn]
  simp only [Sem.run_bind, run_underlying ht, Result.andThen_ok]
  cases r1 <;> cases r2 <;>
  simp [Std.Legacy.Range.forIn_eq_forIn_range', Std.Legacy.Range.size, List.range'_succ, sizeOf, typeInfo, hi, hi1, hx, hy, hu, hv, h1, h2, Result.andThen]

theorem checkKey_str {t t1 t2 : TypeId} {f1 f2 : Field} (ht : P.underlying t = some (.struct #[f1, f2])) (n1 : f1.name ≠ "_") (n2 : f2.name ≠ "_") (e1 : f1.type = t1) (e2 : f2.type = t2) (o1 : f1.offset = 0) (o2 : f2.offset = 1) (em : Bool) (n : Nat) (w : World) (x y : Value)
    (hx : (part t1 #[x, y] 0).run P w = .ok x w) (hy : (part t2 #[x, y] 1).run P w = .ok y w)
    (h1 : (Instr.checkKey em n t1 x).run P w = .ok () w) (h2 : (Instr.checkKey em n t2 y).run P w = .ok () w) : (Instr.checkKey em (n + 1) t (.agg #[x, y])).run P w = .ok () w := by
  rw [Instr.checkKey]
  simp only [Sem.run_bind, run_underlying ht, Result.andThen_ok]
  simp [n1, n2, e1, e2, o1, o2, hx, hy, h1, h2, Result.andThen]
theorem equalIn_str {t t1 t2 : TypeId} {f1 f2 : Field} (ht : P.underlying t = some (.struct #[f1, f2])) (hp : P.stoodInHeld t = false) (n1 : f1.name ≠ "_") (n2 : f2.name ≠ "_") (e1 : f1.type = t1) (e2 : f2.type = t2) (o1 : f1.offset = 0) (o2 : f2.offset = 1) (n : Nat) (w : World) (x y u v : Value)
    (hx : (part t1 #[x, y] 0).run P w = .ok x w) (hy : (part t2 #[x, y] 1).run P w = .ok y w) (hu : (part t1 #[u, v] 0).run P w = .ok u w) (hv : (part t2 #[u, v] 1).run P w = .ok v w) {r1 r2 : Bool}
    (h1 : (Op.equalIn n t1 x u).run P w = .ok r1 w) (h2 : (Op.equalIn n t2 y v).run P w = .ok r2 w) : (Op.equalIn (n + 1) t (.agg #[x, y]) (.agg #[u, v])).run P w = .ok (r1 && r2) w := by
  rw [Op.equalIn]
  simp only [Sem.run_bind, run_underlying ht, Result.andThen_ok, run_program, hp]
  cases r1 <;> cases r2 <;>
  simp [n1, n2, e1, e2, o1, o2, hx, hy, hu, hv, h1, h2, Result.andThen]

theorem ptrs_keys {t tp te : TypeId} {i j : TypeInfo} (ht : P.underlying t = some (.array 2 tp)) (hi : P.info? tp = some i) (hi1 : i.size = 1) (hp : P.underlying tp = some (.pointer te)) (hte : P.info? te = some j) (hsz : j.size ≠ 0) : KeysGo P t PtrsK := by
  have p0 : ∀ (w : World) (x y : Value), (part tp #[x, y] 0).run P w = .ok x w := fun w x y => part_one hp rfl w _ _ _ (by simp)
  have p1 : ∀ (w : World) (x y : Value), (part tp #[x, y] 1).run P w = .ok y w := fun w x y => part_one hp rfl w _ _ _ (by simp)
  have eq : ∀ (w : World) (a b c d : Addr), Pl w a.block → Pl w b.block → Pl w c.block → Pl w d.block → (Op.equalIn (9998 + 2) t (.agg #[.pointer (some a), .pointer (some b)]) (.agg #[.pointer (some c), .pointer (some d)])).run P w = .ok (decide (a = c) && decide (b = d)) w := fun w a b c d ha hb hc hd =>
    equalIn_arr ht hi hi1 (9998 + 1) w _ _ _ _ (p0 w _ _) (p1 w _ _) (p0 w _ _) (p1 w _ _) (equalIn_ptr hp hte hsz _ w ha hc) (equalIn_ptr hp hte hsz _ w hb hd)
  constructor
  · rintro w em v ⟨a, b, rfl, ha, hb⟩
    exact check_of (checkKey_arr ht hi hi1 em (9998 + 1) w _ _ (p0 w _ _) (p1 w _ _) (checkKey_ptr hp em _ w _) (checkKey_ptr hp em _ w _))
  · rintro w v ⟨a, b, rfl, ha, hb⟩
    have := eq w a b a b ha hb ha hb
    rw [decide_eq_true rfl, decide_eq_true rfl] at this
    exact equal_of this
  · rintro w u v ⟨a, b, rfl, ha, hb⟩ ⟨c, d, rfl, hc, hd⟩ hne
    have := eq w a b c d ha hb hc hd
    have hf : (decide (a = c) && decide (b = d)) = false := by
      cases hh : (decide (a = c) && decide (b = d)) with
      | false => rfl
      | true =>
        simp at hh
        obtain ⟨rfl, rfl⟩ := hh
        exact absurd rfl hne
    rw [hf] at this
    exact equal_of this
  · rintro w u v ⟨a, b, rfl, ha, hb⟩ ⟨c, d, rfl, hc, hd⟩
    exact ⟨_, ht, rfl⟩
  · rintro w v ⟨a, b, rfl, ha, hb⟩
    refine bits_of ?_
    rw [Instr.sameBits]
    simp [sameBits_ptr]
  · rintro w w' v hg ⟨a, b, rfl, ha, hb⟩
    exact ⟨a, b, rfl, hg _ ha, hg _ hb⟩

theorem equalIn_int {t : TypeId} (ht : P.underlying t = some (.int .i64)) (n : Nat) (w : World) (x y : Int) : (Op.equalIn (n + 1) t (.int .i64 x) (.int .i64 y)).run P w = .ok (decide (x = y)) w := by
  rw [Op.equalIn]
  simp only [Sem.run_bind, run_underlying ht, Result.andThen_ok]
  by_cases h : x = y <;> simp [h]

theorem ptrInt_keys {t tp te ti : TypeId} {f1 f2 : Field} {j : TypeInfo} (ht : P.underlying t = some (.struct #[f1, f2])) (hst : P.stoodInHeld t = false) (n1 : f1.name ≠ "_") (n2 : f2.name ≠ "_") (e1 : f1.type = tp) (e2 : f2.type = ti) (o1 : f1.offset = 0) (o2 : f2.offset = 1)
    (hp : P.underlying tp = some (.pointer te)) (hti : P.underlying ti = some (.int .i64)) (hte : P.info? te = some j) (hsz : j.size ≠ 0) : KeysGo P t PtrIntK := by
  have p0 : ∀ (w : World) (x y : Value), (part tp #[x, y] 0).run P w = .ok x w := fun w x y => part_one hp rfl w _ _ _ (by simp)
  have p1 : ∀ (w : World) (x y : Value), (part ti #[x, y] 1).run P w = .ok y w := fun w x y => part_one hti rfl w _ _ _ (by simp)
  have eq : ∀ (w : World) (a c : Addr) (b d : Int), Pl w a.block → Pl w c.block → (Op.equalIn (9998 + 2) t (.agg #[.pointer (some a), .int .i64 b]) (.agg #[.pointer (some c), .int .i64 d])).run P w = .ok (decide (a = c) && decide (b = d)) w := fun w a c b d ha hc =>
    equalIn_str ht hst n1 n2 e1 e2 o1 o2 (9998 + 1) w _ _ _ _ (p0 w _ _) (p1 w _ _) (p0 w _ _) (p1 w _ _) (equalIn_ptr hp hte hsz _ w ha hc) (equalIn_int hti _ w b d)
  constructor
  · rintro w em v ⟨a, b, rfl, ha⟩
    exact check_of (checkKey_str ht n1 n2 e1 e2 o1 o2 em (9998 + 1) w _ _ (p0 w _ _) (p1 w _ _) (checkKey_ptr hp em _ w _) (checkKey_int hti em _ w _))
  · rintro w v ⟨a, b, rfl, ha⟩
    have := eq w a a b b ha ha
    rw [decide_eq_true rfl, decide_eq_true rfl] at this
    exact equal_of this
  · rintro w u v ⟨a, b, rfl, ha⟩ ⟨c, d, rfl, hc⟩ hne
    have := eq w a c b d ha hc
    have hf : (decide (a = c) && decide (b = d)) = false := by
      cases hh : (decide (a = c) && decide (b = d)) with
      | false => rfl
      | true =>
        simp at hh
        obtain ⟨rfl, rfl⟩ := hh
        exact absurd rfl hne
    rw [hf] at this
    exact equal_of this
  · rintro w u v ⟨a, b, rfl, ha⟩ ⟨c, d, rfl, hc⟩
    exact ⟨_, ht, rfl⟩
  · rintro w v ⟨a, b, rfl, ha⟩
    refine bits_of ?_
    rw [Instr.sameBits]
    simp [sameBits_ptr, sameBits_int]
  · rintro w w' v hg ⟨a, b, rfl, ha⟩
    exact ⟨a, b, rfl, hg _ ha⟩
end

end Go.Proofs.Ytlgnklpaebgnlaa
