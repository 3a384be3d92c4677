/-
  A range over a function whose iterator keeps state of its own in memory: what the iterator and the loop's body promise each other, by the types of the blocks.
-/
import Derived.RangeFuncNested
import Derived.RangeFuncBound
import Derived.RangeFuncCalls
import Derived.RangeFuncLeaves
import Derived.Below
namespace Go.Proofs.Ytdadppjncdkpiaa
open Go.RowKit

/-- A step of the iterator's: what lies below B lies; cells of types that are not the iterator's lie. -/
structure StepT (O : TypeId → Prop) (B : Nat) (W W' : World) : Prop where
  os : W'.os = W.os
  tape : W'.tape = W.tape
  output : W'.output = W.output
  size : W.heap.size ≤ W'.heap.size
  low : ∀ k, k < B → W'.heap[k]? = W.heap[k]?
  cells : ∀ (k : Nat) (cs : Array Value) (t : TypeId) (rng : Nat × Nat), W.heap[k]? = some (.cells cs t rng) → ¬ O t → W'.heap[k]? = some (.cells cs t rng)
/-- What a round keeps: what lies below B, the iterator's cells, and whatever is no cells. -/
structure KeepT (O : TypeId → Prop) (B : Nat) (W W' : World) : Prop where
  below : Below B W W'
  own : ∀ (k : Nat) (cs : Array Value) (t : TypeId) (rng : Nat × Nat), W.heap[k]? = some (.cells cs t rng) → O t → W'.heap[k]? = some (.cells cs t rng)
  others : ∀ (k : Nat) (o : Obj), W.heap[k]? = some o → o.isCells = false → W'.heap[k]? = some o
def StableT {β : Type} (O : TypeId → Prop) (B : Nat) (I : β → World → Prop) : Prop := ∀ s W W', I s W → StepT O B W W' → I s W'

theorem StepT.refl (O : TypeId → Prop) (B : Nat) (W : World) : StepT O B W W := ⟨rfl, rfl, rfl, Nat.le_refl _, fun _ _ => rfl, fun _ _ _ _ h _ => h⟩
theorem StepT.trans {O : TypeId → Prop} {B : Nat} {X Y Z : World} (h : StepT O B X Y) (k : StepT O B Y Z) : StepT O B X Z :=
  ⟨k.os.trans h.os, k.tape.trans h.tape, k.output.trans h.output, Nat.le_trans h.size k.size, fun i hi => (k.low i hi).trans (h.low i hi), fun i cs t rng hi ht => k.cells i cs t rng (h.cells i cs t rng hi ht) ht⟩
theorem StepT.below {O : TypeId → Prop} {B : Nat} {W W' : World} (h : StepT O B W W') : Below B W W' := ⟨h.os, h.tape, h.output, h.size, h.low⟩
theorem StepT.alloc (O : TypeId → Prop) {B : Nat} (W : World) (o : Obj) (hB : B ≤ W.heap.size) : StepT O B W (W.alloc o) :=
  ⟨rfl, rfl, rfl, by simp, fun k hk => Below.heap_alloc W o k (by omega), fun k _ _ _ h _ => (Below.heap_alloc W o k (Array.getElem?_eq_some_iff.1 h).1).trans h⟩
theorem StepT.drew (O : TypeId → Prop) (B : Nat) (W : World) : StepT O B W W.drew := ⟨rfl, rfl, rfl, Nat.le_refl _, fun _ _ => rfl, fun _ _ _ _ h _ => h⟩
theorem StepT.putObj (O : TypeId → Prop) {B : Nat} {W : World} {l : Nat} {o : Obj} (o' : Obj) (hB : B ≤ l) (hl : W.heap[l]? = some o) (ho : o.isCells = false) : StepT O B W (W.putObj l o') :=
  ⟨rfl, rfl, rfl, by simp, fun k hk => World.putObj_heap_other (by omega), fun k cs t rng h _ => by
    refine (World.putObj_heap_other (fun e => ?_)).trans h
    subst e
    rw [h] at hl
    cases hl
    cases ho⟩
theorem StepT.setCell {O : TypeId → Prop} {B : Nat} {W : World} {b : Nat} {cs : Array Value} {t : TypeId} {rng : Nat × Nat} (hb : W.heap[b]? = some (.cells cs t rng)) (hO : O t) (hB : B ≤ b) (off : Nat) (v : Value) : StepT O B W (W.setCell ⟨b, off, none⟩ v) :=
  ⟨rfl, rfl, rfl, by simp [World.setCell], fun k hk => Below.heap_setCell _ _ _ _ (by show k ≠ b; omega), fun k cs' t' rng' h ht => by
    refine (Below.heap_setCell _ _ _ _ (fun e => ?_)).trans h
    subst e
    rw [h] at hb
    cases hb
    exact ht hO⟩
/-- A step of the iterator's own: whatever is no cells lies, too. -/
structure StepI (O : TypeId → Prop) (B : Nat) (W W' : World) : Prop where
  step : StepT O B W W'
  others : ∀ (k : Nat) (o : Obj), W.heap[k]? = some o → o.isCells = false → W'.heap[k]? = some o
def StableI {β : Type} (O : TypeId → Prop) (B : Nat) (J : β → World → Prop) : Prop := ∀ s W W', J s W → StepI O B W W' → J s W'
theorem StepI.refl (O : TypeId → Prop) (B : Nat) (W : World) : StepI O B W W := ⟨StepT.refl O B W, fun _ _ h _ => h⟩
theorem StepI.trans {O : TypeId → Prop} {B : Nat} {X Y Z : World} (h : StepI O B X Y) (k : StepI O B Y Z) : StepI O B X Z := ⟨h.step.trans k.step, fun i o hi ho => k.others i o (h.others i o hi ho) ho⟩
theorem StepI.alloc (O : TypeId → Prop) {B : Nat} (W : World) (o : Obj) (hB : B ≤ W.heap.size) : StepI O B W (W.alloc o) :=
  ⟨StepT.alloc O W o hB, fun k _ h _ => (Below.heap_alloc W o k (Array.getElem?_eq_some_iff.1 h).1).trans h⟩
theorem StepI.drew (O : TypeId → Prop) (B : Nat) (W : World) : StepI O B W W.drew := ⟨StepT.drew O B W, fun _ _ h _ => h⟩
theorem StepI.setCell {O : TypeId → Prop} {B : Nat} {W : World} {b : Nat} {cs : Array Value} {t : TypeId} {rng : Nat × Nat} (hb : W.heap[b]? = some (.cells cs t rng)) (hO : O t) (hB : B ≤ b) (off : Nat) (v : Value) : StepI O B W (W.setCell ⟨b, off, none⟩ v) :=
  ⟨StepT.setCell hb hO hB off v, fun k o h ho => by
    refine (Below.heap_setCell _ _ _ _ (fun e => ?_)).trans h
    subst e
    rw [h] at hb
    cases hb
    cases ho⟩
theorem KeepT.refl (O : TypeId → Prop) (B : Nat) (W : World) : KeepT O B W W := ⟨Below.refl _ _, fun _ _ _ _ h _ => h, fun _ _ h _ => h⟩
theorem KeepT.trans {O : TypeId → Prop} {B : Nat} {X Y Z : World} (h : KeepT O B X Y) (k : KeepT O B Y Z) : KeepT O B X Z :=
  ⟨h.below.trans k.below, fun i cs t rng hi ht => k.own i cs t rng (h.own i cs t rng hi ht) ht, fun i o hi ho => k.others i o (h.others i o hi ho) ho⟩
theorem KeepT.alloc (O : TypeId → Prop) {B : Nat} (W : World) (o : Obj) (hB : B ≤ W.heap.size) : KeepT O B W (W.alloc o) :=
  ⟨(Below.refl B W).alloc hB o, fun k _ _ _ h _ => (Below.heap_alloc W o k (Array.getElem?_eq_some_iff.1 h).1).trans h, fun k _ h _ => (Below.heap_alloc W o k (Array.getElem?_eq_some_iff.1 h).1).trans h⟩
theorem KeepT.drew (O : TypeId → Prop) (B : Nat) (W : World) : KeepT O B W W.drew := ⟨(Below.refl B W).drew, fun _ _ _ _ h _ => h, fun _ _ h _ => h⟩
/-- A growth whose one row is of a type that is not the iterator's. -/
theorem KeepT.grown {O : TypeId → Prop} {B : Nat} {W W' : World} {row : Option Nat} (hg : W.grownBy W' row) (hB : B ≤ W.heap.size) (hr : ∀ g, row = some g → B ≤ g ∧ ∃ cs t rng, W.heap[g]? = some (.cells cs t rng) ∧ ¬ O t) : KeepT O B W W' := by
  refine ⟨(Below.refl B W).grown hg hB (fun k e => (hr k e).1), fun k cs t rng h ht => ?_, fun k o h ho => ?_⟩
  · refine (hg.block k (Array.getElem?_eq_some_iff.1 h).1 (fun e => ?_)).trans h
    obtain ⟨_, cs', t', rng', h', ht'⟩ := hr k e.symm
    rw [h] at h'
    cases h'
    exact ht' ht
  · refine (hg.block k (Array.getElem?_eq_some_iff.1 h).1 (fun e => ?_)).trans h
    obtain ⟨_, cs', t', rng', h', _⟩ := hr k e.symm
    rw [h] at h'
    cases h'
    cases ho
theorem KeepT.setCell {O : TypeId → Prop} {B : Nat} {W : World} {b : Nat} {cs : Array Value} {t : TypeId} {rng : Nat × Nat} (hb : W.heap[b]? = some (.cells cs t rng)) (hO : ¬ O t) (hB : B ≤ b) (off : Nat) (v : Value) : KeepT O B W (W.setCell ⟨b, off, none⟩ v) := by
  refine ⟨(Below.refl B W).setCell (p := ⟨b, off, none⟩) hB v, fun k cs' t' rng' h ht => ?_, fun k o h ho => ?_⟩
  · refine (Below.heap_setCell _ _ _ _ (fun e => ?_)).trans h
    subst e
    rw [h] at hb
    cases hb
    exact hO ht
  · refine (Below.heap_setCell _ _ _ _ (fun e => ?_)).trans h
    subst e
    rw [h] at hb
    cases hb
    cases ho

/-- The iterator's contract: it tells all of xs, one round each. -/
def TellSeq {α : Type} (P : Program) (gf : Nat) (lb : Array Value) (encs : α → Array Value) (O : TypeId → Prop) (B : Nat) (xs : List α) (w : World) : Prop :=
  ∀ (l n : Nat) (J : List α → World → Prop) (W : World), Below w.heap.size w W → StableI O B J →
    (∀ m pre x W1, pre ++ [x] <+: xs → J pre W1 → YieldAt Fence.wide m P l (encs x) W1 fun e W' => e = .returned (.bool true) ∧ J (pre ++ [x]) W' ∧ KeepT O B W1 W') →
    J [] W → CallsIn Fence.wide n P gf (#[.func (.yield l) #[] #[]] ++ lb) W fun e W' => (∃ v, e = .returned v) ∧ J xs W'

/-- How a round's body is left. -/
def postT {α : Type} (O : TypeId → Prop) (B : Nat) (I : List α → World → Prop) (xs : List α) (W : World) : Exit → Act → World → Prop
  | .normal, _, W' => KeepT O B W W' ∧ I xs W'
  | _, _, _ => False

theorem yield_round {α : Type} {P : Program} {O : TypeId → Prop} {B l D : Nat} {rec : LoopState → Option Code → Loop} {fn : FuncId} {tmps : Array Value} {ps : Array Tmp} {assign body : Code} {args : Array Value}
    (hrec : rec = fun st pe => { state := st, pending := pe, fn, tmps, params := ps, assign, body, defers := D }) (hps : args.size = ps.size) {m : Nat} {W : World}
    (I : List α → World → Prop) (hI : StableT O B I) (pre : List α) (x : α) (A : Act → World → Prop) (hA : ∀ a', StableT O B (fun (_ : Unit) W => A a' W)) (hBl : B ≤ l) (hDl : D ≠ l)
    (hl : W.heap[l]? = some (.loop (rec .ready none))) (hk : W.heap[D]? = some (.deferred (some [])))
    (hassign : ∀ K : Act → World → Prop, (∀ a' W', KeepT O B W W' → I pre W' → A a' W' → K a' W') → assign.wpIn (Fence.wide.inRound l) m P (Exit.then K (fun _ _ _ => False)) { tmps := (ps.zip args).foldl (fun t (p, v) => t.setIfInBounds p v) tmps, defers := [] } W)
    (hbody : ∀ a' W', I pre W' → A a' W' → body.wpIn (Fence.wide.inRound l) m P (postT O B I (pre ++ [x]) W') a' W') :
    YieldAt Fence.wide m P l args W fun e W' => e = .returned (.bool true) ∧ (I (pre ++ [x]) W' ∧ W'.heap[l]? = some (.loop (rec .ready none)) ∧ W'.heap[D]? = some (.deferred (some []))) ∧ KeepT O B W W' := by
  subst hrec
  have hy := run_yield (P := P) (args := args) hl hps
  refine ⟨_, _, _, _, hy, roundIn_of_wpIn trivial (hassign _ ?_)⟩
  intro a' W' hkp hi' ha'
  have hl' := hkp.others _ _ hl rfl
  have hk' := hkp.others _ _ hk rfl
  have hlt : l < W'.heap.size := (Array.getElem?_eq_some_iff.1 hl').1
  refine ⟨_, run_beginRound hl' rfl, ?_⟩
  have S1 := StepT.putObj O (.loop { state := .busy, pending := none, fn, tmps, params := ps, assign, body, defers := D }) hBl hl' rfl
  have hl2 : (W'.putObj l (.loop { state := .busy, pending := none, fn, tmps, params := ps, assign, body, defers := D })).heap[l]? = some (.loop { state := .busy, pending := none, fn, tmps, params := ps, assign, body, defers := D }) := World.putObj_heap_same hlt
  have hk2 : (W'.putObj l (.loop { state := .busy, pending := none, fn, tmps, params := ps, assign, body, defers := D })).heap[D]? = some (.deferred (some [])) := (World.putObj_heap_other hDl).trans hk'
  refine wpIn_mono (hbody a' _ (hI _ _ _ hi' S1) (hA a' () _ _ ha' S1)) ?_
  rintro e a3 W3 hp
  cases e with
  | normal =>
    obtain ⟨hk3, hi3⟩ := hp
    have hl3 := hk3.others _ _ hl2 rfl
    have S2 := StepT.putObj O (.loop { state := .ready, pending := none, fn, tmps, params := ps, assign, body, defers := D }) hBl hl3 rfl
    refine ⟨_, _, run_endRound none hl3, rfl, ⟨hI _ _ _ hi3 S2, World.putObj_heap_same (Array.getElem?_eq_some_iff.1 hl3).1, (World.putObj_heap_other hDl).trans (hk3.others _ _ hk2 rfl)⟩, ?_, ?_, ?_⟩
    · exact (hkp.below.trans S1.below).trans (hk3.below.trans S2.below)
    · intro k cs t rng h ht
      have h1 := hkp.own k cs t rng h ht
      have e1 : k ≠ l := by rintro rfl; rw [h1] at hl'; cases hl'
      exact (World.putObj_heap_other e1).trans (hk3.own k cs t rng ((World.putObj_heap_other e1).trans h1) ht)
    · intro k o h ho
      have h1 := hkp.others k o h ho
      by_cases e1 : k = l
      · subst e1
        rw [hl] at h
        cases h
        exact World.putObj_heap_same (Array.getElem?_eq_some_iff.1 hl3).1
      · exact (World.putObj_heap_other e1).trans (hk3.others k o ((World.putObj_heap_other e1).trans h1) ho)
  | _ => exact hp.elim

/-- The statement. -/
theorem range_tell {α : Type} {P : Program} {n : Nat} {g : Operand} {ps : Array Tmp} {assign body : Code} {Q : Exit → Act → World → Prop} {a : Act} {w : World} {O : TypeId → Prop} {B gf : Nat} {lb : Array Value}
    (hg : a.eval g = .func (.func gf) #[] lb) (eg : ∀ args w, (callFunc gf args).run P w = .ok (.enter gf args) w)
    {encs : α → Array Value} {xs : List α} (hseq : TellSeq P gf lb encs O B xs w) (hps : ∀ x, (encs x).size = ps.size) (hB : B ≤ w.heap.size)
    (I : List α → World → Prop) (hI : StableT O B I) (h0 : I [] w) (A : List α → α → Act → World → Prop) (hA : ∀ pre x a', StableT O B (fun (_ : Unit) W => A pre x a' W))
    (hassign : ∀ (l m : Nat) (pre : List α) (x : α) (W : World) (K : Act → World → Prop), pre ++ [x] <+: xs → I pre W → (∀ a' W', KeepT O B W W' → I pre W' → A pre x a' W' → K a' W') →
      assign.wpIn (Fence.wide.inRound l) m P (Exit.then K (fun _ _ _ => False)) { tmps := (ps.zip (encs x)).foldl (fun t (p, v) => t.setIfInBounds p v) a.tmps, defers := [] } W)
    (hbody : ∀ (l m : Nat) (pre : List α) (x : α) (a' : Act) (W : World), pre ++ [x] <+: xs → I pre W → A pre x a' W → body.wpIn (Fence.wide.inRound l) m P (postT O B I (pre ++ [x]) W) a' W)
    (hdone : ∀ (D : Nat) (W : World), w.heap.size ≤ D → I xs W → W.heap[D]? = some (.deferred (some [])) → Q .normal { a with defers := { target := .collected D, args := #[] } :: a.defers } W) :
    (Code.rangeFunc g ps assign body).wpIn Fence.wide n P Q a w := by
  refine wpIn_rangeFunc ?_
  intro fn hfn
  obtain ⟨rec, hrec⟩ : ∃ rec : LoopState → Option Code → Loop, rec = fun st pe => { state := st, pending := pe, fn, tmps := a.tmps, params := ps, assign, body, defers := w.heap.size } := ⟨_, rfl⟩
  obtain ⟨W1, hW1⟩ : ∃ W1, (w.alloc (.deferred (some []))).alloc (.loop (rec .ready none)) = W1 := ⟨_, rfl⟩
  have hL1 : W1.heap[w.heap.size + 1]? = some (.loop (rec .ready none)) := by
    rw [← hW1]
    have := World.alloc_heap_new (w.alloc (.deferred (some []))) (.loop (rec .ready none))
    rwa [World.size_alloc] at this
  have hK1 : W1.heap[w.heap.size]? = some (.deferred (some [])) := by
    rw [← hW1]
    exact (Below.heap_alloc _ _ _ (by simp)).trans (World.alloc_heap_new w _)
  have hS1 : StepT O B w W1 := by
    rw [← hW1]
    exact (StepT.alloc O w _ hB).trans (StepT.alloc O _ _ (by simp; omega))
  have hb1 : Below w.heap.size w W1 := by
    rw [← hW1]
    exact ((Below.refl _ w).alloc (Nat.le_refl _) _).alloc (by simp) _
  refine ⟨w.heap.size + 1, [{ target := .collected w.heap.size, args := #[] }], W1, { target := .fn (.func gf) lb, args := #[.func (.yield (w.heap.size + 1)) #[] #[]] }, W1, gf,
    #[.func (.yield (w.heap.size + 1)) #[] #[]] ++ lb, W1, ?_, ?_, fun _ _ => trivial, ?_, ?_, ?_⟩
  · rw [← hW1, hrec]
    exact run_enterLoop_outer _ _ _ _ _
  · simp only [resolve, hg]
    simp [go_sem]
  · simp [invoke, go_sem, eg]
  · intro h
    cases h
  · refine (hseq (w.heap.size + 1) (n - 1) (fun pre W => I pre W ∧ W.heap[w.heap.size + 1]? = some (.loop (rec .ready none)) ∧ W.heap[w.heap.size]? = some (.deferred (some []))) W1 hb1 ?_ ?_ ⟨hI _ _ _ h0 hS1, hL1, hK1⟩).mono ?_
    · rintro s W W' ⟨hi, hl, hk⟩ hs
      exact ⟨hI _ _ _ hi hs.step, hs.others _ _ hl rfl, hs.others _ _ hk rfl⟩
    · rintro m pre x W hx ⟨hi, hl, hk⟩
      exact yield_round hrec (hps x) I hI pre x (A pre x) (hA pre x) (by omega) (by omega) hl hk (fun K hK => hassign _ m pre x W K hx hi hK) (fun a' W' hi' ha' => hbody _ m pre x a' W' hx hi' ha')
    · rintro e W2 ⟨⟨v, rfl⟩, hi, hl, hk⟩
      refine ⟨none, _, by have := run_endLoop (P := P) hl (by rw [hrec]; simp); rw [hrec] at this; exact this, ?_⟩
      exact hdone _ _ (Nat.le_refl _) (hI _ _ _ hi (StepT.putObj O _ (by omega) hl rfl)) ((World.putObj_heap_other (by omega)).trans hk)
end Go.Proofs.Ytdadppjncdkpiaa
