/-
  What a call leaves as it was, but for some blocks.
-/
import Derived.Test.YtlgnklpaebgnlaaRowBase
import Derived.Below
namespace Go.Proofs.Ytlgnklpaebgnlaa
open Go.RowKit

/-- Blocks outside X are as they were. -/
structure KB (X : Nat → Prop) (w w' : World) : Prop where
  os : w'.os = w.os
  tape : w'.tape = w.tape
  output : w'.output = w.output
  size : w.heap.size ≤ w'.heap.size
  block : ∀ k, k < w.heap.size → ¬ X k → w'.heap[k]? = w.heap[k]?
theorem KB.refl (X : Nat → Prop) (w : World) : KB X w w := ⟨rfl, rfl, rfl, Nat.le_refl _, fun _ _ _ => rfl⟩
theorem KB.trans {X : Nat → Prop} {a b c : World} (h : KB X a b) (k : KB X b c) : KB X a c :=
  ⟨k.os.trans h.os, k.tape.trans h.tape, k.output.trans h.output, Nat.le_trans h.size k.size, fun i hi hx => (k.block i (Nat.lt_of_lt_of_le hi h.size) hx).trans (h.block i hi hx)⟩
theorem KB.more {X Y : Nat → Prop} {a b : World} (h : KB X a b) (hs : ∀ k, k < a.heap.size → X k → Y k) : KB Y a b :=
  ⟨h.os, h.tape, h.output, h.size, fun i hi hy => h.block i hi (fun hx => hy (hs i hi hx))⟩
theorem KB.of_below {X : Nat → Prop} {w w' : World} (h : Below w.heap.size w w') : KB X w w' := ⟨h.os, h.tape, h.output, h.size, fun k hk _ => h.block k hk⟩
theorem KB.setCell {X : Nat → Prop} {a w : World} (h : KB X a w) {p : Addr} (hp : X p.block) (u : Value) : KB X a (w.setCell p u) := by
  have hb : Below 0 w (w.setCell p u) := (Below.refl 0 w).setCell (Nat.zero_le _) u
  refine ⟨hb.os.trans h.os, hb.tape.trans h.tape, hb.output.trans h.output, Nat.le_trans h.size hb.size, fun k hk hx => ?_⟩
  have hne : k ≠ p.block := fun e => hx (by rw [e]; exact hp)
  rw [Below.heap_setCell w p u k hne]
  exact h.block k hk hx
theorem KB.below {X : Nat → Prop} {w w' : World} {B : Nat} (h : KB X w w') (hX : ∀ k, X k → B ≤ k) (hB : B ≤ w.heap.size) : Below B w w' :=
  ⟨h.os, h.tape, h.output, h.size, fun k hk => h.block k (Nat.lt_of_lt_of_le hk hB) (fun hx => by have := hX k hx; omega)⟩
theorem KB.heap {X : Nat → Prop} {w w' : World} {b : Nat} {o : Obj} (h : KB X w w') (hb : w.heap[b]? = some o) (hx : ¬ X b) : w'.heap[b]? = some o :=
  (h.block b (Array.getElem?_eq_some_iff.1 hb).1 hx).trans hb
theorem KB.grown {X : Nat → Prop} {a w w' : World} {row : Option Nat} (h : KB X a w) (hg : w.grownBy w' row) (hr : ∀ k, row = some k → a.heap.size ≤ k) : KB X a w' :=
  ⟨hg.os.trans h.os, hg.tape.trans h.tape, hg.output.trans h.output, Nat.le_trans h.size hg.size, fun k hk hx =>
    (hg.block k (Nat.lt_of_lt_of_le hk h.size) (fun e => by have := hr k e.symm; omega)).trans (h.block k hk hx)⟩
theorem lt_heap {w : World} {b : Nat} {o : Obj} (h : w.heap[b]? = some o) : b < w.heap.size := (Array.getElem?_eq_some_iff.1 h).1
end Go.Proofs.Ytlgnklpaebgnlaa
