/-
  Maps keyed by pointers, carried from world to world.
-/
import Derived.Test.YtbaakhpmfljgnaaEx
import Derived.Maps.AppendAt
namespace Go.Proofs.Ytbaakhpmfljgnaa
open Go.RowKit Go.Joins

set_option maxRecDepth 100000

theorem nil_or_last {α : Type} (L : List α) : L = [] ∨ ∃ L' t, L = L' ++ [t] := by
  rcases List.eq_nil_or_concat L with h | ⟨L', t, h⟩
  · exact Or.inl h
  · exact Or.inr ⟨L', t, by rw [h, List.concat_eq_append]⟩
theorem PtMap.kept {Kd : World → Value → Prop} {w w' : World} {b : Nat} {f : Value → Option Value} (h : PtMap Kd w b f) (hb : w'.heap[b]? = w.heap[b]?) (hg : ∀ v, Kd w v → Kd w' v) : PtMap Kd w' b f := by
  obtain ⟨es, clock, h1, h2, h3⟩ := h
  exact ⟨es, clock, hb.trans h1, fun e he => hg _ (h2 e he), h3⟩
theorem KeysGo.sub {P : Program} {k : TypeId} {Kd Kd' : World → Value → Prop} (K : KeysGo P k Kd) (h : ∀ w v, Kd' w v → Kd w v) (hg : ∀ (w w' : World) (v : Value), (∀ b, Pl w b → Pl w' b) → Kd' w v → Kd' w' v) : KeysGo P k Kd' :=
  ⟨fun w em v hv => K.check w em v (h w v hv), fun w v hv => K.same w v (h w v hv), fun w u v hu hv => K.other w u v (h w u hu) (h w v hv), fun w u v hu hv => K.slow w u v (h w u hu) (h w v hv), fun w v hv => K.bits w v (h w v hv), hg⟩
theorem Below.grown {B : Nat} {a w w' : World} {row : Option Nat} (h : Below B a w) (hg : w.grownBy w' row) (hr : ∀ k, row = some k → B ≤ k) (hB : B ≤ w.heap.size) : Below B a w' :=
  h.trans ⟨hg.os, hg.tape, hg.output, hg.size, fun k hk => hg.block k (by omega) (fun e => by have := hr k e.symm; omega)⟩
theorem drewN_below {B : Nat} {a w : World} (h : Below B a w) (n : Nat) : Below B a (w.drewN n) := h.trans ⟨rfl, rfl, rfl, Nat.le_refl _, fun _ _ => rfl⟩


theorem Pl.more {w : World} {b : Nat} (h : Pl w b) (o : Obj) : Pl (w.alloc o) b := by
  obtain ⟨cs, t, hc⟩ := h
  exact ⟨cs, t, (Below.heap_alloc _ _ _ (Array.getElem?_eq_some_iff.1 hc).1).trans hc⟩
end Go.Proofs.Ytbaakhpmfljgnaa
