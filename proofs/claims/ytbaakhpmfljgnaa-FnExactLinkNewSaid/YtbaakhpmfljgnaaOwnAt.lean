/-
  A row of numbers of a call's own is a row of numbers in memory.
-/
import Derived.Test.YtbaakhpmfljgnaaOwnRow
namespace Go.Proofs.Ytbaakhpmfljgnaa
open Go.RowKit Go.Joins

set_option maxRecDepth 100000

/-- A row of numbers of the call's own is a row of numbers in memory. -/
theorem own_ints {w : World} {B : Nat} {v : Value} {zs : List Int} (h : w.ownsRow B 3 1 v zs.length (intVs zs)) (hz : ∀ z ∈ zs, inI64 z) : IntsAt w (fun b => B ≤ b ∧ Pl w b) v zs := by
  rcases h.2 with ⟨rfl, h0⟩ | ⟨g, cap, cur, rfl, hb, hc, hn, hcm, hs, ht⟩
  · obtain rfl : zs = [] := List.length_eq_zero_iff.1 h0
    exact ⟨none, 0, rfl, Nat.zero_le _, fun i t h => by simp at h⟩
  · refine ⟨_, _, rfl, Nat.le_trans hn hcm, fun i z hi => ⟨g, 0, rfl, ⟨hb, cur, _, hc⟩, (Array.getElem?_eq_some_iff.1 hc).1, ?_, hz z (List.mem_of_getElem? hi)⟩⟩
    have := h.cells (g := g) rfl i (.int .i64 z) (by rw [List.getElem?_map, hi]; rfl)
    rw [addr_addI] at this
    exact this
end Go.Proofs.Ytbaakhpmfljgnaa
