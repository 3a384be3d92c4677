/-
  The program's list of a message's numbers, by their places.
-/
import Derived.Test.YtbaakhpmfljgnaaGreatDoorME
import Derived.BigRegion
namespace Go.Proofs.YtbaakhpmfljgnaaGreatDoor
open Go.RowKit Go.Joins

set_option maxRecDepth 100000

/-- Pointers to the first places of a block. -/
abbrev ptr8 (p : Nat) : Array Value := #[.pointer (some ⟨p, 0, none⟩), .pointer (some ⟨p, 1, none⟩), .pointer (some ⟨p, 2, none⟩), .pointer (some ⟨p, 3, none⟩), .pointer (some ⟨p, 4, none⟩), .pointer (some ⟨p, 5, none⟩), .pointer (some ⟨p, 6, none⟩), .pointer (some ⟨p, 7, none⟩)]
set_option maxHeartbeats 3200000 in
theorem msgFields_any (p : Nat) (w : World) :
    Calls Tryz.prog 110 #[.pointer (some ⟨p, 0, none⟩)] w fun e w' => e = .returned (.slice (some ⟨w.heap.size, 0, none⟩) 8 8) ∧ w'.heap[w.heap.size]? = some (.cells (ptr8 p) 175) ∧ Below w.heap.size w w' := by
  go_enter Tryz.func110, Tryz.ntmps110
  go_wp2_with fail
  go_region
  go_wp2
  go_ret
  exact ⟨rfl, (MapKept.heap_alloc _ _).1, (Below.refl _ _).drew.alloc (Nat.le_refl _) _⟩
end Go.Proofs.YtbaakhpmfljgnaaGreatDoor
