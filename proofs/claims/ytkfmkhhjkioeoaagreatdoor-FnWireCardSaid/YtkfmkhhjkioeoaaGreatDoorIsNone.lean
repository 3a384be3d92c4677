/-
  The program's question whether an error says that nothing was found.
-/
import Derived.Test.YtkfmkhhjkioeoaaGreatDoorErrAs
import Derived.Test.YtkfmkhhjkioeoaaGreatDoorMD
import Derived.Lib.SmallJoins
namespace Go.Proofs.YtkfmkhhjkioeoaaGreatDoor
open Go.RowKit Go.Joins

set_option maxRecDepth 100000

/-- The library's variable holds the type of errors. -/
def ET (w : World) : Prop := w.cell? ⟨0, 0, none⟩ = some (.iface 133 (.agg #[.pointer (some ⟨5, 63, none⟩)]))
theorem ET.lt {w : World} (h : ET w) : 0 < w.heap.size := by
  rcases Nat.lt_or_ge 0 w.heap.size with h' | h'
  · exact h'
  · unfold ET at h
    simp [World.cell?, Array.getElem?_eq_none h'] at h
theorem ET.below {w w' : World} (h : ET w) (hb : Below w.heap.size w w') : ET w' := (hb.cell (p := ⟨0, 0, none⟩) h.lt).trans h

theorem isNone_nil (w : World) : Calls Tryz.prog 41 #[.nilIface] w fun e w' => e = .returned (.bool false) ∧ Below w.heap.size w w' := by
  have B0 : Hid (∀ o : Obj, Below w.heap.size w (w.alloc o)) := fun o => (Below.refl _ w).alloc (Nat.le_refl _) o
  go_enter Tryz.func41, Tryz.ntmps41
  go_wp2_with fail
  refine (as_nil _ _).mono ?_
  rintro e w1 ⟨rfl, rfl⟩
  go_wp2
  go_ret
  exact ⟨rfl, B0.out _⟩

set_option maxHeartbeats 800000 in
theorem isNone_err (z : Int) (w : World) (hg : ET w) : Calls Tryz.prog 41 #[.iface 107 (.agg #[.int .i64 z])] w fun e w' => e = .returned (.bool true) ∧ Below w.heap.size w w' := by
  obtain ⟨W0, hW0⟩ : ∃ W0, W0 = w.alloc (.cells #[.int .i64 0] 107) := ⟨_, rfl⟩
  have B0 : Below w.heap.size w W0 := by rw [hW0]; exact (Below.refl _ w).alloc (Nat.le_refl _) _
  have O0 : W0.heap[w.heap.size]? = some (.cells #[.int .i64 0] 107) := by rw [hW0]; exact (MapKept.heap_alloc w _).1
  have c0 : W0.cell? ⟨w.heap.size, 0, none⟩ = some (.int .i64 0) := (cell_of_block O0 0).trans rfl
  have hA := as_hit z ⟨w.heap.size, 0, none⟩ (.int .i64 0) W0 (hg.below B0) c0 (unfrozen_of_block O0 0)
  have H0 := (show Hid (_ ∧ _ ∧ _) from ⟨hA, B0, hW0⟩)
  clear hA B0 hW0 O0 c0 hg
  go_enter Tryz.func41, Tryz.ntmps41
  go_wp2_with fail
  rw [← H0.out.2.2]
  refine H0.out.1.mono ?_
  rintro e w1 ⟨rfl, hw1⟩
  have H1 := (show Hid (_ ∧ True) from ⟨hw1, trivial⟩)
  clear hw1
  go_wp2
  go_ret
  refine ⟨rfl, ?_⟩
  rw [H1.out.1]
  have s0 := H0.out.2.1.size
  refine Below.setCell (p := ⟨w.heap.size, 0, none⟩) ?_ (Nat.le_refl _) _
  exact (((H0.out.2.1.alloc s0 _).alloc (by simp; omega) _).alloc (by simp; omega) _).alloc (by simp; omega) _
end Go.Proofs.YtkfmkhhjkioeoaaGreatDoor
