/-
  A right message has few kids; the cells of a message's box.
-/
import Derived.Test.YtbaakhpmfljgnabDoorSpecMsg0
namespace Go.Proofs.YtbaakhpmfljgnabDoor
open Go.RowKit Go.Joins

set_option maxRecDepth 100000

theorem may_len {c : Ce} {b : Bool} (h : c.may b = true) : c.kids.length ≤ 100 := by
  unfold Ce.may at h
  rw [Bool.and_eq_true] at h
  have h2 := h.2
  cases b
  · simp only [Bool.false_eq_true, if_false] at h2
    split at h2
    · simp at h2; rw [h2.2]; simp
    split at h2
    · simp at h2; rw [h2.2]; simp
    split at h2
    · simp at h2; omega
    · simp at h2; omega
  · simp at h2; omega
theorem none_len {c : Ce} (h : c.isNone = true) : c.kids.length ≤ 100 := by
  unfold Ce.isNone at h
  simp at h
  rw [h.2]; simp
theorem ok_len {m : Ms} (h : m.ok = true) : m.cell.kids.length ≤ 100 := by
  unfold Ms.ok at h
  rw [Bool.and_eq_true] at h
  have h2 := h.2
  split at h2
  · exact none_len h2
  split at h2
  · rw [Bool.and_eq_true] at h2; exact may_len h2.2
  split at h2
  · rw [Bool.and_eq_true] at h2; exact none_len h2.2
  split at h2
  · rw [Bool.and_eq_true] at h2; exact may_len h2.2
  · cases h2

theorem boxM {W : World} {b : Nat} {m : Ms} {kv : Value} {t : TypeId} (h : W.heap[b]? = some (.cells (m.row kv) t)) : W.cell? ⟨b, 0, none⟩ = some (.int .i64 m.kind) ∧ W.cell? ⟨b, 1, none⟩ = some (.int .i64 m.frm) ∧ W.cell? ⟨b, 2, none⟩ = some (.int .i64 m.dst) ∧ W.cell? ⟨b, 3, none⟩ = some (.int .i64 m.id) ∧ W.cell? ⟨b, 4, none⟩ = some (.int .i64 m.want) ∧ W.cell? ⟨b, 5, none⟩ = some (.int .i64 m.cell.kind) ∧ W.cell? ⟨b, 6, none⟩ = some (.int .i64 m.cell.n) ∧ W.cell? ⟨b, 7, none⟩ = some (.int .i64 m.cell.pos) ∧ W.cell? ⟨b, 8, none⟩ = some (kv) :=
  ⟨(cell_of_block h 0).trans rfl, (cell_of_block h 1).trans rfl, (cell_of_block h 2).trans rfl, (cell_of_block h 3).trans rfl, (cell_of_block h 4).trans rfl, (cell_of_block h 5).trans rfl, (cell_of_block h 6).trans rfl, (cell_of_block h 7).trans rfl, (cell_of_block h 8).trans rfl⟩
theorem box_alloc {W : World} {b : Nat} {x : Obj} (h : W.heap[b]? = some x) (o : Obj) : (W.drew.alloc o).heap[b]? = some x :=
  (Below.heap_alloc W.drew o b (Array.getElem?_eq_some_iff.1 h).1).trans h
end Go.Proofs.YtbaakhpmfljgnabDoor
