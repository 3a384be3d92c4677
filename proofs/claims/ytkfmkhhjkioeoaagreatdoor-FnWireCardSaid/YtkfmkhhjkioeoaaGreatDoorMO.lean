/-
  A right message has few kids; the cells of a message's box.
  A message's text, in plain words.
-/
import Derived.Test.YtkfmkhhjkioeoaaGreatDoorSpecMsg0
import Derived.Test.YtkfmkhhjkioeoaaGreatDoorMN
namespace Go.Proofs.YtkfmkhhjkioeoaaGreatDoor
open Go.RowKit Go.Joins

set_option maxRecDepth 100000

theorem may_len {c : Ce} {b : Bool} (h : c.may b = true) : c.kids.length ≤ 100 := by
  unfold Ce.may at h
  rw [Bool.and_eq_true] at h
  have h2 := h.2
  cases b
  · simp only [Bool.false_eq_true, if_false] at h2
    split at h2
    · simp at h2; rw [h2.2]; simp
    split at h2
    · simp at h2; rw [h2.2]; simp
    split at h2
    · simp at h2; omega
    · simp at h2; omega
  · simp at h2; omega
theorem none_len {c : Ce} (h : c.isNone = true) : c.kids.length ≤ 100 := by
  unfold Ce.isNone at h
  simp at h
  rw [h.2]; simp
theorem ok_len {m : Ms} (h : m.ok = true) : m.cell.kids.length ≤ 100 := by
  unfold Ms.ok at h
  rw [Bool.and_eq_true] at h
  have h2 := h.2
  split at h2
  · exact none_len h2
  split at h2
  · rw [Bool.and_eq_true] at h2; exact may_len h2.2
  split at h2
  · rw [Bool.and_eq_true] at h2; exact none_len h2.2
  split at h2
  · rw [Bool.and_eq_true] at h2; exact may_len h2.2
  · cases h2

theorem boxM {W : World} {b : Nat} {m : Ms} {kv : Value} {t : TypeId} (h : W.heap[b]? = some (.cells (m.row kv) t)) : W.cell? ⟨b, 0, none⟩ = some (.int .i64 m.kind) ∧ W.cell? ⟨b, 1, none⟩ = some (.int .i64 m.frm) ∧ W.cell? ⟨b, 2, none⟩ = some (.int .i64 m.dst) ∧ W.cell? ⟨b, 3, none⟩ = some (.int .i64 m.id) ∧ W.cell? ⟨b, 4, none⟩ = some (.int .i64 m.want) ∧ W.cell? ⟨b, 5, none⟩ = some (.int .i64 m.cell.kind) ∧ W.cell? ⟨b, 6, none⟩ = some (.int .i64 m.cell.n) ∧ W.cell? ⟨b, 7, none⟩ = some (.int .i64 m.cell.pos) ∧ W.cell? ⟨b, 8, none⟩ = some (kv) :=
  ⟨(cell_of_block h 0).trans rfl, (cell_of_block h 1).trans rfl, (cell_of_block h 2).trans rfl, (cell_of_block h 3).trans rfl, (cell_of_block h 4).trans rfl, (cell_of_block h 5).trans rfl, (cell_of_block h 6).trans rfl, (cell_of_block h 7).trans rfl, (cell_of_block h 8).trans rfl⟩
theorem box_alloc {W : World} {b : Nat} {x : Obj} (h : W.heap[b]? = some x) (o : Obj) : (W.drew.alloc o).heap[b]? = some x :=
  (Below.heap_alloc W.drew o b (Array.getElem?_eq_some_iff.1 h).1).trans h
end Go.Proofs.YtkfmkhhjkioeoaaGreatDoor

namespace Go.Proofs.YtkfmkhhjkioeoaaGreatDoor
open Go.RowKit Go.Joins

set_option maxRecDepth 100000

/-- The word of a kind of message. -/
def kindW (k : Int) : ByteArray := if k = 0 then ⟨#[102, 101, 116, 99, 104]⟩ else if k = 1 then ⟨#[103, 105, 118, 101]⟩ else if k = 2 then ⟨#[102, 105, 115, 104]⟩ else ⟨#[119, 111, 114, 107]⟩
/-- What stands ahead in a message's text. -/
def Ms.head (m : Ms) : List UInt8 := (kindW m.kind).data.toList ++ 32 :: Lib.itoa m.frm ++ [32, 62, 32] ++ Lib.itoa m.dst
/-- A message's text; none where it is not right. -/
def Ms.textOf (m : Ms) : List UInt8 := if m.ok then m.head ++ (if m.kind = 0 then 32 :: Lib.itoa m.id ++ 32 :: Lib.itoa m.want else if m.kind = 2 then [] else 32 :: Lib.itoa m.id ++ 32 :: m.cell.textOf) else []
theorem ok_kind {m : Ms} (h : m.ok = true) : m.kind = 0 ∨ m.kind = 1 ∨ m.kind = 2 ∨ m.kind = 3 := by
  unfold Ms.ok at h
  rw [Bool.and_eq_true] at h
  have h2 := h.2
  by_cases k0 : m.kind = 0
  · exact .inl k0
  by_cases k1 : m.kind = 1
  · exact .inr (.inl k1)
  by_cases k2 : m.kind = 2
  · exact .inr (.inr (.inl k2))
  by_cases k3 : m.kind = 3
  · exact .inr (.inr (.inr k3))
  rw [if_neg k0, if_neg k1, if_neg k2, if_neg k3] at h2
  cases h2
theorem kind_len (k : Int) : (kindW k).size ≤ 5 := by
  unfold kindW
  split
  · decide
  split
  · decide
  split
  · decide
  · decide
theorem kind_at {k : Int} (h : k = 0 ∨ k = 1 ∨ k = 2 ∨ k = 3) : (#[Value.string ⟨#[102, 101, 116, 99, 104]⟩, .string ⟨#[103, 105, 118, 101]⟩, .string ⟨#[102, 105, 115, 104]⟩, .string ⟨#[119, 111, 114, 107]⟩] : Array Value)[k.toNat]? = some (.string (kindW k)) := by
  rcases h with rfl | rfl | rfl | rfl <;> rfl
end Go.Proofs.YtkfmkhhjkioeoaaGreatDoor
