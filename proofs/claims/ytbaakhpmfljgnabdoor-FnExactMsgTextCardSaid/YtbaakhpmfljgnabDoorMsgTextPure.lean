/-
  A message's text, in plain words.
-/
import Derived.Test.YtbaakhpmfljgnabDoorMsgLen
import Derived.Test.YtbaakhpmfljgnabDoorSpecCellText
namespace Go.Proofs.YtbaakhpmfljgnabDoor
open Go.RowKit Go.Joins

set_option maxRecDepth 100000

/-- The word of a kind of message. -/
def kindW (k : Int) : ByteArray := if k = 0 then ⟨#[102, 101, 116, 99, 104]⟩ else if k = 1 then ⟨#[103, 105, 118, 101]⟩ else if k = 2 then ⟨#[102, 105, 115, 104]⟩ else ⟨#[119, 111, 114, 107]⟩
/-- What stands ahead in a message's text. -/
def Ms.head (m : Ms) : List UInt8 := (kindW m.kind).data.toList ++ 32 :: Lib.itoa m.frm ++ [32, 62, 32] ++ Lib.itoa m.dst
/-- A message's text; none where it is not right. -/
def Ms.textOf (m : Ms) : List UInt8 := if m.ok then m.head ++ (if m.kind = 0 then 32 :: Lib.itoa m.id ++ 32 :: Lib.itoa m.want else if m.kind = 2 then [] else 32 :: Lib.itoa m.id ++ 32 :: m.cell.textOf) else []
theorem ok_kind {m : Ms} (h : m.ok = true) : m.kind = 0 ∨ m.kind = 1 ∨ m.kind = 2 ∨ m.kind = 3 := by
  unfold Ms.ok at h
  rw [Bool.and_eq_true] at h
  have h2 := h.2
  by_cases k0 : m.kind = 0
  · exact .inl k0
  by_cases k1 : m.kind = 1
  · exact .inr (.inl k1)
  by_cases k2 : m.kind = 2
  · exact .inr (.inr (.inl k2))
  by_cases k3 : m.kind = 3
  · exact .inr (.inr (.inr k3))
  rw [if_neg k0, if_neg k1, if_neg k2, if_neg k3] at h2
  cases h2
theorem kind_len (k : Int) : (kindW k).size ≤ 5 := by
  unfold kindW
  split
  · decide
  split
  · decide
  split
  · decide
  · decide
theorem kind_at {k : Int} (h : k = 0 ∨ k = 1 ∨ k = 2 ∨ k = 3) : (#[Value.string ⟨#[102, 101, 116, 99, 104]⟩, .string ⟨#[103, 105, 118, 101]⟩, .string ⟨#[102, 105, 115, 104]⟩, .string ⟨#[119, 111, 114, 107]⟩] : Array Value)[k.toNat]? = some (.string (kindW k)) := by
  rcases h with rfl | rfl | rfl | rfl <;> rfl
end Go.Proofs.YtbaakhpmfljgnabDoor
