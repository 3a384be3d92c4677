/-
  The words of a message's text, as the program joins them.
-/
import Derived.Test.YtkfmkhhjkioeoaaGreatDoorMO
import Derived.Test.YtkfmkhhjkioeoaaGreatDoorImplCellText
namespace Go.Proofs.YtkfmkhhjkioeoaaGreatDoor
open Go.RowKit Go.Joins

set_option maxRecDepth 100000

/-- The four words ahead. -/
def Ms.wordsA (m : Ms) : List ByteArray := [kindW m.kind, ⟨(Lib.itoa m.frm).toArray⟩, ⟨#[62]⟩, ⟨(Lib.itoa m.dst).toArray⟩]
/-- The words behind. -/
def Ms.wordsB (m : Ms) : List ByteArray := if m.kind = 0 then [⟨(Lib.itoa m.id).toArray⟩, ⟨(Lib.itoa m.want).toArray⟩] else if m.kind = 2 then [] else [⟨(Lib.itoa m.id).toArray⟩, ⟨m.cell.textOf.toArray⟩]
theorem msg_words {m : Ms} (h : m.ok = true) : Lib.join ((m.wordsA ++ m.wordsB).map (·.data.toList)) [32] = m.textOf := by
  unfold Ms.textOf Ms.head Ms.wordsA Ms.wordsB
  rw [h, if_pos rfl]
  by_cases k0 : m.kind = 0
  · rw [if_pos k0, if_pos k0]
    simp only [List.cons_append, List.nil_append, List.map_cons, List.map_nil]
    rw [Lib.join_cons]
    unfold Lib.joinTail
    simp
  rw [if_neg k0, if_neg k0]
  by_cases k2 : m.kind = 2
  · rw [if_pos k2, if_pos k2]
    simp only [List.cons_append, List.nil_append, List.map_cons, List.map_nil]
    rw [Lib.join_cons]
    unfold Lib.joinTail
    simp
  rw [if_neg k2, if_neg k2]
  simp only [List.cons_append, List.nil_append, List.map_cons, List.map_nil]
  rw [Lib.join_cons]
  unfold Lib.joinTail
  simp
theorem wordsA_len (m : Ms) : m.wordsA.length = 4 := rfl
theorem wordsB_len (m : Ms) : m.wordsB.length = if m.kind = 2 then 0 else 2 := by
  unfold Ms.wordsB
  by_cases k0 : m.kind = 0
  · rw [if_pos k0, if_neg (by omega)]
    rfl
  rw [if_neg k0]
  by_cases k2 : m.kind = 2
  · rw [if_pos k2, if_pos k2]
    rfl
  rw [if_neg k2, if_neg k2]
  rfl
theorem ct_len (c : Ce) (h1 : inI64 c.n) (h2 : inI64 c.pos) (h3 : ∀ z ∈ c.kids, inI64 z) : c.textOf.length ≤ 100 + 22 * c.kids.length := by
  unfold Ce.textOf
  split
  · have e1 := itoa_len c.n h1
    have e2 := itoa_len c.pos h2
    have e3 := lineL_len c.kids h3
    have e4 : (cellLetters.extract c.kind.toNat (c.kind.toNat + 1)).data.toList.length ≤ 1 := by simp; omega
    simp only [List.length_append, List.length_cons]
    omega
  · simp
theorem msg_text_len (m : Ms) (h0 : inI64 m.frm) (h1 : inI64 m.dst) (h2 : inI64 m.id) (h3 : inI64 m.want) (h4 : inI64 m.cell.n) (h5 : inI64 m.cell.pos) (h6 : ∀ z ∈ m.cell.kids, inI64 z) : m.textOf.length ≤ 300 + 22 * m.cell.kids.length := by
  have e0 := itoa_len m.frm h0
  have e1 := itoa_len m.dst h1
  have e2 := itoa_len m.id h2
  have e3 := itoa_len m.want h3
  have e4 := ct_len m.cell h4 h5 h6
  have e5 : (kindW m.kind).data.toList.length ≤ 5 := by
    have := kind_len m.kind
    simpa using this
  unfold Ms.textOf Ms.head
  by_cases hk : m.ok = true
  · rw [if_pos hk]
    by_cases k0 : m.kind = 0
    · rw [if_pos k0]
      simp only [List.length_append, List.length_cons, List.length_nil]
      omega
    rw [if_neg k0]
    by_cases k2 : m.kind = 2
    · rw [if_pos k2]
      simp only [List.length_append, List.length_cons, List.length_nil]
      omega
    rw [if_neg k2]
    simp only [List.length_append, List.length_cons, List.length_nil]
    omega
  · rw [if_neg hk]
    simp
end Go.Proofs.YtkfmkhhjkioeoaaGreatDoor
