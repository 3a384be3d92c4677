/-
  Plain definitions and lemmas on bytes and lists: letters, digits, names.
-/
import Derived.Test.YtdadppjncdkpiaaRows
namespace Go.Proofs.Ytdadppjncdkpiaa

set_option maxRecDepth 100000

/-- A small letter, a digit, by number. -/
def lti (n : Int) : Bool := decide (97 ≤ n) && decide (n ≤ 122)
def dgi (n : Int) : Bool := decide (48 ≤ n) && decide (n ≤ 57)
/-- .. by byte. -/
def ltb (c : UInt8) : Bool := lti c.toNat
def dgb (c : UInt8) : Bool := dgi c.toNat
def nmb (c : UInt8) : Bool := ltb c || dgb c

theorem takeWhile_len {α : Type} (p : α → Bool) : ∀ (l : List α) (k : Nat), k ≤ l.length → (∀ x ∈ l.take k, p x = true) → (∀ h : k < l.length, p l[k] = false) → (l.takeWhile p).length = k
  | [], k, hk, _, _ => by simp at hk; simp [hk]
  | a :: r, 0, _, _, he => by
    have := he (by simp)
    simp at this
    simp [this]
  | a :: r, k + 1, hk, h, he => by
    have ha : p a = true := h a (by simp)
    rw [List.takeWhile_cons, if_pos ha, List.length_cons, takeWhile_len p r k (by simpa using hk) (fun x hx => h x (by simp [hx])) (fun hh => he (Nat.succ_lt_succ hh))]

theorem takeWhile_len_le {α : Type} (p : α → Bool) (l : List α) : (l.takeWhile p).length ≤ l.length := (List.takeWhile_sublist p).length_le

theorem takeWhile_full {α : Type} (p : α → Bool) : ∀ l : List α, ((l.takeWhile p).length = l.length) ↔ l.all p = true
  | [] => by simp
  | a :: r => by
    by_cases h : p a = true
    · rw [List.takeWhile_cons, if_pos h, List.length_cons, List.length_cons, List.all_cons, h, Bool.true_and, ← takeWhile_full p r]; omega
    · rw [List.takeWhile_cons, if_neg h]; simp [h]

theorem mem_take_succ {α : Type} {l : List α} {k : Nat} (h : k < l.length) {P : α → Prop} (h1 : ∀ x ∈ l.take k, P x) (h2 : P l[k]) : ∀ x ∈ l.take (k + 1), P x := by
  intro x hx
  rw [List.take_succ_eq_append_getElem h] at hx
  rcases List.mem_append.1 hx with hx | hx
  · exact h1 x hx
  · rw [List.mem_singleton.1 hx]; exact h2

/-- How many letters and digits a text begins with. -/
def nameLen (l : List UInt8) : Nat := (l.takeWhile nmb).length
def digsLen (l : List UInt8) : Nat := (l.takeWhile dgb).length

theorem at_data (s : ByteArray) (k : Nat) (h : k < s.size) : s.data.toList[k]'(by simpa using h) = s[k] := rfl

end Go.Proofs.Ytdadppjncdkpiaa
