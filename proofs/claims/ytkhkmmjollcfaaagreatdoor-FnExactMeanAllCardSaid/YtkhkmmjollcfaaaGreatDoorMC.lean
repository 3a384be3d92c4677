/-
  Plain definitions and lemmas on bytes and lists: letters, digits, names.
  The program's look whether a byte is a digit.
  The program's looks at one byte, and how many letters and digits a text begins with.
-/
import Derived.Test.YtkhkmmjollcfaaaGreatDoorRows
import Derived.WalkKit
namespace Go.Proofs.YtkhkmmjollcfaaaGreatDoor

set_option maxRecDepth 100000

/-- A small letter, a digit, by number. -/
def lti (n : Int) : Bool := decide (97 ≤ n) && decide (n ≤ 122)
def dgi (n : Int) : Bool := decide (48 ≤ n) && decide (n ≤ 57)
/-- .. by byte. -/
def ltb (c : UInt8) : Bool := lti c.toNat
def dgb (c : UInt8) : Bool := dgi c.toNat
def nmb (c : UInt8) : Bool := ltb c || dgb c

theorem takeWhile_len {α : Type} (p : α → Bool) : ∀ (l : List α) (k : Nat), k ≤ l.length → (∀ x ∈ l.take k, p x = true) → (∀ h : k < l.length, p l[k] = false) → (l.takeWhile p).length = k
  | [], k, hk, _, _ => by simp at hk; simp [hk]
  | a :: r, 0, _, _, he => by
    have := he (by simp)
    simp at this
    simp [this]
  | a :: r, k + 1, hk, h, he => by
    have ha : p a = true := h a (by simp)
    rw [List.takeWhile_cons, if_pos ha, List.length_cons, takeWhile_len p r k (by simpa using hk) (fun x hx => h x (by simp [hx])) (fun hh => he (Nat.succ_lt_succ hh))]

theorem takeWhile_len_le {α : Type} (p : α → Bool) (l : List α) : (l.takeWhile p).length ≤ l.length := (List.takeWhile_sublist p).length_le

theorem takeWhile_full {α : Type} (p : α → Bool) : ∀ l : List α, ((l.takeWhile p).length = l.length) ↔ l.all p = true
  | [] => by simp
  | a :: r => by
    by_cases h : p a = true
    · rw [List.takeWhile_cons, if_pos h, List.length_cons, List.length_cons, List.all_cons, h, Bool.true_and, ← takeWhile_full p r]; omega
    · rw [List.takeWhile_cons, if_neg h]; simp [h]

theorem mem_take_succ {α : Type} {l : List α} {k : Nat} (h : k < l.length) {P : α → Prop} (h1 : ∀ x ∈ l.take k, P x) (h2 : P l[k]) : ∀ x ∈ l.take (k + 1), P x := by
  intro x hx
  rw [List.take_succ_eq_append_getElem h] at hx
  rcases List.mem_append.1 hx with hx | hx
  · exact h1 x hx
  · rw [List.mem_singleton.1 hx]; exact h2

/-- How many letters and digits a text begins with. -/
def nameLen (l : List UInt8) : Nat := (l.takeWhile nmb).length
def digsLen (l : List UInt8) : Nat := (l.takeWhile dgb).length

theorem at_data (s : ByteArray) (k : Nat) (h : k < s.size) : s.data.toList[k]'(by simpa using h) = s[k] := rfl

end Go.Proofs.YtkhkmmjollcfaaaGreatDoor

namespace Go.Proofs.YtkhkmmjollcfaaaGreatDoor
open Go.RowKit

set_option maxRecDepth 100000

theorem lti_t {n : Int} (h : lti n = true) : 97 ≤ n ∧ n ≤ 122 := by simpa [lti] using h
theorem dgi_t {n : Int} (h : dgi n = true) : 48 ≤ n ∧ n ≤ 57 := by simpa [dgi] using h

theorem isDigit_any (n : Int) (w : World) : Calls Tryz.prog 89 #[.int .u8 n] w fun e w' => e = .returned (.bool (dgi n)) ∧ w' = w := by
  unfold dgi
  by_cases h1 : 48 ≤ n
  · have d1 : decide (48 ≤ n) = true := by simpa using h1
    go_enter Tryz.func89, Tryz.ntmps89
    go_wp2
    go_ret
    exact ⟨by simp [h1], rfl⟩
  · have d1 : decide (48 ≤ n) = false := by simpa using h1
    go_enter Tryz.func89, Tryz.ntmps89
    go_wp2
    go_ret
    exact ⟨by simp, rfl⟩

theorem isDigit_is (n : Int) (b : Bool) (h : dgi n = b) (w : World) : Calls Tryz.prog 89 #[.int .u8 n] w fun e w' => e = .returned (.bool b) ∧ w' = w := by
  rw [← h]; exact isDigit_any n w

theorem ret_int {k : IntKind} {a b : Int} (h : a = b) : Ending.returned (.int k a) = .returned (.int k b) := by rw [h]

end Go.Proofs.YtkhkmmjollcfaaaGreatDoor

namespace Go.Proofs.YtkhkmmjollcfaaaGreatDoor
open Go.RowKit

set_option maxRecDepth 100000

theorem isLetter_any (n : Int) (w : World) : Calls Tryz.prog 82 #[.int .u8 n] w fun e w' => e = .returned (.bool (lti n)) ∧ w' = w := by
  unfold lti
  by_cases h1 : 97 ≤ n
  · have d1 : decide (97 ≤ n) = true := by simpa using h1
    go_enter Tryz.func82, Tryz.ntmps82
    go_wp2
    go_ret
    exact ⟨by simp [h1], rfl⟩
  · have d1 : decide (97 ≤ n) = false := by simpa using h1
    go_enter Tryz.func82, Tryz.ntmps82
    go_wp2
    go_ret
    exact ⟨by simp, rfl⟩

theorem isLetter_is (n : Int) (b : Bool) (h : lti n = b) (w : World) : Calls Tryz.prog 82 #[.int .u8 n] w fun e w' => e = .returned (.bool b) ∧ w' = w := by
  rw [← h]; exact isLetter_any n w
set_option maxHeartbeats 800000 in
theorem nameLength_any (s : ByteArray) (w : World) (hs : s.size ≤ maxLen) :
    Calls Tryz.prog 83 #[.string s] w fun e w' => e = .returned (.int .i64 (nameLen s.data.toList)) ∧ w' = w := by
  unfold maxLen at hs
  go_enter Tryz.func83, Tryz.ntmps83
  go_wp2
  go_loop [3] (fun i => ∃ k : Nat, k ≤ s.size ∧ i = .int .i64 k ∧ Hid (∀ x ∈ s.data.toList.take k, nmb x = true)) (fun i => s.size - (intOf i).toNat)
  case atStart => exact ⟨0, Nat.zero_le _, rfl, fun x hx => by simp at hx⟩
  case round =>
    obtain ⟨k, hk, rfl, hall⟩ := hrel
    have HL : s.data.toList.length = s.size := by simp
    by_cases hlt : k < s.size
    · have hat := at_data s k hlt
      have HA : Hid (s.data.toList[k]'(by simpa using hlt) = s[k]) := hat
      have HLL : Hid (s.data.toList.length = s.size) := HL
      clear hat HL
      have stay : nmb s[k] = false → nameLen s.data.toList = k := fun hn => takeWhile_len nmb _ k (by rw [HLL.out]; exact hk) hall.out (fun _ => by rw [HA.out]; exact hn)
      have goes : nmb s[k] = true → Hid (∀ x ∈ s.data.toList.take (k + 1), nmb x = true) := fun hn => mem_take_succ (by rw [HLL.out]; exact hlt) hall.out (by rw [HA.out]; exact hn)
      have hnm : nmb s[k] = (lti (s[k].toNat : Int) || dgi (s[k].toNat : Int)) := rfl
      cases hl : lti (s[k].toNat : Int)
      · cases hd : dgi (s[k].toNat : Int)
        · have HF : Hid (nameLen s.data.toList = k) := stay (by rw [hnm, hl, hd]; rfl)
          clear stay goes hnm
          go_wp2_with (first
            | (go_at_call 82; refine (isLetter_is _ false hl _).mono ?_; rintro e w' ⟨rfl, rfl⟩)
            | (go_at_call 89; refine (isDigit_is _ false hd _).mono ?_; rintro e w' ⟨rfl, rfl⟩))
          go_ret
          exact ⟨ret_int (by rw [HF.out]), rfl⟩
        · have HG := goes (by rw [hnm, hl, hd]; rfl)
          clear stay goes hnm
          go_wp2_with (first
            | (go_at_call 82; refine (isLetter_is _ false hl _).mono ?_; rintro e w' ⟨rfl, rfl⟩)
            | (go_at_call 89; refine (isDigit_is _ true hd _).mono ?_; rintro e w' ⟨rfl, rfl⟩))
          go_round
          case rel => exact ⟨k + 1, by omega, by go_num, HG⟩
          case measure => simp [intOf]; omega
      · have HG := goes (by rw [hnm, hl]; rfl)
        clear stay goes hnm
        go_wp2_with (go_at_call 82; refine (isLetter_is _ true hl _).mono ?_; rintro e w' ⟨rfl, rfl⟩)
        go_round
        case rel => exact ⟨k + 1, by omega, by go_num, HG⟩
        case measure => simp [intOf]; omega
    · have HF : Hid (nameLen s.data.toList = k) := takeWhile_len nmb _ k (by rw [HL]; exact hk) hall.out (fun h => absurd h (by rw [HL]; exact hlt))
      clear HL
      go_wp2
      go_ret
      exact ⟨ret_int (by rw [HF.out]), rfl⟩
end Go.Proofs.YtkhkmmjollcfaaaGreatDoor
