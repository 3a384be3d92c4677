/-
  The program's looks at one byte, and how many letters and digits a text begins with.
-/
import Derived.Test.YtdadppjncdkpiaaBytesD
namespace Go.Proofs.Ytdadppjncdkpiaa
open Go.RowKit

set_option maxRecDepth 100000

theorem isLetter_any (n : Int) (w : World) : Calls Try.prog 125 #[.int .u8 n] w fun e w' => e = .returned (.bool (lti n)) ∧ w' = w := by
  unfold lti
  by_cases h1 : 97 ≤ n
  · have d1 : decide (97 ≤ n) = true := by simpa using h1
    go_enter Try.func125, Try.ntmps125
    go_wp2
    go_ret
    exact ⟨by simp [h1], rfl⟩
  · have d1 : decide (97 ≤ n) = false := by simpa using h1
    go_enter Try.func125, Try.ntmps125
    go_wp2
    go_ret
    exact ⟨by simp, rfl⟩

theorem isLetter_is (n : Int) (b : Bool) (h : lti n = b) (w : World) : Calls Try.prog 125 #[.int .u8 n] w fun e w' => e = .returned (.bool b) ∧ w' = w := by
  rw [← h]; exact isLetter_any n w
set_option maxHeartbeats 800000 in
theorem nameLength_any (s : ByteArray) (w : World) (hs : s.size ≤ maxLen) :
    Calls Try.prog 126 #[.string s] w fun e w' => e = .returned (.int .i64 (nameLen s.data.toList)) ∧ w' = w := by
  unfold maxLen at hs
  go_enter Try.func126, Try.ntmps126
  go_wp2
  go_loop [3] (fun i => ∃ k : Nat, k ≤ s.size ∧ i = .int .i64 k ∧ Hid (∀ x ∈ s.data.toList.take k, nmb x = true)) (fun i => s.size - (intOf i).toNat)
  case atStart => exact ⟨0, Nat.zero_le _, rfl, fun x hx => by simp at hx⟩
  case round =>
    obtain ⟨k, hk, rfl, hall⟩ := hrel
    have HL : s.data.toList.length = s.size := by simp
    by_cases hlt : k < s.size
    · have hat := at_data s k hlt
      have HA : Hid (s.data.toList[k]'(by simpa using hlt) = s[k]) := hat
      have HLL : Hid (s.data.toList.length = s.size) := HL
      clear hat HL
      have stay : nmb s[k] = false → nameLen s.data.toList = k := fun hn => takeWhile_len nmb _ k (by rw [HLL.out]; exact hk) hall.out (fun _ => by rw [HA.out]; exact hn)
      have goes : nmb s[k] = true → Hid (∀ x ∈ s.data.toList.take (k + 1), nmb x = true) := fun hn => mem_take_succ (by rw [HLL.out]; exact hlt) hall.out (by rw [HA.out]; exact hn)
      have hnm : nmb s[k] = (lti (s[k].toNat : Int) || dgi (s[k].toNat : Int)) := rfl
      cases hl : lti (s[k].toNat : Int)
      · cases hd : dgi (s[k].toNat : Int)
        · have HF : Hid (nameLen s.data.toList = k) := stay (by rw [hnm, hl, hd]; rfl)
          clear stay goes hnm
          go_wp2_with (first
            | (go_at_call 125; refine (isLetter_is _ false hl _).mono ?_; rintro e w' ⟨rfl, rfl⟩)
            | (go_at_call 137; refine (isDigit_is _ false hd _).mono ?_; rintro e w' ⟨rfl, rfl⟩))
          go_ret
          exact ⟨ret_int (by rw [HF.out]), rfl⟩
        · have HG := goes (by rw [hnm, hl, hd]; rfl)
          clear stay goes hnm
          go_wp2_with (first
            | (go_at_call 125; refine (isLetter_is _ false hl _).mono ?_; rintro e w' ⟨rfl, rfl⟩)
            | (go_at_call 137; refine (isDigit_is _ true hd _).mono ?_; rintro e w' ⟨rfl, rfl⟩))
          go_round
          case rel => exact ⟨k + 1, by omega, by go_num, HG⟩
          case measure => simp [intOf]; omega
      · have HG := goes (by rw [hnm, hl]; rfl)
        clear stay goes hnm
        go_wp2_with (go_at_call 125; refine (isLetter_is _ true hl _).mono ?_; rintro e w' ⟨rfl, rfl⟩)
        go_round
        case rel => exact ⟨k + 1, by omega, by go_num, HG⟩
        case measure => simp [intOf]; omega
    · have HF : Hid (nameLen s.data.toList = k) := takeWhile_len nmb _ k (by rw [HL]; exact hk) hall.out (fun h => absurd h (by rw [HL]; exact hlt))
      clear HL
      go_wp2
      go_ret
      exact ⟨ret_int (by rw [HF.out]), rfl⟩
end Go.Proofs.Ytdadppjncdkpiaa
