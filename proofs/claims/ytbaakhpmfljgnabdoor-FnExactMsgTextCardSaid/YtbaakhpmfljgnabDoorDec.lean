/-
  The specification's DecText: a number's text is the decimal numeral.
-/
import Derived.Test.YtbaakhpmfljgnabDoorRows
import Derived.WalkKit
import Derived.Lib.ItoaNum
import Derived.Lib.Strings
namespace Go.Proofs.YtbaakhpmfljgnabDoor
open Go.RowKit

set_option maxRecDepth 100000

def digs10 : ByteArray := ⟨#[48, 49, 50, 51, 52, 53, 54, 55, 56, 57]⟩
theorem dig_ext : ∀ d, d < 10 → (⟨#[48, 49, 50, 51, 52, 53, 54, 55, 56, 57]⟩ : ByteArray).extract d (d + 1) = ⟨#[UInt8.ofNat (48 + d)]⟩ := by decide

def decN (a : Nat) : List UInt8 := if a = 0 then [] else Lib.decDigits a
theorem decN_step (a : Nat) (h : 0 < a) : decN a = decN (a / 10) ++ [UInt8.ofNat (48 + a % 10)] := by
  unfold decN
  rw [if_neg (by omega)]
  by_cases h10 : a < 10
  · rw [if_pos (by omega), Lib.decDigits, dif_pos h10, Nat.mod_eq_of_lt h10]; rfl
  · rw [if_neg (by omega), Lib.decDigits, dif_neg h10]

theorem dcat_cons (c : UInt8) (l : List UInt8) : (⟨#[c]⟩ ++ ⟨l.toArray⟩ : ByteArray) = ⟨(c :: l).toArray⟩ := by
  apply ByteArray.ext
  simp [ByteArray.data_append]

theorem dig_slice (d : Nat) (hd : d < 10) (w : World) : (Instr.slice 9 (.string ⟨#[48, 49, 50, 51, 52, 53, 54, 55, 56, 57]⟩) (some (.int .i64 (d : Int))) (some (.int .i64 ((d : Int) + 1))) none).run Tryd.prog w = .ok (.string ⟨#[UInt8.ofNat (48 + d)]⟩) w := by
  have h := run_slice_string (P := Tryd.prog) w 9 ⟨#[48, 49, 50, 51, 52, 53, 54, 55, 56, 57]⟩ .i64 .i64 (d : Int) ((d : Int) + 1) Tryd.underlying9 (by omega) (by omega) (by show _ ≤ ((10 : Nat) : Int); omega)
  rw [show (d : Int).toNat = d by omega, show ((d : Int) + 1).toNat = d + 1 by omega, dig_ext d hd] at h
  exact h

theorem ret_str {a b : ByteArray} (h : a = b) : Ending.returned (.string a) = .returned (.string b) := by rw [h]

theorem dec_len : ∀ (k n : Nat), n < 10 ^ (k + 1) → (Lib.decDigits n).length ≤ k + 1
  | 0, n, h => by rw [Lib.decDigits, dif_pos (by simpa using h)]; simp
  | k + 1, n, h => by
    by_cases h10 : n < 10
    · rw [Lib.decDigits, dif_pos h10]; simp
    · rw [Lib.decDigits, dif_neg h10, List.length_append, List.length_singleton]
      have := dec_len k (n / 10) (by rw [Nat.pow_succ] at h; omega)
      omega
theorem dec_len20 (n : Nat) (h : n ≤ 9223372036854775808) : (Lib.decDigits n).length ≤ 20 := dec_len 19 n (by have : (10 : Nat) ^ (19 + 1) = 100000000000000000000 := (by decide); omega)
theorem acc_len {a n : Nat} {acc : List UInt8} (h : decN a ++ acc = Lib.decDigits n) (hl : (Lib.decDigits n).length ≤ 20) : acc.length ≤ 20 := by
  rw [← h, List.length_append] at hl
  omega
theorem int_eq' {a b : Int} (h : a = b) : Value.int .i64 a = .int .i64 b := by rw [h]

set_option maxHeartbeats 1600000 in
theorem specDec_pos (n : Nat) (w : World) (h0 : 0 < n) (h1 : (n : Int) ≤ 9223372036854775807) :
    Calls Tryd.prog 11 #[.int .i64 n] w fun e w' => e = .returned (.string ⟨(Lib.decDigits n).toArray⟩) ∧ w' = w := by
  have hz : ((n : Int) == 0) = false := by simp; omega
  have hneg : ¬ (n : Int) < 0 := by omega
  go_enter Tryd.func11, Tryd.ntmps11
  go_wp2
  go_loop [3, 4] (fun t m => ∃ (a : Nat) (acc : List UInt8), acc.length + a ≤ n ∧ t = .string ⟨acc.toArray⟩ ∧ m = .int .i64 a ∧ Hid (decN a ++ acc = Lib.decDigits n)) (fun _ m => (intOf m).toNat)
  case atStart => exact ⟨n, [], by simp, rfl, rfl, by show decN n ++ [] = _; unfold decN; rw [if_neg (by omega), List.append_nil]⟩
  case round =>
    obtain ⟨a, acc, han, rfl, rfl, hinv⟩ := hrel
    by_cases ha : 0 < a
    · have hst := decN_step a ha
      have hinv2 : Hid (decN (a / 10) ++ (UInt8.ofNat (48 + a % 10) :: acc) = Lib.decDigits n) := by
        have := hinv.out
        rw [hst, List.append_assoc] at this
        exact this
      have hsl := dig_slice (a % 10) (by omega)
      rw [show ((a % 10 : Nat) : Int) = (a : Int) % 10 by omega] at hsl
      have hne : ((a : Int) != 0) = true := by simp; omega
      generalize UInt8.ofNat (48 + a % 10) = c at hsl hinv2
      clear hst
      go_wp2
      go_round
      case rel => exact ⟨a / 10, c :: acc, by simp; omega, by rw [dcat_cons], by go_num, hinv2⟩
      case measure => simp [intOf]; omega
    · obtain rfl : a = 0 := by omega
      have HF : Hid (acc = Lib.decDigits n) := hinv.out
      go_wp2
      go_ret
      exact ⟨ret_str (by rw [HF.out]), rfl⟩

set_option maxHeartbeats 1600000 in
theorem specDec_neg (n : Nat) (w : World) (h0 : 0 < n) (h1 : (n : Int) ≤ 9223372036854775808) :
    Calls Tryd.prog 11 #[.int .i64 (-(n : Int))] w fun e w' => e = .returned (.string ⟨(45 :: Lib.decDigits n).toArray⟩) ∧ w' = w := by
  have hz : ((-(n : Int)) == 0) = false := by simp; omega
  have hneg : (-(n : Int)) < 0 := by omega
  have hlen := dec_len20 n (by omega)
  go_enter Tryd.func11, Tryd.ntmps11
  go_wp2
  go_loop [3, 4] (fun t m => ∃ (a : Nat) (acc : List UInt8), acc.length + a ≤ n ∧ t = .string ⟨acc.toArray⟩ ∧ m = .int .i64 (-(a : Int)) ∧ Hid (decN a ++ acc = Lib.decDigits n)) (fun _ m => (intOf m).natAbs)
  case atStart => exact ⟨n, [], by simp, rfl, rfl, by show decN n ++ [] = _; unfold decN; rw [if_neg (by omega), List.append_nil]⟩
  case round =>
    obtain ⟨a, acc, han, rfl, rfl, hinv⟩ := hrel
    by_cases ha : 0 < a
    · have hst := decN_step a ha
      have hinv2 : Hid (decN (a / 10) ++ (UInt8.ofNat (48 + a % 10) :: acc) = Lib.decDigits n) := by
        have := hinv.out
        rw [hst, List.append_assoc] at this
        exact this
      have hsl := dig_slice (a % 10) (by omega)
      rw [show ((a % 10 : Nat) : Int) = (a : Int) % 10 by omega] at hsl
      have hne : ((-(a : Int)) != 0) = true := by simp; omega
      have hal : acc.length ≤ 20 := acc_len hinv.out hlen
      by_cases hm : a % 10 = 0
      · have hsl0 : ∀ w, (Instr.slice 9 (.string ⟨#[48, 49, 50, 51, 52, 53, 54, 55, 56, 57]⟩) (some (.int .i64 (-((a : Int) % 10)))) (some (.int .i64 (-((a : Int) % 10) + 1))) none).run Tryd.prog w = .ok (.string ⟨#[UInt8.ofNat (48 + a % 10)]⟩) w := fun w => by
          have h := hsl w
          rw [show -((a : Int) % 10) = (a : Int) % 10 by omega]
          exact h
        have hmi : ¬ (0 : Int) < (a : Int) % 10 := by omega
        generalize UInt8.ofNat (48 + a % 10) = c at hsl0 hinv2
        clear hst hsl
        go_wp2
        go_round
        case rel => exact ⟨a / 10, c :: acc, by simp; omega, by rw [dcat_cons], int_eq' (by omega), hinv2⟩
        case measure => simp [intOf]; omega
      · have hmi : (0 : Int) < (a : Int) % 10 := by omega
        generalize UInt8.ofNat (48 + a % 10) = c at hsl hinv2
        clear hst
        go_wp2
        go_round
        case rel => exact ⟨a / 10, c :: acc, by simp; omega, by rw [dcat_cons], int_eq' (by omega), hinv2⟩
        case measure => simp [intOf]; omega
    · obtain rfl : a = 0 := by omega
      have HF : Hid (acc = Lib.decDigits n) := hinv.out
      have hal : acc.length ≤ 20 := acc_len hinv.out hlen
      go_wp2
      go_ret
      exact ⟨ret_str (by rw [dcat_cons, HF.out]), rfl⟩

theorem specDec_any (n : Int) (w : World) (h0 : -9223372036854775808 ≤ n) (h1 : n ≤ 9223372036854775807) :
    Calls Tryd.prog 11 #[.int .i64 n] w fun e w' => e = .returned (.string ⟨(Lib.itoa n).toArray⟩) ∧ w' = w := by
  rcases Int.lt_trichotomy n 0 with h | h | h
  · obtain ⟨k, hk⟩ : ∃ k : Nat, n = -(k : Int) := ⟨n.natAbs, by omega⟩
    subst hk
    have e : Lib.itoa (-(k : Int)) = 45 :: Lib.decDigits k := by unfold Lib.itoa; rw [if_pos h]; simp
    rw [e]
    exact specDec_neg k w (by omega) (by omega)
  · subst h
    have e : Lib.itoa 0 = [48] := by decide +kernel
    rw [e]
    go_enter Tryd.func11, Tryd.ntmps11
    go_wp2
    go_ret
    exact ⟨rfl, rfl⟩
  · obtain ⟨k, rfl⟩ := Int.eq_ofNat_of_zero_le (show 0 ≤ n by omega)
    have e : Lib.itoa (k : Int) = Lib.decDigits k := by unfold Lib.itoa; rw [if_neg (by omega)]; simp
    rw [e]
    exact specDec_pos k w (by omega) (by omega)
end Go.Proofs.YtbaakhpmfljgnabDoor
