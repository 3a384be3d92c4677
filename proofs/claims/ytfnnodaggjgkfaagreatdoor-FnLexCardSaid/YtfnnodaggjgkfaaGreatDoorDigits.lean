/-
  Digits: how many a text begins with, and the number that they say.
-/
import Derived.Test.YtfnnodaggjgkfaaGreatDoorBytesD
namespace Go.Proofs.YtfnnodaggjgkfaaGreatDoor
open Go.RowKit

set_option maxRecDepth 100000

/-- The number that digits say. -/
def digVal (l : List UInt8) : Int := l.foldl (fun n c => n * 10 + ((c.toNat : Int) - 48)) 0

theorem digVal_snoc (l : List UInt8) (c : UInt8) : digVal (l ++ [c]) = digVal l * 10 + ((c.toNat : Int) - 48) := by simp [digVal, List.foldl_append]

theorem digVal_take (l : List UInt8) (k : Nat) (h : k < l.length) : digVal (l.take (k + 1)) = digVal (l.take k) * 10 + ((l[k].toNat : Int) - 48) := by
  rw [List.take_succ_eq_append_getElem h, digVal_snoc]

theorem dgb_t {c : UInt8} (h : dgb c = true) : 48 ≤ (c.toNat : Int) ∧ (c.toNat : Int) ≤ 57 := by simpa [dgb, dgi] using h

theorem digVal_bd (l : List UInt8) : ∀ k, k ≤ l.length → (∀ x ∈ l.take k, dgb x = true) → 0 ≤ digVal (l.take k) ∧ digVal (l.take k) < 10 ^ k
  | 0, _, _ => by simp [digVal]
  | k + 1, hk, h => by
    have hlt : k < l.length := hk
    obtain ⟨h1, h2⟩ := digVal_bd l k (Nat.le_of_lt hlt) (fun x hx => h x (by rw [List.take_succ_eq_append_getElem hlt]; exact List.mem_append_left _ hx))
    have hc := dgb_t (h l[k] (by rw [List.take_succ_eq_append_getElem hlt]; exact List.mem_append_right _ (List.mem_singleton.2 rfl)))
    rw [digVal_take l k hlt, Int.pow_succ]
    omega

/-- Within ten digits all fits. -/
theorem digVal_small (l : List UInt8) (k : Nat) (hk : k ≤ l.length) (h9 : k ≤ 9) (h : ∀ x ∈ l.take k, dgb x = true) : 0 ≤ digVal (l.take k) ∧ digVal (l.take k) < 1000000000 := by
  obtain ⟨h1, h2⟩ := digVal_bd l k hk h
  have : (10 : Int) ^ k ≤ 10 ^ 9 := by
    have h' : (10 : Nat) ^ k ≤ 10 ^ 9 := Nat.pow_le_pow_right (by decide) h9
    exact_mod_cast h'
  exact ⟨h1, by omega⟩

set_option maxHeartbeats 800000 in
theorem digitsLength_any (s : ByteArray) (w : World) (hs : s.size ≤ maxLen) :
    Calls Tryz.prog 54 #[.string s] w fun e w' => e = .returned (.int .i64 (digsLen s.data.toList)) ∧ w' = w := by
  unfold maxLen at hs
  go_enter Tryz.func54, Tryz.ntmps54
  go_wp2
  go_loop [3] (fun i => ∃ k : Nat, k ≤ s.size ∧ i = .int .i64 k ∧ Hid (∀ x ∈ s.data.toList.take k, dgb x = true)) (fun i => s.size - (intOf i).toNat)
  case atStart => exact ⟨0, Nat.zero_le _, rfl, fun x hx => by simp at hx⟩
  case round =>
    obtain ⟨k, hk, rfl, hall⟩ := hrel
    have HL : s.data.toList.length = s.size := by simp
    by_cases hlt : k < s.size
    · have hat := at_data s k hlt
      have HA : Hid (s.data.toList[k]'(by simpa using hlt) = s[k]) := hat
      have HLL : Hid (s.data.toList.length = s.size) := HL
      clear hat HL
      cases hd : dgi (s[k].toNat : Int)
      · have HF : Hid (digsLen s.data.toList = k) := takeWhile_len dgb _ k (by rw [HLL.out]; exact hk) hall.out (fun _ => by rw [HA.out]; exact hd)
        go_wp2_with (go_at_call 47; refine (isDigit_is _ false hd _).mono ?_; rintro e w' ⟨rfl, rfl⟩)
        go_ret
        exact ⟨ret_int (by rw [HF.out]), rfl⟩
      · have HG : Hid (∀ x ∈ s.data.toList.take (k + 1), dgb x = true) := mem_take_succ (by rw [HLL.out]; exact hlt) hall.out (by rw [HA.out]; exact hd)
        go_wp2_with (go_at_call 47; refine (isDigit_is _ true hd _).mono ?_; rintro e w' ⟨rfl, rfl⟩)
        go_round
        case rel => exact ⟨k + 1, by omega, by go_num, HG⟩
        case measure => simp [intOf]; omega
    · have HF : Hid (digsLen s.data.toList = k) := takeWhile_len dgb _ k (by rw [HL]; exact hk) hall.out (fun h => absurd h (by rw [HL]; exact hlt))
      clear HL
      go_wp2
      go_ret
      exact ⟨ret_int (by rw [HF.out]), rfl⟩

/-- What the program's digitsValue answers. -/
def digitsV (s : ByteArray) : Int := if 1 ≤ s.size ∧ s.size ≤ 9 ∧ s.data.toList.all dgb = true then digVal s.data.toList else -1

set_option maxHeartbeats 1600000 in
theorem digitsValue_any (s : ByteArray) (w : World) (hs : s.size ≤ maxLen) :
    Calls Tryz.prog 40 #[.string s] w fun e w' => e = .returned (.int .i64 (digitsV s)) ∧ w' = w := by
  have hs' := hs
  unfold maxLen at hs'
  by_cases h1 : s.size < 1
  · have HE : Hid (digitsV s = -1) := by unfold digitsV; rw [if_neg (by omega)]; rfl
    have h1' : (s.size : Int) < 1 := by omega
    go_enter Tryz.func40, Tryz.ntmps40
    go_wp2
    go_ret
    exact ⟨ret_int HE.out.symm, rfl⟩
  by_cases h9 : 9 < s.size
  · have HE : Hid (digitsV s = -1) := by unfold digitsV; rw [if_neg (by omega)]; rfl
    have h1' : decide ((s.size : Int) < 1) = false := by simp; omega
    have h9' : (9 : Int) < (s.size : Int) := by omega
    go_enter Tryz.func40, Tryz.ntmps40
    go_wp2
    go_ret
    exact ⟨ret_int HE.out.symm, rfl⟩
  have h1' : decide ((s.size : Int) < 1) = false := by simp; omega
  have h9' : decide ((9 : Int) < (s.size : Int)) = false := by simp; omega
  have hfull := takeWhile_full dgb s.data.toList
  have HL : s.data.toList.length = s.size := by simp
  cases ha : s.data.toList.all dgb
  · have hne : (((digsLen s.data.toList : Nat) : Int) != (s.size : Int)) = true := by
      have : ¬ digsLen s.data.toList = s.size := fun e => by rw [← HL] at e; rw [hfull.1 e] at ha; cases ha
      simp; omega
    have HE : Hid (digitsV s = -1) := by unfold digitsV; rw [if_neg (by rw [ha]; simp)]; rfl
    clear HL hfull ha
    go_enter Tryz.func40, Tryz.ntmps40
    go_wp2_with (go_at_call 54; refine (digitsLength_any _ _ hs).mono ?_; rintro e w' ⟨rfl, rfl⟩)
    go_ret
    exact ⟨ret_int HE.out.symm, rfl⟩
  · have hne : (((digsLen s.data.toList : Nat) : Int) != (s.size : Int)) = false := by
      have : digsLen s.data.toList = s.size := by rw [← HL]; exact hfull.2 ha
      simp; omega
    have HE : Hid (digitsV s = digVal s.data.toList) := by unfold digitsV; rw [if_pos ⟨by omega, by omega, ha⟩]; rfl
    have HD : Hid (∀ x ∈ s.data.toList, dgb x = true) := List.all_eq_true.1 ha
    have HLL : Hid (s.data.toList.length = s.size) := HL
    clear HL hfull ha
    go_enter Tryz.func40, Tryz.ntmps40
    go_wp2_with (go_at_call 54; refine (digitsLength_any _ _ hs).mono ?_; rintro e w' ⟨rfl, rfl⟩)
    go_loop [3, 4] (fun n i => ∃ k : Nat, k ≤ s.size ∧ i = .int .i64 k ∧ n = .int .i64 (digVal (s.data.toList.take k))) (fun _ i => s.size - (intOf i).toNat)
    case atStart => exact ⟨0, Nat.zero_le _, rfl, rfl⟩
    case round =>
      obtain ⟨k, hk, rfl, rfl⟩ := hrel
      by_cases hlt : k < s.size
      · have hbd := digVal_small s.data.toList k (by rw [HLL.out]; exact hk) (by omega) (fun x hx => HD.out x (List.mem_of_mem_take hx))
        have hst := digVal_take s.data.toList k (by rw [HLL.out]; exact hlt)
        rw [at_data s k hlt] at hst
        have hc := dgb_t (HD.out s[k] (by rw [← at_data s k hlt]; exact List.getElem_mem _))
        have HS : Hid (digVal (s.data.toList.take (k + 1)) = digVal (s.data.toList.take k) * 10 + ((s[k].toNat : Int) - 48)) := hst
        clear hst
        obtain ⟨b1, b2⟩ := hbd
        obtain ⟨c1, c2⟩ := hc
        generalize digVal (s.data.toList.take k) = n at *
        go_wp2
        go_round
        case rel => exact ⟨k + 1, by omega, by go_num, by rw [HS.out]⟩
        case measure => simp [intOf]; omega
      · have HT : Hid (digVal (s.data.toList.take k) = digVal s.data.toList) := by rw [List.take_of_length_le (by rw [HLL.out]; omega)]; rfl
        go_wp2
        go_ret
        exact ⟨ret_int (by rw [HT.out, HE.out]), rfl⟩
end Go.Proofs.YtfnnodaggjgkfaaGreatDoor
