/-
  The specification's l02Place.
  The specification's look whether a byte is a digit.
  The specification's looks at one byte, and its NameOk.
-/
import Derived.Test.YtkhkmmjollcfaaaGreatDoorMD
import Derived.Test.YtkhkmmjollcfaaaGreatDoorMC
import Derived.Test.YtkhkmmjollcfaaaGreatDoorMM
import Derived.WalkKit
namespace Go.Proofs.YtkhkmmjollcfaaaGreatDoor
open Go.RowKit Go.Joins

set_option maxRecDepth 100000

theorem place_ret {a b : Int} (h : a = b) : Ending.returned (.int .i64 a) = .returned (.int .i64 b) := by rw [h]

set_option maxHeartbeats 1600000 in
theorem l02Place_any (v : Value) (ts : List ByteArray) (s : ByteArray) (S : Nat → Prop) (w : World) (h : StrsAt w S v ts) :
    Calls Tryz.prog 18 #[v, .string s] w fun e w' => e = .returned (.int .i64 (lastN ts s ts.length)) ∧ w' = w := by
  obtain ⟨a, cap, rfl, hl, hc⟩ := h
  unfold maxLen at hl
  have HC := (show Hid (_ ∧ True) from ⟨hc, trivial⟩)
  clear hc
  go_enter Tryz.func18, Tryz.ntmps18
  go_wp2
  go_loop [5, 6] (fun p i => ∃ k : Nat, k ≤ ts.length ∧ i = .int .i64 k ∧ p = .int .i64 (lastN ts s k)) (fun _ i => ts.length - (intOf i).toNat)
  case atStart => exact ⟨0, Nat.zero_le _, rfl, rfl⟩
  case round =>
    obtain ⟨k, hk, rfl, rfl⟩ := hrel
    by_cases hlt : k < ts.length
    · have he := List.getElem?_eq_getElem hlt
      have hst : lastN ts s (k + 1) = if (ts[k].toList == s.toList) = true then (k : Int) else lastN ts s k := by
        rw [lastN]; simp [List.getD, he]
      have HS := (show Hid (_ ∧ True) from ⟨hst, trivial⟩)
      clear hst
      generalize ts[k] = x at *
      obtain ⟨b, off, rfl, -, hl1, c0, -⟩ := HC.out.1 k x he
      clear he HC
      cases hx : (x.toList == s.toList)
      · go_wp2
        go_round
        case rel => exact ⟨k + 1, by omega, by go_num, by rw [HS.out.1, hx]; simp⟩
        case measure => simp [intOf]; omega
      · go_wp2
        go_round
        case rel => exact ⟨k + 1, by omega, by go_num, by rw [HS.out.1, hx]; simp⟩
        case measure => simp [intOf]; omega
    · obtain rfl : k = ts.length := by omega
      clear HC
      go_wp2
      go_ret
      exact ⟨rfl, rfl⟩
end Go.Proofs.YtkhkmmjollcfaaaGreatDoor

namespace Go.Proofs.YtkhkmmjollcfaaaGreatDoor
open Go.RowKit

set_option maxRecDepth 100000

theorem specDigit_is (n : Int) (b : Bool) (h0 : 0 ≤ n) (h9 : n ≤ 255) (h : dgi n = b) (w : World) : Calls Tryz.prog 45 #[.int .u8 n] w fun e w' => e = .returned (.bool b) ∧ w' = w := by
  have h' : inB n 48 57 = b := h
  go_enter Tryz.func45, Tryz.ntmps45
  go_wp2_with (go_at_call 20; refine (specIn_is _ _ _ _ h' _).mono ?_; rintro e w' ⟨rfl, rfl⟩)
  go_ret
  exact ⟨rfl, rfl⟩

end Go.Proofs.YtkhkmmjollcfaaaGreatDoor

namespace Go.Proofs.YtkhkmmjollcfaaaGreatDoor
open Go.RowKit Go.Maps Go.Joins Go.WideMaps

set_option maxRecDepth 100000

theorem specLetter_is (n : Int) (b : Bool) (h0 : 0 ≤ n) (h9 : n ≤ 255) (h : lti n = b) (w : World) : Calls Tryz.prog 44 #[.int .u8 n] w fun e w' => e = .returned (.bool b) ∧ w' = w := by
  have h' : inB n 97 122 = b := h
  go_enter Tryz.func44, Tryz.ntmps44
  go_wp2_with (go_at_call 20; refine (specIn_is _ _ _ _ h' _).mono ?_; rintro e w' ⟨rfl, rfl⟩)
  go_ret
  exact ⟨rfl, rfl⟩

theorem name_bad0 (s : ByteArray) (h : 0 < s.size) (hl : lti (s[0].toNat : Int) = false) : nameOk s = false := by
  have e : ltb (s.data.toList.getD 0 0) = false := by rw [nameOk_first s h]; exact hl
  simp only [nameOk, e, Bool.and_false, Bool.false_and]
theorem name_bad (s : ByteArray) (k : Nat) (h : k < s.size) (hl : lti (s[k].toNat : Int) = false) (hd : dgi (s[k].toNat : Int) = false) : nameOk s = false := by
  have e : s.data.toList.all nmb = false := by
    rw [List.all_eq_false]
    refine ⟨s[k], ?_, by simp [nmb, ltb, dgb, hl, hd]⟩
    rw [← at_data s k h]
    exact List.getElem_mem _
  simp only [nameOk, e, Bool.and_false, Bool.false_and]
theorem name_fin (s : ByteArray) (h0 : 0 < s.size → ltb (s.data.toList.getD 0 0) = true) (h : ∀ x ∈ s.data.toList, nmb x = true) : nameOk s = (inB (s.size : Int) 1 8 && !isW s) := by
  have e : s.data.toList.all nmb = true := List.all_eq_true.2 h
  have c1 : inB (s.size : Int) 1 8 = (decide (1 ≤ s.size) && decide (s.size ≤ 8)) := by
    unfold inB
    congr 1
    · exact decide_eq_decide.2 (by omega)
    · exact decide_eq_decide.2 (by omega)
  rw [c1]
  by_cases hz : 0 < s.size
  · simp only [nameOk, e, h0 hz, Bool.and_true]
  · have : decide (1 ≤ s.size) = false := by simpa using hz
    simp only [nameOk, this, Bool.false_and]

set_option maxHeartbeats 800000 in
theorem specNameOk_any (s : ByteArray) (w : World) (hs : s.size ≤ maxLen) :
    Calls Tryz.prog 32 #[.string s] w fun e w' => e = .returned (.bool (nameOk s)) ∧ Below w.heap.size w w' := by
  have hnot := hn_not
  unfold maxLen at hs
  go_enter Tryz.func32, Tryz.ntmps32
  go_wp2
  go_loop [3] (fun i => ∃ k : Nat, k ≤ s.size ∧ i = .int .i64 k ∧ Hid ((0 < k → ltb (s.data.toList.getD 0 0) = true) ∧ ∀ x ∈ s.data.toList.take k, nmb x = true)) (fun i => s.size - (intOf i).toNat)
  case atStart => exact ⟨0, Nat.zero_le _, rfl, fun h => absurd h (Nat.lt_irrefl 0), fun x hx => by simp at hx⟩
  case round =>
    obtain ⟨k, hk, rfl, hall⟩ := hrel
    have HL : s.data.toList.length = s.size := by simp
    by_cases hlt : k < s.size
    · have b0 : (0 : Int) ≤ (s[k].toNat : Int) := by omega
      have b9 : (s[k].toNat : Int) ≤ 255 := by have := UInt8.toNat_lt s[k]; omega
      have HLL : Hid (s.data.toList.length = s.size) := HL
      clear HL
      have next : (k = 0 → lti (s[k].toNat : Int) = true) → nmb s[k] = true → Hid ((0 < k + 1 → ltb (s.data.toList.getD 0 0) = true) ∧ ∀ x ∈ s.data.toList.take (k + 1), nmb x = true) := fun hz hn =>
        ⟨fun _ => by
          by_cases e : k = 0
          · subst e; rw [nameOk_first s hlt]; exact hz rfl
          · exact hall.out.1 (by omega),
        mem_take_succ (by rw [HLL.out]; exact hlt) hall.out.2 (by rw [at_data s k hlt]; exact hn)⟩
      cases hl : lti (s[k].toNat : Int)
      · by_cases hk0 : k = 0
        · subst hk0
          have HF : Hid (nameOk s = false) := name_bad0 s hlt hl
          clear next
          go_wp2_with (go_at_call 44; refine (specLetter_is _ false b0 b9 hl _).mono ?_; rintro e w' ⟨rfl, rfl⟩)
          go_ret
          exact ⟨by rw [HF.out]; rfl, Below.refl _ _⟩
        · have hkb : ((k : Int) == 0) = false := by simp; omega
          cases hd : dgi (s[k].toNat : Int)
          · have HF : Hid (nameOk s = false) := name_bad s k hlt hl hd
            clear next
            go_wp2_with (first
              | (go_at_call 44; refine (specLetter_is _ false b0 b9 hl _).mono ?_; rintro e w' ⟨rfl, rfl⟩)
              | (go_at_call 45; refine (specDigit_is _ false b0 b9 hd _).mono ?_; rintro e w' ⟨rfl, rfl⟩))
            go_ret
            exact ⟨by rw [HF.out]; rfl, Below.refl _ _⟩
          · have HG := next (fun e => absurd e hk0) (by simp [nmb, ltb, dgb, hd])
            clear next
            go_wp2_with (first
              | (go_at_call 44; refine (specLetter_is _ false b0 b9 hl _).mono ?_; rintro e w' ⟨rfl, rfl⟩)
              | (go_at_call 45; refine (specDigit_is _ true b0 b9 hd _).mono ?_; rintro e w' ⟨rfl, rfl⟩))
            go_round
            case rel => exact ⟨k + 1, by omega, by go_num, HG⟩
            case measure => simp [intOf]; omega
      · have HG := next (fun _ => hl) (by simp [nmb, ltb, hl])
        clear next
        go_wp2_with (go_at_call 44; refine (specLetter_is _ true b0 b9 hl _).mono ?_; rintro e w' ⟨rfl, rfl⟩)
        go_round
        case rel => exact ⟨k + 1, by omega, by go_num, HG⟩
        case measure => simp [intOf]; omega
    · have e : k = s.size := by omega
      have hfin := name_fin s (fun h => hall.out.1 (by omega)) (fun x hx => hall.out.2 x (by rw [List.take_of_length_le (by omega)]; exact hx))
      have HF : Hid (nameOk s = (inB (s.size : Int) 1 8 && !isW s)) := hfin
      clear hfin HL
      cases hi : inB (s.size : Int) 1 8
      · go_wp2_with (go_at_call 20; refine (specIn_is _ _ _ _ hi _).mono ?_; rintro e w' ⟨rfl, rfl⟩)
        go_ret
        exact ⟨by rw [HF.out, hi]; rfl, Below.refl _ _⟩
      · go_wp2_with (first
          | (go_at_call 20; refine (specIn_is _ _ _ _ hi _).mono ?_; rintro e w' ⟨rfl, rfl⟩)
          | (go_at_call 46; refine (specIsWord_any s _).mono ?_; rintro e w1 ⟨rfl, hb⟩))
        go_ret
        exact ⟨by rw [HF.out, hi]; rfl, hb⟩
end Go.Proofs.YtkhkmmjollcfaaaGreatDoor
