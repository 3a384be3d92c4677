/-
  The specification's DecText: a number's text is the decimal numeral.
  The specification's line of numbers, a blank ahead of each.
  The specification's CellText.
-/
import Derived.Test.YtkfmkhhjkioeoaaGreatDoorRows
import Derived.WalkKit
import Derived.Lib.ItoaNum
import Derived.Lib.Strings
import Derived.Test.YtkfmkhhjkioeoaaGreatDoorMA
import Derived.Test.YtkfmkhhjkioeoaaGreatDoorME
import Derived.Test.YtkfmkhhjkioeoaaGreatDoorMD
import Derived.BigQuiet
import Derived.Deep.QuietTactic
namespace Go.Proofs.YtkfmkhhjkioeoaaGreatDoor
open Go.RowKit

set_option maxRecDepth 100000

def digs10 : ByteArray := ⟨#[48, 49, 50, 51, 52, 53, 54, 55, 56, 57]⟩
theorem dig_ext : ∀ d, d < 10 → (⟨#[48, 49, 50, 51, 52, 53, 54, 55, 56, 57]⟩ : ByteArray).extract d (d + 1) = ⟨#[UInt8.ofNat (48 + d)]⟩ := by decide

def decN (a : Nat) : List UInt8 := if a = 0 then [] else Lib.decDigits a
theorem decN_step (a : Nat) (h : 0 < a) : decN a = decN (a / 10) ++ [UInt8.ofNat (48 + a % 10)] := by
  unfold decN
  rw [if_neg (by omega)]
  by_cases h10 : a < 10
  · rw [if_pos (by omega), Lib.decDigits, dif_pos h10, Nat.mod_eq_of_lt h10]; rfl
  · rw [if_neg (by omega), Lib.decDigits, dif_neg h10]

theorem dcat_cons (c : UInt8) (l : List UInt8) : (⟨#[c]⟩ ++ ⟨l.toArray⟩ : ByteArray) = ⟨(c :: l).toArray⟩ := by
  apply ByteArray.ext
  simp [ByteArray.data_append]

theorem dig_slice (d : Nat) (hd : d < 10) (w : World) : (Instr.slice 9 (.string ⟨#[48, 49, 50, 51, 52, 53, 54, 55, 56, 57]⟩) (some (.int .i64 (d : Int))) (some (.int .i64 ((d : Int) + 1))) none).run Tryz.prog w = .ok (.string ⟨#[UInt8.ofNat (48 + d)]⟩) w := by
  have h := run_slice_string (P := Tryz.prog) w 9 ⟨#[48, 49, 50, 51, 52, 53, 54, 55, 56, 57]⟩ .i64 .i64 (d : Int) ((d : Int) + 1) Tryz.underlying9 (by omega) (by omega) (by show _ ≤ ((10 : Nat) : Int); omega)
  rw [show (d : Int).toNat = d by omega, show ((d : Int) + 1).toNat = d + 1 by omega, dig_ext d hd] at h
  exact h

theorem ret_str {a b : ByteArray} (h : a = b) : Ending.returned (.string a) = .returned (.string b) := by rw [h]

theorem dec_len : ∀ (k n : Nat), n < 10 ^ (k + 1) → (Lib.decDigits n).length ≤ k + 1
  | 0, n, h => by rw [Lib.decDigits, dif_pos (by simpa using h)]; simp
  | k + 1, n, h => by
    by_cases h10 : n < 10
    · rw [Lib.decDigits, dif_pos h10]; simp
    · rw [Lib.decDigits, dif_neg h10, List.length_append, List.length_singleton]
      have := dec_len k (n / 10) (by rw [Nat.pow_succ] at h; omega)
      omega
theorem dec_len20 (n : Nat) (h : n ≤ 9223372036854775808) : (Lib.decDigits n).length ≤ 20 := dec_len 19 n (by have : (10 : Nat) ^ (19 + 1) = 100000000000000000000 := (by decide); omega)
theorem acc_len {a n : Nat} {acc : List UInt8} (h : decN a ++ acc = Lib.decDigits n) (hl : (Lib.decDigits n).length ≤ 20) : acc.length ≤ 20 := by
  rw [← h, List.length_append] at hl
  omega
theorem int_eq' {a b : Int} (h : a = b) : Value.int .i64 a = .int .i64 b := by rw [h]

set_option maxHeartbeats 1600000 in
theorem specDec_pos (n : Nat) (w : World) (h0 : 0 < n) (h1 : (n : Int) ≤ 9223372036854775807) :
    Calls Tryz.prog 56 #[.int .i64 n] w fun e w' => e = .returned (.string ⟨(Lib.decDigits n).toArray⟩) ∧ w' = w := by
  have hz : ((n : Int) == 0) = false := by simp; omega
  have hneg : ¬ (n : Int) < 0 := by omega
  go_enter Tryz.func56, Tryz.ntmps56
  go_wp2
  go_loop [3, 4] (fun t m => ∃ (a : Nat) (acc : List UInt8), acc.length + a ≤ n ∧ t = .string ⟨acc.toArray⟩ ∧ m = .int .i64 a ∧ Hid (decN a ++ acc = Lib.decDigits n)) (fun _ m => (intOf m).toNat)
  case atStart => exact ⟨n, [], by simp, rfl, rfl, by show decN n ++ [] = _; unfold decN; rw [if_neg (by omega), List.append_nil]⟩
  case round =>
    obtain ⟨a, acc, han, rfl, rfl, hinv⟩ := hrel
    by_cases ha : 0 < a
    · have hst := decN_step a ha
      have hinv2 : Hid (decN (a / 10) ++ (UInt8.ofNat (48 + a % 10) :: acc) = Lib.decDigits n) := by
        have := hinv.out
        rw [hst, List.append_assoc] at this
        exact this
      have hsl := dig_slice (a % 10) (by omega)
      rw [show ((a % 10 : Nat) : Int) = (a : Int) % 10 by omega] at hsl
      have hne : ((a : Int) != 0) = true := by simp; omega
      generalize UInt8.ofNat (48 + a % 10) = c at hsl hinv2
      clear hst
      go_wp2
      go_round
      case rel => exact ⟨a / 10, c :: acc, by simp; omega, by rw [dcat_cons], by go_num, hinv2⟩
      case measure => simp [intOf]; omega
    · obtain rfl : a = 0 := by omega
      have HF : Hid (acc = Lib.decDigits n) := hinv.out
      go_wp2
      go_ret
      exact ⟨ret_str (by rw [HF.out]), rfl⟩

set_option maxHeartbeats 1600000 in
theorem specDec_neg (n : Nat) (w : World) (h0 : 0 < n) (h1 : (n : Int) ≤ 9223372036854775808) :
    Calls Tryz.prog 56 #[.int .i64 (-(n : Int))] w fun e w' => e = .returned (.string ⟨(45 :: Lib.decDigits n).toArray⟩) ∧ w' = w := by
  have hz : ((-(n : Int)) == 0) = false := by simp; omega
  have hneg : (-(n : Int)) < 0 := by omega
  have hlen := dec_len20 n (by omega)
  go_enter Tryz.func56, Tryz.ntmps56
  go_wp2
  go_loop [3, 4] (fun t m => ∃ (a : Nat) (acc : List UInt8), acc.length + a ≤ n ∧ t = .string ⟨acc.toArray⟩ ∧ m = .int .i64 (-(a : Int)) ∧ Hid (decN a ++ acc = Lib.decDigits n)) (fun _ m => (intOf m).natAbs)
  case atStart => exact ⟨n, [], by simp, rfl, rfl, by show decN n ++ [] = _; unfold decN; rw [if_neg (by omega), List.append_nil]⟩
  case round =>
    obtain ⟨a, acc, han, rfl, rfl, hinv⟩ := hrel
    by_cases ha : 0 < a
    · have hst := decN_step a ha
      have hinv2 : Hid (decN (a / 10) ++ (UInt8.ofNat (48 + a % 10) :: acc) = Lib.decDigits n) := by
        have := hinv.out
        rw [hst, List.append_assoc] at this
        exact this
      have hsl := dig_slice (a % 10) (by omega)
      rw [show ((a % 10 : Nat) : Int) = (a : Int) % 10 by omega] at hsl
      have hne : ((-(a : Int)) != 0) = true := by simp; omega
      have hal : acc.length ≤ 20 := acc_len hinv.out hlen
      by_cases hm : a % 10 = 0
      · have hsl0 : ∀ w, (Instr.slice 9 (.string ⟨#[48, 49, 50, 51, 52, 53, 54, 55, 56, 57]⟩) (some (.int .i64 (-((a : Int) % 10)))) (some (.int .i64 (-((a : Int) % 10) + 1))) none).run Tryz.prog w = .ok (.string ⟨#[UInt8.ofNat (48 + a % 10)]⟩) w := fun w => by
          have h := hsl w
          rw [show -((a : Int) % 10) = (a : Int) % 10 by omega]
          exact h
        have hmi : ¬ (0 : Int) < (a : Int) % 10 := by omega
        generalize UInt8.ofNat (48 + a % 10) = c at hsl0 hinv2
        clear hst hsl
        go_wp2
        go_round
        case rel => exact ⟨a / 10, c :: acc, by simp; omega, by rw [dcat_cons], int_eq' (by omega), hinv2⟩
        case measure => simp [intOf]; omega
      · have hmi : (0 : Int) < (a : Int) % 10 := by omega
        generalize UInt8.ofNat (48 + a % 10) = c at hsl hinv2
        clear hst
        go_wp2
        go_round
        case rel => exact ⟨a / 10, c :: acc, by simp; omega, by rw [dcat_cons], int_eq' (by omega), hinv2⟩
        case measure => simp [intOf]; omega
    · obtain rfl : a = 0 := by omega
      have HF : Hid (acc = Lib.decDigits n) := hinv.out
      have hal : acc.length ≤ 20 := acc_len hinv.out hlen
      go_wp2
      go_ret
      exact ⟨ret_str (by rw [dcat_cons, HF.out]), rfl⟩

theorem specDec_any (n : Int) (w : World) (h0 : -9223372036854775808 ≤ n) (h1 : n ≤ 9223372036854775807) :
    Calls Tryz.prog 56 #[.int .i64 n] w fun e w' => e = .returned (.string ⟨(Lib.itoa n).toArray⟩) ∧ w' = w := by
  rcases Int.lt_trichotomy n 0 with h | h | h
  · obtain ⟨k, hk⟩ : ∃ k : Nat, n = -(k : Int) := ⟨n.natAbs, by omega⟩
    subst hk
    have e : Lib.itoa (-(k : Int)) = 45 :: Lib.decDigits k := by unfold Lib.itoa; rw [if_pos h]; simp
    rw [e]
    exact specDec_neg k w (by omega) (by omega)
  · subst h
    have e : Lib.itoa 0 = [48] := by decide +kernel
    rw [e]
    go_enter Tryz.func56, Tryz.ntmps56
    go_wp2
    go_ret
    exact ⟨rfl, rfl⟩
  · obtain ⟨k, rfl⟩ := Int.eq_ofNat_of_zero_le (show 0 ≤ n by omega)
    have e : Lib.itoa (k : Int) = Lib.decDigits k := by unfold Lib.itoa; rw [if_neg (by omega)]; simp
    rw [e]
    exact specDec_pos k w (by omega) (by omega)
end Go.Proofs.YtkfmkhhjkioeoaaGreatDoor

namespace Go.Proofs.YtkfmkhhjkioeoaaGreatDoor
open Go.RowKit Go.Joins

set_option maxRecDepth 100000

/-- Numbers, a blank ahead of each. -/
def lineL (zs : List Int) : List UInt8 := zs.flatMap (fun z => 32 :: Lib.itoa z)
theorem lineL_snoc (zs : List Int) (k : Nat) {z : Int} (h : zs[k]? = some z) : lineL (zs.take (k + 1)) = lineL (zs.take k) ++ 32 :: Lib.itoa z := by
  have hk := (List.getElem?_eq_some_iff.1 h).1
  unfold lineL
  rw [List.take_succ_eq_append_getElem hk, List.flatMap_append, (List.getElem?_eq_some_iff.1 h).2]
  simp
theorem itoa_len (z : Int) (h : inI64 z) : (Lib.itoa z).length ≤ 21 := by
  unfold Lib.itoa
  obtain ⟨h0, h1⟩ := h
  split
  · have := dec_len20 z.natAbs (by omega)
    rw [List.length_cons]; omega
  · have := dec_len20 z.toNat (by omega)
    omega
theorem lineL_len : ∀ zs : List Int, (∀ z ∈ zs, inI64 z) → (lineL zs).length ≤ 22 * zs.length
  | [], _ => by simp [lineL]
  | z :: zs, h => by
    have h1 := itoa_len z (h z (by simp))
    have h2 := lineL_len zs (fun y hy => h y (by simp [hy]))
    have e : lineL (z :: zs) = (32 :: Lib.itoa z) ++ lineL zs := rfl
    rw [e, List.length_append, List.length_cons, List.length_cons]; omega
theorem cat_line (a b : List UInt8) : ((⟨a.toArray⟩ : ByteArray) ++ ⟨#[32]⟩ ++ ⟨b.toArray⟩) = ⟨(a ++ 32 :: b).toArray⟩ := by
  apply ByteArray.ext
  simp [ByteArray.data_append]

set_option maxHeartbeats 3200000 in
theorem l04Line_any (v : Value) (zs : List Int) (S : Nat → Prop) (w : World) (h : IntsAt w S v zs) (hl : zs.length ≤ 100000000) :
    Calls Tryz.prog 78 #[v] w fun e w' => e = .returned (.string ⟨(lineL zs).toArray⟩) ∧ w' = w := by
  obtain ⟨a, cap, rfl, -, hc⟩ := h
  have hin : ∀ z ∈ zs, inI64 z := fun z hz => by
    obtain ⟨i, hi⟩ := List.getElem?_of_mem hz
    obtain ⟨_, _, _, _, _, _, hin⟩ := hc i z hi
    exact hin
  have HC := (show Hid (_ ∧ _) from ⟨hc, hin⟩)
  clear hc hin
  go_enter Tryz.func78, Tryz.ntmps78
  go_wp2
  go_loopw [3, 4] (fun ov i wr => ∃ k : Nat, k ≤ zs.length ∧ i = .int .i64 k ∧ ov = .string ⟨(lineL (zs.take k)).toArray⟩ ∧ wr = w) (fun _ i _ => zs.length - (intOf i).toNat)
  case atStart => exact ⟨0, Nat.zero_le _, rfl, rfl, rfl⟩
  case round =>
    obtain ⟨k, hk, rfl, rfl, rfl⟩ := hrel
    by_cases hkl : k < zs.length
    · have he := List.getElem?_eq_getElem hkl
      generalize zs[k] = z at *
      obtain ⟨b, off, rfl, -, hlt2, c0, hzz⟩ := HC.out.1 k z he
      have hlt' : ((k : Nat) : Int) < ((zs.length : Nat) : Int) := by omega
      have hll := lineL_len (zs.take k) (fun y hy => HC.out.2 y (List.mem_of_mem_take hy))
      have hkt : (zs.take k).length = k := by rw [List.length_take]; omega
      rw [hkt] at hll
      have hil := itoa_len z hzz
      have HN := (show Hid (_ ∧ True) from ⟨lineL_snoc zs k he, trivial⟩)
      clear he HC hkt
      generalize lineL (zs.take k) = L at *
      have hzz' := hzz
      obtain ⟨hz0, hz1⟩ := hzz'
      have hcat := cat_line L (Lib.itoa z)
      go_wp2_with fail
      refine (specDec_any z _ hz0 hz1).mono ?_
      rintro e w1 ⟨rfl, rfl⟩
      generalize Lib.itoa z = T at *
      go_wp2
      refine ⟨⟨k + 1, by omega, by go_num, by rw [HN.out.1], trivial⟩, by simp [intOf]; omega⟩
    · obtain rfl : k = zs.length := by omega
      rw [List.take_length]
      go_wp2
      go_ret
      exact ⟨rfl, rfl⟩
end Go.Proofs.YtkfmkhhjkioeoaaGreatDoor

namespace Go.Proofs.YtkfmkhhjkioeoaaGreatDoor
open Go.RowKit Go.Joins

set_option maxRecDepth 100000

abbrev cellLetters : ByteArray := ⟨#[105, 110, 99, 102, 116, 104, 100, 114]⟩
/-- A cell's text. -/
def Ce.textOf (c : Ce) : List UInt8 := if inB c.kind 0 7 then (cellLetters.extract c.kind.toNat (c.kind.toNat + 1)).data.toList ++ 32 :: Lib.itoa c.n ++ 32 :: Lib.itoa c.pos ++ lineL c.kids else []
theorem letter_ext : ∀ d, d < 8 → cellLetters.extract d (d + 1) = ⟨#[cellLetters.data[d]!]⟩ := by decide
theorem letter_slice (d : Nat) (hd : d < 8) (w : World) : (Instr.slice 9 (.string ⟨#[105, 110, 99, 102, 116, 104, 100, 114]⟩) (some (.int .i64 (d : Int))) (some (.int .i64 ((d : Int) + 1))) none).run Tryz.prog w = .ok (.string ⟨#[cellLetters.data[d]!]⟩) w := by
  have h := run_slice_string (P := Tryz.prog) w 9 ⟨#[105, 110, 99, 102, 116, 104, 100, 114]⟩ .i64 .i64 (d : Int) ((d : Int) + 1) Tryz.underlying9 (by omega) (by omega) (by show _ ≤ ((8 : Nat) : Int); omega)
  rw [show (d : Int).toNat = d by omega, show ((d : Int) + 1).toNat = d + 1 by omega, letter_ext d hd] at h
  exact h

set_option maxHeartbeats 6400000 in
theorem specCellText_any (v : Value) (c : Ce) (S : Nat → Prop) (w : World) (h : CeAt w S v c) (hl : c.kids.length ≤ 100000000) :
    Calls Tryz.prog 57 #[v] w fun e w' => e = .returned (.string ⟨c.textOf.toArray⟩) ∧ Below w.heap.size w w' := by
  obtain ⟨kv, rfl, r1, r2, r3, hk⟩ := h
  obtain ⟨a, cap, rfl⟩ := hk.form
  have B0 : Below w.heap.size w (w.alloc (.cells #[.int .i64 c.kind, .int .i64 c.n, .int .i64 c.pos, .slice a c.kids.length cap] 26)) := (Below.refl _ w).alloc (Nat.le_refl _) _
  have HK := (show Hid (_ ∧ _) from ⟨hk.below B0, B0⟩)
  clear hk B0
  unfold Ce.textOf
  cases hin : inB c.kind 0 7 with
  | false =>
    go_enter Tryz.func57, Tryz.ntmps57
    go_wp2_with fail
    refine (specIn_is _ _ _ false hin _).mono ?_
    rintro e w1 ⟨rfl, rfl⟩
    go_wp2
    go_ret
    exact ⟨rfl, HK.out.2⟩
  | true =>
    have hin2 := hin
    unfold inB at hin2
    rw [Bool.and_eq_true, decide_eq_true_eq, decide_eq_true_eq] at hin2
    obtain ⟨kind, n, pos, kids⟩ := c
    simp only [] at *
    obtain ⟨d, rfl⟩ : ∃ d : Nat, kind = d := ⟨kind.toNat, by omega⟩
    have hd : d < 8 := by omega
    have hsl := letter_slice d hd
    have hle := letter_ext d hd
    rw [Int.toNat_natCast, hle]
    generalize cellLetters.data[d]! = ch at *
    have hn1 := itoa_len n r2
    have hn2 := itoa_len pos r3
    have hinK : ∀ z ∈ kids, inI64 z := fun z hz => by
      obtain ⟨_, _, _, _, hii⟩ := HK.out.1
      obtain ⟨i, hi⟩ := List.getElem?_of_mem hz
      obtain ⟨_, _, _, _, _, _, hin⟩ := hii i z hi
      exact hin
    have hn3 := lineL_len kids hinK
    obtain ⟨p0, p1⟩ := r2
    obtain ⟨q0, q1⟩ := r3
    clear hinK hin2 hle
    go_enter Tryz.func57, Tryz.ntmps57
    go_wp2_with fail
    refine (specIn_is _ _ _ true hin _).mono ?_
    rintro e w1 ⟨rfl, hw1⟩
    have x0 : w1.cell? ⟨w.heap.size, 0, none⟩ = some (.int .i64 (d : Int)) := by rw [hw1, cell_of_block (MapKept.heap_alloc w _).1]; rfl
    have x1 : w1.cell? ⟨w.heap.size, 1, none⟩ = some (.int .i64 n) := by rw [hw1, cell_of_block (MapKept.heap_alloc w _).1]; rfl
    have x2 : w1.cell? ⟨w.heap.size, 2, none⟩ = some (.int .i64 pos) := by rw [hw1, cell_of_block (MapKept.heap_alloc w _).1]; rfl
    have x3 : w1.cell? ⟨w.heap.size, 3, none⟩ = some (.slice a kids.length cap) := by rw [hw1, cell_of_block (MapKept.heap_alloc w _).1]; rfl
    have HW := (show Hid (_ ∧ _) from ⟨(by rw [hw1]; exact HK.out.1 : IntsAt w1 S (.slice a kids.length cap) kids), (by rw [hw1]; exact HK.out.2 : Below w.heap.size w w1)⟩)
    clear HK hw1
    go_wp2_with fail
    go_quiet (first
      | (go_at_call 56; refine Calls.quiet_of_same (specDec_any _ _ (by omega) (by omega)))
      | (go_at_call 78; refine Calls.quiet_of_same (l04Line_any _ kids S _ (HW.out.1.below (drewN_below (Below.refl _ _) _)) hl)))
    go_wp2
    go_ret
    exact ⟨ret_str (by apply ByteArray.ext; simp [ByteArray.data_append]), by first | exact drewN_below HW.out.2 _ | exact HW.out.2.drew | exact HW.out.2⟩
end Go.Proofs.YtkfmkhhjkioeoaaGreatDoor
