/-
  Packs out of their bytes, in plain words.
-/
import Derived.Test.YtfcgpfjmabhmeabDoorPackFields
namespace Go.Proofs.YtfcgpfjmabhmeabDoor
open Go.RowKit Go.Joins

set_option maxRecDepth 100000

theorem digits_back (k : Nat) : ∀ (u : Nat), k ≤ 8 → bytesU ((List.range k).map (fun i => byteAt u (k - 1 - i))) = u % 256 ^ k := by
  induction k with
  | zero => intro u _; simp [bytesU, Nat.mod_one]
  | succ k ih =>
    intro u hk
    have e : (List.range (k + 1)).map (fun i => byteAt u (k + 1 - 1 - i)) = (List.range k).map (fun i => byteAt (u / 256) (k - 1 - i)) ++ [byteAt u 0] := by
      rw [List.range_succ, List.map_append, List.map_singleton]
      congr 1
      · refine List.map_congr_left fun i hi => ?_
        have hi' : i < k := by simpa using hi
        unfold byteAt
        rw [show k + 1 - 1 - i = (k - 1 - i) + 1 by omega, Nat.pow_succ, Nat.mul_comm (256 ^ (k - 1 - i)) 256, ← Nat.div_div_eq_div_mul]
      · rw [show k + 1 - 1 - k = 0 by omega]
    rw [e, bytesU_more, ih (u / 256) (by omega)]
    have hb : (byteAt u 0).toNat = u % 256 := by unfold byteAt; rw [UInt8.toNat_ofNat', Nat.pow_zero, Nat.div_one]; omega
    rw [hb, Nat.pow_succ, Nat.mul_comm (256 ^ k) 256, Nat.mod_mul]
    have hp := pow_small (k + 1) hk
    have hl : u / 256 % 256 ^ k < 256 ^ k := Nat.mod_lt _ (Nat.pow_pos (by decide))
    rw [Nat.pow_succ] at hp
    generalize 256 ^ k = P at *
    generalize u / 256 % P = q at *
    have : 256 * q + u % 256 < 18446744073709551616 := by omega
    rw [Nat.mod_eq_of_lt this]
    omega
theorem numB_inj {a b : Int} (ha : inI64 a) (hb : inI64 b) (h : numB a = numB b) : a = b := by
  have e : ∀ z, bytesU (numB z) = numU z := fun z => by
    have := digits_back 8 (numU z) (by decide)
    rw [Nat.mod_eq_of_lt (show numU z < 256 ^ 8 from numU_lt z)] at this
    exact this
  have h1 := e a
  rw [h, e b] at h1
  unfold numU at h1
  unfold inI64 at ha hb
  omega
/-- The pack that bytes tell. -/
def packL (l : List UInt8) : Pa := ⟨numL l 0, numL l 8, numL l 16, numL l 24, numL l 32, ⟨(l.drop 48).toArray⟩⟩
/-- Whether bytes are a pack's. -/
def packFit (l : List UInt8) : Bool := (decide (48 ≤ l.length) && (packL l).ok) && (numL l 40 == ((crcSum (l.drop 48) : Nat) : Int))
def zeroPa : Pa := ⟨0, 0, 0, 0, 0, ⟨#[]⟩⟩
/-- What is read. -/
def packRes (l : List UInt8) : Pa := if packFit l then packL l else zeroPa
theorem pres_no {l : List UInt8} (h : packFit l = false) : packRes l = zeroPa := by unfold packRes; rw [h]; rfl
theorem pres_yes {l : List UInt8} (h : packFit l = true) : packRes l = packL l := by unfold packRes; rw [h]; rfl
theorem packL_fits (l : List UInt8) : (packL l).fits := ⟨numL_fit _ _, numL_fit _ _, numL_fit _ _, numL_fit _ _, numL_fit _ _⟩
theorem packL_body (l : List UInt8) : (packL l).body.data.toList = l.drop 48 := by unfold packL; simp
theorem bytes_split {l : List UInt8} (h : 48 ≤ l.length) : l = numsB [numL l 0, numL l 8, numL l 16, numL l 24, numL l 32] ++ (numB (numL l 40) ++ l.drop 48) := by
  have e1 := numsB_back l 0 6 (by omega)
  have e2 : numsL l 0 6 = [numL l 0, numL l 8, numL l 16, numL l 24, numL l 32] ++ [numL l 40] := rfl
  rw [e2, numsB_app, List.drop_zero] at e1
  have e3 : numsB [numL l 40] = numB (numL l 40) := by simp [numsB]
  rw [e3] at e1
  rw [← List.append_assoc, e1]
  exact (List.take_append_drop 48 l).symm
theorem pack_bytes {l : List UInt8} (hok : (packL l).ok = true) : (packL l).bytes = numsB [numL l 0, numL l 8, numL l 16, numL l 24, numL l 32] ++ (numB ((crcSum (l.drop 48) : Nat) : Int) ++ l.drop 48) := by
  unfold Pa.bytes Pa.nums
  rw [hok, if_pos rfl, packL_body]
  have : ∀ (a : List Int) (z : Int), numsB (a ++ [z]) = numsB a ++ numB z := fun a z => by rw [numsB_app]; simp [numsB]
  rw [show ([(packL l).kind, (packL l).frm, (packL l).dst, (packL l).seq, (packL l).low, ((crcSum (l.drop 48) : Nat) : Int)] : List Int) = [numL l 0, numL l 8, numL l 16, numL l 24, numL l 32] ++ [((crcSum (l.drop 48) : Nat) : Int)] from rfl, this, List.append_assoc]
theorem packFit_yes {l : List UInt8} (h : packFit l = true) : (packL l).bytes = l := by
  unfold packFit at h
  simp only [Bool.and_eq_true, decide_eq_true_eq, beq_iff_eq] at h
  rw [pack_bytes h.1.2, ← h.2]
  exact (bytes_split h.1.1).symm
theorem packFit_no {l : List UInt8} (h : packFit l = false) (h48 : 48 ≤ l.length) : (packL l).bytes ≠ l := by
  intro hb
  cases hok : (packL l).ok with
  | false =>
    have : (packL l).bytes = [] := by unfold Pa.bytes; rw [hok]; rfl
    rw [this] at hb
    rw [← hb] at h48
    simp at h48
  | true =>
    rw [pack_bytes hok] at hb
    have hs := bytes_split h48
    have h2 := List.append_cancel_left (hb.trans hs)
    have h3 : numB ((crcSum (l.drop 48) : Nat) : Int) = numB (numL l 40) := by
      have := congrArg (List.take 8) h2
      rw [List.take_append_of_le_length (by rw [numB_len]; exact Nat.le_refl 8), List.take_append_of_le_length (by rw [numB_len]; exact Nat.le_refl 8), List.take_of_length_le (by rw [numB_len]; exact Nat.le_refl 8), List.take_of_length_le (by rw [numB_len]; exact Nat.le_refl 8)] at this
      exact this
    have hc := crcSum_lt (l.drop 48)
    have h4 := numB_inj (by unfold inI64; omega) (numL_fit _ _) h3
    unfold packFit at h
    rw [hok, decide_eq_true h48, ← h4] at h
    simp at h
end Go.Proofs.YtfcgpfjmabhmeabDoor
