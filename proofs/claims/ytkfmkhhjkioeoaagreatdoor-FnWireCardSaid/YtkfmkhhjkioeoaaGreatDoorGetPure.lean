/-
  Messages out of their bytes, in plain words.
-/
import Derived.Test.YtkfmkhhjkioeoaaGreatDoorMD
import Derived.Test.YtkfmkhhjkioeoaaGreatDoorSpecPutMsg
import Derived.Test.YtkfmkhhjkioeoaaGreatDoorMG
namespace Go.Proofs.YtkfmkhhjkioeoaaGreatDoor
open Go.RowKit Go.Joins

set_option maxRecDepth 100000

theorem pow_small (n : Nat) (h : n ≤ 8) : 256 ^ n ≤ 18446744073709551616 := by
  have : n = 0 ∨ n = 1 ∨ n = 2 ∨ n = 3 ∨ n = 4 ∨ n = 5 ∨ n = 6 ∨ n = 7 ∨ n = 8 := by omega
  rcases this with rfl | rfl | rfl | rfl | rfl | rfl | rfl | rfl | rfl <;> decide
theorem bytesU_digits : ∀ (n : Nat) (l : List UInt8), l.length = n → n ≤ 8 → bytesU l < 256 ^ n ∧ (List.range n).map (fun i => byteAt (bytesU l) (n - 1 - i)) = l
  | 0, l, hl, _ => by
    obtain rfl := List.eq_nil_of_length_eq_zero hl
    exact ⟨by decide, rfl⟩
  | n + 1, l, hl, hn => by
    rcases nil_or_last l with rfl | ⟨l', b, rfl⟩
    · simp at hl
    have hl' : l'.length = n := by simpa using hl
    obtain ⟨h1, h2⟩ := bytesU_digits n l' hl' (by omega)
    have hb := b.toNat_lt
    have hp := pow_small (n + 1) hn
    have hu : bytesU (l' ++ [b]) = 256 * bytesU l' + b.toNat := by
      rw [bytesU_more]
      rw [Nat.pow_succ] at hp
      omega
    rw [hu]
    generalize bytesU l' = u at *
    refine ⟨by rw [Nat.pow_succ]; omega, ?_⟩
    rw [List.range_succ, List.map_append, List.map_singleton]
    congr 1
    · rw [← h2]
      have : (List.range n).length = n := List.length_range
      refine (List.map_congr_left fun i hi => ?_)
      have hi' : i < n := by simpa using hi
      unfold byteAt
      rw [show n + 1 - 1 - i = (n - 1 - i) + 1 by omega, Nat.pow_succ, Nat.mul_comm (256 ^ (n - 1 - i)) 256, ← Nat.div_div_eq_div_mul, show (256 * u + b.toNat) / 256 = u by omega]
    · unfold byteAt
      rw [show n + 1 - 1 - n = 0 by omega, Nat.pow_zero, Nat.div_one, show (256 * u + b.toNat) % 256 = b.toNat by omega, UInt8.ofNat_toNat]
theorem numB_back (l : List UInt8) (h : l.length = 8) : numB (wrap64 (bytesU l : Nat)) = l := by
  have hu : numU (wrap64 (bytesU l : Nat)) = bytesU l := by
    have := bytesU_lt l
    unfold numU wrap64
    omega
  unfold numB
  rw [hu]
  exact (bytesU_digits 8 l h (by omega)).2
theorem numsB_back (l : List UInt8) (p : Nat) : ∀ n, p + 8 * n ≤ l.length → numsB (numsL l p n) = (l.drop p).take (8 * n)
  | 0, _ => by simp [numsL, numsB]
  | n + 1, h => by
    rw [numsL_more, numsB_app, numsB_back l p n (by omega)]
    have e1 : numsB [numL l (p + 8 * n)] = numB (numL l (p + 8 * n)) := by simp [numsB]
    rw [e1]
    unfold numL
    rw [numB_back _ (by rw [List.length_take, List.length_drop]; omega), show 8 * (n + 1) = 8 * n + 8 by omega, List.take_add, List.drop_drop]
/-- The message that bytes tell. -/
def msgL (l : List UInt8) : Ms := ⟨numL l 0, numL l 8, numL l 16, numL l 24, numL l 32, ⟨numL l 40, numL l 48, numL l 56, numsL l 72 (numL l 64).toNat⟩⟩
/-- Whether bytes are a message's. -/
def msgFit (l : List UInt8) : Bool := decide (72 ≤ l.length) && inB (numL l 64) 0 100 && decide (l.length = 72 + 8 * (numL l 64).toNat) && (msgL l).ok
def zeroMs : Ms := ⟨0, 0, 0, 0, 0, ⟨0, 0, 0, []⟩⟩
/-- What is read. -/
def msgRes (l : List UInt8) : Ms := if msgFit l then msgL l else zeroMs
theorem msgL_bytes {l : List UInt8} (hc : inB (numL l 64) 0 100 = true) (hl : l.length = 72 + 8 * (numL l 64).toNat) : numsB (msgL l).nums ++ numsB (msgL l).cell.kids = l := by
  have h0 : 0 ≤ numL l 64 := by unfold inB at hc; simp at hc; exact hc.1
  have e1 : (msgL l).nums = numsL l 0 9 := by
    have : (((numsL l 72 (numL l 64).toNat).length : Nat) : Int) = numL l 64 := by rw [numsL_len]; omega
    show [numL l 0, numL l 8, numL l 16, numL l 24, numL l 32, numL l 40, numL l 48, numL l 56, (((numsL l 72 (numL l 64).toNat).length : Nat) : Int)] = _
    rw [this]
    rfl
  rw [e1, numsB_back l 0 9 (by omega), show (msgL l).cell.kids = numsL l 72 (numL l 64).toNat from rfl, numsB_back l 72 _ (by omega), List.drop_zero]
  have e2 : (l.drop 72).take (8 * (numL l 64).toNat) = l.drop 72 := List.take_of_length_le (by rw [List.length_drop]; omega)
  rw [e2]
  exact List.take_append_drop 72 l
theorem msgFit_yes {l : List UInt8} (h : msgFit l = true) : (msgL l).bytes = l := by
  unfold msgFit at h
  simp only [Bool.and_eq_true, decide_eq_true_eq] at h
  unfold Ms.bytes
  rw [h.2, if_pos rfl]
  exact msgL_bytes h.1.1.2 h.1.2
theorem bytes_len (m : Ms) (h : m.ok = true) : m.bytes.length = 72 + 8 * m.cell.kids.length := by
  unfold Ms.bytes
  rw [h, if_pos rfl, List.length_append, numsB_len, numsB_len]
  rfl
theorem msgFit_no {l : List UInt8} (h : msgFit l = false) (h1 : 72 ≤ l.length) (h2 : inB (numL l 64) 0 100 = true) : (msgL l).bytes ≠ l := by
  intro hb
  cases hok : (msgL l).ok with
  | false =>
    have : (msgL l).bytes = [] := by unfold Ms.bytes; rw [hok]; rfl
    rw [this] at hb
    rw [← hb] at h1
    simp at h1
  | true =>
    have hlen := bytes_len (msgL l) hok
    rw [hb, show (msgL l).cell.kids = numsL l 72 (numL l 64).toNat from rfl, numsL_len] at hlen
    unfold msgFit at h
    rw [h2, hok, decide_eq_true h1, decide_eq_true hlen] at h
    cases h
theorem getN_is {s : ByteArray} {i : Nat} (h : i + 8 ≤ s.size) : (getN s (i : Int)).1 = numL s.data.toList i := by
  unfold getN numL
  rw [if_pos (by omega), Int.toNat_natCast]
theorem numsAt_is {s : ByteArray} {i n : Nat} (h : n = 0 ∨ i + 8 * n ≤ s.size) : numsAt s (i : Int) n = numsL s.data.toList i n := by
  unfold numsAt numsL
  refine List.map_congr_left fun k hk => ?_
  have hk' : k < n := by simpa using hk
  rw [show (i : Int) + 8 * (k : Int) = ((i + 8 * k : Nat) : Int) by omega, getN_is (by omega)]
theorem zeroMs_fit : msgRes [] = zeroMs := rfl
theorem msgL_fits (l : List UInt8) : (inI64 (msgL l).kind ∧ inI64 (msgL l).frm ∧ inI64 (msgL l).dst ∧ inI64 (msgL l).id ∧ inI64 (msgL l).want) ∧ inI64 (msgL l).cell.kind ∧ inI64 (msgL l).cell.n ∧ inI64 (msgL l).cell.pos ∧ ∀ z ∈ (msgL l).cell.kids, inI64 z := by
  refine ⟨⟨numL_fit _ _, numL_fit _ _, numL_fit _ _, numL_fit _ _, numL_fit _ _⟩, numL_fit _ _, numL_fit _ _, numL_fit _ _, ?_⟩
  intro z hz
  have hz' : z ∈ numsL l 72 (numL l 64).toNat := hz
  unfold numsL at hz'
  obtain ⟨k, -, rfl⟩ := List.mem_map.1 hz'
  exact numL_fit _ _
end Go.Proofs.YtkfmkhhjkioeoaaGreatDoor
