/-
  The specification's GetNum.
  The specification's numbers at a place of a text.
-/
import Derived.Test.YtkfmkhhjkioeoaaGreatDoorMD
namespace Go.Proofs.YtkfmkhhjkioeoaaGreatDoor
open Go.RowKit

set_option maxRecDepth 100000

theorem drop_take_more {l : List UInt8} {i k : Nat} {b : UInt8} (h : l[i + k]? = some b) : (l.drop i).take (k + 1) = (l.drop i).take k ++ [b] := by
  have hk : k < (l.drop i).length := by have := (List.getElem?_eq_some_iff.1 h).1; rw [List.length_drop]; omega
  rw [List.take_succ_eq_append_getElem hk, List.getElem_drop]
  have := (List.getElem?_eq_some_iff.1 h).2
  rw [this]

set_option maxHeartbeats 3200000 in
theorem specGetNum_any (s : ByteArray) (i : Int) (w : World) (hs : s.size ≤ 1048576) (hi0 : -9223372036854775808 ≤ i) (hi1 : i ≤ 9223372036854775807) :
    Calls Tryz.prog 18 #[.string s, .int .i64 i] w fun e w' => e = .returned (.tuple #[.int .i64 (getN s i).1, .int .i64 (getN s i).2]) ∧ Below w.heap.size w w' := by
  by_cases h0 : i < 0
  · have hr : getN s i = (0, -1) := by unfold getN; rw [if_neg (by omega)]
    rw [hr]
    go_enter Tryz.func18, Tryz.ntmps18
    go_wp2
    go_ret2
    exact ⟨rfl, Below.refl _ _⟩
  by_cases h1 : (s.size : Int) - 8 < i
  · have hr : getN s i = (0, -1) := by unfold getN; rw [if_neg (by omega)]
    rw [hr]
    go_enter Tryz.func18, Tryz.ntmps18
    go_wp2
    go_ret2
    exact ⟨rfl, Below.refl _ _⟩
  obtain ⟨p, rfl⟩ := Int.eq_ofNat_of_zero_le (show 0 ≤ i by omega)
  have hp : p + 8 ≤ s.size := by omega
  have hr : getN s (p : Int) = (wrap64 (bytesU ((s.data.toList.drop p).take 8) : Nat), (p : Int) + 8) := by
    unfold getN
    rw [if_pos (by omega), Int.toNat_natCast]
  rw [hr]
  clear hr
  go_enter Tryz.func18, Tryz.ntmps18
  go_wp2
  go_loop [6, 7] (fun u kv => ∃ k : Nat, k ≤ 8 ∧ kv = .int .i64 k ∧ u = .int .u64 (bytesU ((s.data.toList.drop p).take k) : Nat)) (fun _ kv => 8 - (intOf kv).toNat)
  case atStart => exact ⟨0, Nat.zero_le _, rfl, rfl⟩
  case round =>
    obtain ⟨k, hk, rfl, rfl⟩ := hrel
    have hu := bytesU_lt ((s.data.toList.drop p).take k)
    by_cases hk8 : k < 8
    · have hk8' : ((k : Nat) : Int) < 8 := by omega
      have hps : p + k < s.size := by omega
      have HM : Hid (bytesU ((s.data.toList.drop p).take (k + 1)) = (256 * bytesU ((s.data.toList.drop p).take k) + (s[p + k]'hps).toNat) % 18446744073709551616) := by
        rw [drop_take_more (b := s[p + k]'hps) (by rw [List.getElem?_eq_getElem (by simpa using hps)]; rfl), bytesU_more]
        exact rfl
      generalize bytesU ((s.data.toList.drop p).take k) = u at *
      have hb := (s[p + k]'hps).toNat_lt
      have hpi : ((p : Nat) : Int) + ((k : Nat) : Int) < ((s.size : Nat) : Int) := by omega
      go_wp2_with fail
      refine ⟨⟨k + 1, by omega, by go_num, ?_⟩, by simp [intOf]; omega⟩
      rw [HM.out]
      congr 1
      rw [IntKind.wrap_u64, IntKind.wrap_u64]
      omega
    · obtain rfl : k = 8 := by omega
      go_wp2
      go_ret2
      exact ⟨rfl, Below.refl _ _⟩
end Go.Proofs.YtkfmkhhjkioeoaaGreatDoor

namespace Go.Proofs.YtkfmkhhjkioeoaaGreatDoor
open Go.RowKit Go.Joins

set_option maxRecDepth 100000

/-- The first so many numbers from a place on. -/
def numsAt (s : ByteArray) (i : Int) (n : Nat) : List Int := (List.range n).map (fun k : Nat => (getN s (i + 8 * (k : Int))).1)
theorem numsAt_more (s : ByteArray) (i : Int) (k : Nat) : numsAt s i (k + 1) = numsAt s i k ++ [(getN s (i + 8 * (k : Int))).1] := by simp [numsAt, List.range_succ]
theorem numsAt_len (s : ByteArray) (i : Int) (n : Nat) : (numsAt s i n).length = n := by simp [numsAt]
theorem getN_no {s : ByteArray} {i : Int} (h : ¬ (0 ≤ i ∧ i ≤ (s.size : Int) - 8)) : getN s i = (0, -1) := by unfold getN; rw [if_neg h]
theorem getN_at {s : ByteArray} {i : Int} (h : 0 ≤ i ∧ i ≤ (s.size : Int) - 8) : (getN s i).2 = i + 8 := by unfold getN; rw [if_pos h]

set_option maxHeartbeats 3200000 in
theorem l07Get_any (s : ByteArray) (i : Int) (n : Nat) (w : World) (hs : s.size ≤ 1048576) (hi0 : 0 ≤ i) (hi1 : i ≤ 1000000) (hn : n ≤ 1000) :
    Calls Tryz.prog 42 #[.string s, .int .i64 i, .int .i64 (n : Int)] w fun e w' => ∃ (v : Value) (zs : List Int) (b : Bool), e = .returned (.tuple #[v, .bool b]) ∧ (((n = 0 ∨ i + 8 * (n : Int) ≤ s.size) ∧ b = true ∧ zs = numsAt s i n) ∨ (¬ (n = 0 ∨ i + 8 * (n : Int) ≤ s.size) ∧ b = false ∧ zs = [])) ∧ w'.ownsRow w.heap.size 3 1 v zs.length (zs.map (fun z => Value.int .i64 z)) ∧ Below w.heap.size w w' := by
  obtain ⟨i0, hi, hz0, hz1, hz2⟩ := info_parts infoCdI
  have E0 := ow_empty w w.heap.size 3 (Nat.le_refl _)
  have HE := (show Hid (_ ∧ _) from ⟨E0, ((Below.refl _ w).alloc (Nat.le_refl _) (.cells #[] 3) : Below w.heap.size w (w.alloc (.cells #[] 3)))⟩)
  clear E0
  go_enter Tryz.func42, Tryz.ntmps42
  go_wp2_with fail
  go_loopw [8, 9, 10, 11] (fun ov kv _ _ wr => ∃ k : Nat, k ≤ n ∧ kv = .int .i64 k ∧ (k = 0 ∨ i + 8 * (k : Int) ≤ s.size) ∧ wr.ownsRow w.heap.size 3 1 ov k ((numsAt s i k).map (fun z => Value.int .i64 z)) ∧ Below w.heap.size w wr) (fun _ kv _ _ _ => n - (intOf kv).toNat)
  case atStart => exact ⟨0, Nat.zero_le _, rfl, .inl rfl, HE.out.1, HE.out.2⟩
  case round =>
    clear HE
    obtain ⟨k, hk, rfl, hfit, hO, hB⟩ := hrel
    obtain ⟨oa, oc, rfl⟩ := own_form hO
    have hsz := hB.size
    by_cases hkn : k < n
    · have hkn' : ((k : Nat) : Int) < ((n : Nat) : Int) := by omega
      have HH := (show Hid (_ ∧ _) from ⟨hO, hB⟩)
      clear hO hB
      go_wp2_with fail
      refine (specGetNum_any s (i + 8 * (k : Int)) wr hs (by omega) (by omega)).mono ?_
      rintro e w1 ⟨rfl, b1⟩
      have O1 := own_moved HH.out.1 (fun g hg => b1.block g (own_lt HH.out.1 g hg))
      have B1 := HH.out.2.trans (b1.mono HH.out.2.size)
      by_cases hin : i + 8 * (k : Int) ≤ (s.size : Int) - 8
      · have h2 := getN_at (s := s) (i := i + 8 * (k : Int)) ⟨by omega, hin⟩
        have HN := (show Hid (_ ∧ True) from ⟨numsAt_more s i k, trivial⟩)
        generalize getN s (i + 8 * (k : Int)) = r at *
        obtain ⟨x, y⟩ := r
        simp only at h2 HN
        subst h2
        have hO2 := O1.alloc (.cells #[.int .i64 x] 3)
        have hB2 : Below w.heap.size w (w1.alloc (.cells #[.int .i64 x] 3)) := B1.alloc B1.size _
        have H2 := (show Hid (_ ∧ _) from ⟨hO2, hB2⟩)
        have hs1 := B1.size
        clear hO2 hB2 O1 B1 b1 HH
        go_wp2_with (at_builtin; refine wpList_append_own_at _ rfl _ _ 24 rfl w.heap.size 3 i0 (.int .i64 0) 1 8 Tryz.underlying24 hi hz0 hz1 hz2 rfl (by decide) _ k _ rfl H2.out.1 ⟨w1.heap.size, 0, none⟩ 1 1 [.int .i64 x] rfl rfl (cell_one_new _ _ _) (int_one _) (by unfold maxLen; omega) (by omega) (by simp; omega) ?_; intro v5 w5 hown5 hgrow5 hnil5 hat5)
        refine ⟨⟨k + 1, by omega, by go_num, .inr (by omega), ?_, ?_⟩, by simp [intOf]; omega⟩
        · rw [HN.out.1, List.map_append]
          exact hown5
        · exact Below.grown H2.out.2 hgrow5 (hB := H2.out.2.size) (hr := fun b hb => (own_type H2.out.1 b hb).1)
      · have h2 := getN_no (s := s) (i := i + 8 * (k : Int)) (by omega)
        rw [h2]
        have HE2 := (show Hid (_ ∧ _ ∧ _) from ⟨ow_empty w1 w.heap.size 3 B1.size, (B1.alloc B1.size (.cells #[] 3) : Below w.heap.size w (w1.alloc (.cells #[] 3))), (by omega : ¬ (n = 0 ∨ i + 8 * (n : Int) ≤ s.size))⟩)
        clear O1 B1 b1 HH h2
        go_wp2
        go_ret2
        exact ⟨_, [], false, rfl, .inr ⟨HE2.out.2.2, rfl, rfl⟩, HE2.out.1, HE2.out.2.1⟩
    · obtain rfl : k = n := by omega
      have HF := (show Hid (_ ∧ _ ∧ _) from ⟨hO, hB, hfit⟩)
      clear hO hB hfit
      go_wp2
      go_ret2
      refine ⟨_, numsAt s i k, true, rfl, .inl ⟨HF.out.2.2, rfl, rfl⟩, ?_, HF.out.2.1⟩
      rw [numsAt_len]
      exact HF.out.1
end Go.Proofs.YtkfmkhhjkioeoaaGreatDoor
