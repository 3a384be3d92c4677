/-
  The specification's GetNum.
-/
import Derived.Test.YtbaakhpmfljgnaaDoorWirePure
namespace Go.Proofs.YtbaakhpmfljgnaaDoor
open Go.RowKit

set_option maxRecDepth 100000

theorem drop_take_more {l : List UInt8} {i k : Nat} {b : UInt8} (h : l[i + k]? = some b) : (l.drop i).take (k + 1) = (l.drop i).take k ++ [b] := by
  have hk : k < (l.drop i).length := by have := (List.getElem?_eq_some_iff.1 h).1; rw [List.length_drop]; omega
  rw [List.take_succ_eq_append_getElem hk, List.getElem_drop]
  have := (List.getElem?_eq_some_iff.1 h).2
  rw [this]

set_option maxHeartbeats 3200000 in
theorem specGetNum_any (s : ByteArray) (i : Int) (w : World) (hs : s.size ≤ 1048576) (hi0 : -9223372036854775808 ≤ i) (hi1 : i ≤ 9223372036854775807) :
    Calls Tryd.prog 34 #[.string s, .int .i64 i] w fun e w' => e = .returned (.tuple #[.int .i64 (getN s i).1, .int .i64 (getN s i).2]) ∧ Below w.heap.size w w' := by
  by_cases h0 : i < 0
  · have hr : getN s i = (0, -1) := by unfold getN; rw [if_neg (by omega)]
    rw [hr]
    go_enter Tryd.func34, Tryd.ntmps34
    go_wp2
    go_ret2
    exact ⟨rfl, Below.refl _ _⟩
  by_cases h1 : (s.size : Int) - 8 < i
  · have hr : getN s i = (0, -1) := by unfold getN; rw [if_neg (by omega)]
    rw [hr]
    go_enter Tryd.func34, Tryd.ntmps34
    go_wp2
    go_ret2
    exact ⟨rfl, Below.refl _ _⟩
  obtain ⟨p, rfl⟩ := Int.eq_ofNat_of_zero_le (show 0 ≤ i by omega)
  have hp : p + 8 ≤ s.size := by omega
  have hr : getN s (p : Int) = (wrap64 (bytesU ((s.data.toList.drop p).take 8) : Nat), (p : Int) + 8) := by
    unfold getN
    rw [if_pos (by omega), Int.toNat_natCast]
  rw [hr]
  clear hr
  go_enter Tryd.func34, Tryd.ntmps34
  go_wp2
  go_loop [6, 7] (fun u kv => ∃ k : Nat, k ≤ 8 ∧ kv = .int .i64 k ∧ u = .int .u64 (bytesU ((s.data.toList.drop p).take k) : Nat)) (fun _ kv => 8 - (intOf kv).toNat)
  case atStart => exact ⟨0, Nat.zero_le _, rfl, rfl⟩
  case round =>
    obtain ⟨k, hk, rfl, rfl⟩ := hrel
    have hu := bytesU_lt ((s.data.toList.drop p).take k)
    by_cases hk8 : k < 8
    · have hk8' : ((k : Nat) : Int) < 8 := by omega
      have hps : p + k < s.size := by omega
      have HM : Hid (bytesU ((s.data.toList.drop p).take (k + 1)) = (256 * bytesU ((s.data.toList.drop p).take k) + (s[p + k]'hps).toNat) % 18446744073709551616) := by
        rw [drop_take_more (b := s[p + k]'hps) (by rw [List.getElem?_eq_getElem (by simpa using hps)]; rfl), bytesU_more]
        exact rfl
      generalize bytesU ((s.data.toList.drop p).take k) = u at *
      have hb := (s[p + k]'hps).toNat_lt
      have hpi : ((p : Nat) : Int) + ((k : Nat) : Int) < ((s.size : Nat) : Int) := by omega
      go_wp2_with fail
      refine ⟨⟨k + 1, by omega, by go_num, ?_⟩, by simp [intOf]; omega⟩
      rw [HM.out]
      congr 1
      rw [IntKind.wrap_u64, IntKind.wrap_u64]
      omega
    · obtain rfl : k = 8 := by omega
      go_wp2
      go_ret2
      exact ⟨rfl, Below.refl _ _⟩
end Go.Proofs.YtbaakhpmfljgnaaDoor
