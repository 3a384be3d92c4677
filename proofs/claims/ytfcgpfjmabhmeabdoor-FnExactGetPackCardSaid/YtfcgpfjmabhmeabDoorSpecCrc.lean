/-
  The specification's CheckSum.
-/
import Derived.Test.YtfcgpfjmabhmeabDoorWirePure
namespace Go.Proofs.YtfcgpfjmabhmeabDoor
open Go.RowKit

set_option maxRecDepth 100000

set_option maxHeartbeats 3200000 in
theorem specCrc_any (s : ByteArray) (w : World) (hs : s.size ≤ maxLen) :
    Calls Tryd.prog 20 #[.string s] w fun e w' => e = .returned (.int .u32 (crcSum s.data.toList : Nat)) ∧ w' = w := by
  unfold maxLen at hs
  go_enter Tryd.func20, Tryd.ntmps20
  go_wp2
  go_loop [3, 4, 5, 6] (fun x i _ _ => ∃ k : Nat, k ≤ s.size ∧ i = .int .i64 k ∧ x = .int .u32 (crcOf (s.data.toList.take k) : Nat)) (fun _ i _ _ => s.size - (intOf i).toNat)
  case atStart => exact ⟨0, Nat.zero_le _, rfl, rfl⟩
  case round =>
    obtain ⟨k, hk, rfl, rfl⟩ := hrel
    have hlt32 := crcOf_lt (s.data.toList.take k)
    by_cases hlt : k < s.size
    · have hx := xor32 (crcOf (s.data.toList.take k)) s[k].toNat hlt32 (byte_lt _)
      have hbm : ((s[k].toNat : Nat) : Int) % 4294967296 = ((s[k].toNat : Nat) : Int) := by have := byte_lt s[k]; omega
      have HBM := (show Hid (_ ∧ _) from ⟨hbm, hx⟩)
      clear hbm hx
      have HM := (show Hid (_ ∧ True) from ⟨take_more hlt, trivial⟩)
      have hxl := xor_lt hlt32 (byte_lt s[k])
      generalize hg : crcOf (s.data.toList.take k) = x at *
      have HG := (show Hid (_ ∧ True) from ⟨hg, trivial⟩)
      clear hg
      have hlt' : ((k : Nat) : Int) < ((s.size : Nat) : Int) := by omega
      go_wp2_with fail
      go_loop [3, 5, 6] (fun xv kv _ => ∃ j : Nat, j ≤ 8 ∧ kv = .int .i64 j ∧ xv = .int .u32 (crcSteps j (x ^^^ s[k].toNat) : Nat)) (fun _ kv _ => 8 - (intOf kv).toNat)
      case atStart => exact ⟨0, Nat.zero_le _, rfl, by rw [HBM.out.1, HBM.out.2]; rfl⟩
      case round =>
        obtain ⟨j, hj, rfl, rfl⟩ := hrel
        have hq := crcSteps_lt hxl j
        generalize hg : crcSteps j (x ^^^ s[k].toNat) = q at *
        have HQ := (show Hid (_ ∧ True) from ⟨hg, trivial⟩)
        clear hg
        by_cases hj8 : j < 8
        · have hj8' : ((j : Nat) : Int) < 8 := by omega
          by_cases ho : q % 2 = 1
          · have h1 : ((q : Nat) : Int) % 2 = 1 := by omega
            have h3 : bits .xor .u32 (((q : Nat) : Int) / 2) 3988292384 = (((q / 2) ^^^ 3988292384 : Nat) : Int) := by
              have := xor32 (q / 2) 3988292384 (by omega) (by decide)
              rw [← this]
              congr 1
            obtain ⟨y, hy⟩ : ∃ y : Nat, (q / 2) ^^^ 3988292384 = y := ⟨_, rfl⟩
            have HS : Hid (crcSteps (j + 1) (x ^^^ s[k].toNat) = y) := by
              show crcStep _ = _
              rw [HQ.out.1]
              unfold crcStep
              rw [if_pos ho, hy]
            rw [hy] at h3
            clear hy ho
            go_wp2
            go_round
            case rel => exact ⟨j + 1, by omega, by go_num, by rw [HS.out]⟩
            case measure => simp [intOf]; omega
          · have h1 : ¬ ((q : Nat) : Int) % 2 = 1 := by omega
            have HS : Hid (Value.int .u32 (((q : Nat) : Int) / 2) = .int .u32 (crcSteps (j + 1) (x ^^^ s[k].toNat) : Nat)) := by
              show _ = Value.int .u32 ((crcStep _ : Nat) : Int)
              rw [HQ.out.1]
              unfold crcStep
              rw [if_neg ho]
              congr 1
            clear ho
            go_wp2
            go_round
            case rel => exact ⟨j + 1, by omega, by go_num, HS.out⟩
            case measure => simp [intOf]; omega
        · obtain rfl : j = 8 := by omega
          have HN : Hid (q = crcOf (s.data.toList.take (k + 1))) := by rw [HM.out.1, crcOf_more, HG.out.1, ← HQ.out.1]; rfl
          go_wp2
          go_round
          case rel => exact ⟨k + 1, by omega, by go_num, by rw [HN.out]⟩
          case measure => simp [intOf]; omega
    · obtain rfl : k = s.size := by omega
      have hx := xor32 (crcOf (s.data.toList.take s.size)) 4294967295 hlt32 (by decide)
      have HF : Hid (crcOf (s.data.toList.take s.size) ^^^ 4294967295 = crcSum s.data.toList) := by unfold crcSum; rw [List.take_of_length_le (by simp)]; exact rfl
      generalize crcOf (s.data.toList.take s.size) = x at *
      go_wp2
      go_ret
      exact ⟨by rw [← HF.out]; exact congrArg _ (congrArg _ hx), rfl⟩
end Go.Proofs.YtfcgpfjmabhmeabDoor
