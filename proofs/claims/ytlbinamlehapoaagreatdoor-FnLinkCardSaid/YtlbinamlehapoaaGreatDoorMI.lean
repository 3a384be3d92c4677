/-
  The specification's CheckSum.
  The program's CheckSum.
  The program's list of a pack's numbers, by their places; a pack's bytes in plain words.
-/
import Derived.Test.YtlbinamlehapoaaGreatDoorMD
import Derived.Test.YtlbinamlehapoaaGreatDoorMY
import Derived.Test.YtlbinamlehapoaaGreatDoorMJ
import Derived.BigRegion
namespace Go.Proofs.YtlbinamlehapoaaGreatDoor
open Go.RowKit

set_option maxRecDepth 100000

set_option maxHeartbeats 3200000 in
theorem specCrc_any (s : ByteArray) (w : World) (hs : s.size ≤ maxLen) :
    Calls Tryz.prog 98 #[.string s] w fun e w' => e = .returned (.int .u32 (crcSum s.data.toList : Nat)) ∧ w' = w := by
  unfold maxLen at hs
  go_enter Tryz.func98, Tryz.ntmps98
  go_wp2
  go_loop [3, 4, 5, 6] (fun x i _ _ => ∃ k : Nat, k ≤ s.size ∧ i = .int .i64 k ∧ x = .int .u32 (crcOf (s.data.toList.take k) : Nat)) (fun _ i _ _ => s.size - (intOf i).toNat)
  case atStart => exact ⟨0, Nat.zero_le _, rfl, rfl⟩
  case round =>
    obtain ⟨k, hk, rfl, rfl⟩ := hrel
    have hlt32 := crcOf_lt (s.data.toList.take k)
    by_cases hlt : k < s.size
    · have hx := xor32 (crcOf (s.data.toList.take k)) s[k].toNat hlt32 (byte_lt _)
      have hbm : ((s[k].toNat : Nat) : Int) % 4294967296 = ((s[k].toNat : Nat) : Int) := by have := byte_lt s[k]; omega
      have HBM := (show Hid (_ ∧ _) from ⟨hbm, hx⟩)
      clear hbm hx
      have HM := (show Hid (_ ∧ True) from ⟨take_more hlt, trivial⟩)
      have hxl := xor_lt hlt32 (byte_lt s[k])
      generalize hg : crcOf (s.data.toList.take k) = x at *
      have HG := (show Hid (_ ∧ True) from ⟨hg, trivial⟩)
      clear hg
      have hlt' : ((k : Nat) : Int) < ((s.size : Nat) : Int) := by omega
      go_wp2_with fail
      go_loop [3, 5, 6] (fun xv kv _ => ∃ j : Nat, j ≤ 8 ∧ kv = .int .i64 j ∧ xv = .int .u32 (crcSteps j (x ^^^ s[k].toNat) : Nat)) (fun _ kv _ => 8 - (intOf kv).toNat)
      case atStart => exact ⟨0, Nat.zero_le _, rfl, by rw [HBM.out.1, HBM.out.2]; rfl⟩
      case round =>
        obtain ⟨j, hj, rfl, rfl⟩ := hrel
        have hq := crcSteps_lt hxl j
        generalize hg : crcSteps j (x ^^^ s[k].toNat) = q at *
        have HQ := (show Hid (_ ∧ True) from ⟨hg, trivial⟩)
        clear hg
        by_cases hj8 : j < 8
        · have hj8' : ((j : Nat) : Int) < 8 := by omega
          by_cases ho : q % 2 = 1
          · have h1 : ((q : Nat) : Int) % 2 = 1 := by omega
            have h3 : bits .xor .u32 (((q : Nat) : Int) / 2) 3988292384 = (((q / 2) ^^^ 3988292384 : Nat) : Int) := by
              have := xor32 (q / 2) 3988292384 (by omega) (by decide)
              rw [← this]
              congr 1
            obtain ⟨y, hy⟩ : ∃ y : Nat, (q / 2) ^^^ 3988292384 = y := ⟨_, rfl⟩
            have HS : Hid (crcSteps (j + 1) (x ^^^ s[k].toNat) = y) := by
              show crcStep _ = _
              rw [HQ.out.1]
              unfold crcStep
              rw [if_pos ho, hy]
            rw [hy] at h3
            clear hy ho
            go_wp2
            go_round
            case rel => exact ⟨j + 1, by omega, by go_num, by rw [HS.out]⟩
            case measure => simp [intOf]; omega
          · have h1 : ¬ ((q : Nat) : Int) % 2 = 1 := by omega
            have HS : Hid (Value.int .u32 (((q : Nat) : Int) / 2) = .int .u32 (crcSteps (j + 1) (x ^^^ s[k].toNat) : Nat)) := by
              show _ = Value.int .u32 ((crcStep _ : Nat) : Int)
              rw [HQ.out.1]
              unfold crcStep
              rw [if_neg ho]
              congr 1
            clear ho
            go_wp2
            go_round
            case rel => exact ⟨j + 1, by omega, by go_num, HS.out⟩
            case measure => simp [intOf]; omega
        · obtain rfl : j = 8 := by omega
          have HN : Hid (q = crcOf (s.data.toList.take (k + 1))) := by rw [HM.out.1, crcOf_more, HG.out.1, ← HQ.out.1]; rfl
          go_wp2
          go_round
          case rel => exact ⟨k + 1, by omega, by go_num, by rw [HN.out]⟩
          case measure => simp [intOf]; omega
    · obtain rfl : k = s.size := by omega
      have hx := xor32 (crcOf (s.data.toList.take s.size)) 4294967295 hlt32 (by decide)
      have HF : Hid (crcOf (s.data.toList.take s.size) ^^^ 4294967295 = crcSum s.data.toList) := by unfold crcSum; rw [List.take_of_length_le (by simp)]; exact rfl
      generalize crcOf (s.data.toList.take s.size) = x at *
      go_wp2
      go_ret
      exact ⟨by rw [← HF.out]; exact congrArg _ (congrArg _ hx), rfl⟩
end Go.Proofs.YtlbinamlehapoaaGreatDoor

namespace Go.Proofs.YtlbinamlehapoaaGreatDoor
open Go.RowKit

set_option maxRecDepth 100000

theorem wraps_u32 (n : Int) (h₀ : 0 ≤ n) (h₁ : n < 2 ^ 32) : IntKind.u32.wrap n = n := by rw [IntKind.wrap_u32]; omega
theorem and_one (q : Nat) (h : q < 4294967296) : bits .and .u32 ((q : Nat) : Int) 1 = ((q : Nat) : Int) % 2 := bits_mask .u32 32 (by decide) wraps_u32 1 (by decide) _ (by omega) (by omega)

set_option maxHeartbeats 3200000 in
theorem implCrc_any (s : ByteArray) (w : World) (hs : s.size ≤ maxLen) :
    Calls Tryz.prog 94 #[.string s] w fun e w' => e = .returned (.int .u32 (crcSum s.data.toList : Nat)) ∧ w' = w := by
  unfold maxLen at hs
  go_enter Tryz.func94, Tryz.ntmps94
  go_wp2
  go_loop [3, 8] (fun x i => ∃ k : Nat, k ≤ s.size ∧ i = .int .i64 k ∧ x = .int .u32 (crcOf (s.data.toList.take k) : Nat)) (fun _ i => s.size - (intOf i).toNat)
  case atStart => exact ⟨0, Nat.zero_le _, rfl, rfl⟩
  case round =>
    obtain ⟨k, hk, rfl, rfl⟩ := hrel
    have hlt32 := crcOf_lt (s.data.toList.take k)
    by_cases hlt : k < s.size
    · have hx := xor32 (crcOf (s.data.toList.take k)) s[k].toNat hlt32 (byte_lt _)
      have hbm : ((s[k].toNat : Nat) : Int) % 4294967296 = ((s[k].toNat : Nat) : Int) := by have := byte_lt s[k]; omega
      have HBM := (show Hid (_ ∧ _) from ⟨hbm, hx⟩)
      clear hbm hx
      have HM := (show Hid (_ ∧ True) from ⟨take_more hlt, trivial⟩)
      have hxl := xor_lt hlt32 (byte_lt s[k])
      generalize hg : crcOf (s.data.toList.take k) = x at *
      have HG := (show Hid (_ ∧ True) from ⟨hg, trivial⟩)
      clear hg
      have hlt' : ((k : Nat) : Int) < ((s.size : Nat) : Int) := by omega
      go_wp2_with fail
      go_loop [3, 17] (fun xv kv => ∃ j : Nat, j ≤ 8 ∧ kv = .int .i64 j ∧ xv = .int .u32 (crcSteps j (x ^^^ s[k].toNat) : Nat)) (fun _ kv => 8 - (intOf kv).toNat)
      case atStart => exact ⟨0, Nat.zero_le _, rfl, by rw [HBM.out.1, HBM.out.2]; rfl⟩
      case round =>
        obtain ⟨j, hj, rfl, rfl⟩ := hrel
        have hq := crcSteps_lt hxl j
        generalize hg : crcSteps j (x ^^^ s[k].toNat) = q at *
        have HQ := (show Hid (_ ∧ True) from ⟨hg, trivial⟩)
        clear hg
        by_cases hj8 : j < 8
        · have hj8' : ((j : Nat) : Int) < 8 := by omega
          by_cases ho : q % 2 = 1
          · have h1 : bits .and .u32 ((q : Nat) : Int) 1 = 1 := by rw [and_one q hq]; omega
            have h3 : bits .xor .u32 (((q : Nat) : Int) / 2) 3988292384 = (((q / 2) ^^^ 3988292384 : Nat) : Int) := by
              have := xor32 (q / 2) 3988292384 (by omega) (by decide)
              rw [← this]
              congr 1
            obtain ⟨y, hy⟩ : ∃ y : Nat, (q / 2) ^^^ 3988292384 = y := ⟨_, rfl⟩
            have HS : Hid (crcSteps (j + 1) (x ^^^ s[k].toNat) = y) := by
              show crcStep _ = _
              rw [HQ.out.1]
              unfold crcStep
              rw [if_pos ho, hy]
            rw [hy] at h3
            clear hy ho
            go_wp2
            go_round
            case rel => exact ⟨j + 1, by omega, by go_num, by rw [HS.out]⟩
            case measure => simp [intOf]; omega
          · have h1 : ¬ bits .and .u32 ((q : Nat) : Int) 1 = 1 := by rw [and_one q hq]; omega
            have HS : Hid (Value.int .u32 (((q : Nat) : Int) / 2) = .int .u32 (crcSteps (j + 1) (x ^^^ s[k].toNat) : Nat)) := by
              show _ = Value.int .u32 ((crcStep _ : Nat) : Int)
              rw [HQ.out.1]
              unfold crcStep
              rw [if_neg ho]
              congr 1
            clear ho
            go_wp2
            go_round
            case rel => exact ⟨j + 1, by omega, by go_num, HS.out⟩
            case measure => simp [intOf]; omega
        · obtain rfl : j = 8 := by omega
          have HN : Hid (q = crcOf (s.data.toList.take (k + 1))) := by rw [HM.out.1, crcOf_more, HG.out.1, ← HQ.out.1]; rfl
          go_wp2
          go_round
          case rel => exact ⟨k + 1, by omega, by go_num, by rw [HN.out]⟩
          case measure => simp [intOf]; omega
    · obtain rfl : k = s.size := by omega
      have hx := xor32 (crcOf (s.data.toList.take s.size)) 4294967295 hlt32 (by decide)
      have HF : Hid (crcOf (s.data.toList.take s.size) ^^^ 4294967295 = crcSum s.data.toList) := by unfold crcSum; rw [List.take_of_length_le (by simp)]; exact rfl
      generalize crcOf (s.data.toList.take s.size) = x at *
      go_wp2
      go_ret
      exact ⟨by rw [← HF.out]; exact congrArg _ (congrArg _ hx), rfl⟩
end Go.Proofs.YtlbinamlehapoaaGreatDoor

namespace Go.Proofs.YtlbinamlehapoaaGreatDoor
open Go.RowKit Go.Joins

set_option maxRecDepth 100000

abbrev ptr5 (p : Nat) : Array Value := #[.pointer (some ⟨p, 0, none⟩), .pointer (some ⟨p, 1, none⟩), .pointer (some ⟨p, 2, none⟩), .pointer (some ⟨p, 3, none⟩), .pointer (some ⟨p, 4, none⟩)]
set_option maxHeartbeats 1600000 in
theorem packFields_any (p : Nat) (w : World) :
    Calls Tryz.prog 93 #[.pointer (some ⟨p, 0, none⟩)] w fun e w' => e = .returned (.slice (some ⟨w.heap.size, 0, none⟩) 5 5) ∧ w'.heap[w.heap.size]? = some (.cells (ptr5 p) 166) ∧ Below w.heap.size w w' := by
  go_enter Tryz.func93, Tryz.ntmps93
  go_wp2_with fail
  go_region
  go_wp2
  go_ret
  exact ⟨rfl, (MapKept.heap_alloc _ _).1, (Below.refl _ _).drew.alloc (Nat.le_refl _) _⟩
/-- The numbers of a pack. -/
def Pa.nums (p : Pa) : List Int := [p.kind, p.frm, p.dst, p.seq, p.low, ((crcSum p.body.data.toList : Nat) : Int)]
/-- The bytes of a pack; none where it is not right. -/
def Pa.bytes (p : Pa) : List UInt8 := if p.ok then numsB p.nums ++ p.body.data.toList else []
/-- The numbers of a pack lie in range. -/
def Pa.fits (p : Pa) : Prop := inI64 p.kind ∧ inI64 p.frm ∧ inI64 p.dst ∧ inI64 p.seq ∧ inI64 p.low
theorem pack_flds {w : World} {b g fb : Nat} {p : Pa} (h1 : g ≠ b) (h2 : fb ≠ b) (hg : w.heap[g]? = some (.cells (ptr5 fb) 166)) (hf : w.heap[fb]? = some (.cells p.row 38)) (hp : p.fits) :
    Flds w b g fb [0, 1, 2, 3, 4] [p.kind, p.frm, p.dst, p.seq, p.low] := by
  refine ⟨h1, h2, hg, ⟨_, _, hf, by decide, ?_⟩, rfl, ?_⟩
  · intro j o z ho hz
    have hj : j < 5 := (List.getElem?_eq_some_iff.1 hz).1
    have : j = 0 ∨ j = 1 ∨ j = 2 ∨ j = 3 ∨ j = 4 := by omega
    rcases this with rfl | rfl | rfl | rfl | rfl <;> (cases ho; cases hz; rfl)
  · intro z hz
    simp only [List.mem_cons, List.not_mem_nil, or_false] at hz
    rcases hz with rfl | rfl | rfl | rfl | rfl
    · exact hp.1
    · exact hp.2.1
    · exact hp.2.2.1
    · exact hp.2.2.2.1
    · exact hp.2.2.2.2
end Go.Proofs.YtlbinamlehapoaaGreatDoor
