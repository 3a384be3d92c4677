/-
  ReadDec, the program's and the specification's: the number whose text a text is.
-/
import Derived.Test.YtfnnodaggjgkfaaGreatDoorDigits
import Derived.Test.YtfnnodaggjgkfaaGreatDoorSpecIn
import Derived.Test.YtfnnodaggjgkfaaGreatDoorImplDec
namespace Go.Proofs.YtfnnodaggjgkfaaGreatDoor
open Go.RowKit

set_option maxRecDepth 100000

def itoaB (n : Int) : ByteArray := ⟨(Lib.itoa n).toArray⟩
/-- The number whose text it is; -1 for none. -/
def readD (s : ByteArray) : Int := if digitsV s < 0 then -1 else if ((itoaB (digitsV s)).toList == s.toList) = true then digitsV s else -1

theorem digitsV_bd (s : ByteArray) : -1 ≤ digitsV s ∧ digitsV s < 1000000000 := by
  unfold digitsV
  split
  · rename_i h
    obtain ⟨h1, h2, h3⟩ := h
    have hl : s.data.toList.length = s.size := by simp
    have := digVal_small s.data.toList s.size (by omega) h2 (fun x hx => List.all_eq_true.1 h3 x (List.mem_of_mem_take hx))
    rw [List.take_of_length_le (by omega)] at this
    omega
  · omega

theorem rd_not (x : Bool) (w : World) : (Op.unary .not (.bool x)).run Tryz.prog w = .ok (.bool (!x)) w := rfl

set_option maxHeartbeats 1600000 in
theorem ReadDec_any (s : ByteArray) (w : World) (hs : s.size ≤ maxLen) (htab : Lib.TabIs Tryz.prog w "internal/strconv.uint64pow10" .u64 Lib.pow10Tab) :
    Calls Tryz.prog 19 #[.string s] w fun e w' => e = .returned (.int .i64 (readD s)) ∧ Below w.heap.size w w' := by
  have hv := digitsValue_any s
  have hbd := digitsV_bd s
  have hr : readD s = if digitsV s < 0 then -1 else if ((itoaB (digitsV s)).toList == s.toList) = true then digitsV s else -1 := rfl
  generalize digitsV s = n at *
  have HV := (show Hid (∀ w : World, s.size ≤ maxLen → _) from hv)
  have HR : Hid (readD s = if n < 0 then -1 else if ((itoaB n).toList == s.toList) = true then n else -1) := hr
  have HT : Hid (Lib.TabIs Tryz.prog w "internal/strconv.uint64pow10" .u64 Lib.pow10Tab) := htab
  clear hv hr htab
  obtain ⟨n1, n2⟩ := hbd
  by_cases hn : n < 0
  · have HE : Hid (readD s = -1) := by rw [HR.out, if_pos hn]; rfl
    go_enter Tryz.func19, Tryz.ntmps19
    go_wp2_with fail
    refine (HV.out _ hs).mono ?_
    rintro e w' ⟨rfl, rfl⟩
    go_wp2
    go_ret
    exact ⟨ret_int HE.out.symm, Below.refl _ _⟩
  · have hd : decide (n < 0) = false := by simpa using hn
    cases hx : ((itoaB n).toList == s.toList)
    · have HE : Hid (readD s = -1) := by rw [HR.out, if_neg hn, hx]; rfl
      go_enter Tryz.func19, Tryz.ntmps19
      go_wp2_with fail
      refine (HV.out _ hs).mono ?_
      rintro e w' ⟨rfl, rfl⟩
      go_wp2_with fail
      refine (DecText_any n _ (by omega) (by omega) HT.out).mono ?_
      rintro e w1 ⟨rfl, hb⟩
      rw [show (⟨(Lib.itoa n).toArray⟩ : ByteArray) = itoaB n from rfl]
      go_wp2
      go_ret
      exact ⟨ret_int HE.out.symm, hb⟩
    · have HE : Hid (readD s = n) := by rw [HR.out, if_neg hn, hx]; rfl
      go_enter Tryz.func19, Tryz.ntmps19
      go_wp2_with fail
      refine (HV.out _ hs).mono ?_
      rintro e w' ⟨rfl, rfl⟩
      go_wp2_with fail
      refine (DecText_any n _ (by omega) (by omega) HT.out).mono ?_
      rintro e w1 ⟨rfl, hb⟩
      rw [show (⟨(Lib.itoa n).toArray⟩ : ByteArray) = itoaB n from rfl]
      go_wp2
      go_ret
      exact ⟨ret_int HE.out.symm, hb⟩

set_option maxHeartbeats 1600000 in
theorem specReadDec_any (s : ByteArray) (w : World) (hs : s.size ≤ maxLen) :
    Calls Tryz.prog 20 #[.string s] w fun e w' => e = .returned (.int .i64 (readD s)) ∧ w' = w := by
  have hnot := rd_not
  unfold maxLen at hs
  have HL : Hid (s.data.toList.length = s.size) := by simp [Hid]
  go_enter Tryz.func20, Tryz.ntmps20
  go_wp2
  go_loop [3, 4] (fun n i => ∃ k : Nat, k ≤ s.size ∧ i = .int .i64 k ∧ n = .int .i64 (digVal (s.data.toList.take k)) ∧ (0 < k → s.size ≤ 9) ∧ Hid (∀ x ∈ s.data.toList.take k, dgb x = true)) (fun _ i => s.size - (intOf i).toNat)
  case atStart => exact ⟨0, Nat.zero_le _, rfl, rfl, fun h => absurd h (Nat.lt_irrefl 0), fun x hx => by simp at hx⟩
  case round =>
    obtain ⟨k, hk, rfl, rfl, h9, hall⟩ := hrel
    by_cases hlt : k < s.size
    · have d0 : (0 : Int) ≤ (s[k].toNat : Int) := by omega
      have d9 : (s[k].toNat : Int) ≤ 255 := by have := UInt8.toNat_lt s[k]; omega
      cases hd : dgi (s[k].toNat : Int)
      · have HE : Hid (readD s = -1) := by
          have e : s.data.toList.all dgb = false := by
            rw [List.all_eq_false]
            exact ⟨s[k], by rw [← at_data s k hlt]; exact List.getElem_mem _, by rw [show dgb s[k] = false from hd]; simp⟩
          have e2 : digitsV s = -1 := by unfold digitsV; rw [if_neg (by rw [e]; simp)]
          unfold readD
          rw [e2]
          rfl
        generalize digVal (s.data.toList.take k) = n at *
        go_wp2_with (go_at_call 37; refine (specDigit_is _ false d0 d9 hd _).mono ?_; rintro e w' ⟨rfl, rfl⟩)
        go_ret
        exact ⟨ret_int HE.out.symm, rfl⟩
      · by_cases hbig : 9 < s.size
        · have HE : Hid (readD s = -1) := by
            have e2 : digitsV s = -1 := by unfold digitsV; rw [if_neg (by omega)]
            unfold readD
            rw [e2]
            rfl
          have hbig' : (9 : Int) < (s.size : Int) := by omega
          generalize digVal (s.data.toList.take k) = n at *
          go_wp2_with (go_at_call 37; refine (specDigit_is _ true d0 d9 hd _).mono ?_; rintro e w' ⟨rfl, rfl⟩)
          go_ret
          exact ⟨ret_int HE.out.symm, rfl⟩
        · have hbig' : ¬ (9 : Int) < (s.size : Int) := by omega
          have hlk : k < s.data.toList.length := by rw [HL.out]; exact hlt
          obtain ⟨b1, b2⟩ := digVal_small s.data.toList k (by omega) (by omega) hall.out
          have hst := digVal_take s.data.toList k hlk
          rw [at_data s k hlt] at hst
          have HS : Hid (digVal (s.data.toList.take (k + 1)) = digVal (s.data.toList.take k) * 10 + ((s[k].toNat : Int) - 48)) := hst
          have HG : Hid (∀ x ∈ s.data.toList.take (k + 1), dgb x = true) := mem_take_succ hlk hall.out (by rw [at_data s k hlt]; exact hd)
          obtain ⟨c1, c2⟩ := dgi_t hd
          clear hst
          generalize digVal (s.data.toList.take k) = n at *
          go_wp2_with (go_at_call 37; refine (specDigit_is _ true d0 d9 hd _).mono ?_; rintro e w' ⟨rfl, rfl⟩)
          go_round
          case rel => exact ⟨k + 1, by omega, by go_num, int_eq' (by rw [HS.out]; omega), fun _ => by omega, HG⟩
          case measure => simp [intOf]; omega
    · obtain rfl : k = s.size := by omega
      have htk : s.data.toList.take s.size = s.data.toList := List.take_of_length_le (by rw [HL.out]; exact Nat.le_refl _)
      rw [htk]
      have hall2 : ∀ x ∈ s.data.toList, dgb x = true := by have := hall.out; rw [htk] at this; exact this
      clear htk hall
      by_cases hz : s.size = 0
      · have HE : Hid (readD s = -1) := by
          have e2 : digitsV s = -1 := by unfold digitsV; rw [if_neg (by omega)]
          unfold readD
          rw [e2]
          rfl
        have hemp : s.toList.isEmpty = true := by
          rw [ByteArray.toList_eq, List.isEmpty_iff]
          exact List.eq_nil_of_length_eq_zero (by rw [HL.out]; exact hz)
        generalize digVal s.data.toList = n at *
        clear hall2
        go_wp2
        go_ret
        exact ⟨ret_int HE.out.symm, rfl⟩
      · have hemp : s.toList.isEmpty = false := by
          rw [ByteArray.toList_eq, List.isEmpty_eq_false_iff]
          intro e
          have := HL.out
          rw [e] at this
          exact hz this.symm
        have e2 : digitsV s = digVal s.data.toList := by unfold digitsV; rw [if_pos ⟨by omega, h9 (by omega), List.all_eq_true.2 hall2⟩]
        have hbd := digitsV_bd s
        have hr : readD s = if digitsV s < 0 then -1 else if ((itoaB (digitsV s)).toList == s.toList) = true then digitsV s else -1 := rfl
        have hnn : 0 ≤ digVal s.data.toList := by
          have := (digVal_bd s.data.toList s.size (by rw [HL.out]; exact Nat.le_refl _) (fun x hx => hall2 x (List.mem_of_mem_take hx))).1
          rw [List.take_of_length_le (by rw [HL.out]; exact Nat.le_refl _)] at this
          exact this
        rw [e2] at hr hbd
        clear e2 hall2 h9
        generalize digVal s.data.toList = n at *
        rw [if_neg (by omega)] at hr
        have HR : Hid (readD s = if ((itoaB n).toList == s.toList) = true then n else -1) := hr
        clear hr
        obtain ⟨n1, n2⟩ := hbd
        cases hx : ((itoaB n).toList == s.toList)
        · have HE : Hid (readD s = -1) := by rw [HR.out, hx]; rfl
          go_wp2_with fail
          refine (specDec_any n _ (by omega) (by omega)).mono ?_
          rintro e w' ⟨rfl, rfl⟩
          rw [show (⟨(Lib.itoa n).toArray⟩ : ByteArray) = itoaB n from rfl]
          go_wp2
          go_ret
          exact ⟨ret_int HE.out.symm, rfl⟩
        · have HE : Hid (readD s = n) := by rw [HR.out, hx]; rfl
          go_wp2_with fail
          refine (specDec_any n _ (by omega) (by omega)).mono ?_
          rintro e w' ⟨rfl, rfl⟩
          rw [show (⟨(Lib.itoa n).toArray⟩ : ByteArray) = itoaB n from rfl]
          go_wp2
          go_ret
          exact ⟨ret_int HE.out.symm, rfl⟩
end Go.Proofs.YtfnnodaggjgkfaaGreatDoor
