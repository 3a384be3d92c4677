/-
  Two rows of numbers that are alike.
-/
import Derived.Test.YtbaakhpmfljgnaaIntsRow
namespace Go.Proofs.Ytbaakhpmfljgnaa
open Go.RowKit Go.Joins

set_option maxRecDepth 100000

set_option maxHeartbeats 3200000 in
theorem eqIntS_same (v1 v2 : Value) (ts : List Int) (S1 S2 : Nat → Prop) (w : World) (h1 : IntsAt w S1 v1 ts) (h2 : IntsAt w S2 v2 ts) (hb : ts.length ≤ 4194304) :
    Calls Try.prog 30 #[v1, v2] w fun e w' => e = .returned (.bool true) ∧ Below w.heap.size w w' := by
  obtain ⟨a1, cap1, rfl, -, hc1⟩ := h1
  obtain ⟨a2, cap2, rfl, -, hc2⟩ := h2
  have HC1 := (show Hid (_ ∧ True) from ⟨hc1, trivial⟩)
  have HC2 := (show Hid (_ ∧ True) from ⟨hc2, trivial⟩)
  clear hc1 hc2
  have hne : (((ts.length : Nat) : Int) != ((ts.length : Nat) : Int)) = false := by simp
  go_enter Try.func30, Try.ntmps30
  go_wp2
  go_loopw [5] (fun i wr => ∃ k : Nat, k ≤ ts.length ∧ i = .int .i64 k ∧ Below w.heap.size w wr) (fun i _ => ts.length - (intOf i).toNat)
  case atStart => exact ⟨0, Nat.zero_le _, rfl, Below.refl _ _⟩
  case round =>
    obtain ⟨k, hk, rfl, hbw⟩ := hrel
    by_cases hkl : k < ts.length
    · have he := List.getElem?_eq_getElem hkl
      generalize ts[k] = t at *
      obtain ⟨b1, off1, rfl, -, hl1, c0, -⟩ := HC1.out.1 k t he
      obtain ⟨b2, off2, rfl, -, hl2, d0, -⟩ := HC2.out.1 k t he
      rw [← hbw.cell (by exact hl1)] at c0
      rw [← hbw.cell (by exact hl2)] at d0
      clear he HC1 HC2
      have hlt' : ((k : Nat) : Int) < ((ts.length : Nat) : Int) := by omega
      have hst : (t == t) = true := by simp
      have hsn : (t != t) = false := by simp
      go_wp2
      go_region
      all_goals
        go_wp2
        go_roundw
        case rel => exact ⟨k + 1, by omega, by go_num, hbw.drew⟩
        case measure => simp [intOf]; omega
    · clear HC1 HC2
      go_wp2
      go_ret
      exact ⟨rfl, hbw⟩
end Go.Proofs.Ytbaakhpmfljgnaa
