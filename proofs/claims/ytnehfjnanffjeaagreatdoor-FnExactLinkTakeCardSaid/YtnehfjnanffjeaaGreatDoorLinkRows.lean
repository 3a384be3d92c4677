/-
  Rows of what was sent and of what was taken: their bulk, two that are alike.
-/
import Derived.Test.YtnehfjnanffjeaaGreatDoorLinkOne
import Derived.Test.YtnehfjnanffjeaaGreatDoorLinkEqS
namespace Go.Proofs.YtnehfjnanffjeaaGreatDoor
open Go.RowKit Go.Joins

set_option maxRecDepth 100000

set_option maxHeartbeats 6400000 in
theorem szSentS_any (v : Value) (es : List Sn) (S : Nat → Prop) (w : World) (left : Int) (h : SentsAt w S v es) (h0 : 0 ≤ left) (h1 : left ≤ 1048576) :
    Calls Tryz.prog 20 #[v, .int .i64 left] w fun e w' => e = .returned (.int .i64 (szR left (bulkO es))) ∧ Below w.heap.size w w' := by
  have hB := (show bulkO es = es.length + preO es es.length from rfl)
  have hP := preO_le es
  obtain ⟨a, cap, rfl, hl, hc⟩ := h
  unfold maxLen at hl
  by_cases hlt : left - (es.length : Int) < 0
  · clear hc
    go_enter Tryz.func20, Tryz.ntmps20
    go_wp2
    go_ret
    exact ⟨int_ret (by unfold szR; rw [if_neg (by omega)]), Below.refl _ w⟩
  · have HC := (show Hid (_ ∧ True) from ⟨hc, trivial⟩)
    clear hc
    go_enter Tryz.func20, Tryz.ntmps20
    go_wp2
    go_loopw [1, 5] (fun lv i wr => ∃ k : Nat, k ≤ es.length ∧ i = .int .i64 k ∧ (preO es k : Int) ≤ left - (es.length : Int) ∧ lv = .int .i64 (left - (es.length : Int) - preO es k) ∧ Below w.heap.size w wr) (fun _ i _ => es.length - (intOf i).toNat)
    case atStart => exact ⟨0, Nat.zero_le _, rfl, by simp [preO]; omega, by simp [preO], Below.refl _ _⟩
    case round =>
      obtain ⟨k, hk, rfl, hle, rfl, hbw⟩ := hrel
      by_cases hkl : k < es.length
      · have he := List.getElem?_eq_getElem hkl
        have hps := preO_succ he
        generalize es[k] = x at *
        obtain ⟨b, off, rfl, hSb, hlt2, c0, c1, c2, r1, r2, r3⟩ := HC.out.1 k x he
        rw [← hbw.cell (by exact hlt2)] at c0 c1 c2
        clear he HC
        have hlt' : ((k : Nat) : Int) < ((es.length : Nat) : Int) := by omega
        go_wp2_with fail
        refine (szSent_any x _ _ (by omega) (by omega) r3).mono ?_
        rintro e w1 ⟨rfl, b1⟩
        have b2 : Below w.heap.size w w1 := hbw.trans (b1.mono hbw.size)
        clear b1 c0 c1 c2
        have hbd : -1 ≤ szR (left - (es.length : Int) - preO es k) x.bulk ∧ szR (left - (es.length : Int) - preO es k) x.bulk ≤ 1048576 := by unfold szR; split <;> omega
        have hpk := hP (k + 1)
        by_cases hok : (x.bulk : Int) ≤ left - (es.length : Int) - preO es k
        · have hr : szR (left - (es.length : Int) - preO es k) x.bulk = left - (es.length : Int) - preO es (k + 1) := by unfold szR; rw [if_pos hok]; omega
          rw [hr]
          have hr0 : ¬ left - (es.length : Int) - preO es (k + 1) < 0 := by omega
          clear hbd
          go_wp2
          refine ⟨⟨k + 1, by omega, by go_num, by omega, int_val (by omega), b2⟩, by simp [intOf]; omega⟩
        · have hr : szR (left - (es.length : Int) - preO es k) x.bulk = -1 := by unfold szR; rw [if_neg hok]
          rw [hr]
          clear hbd
          go_wp2
          go_ret
          exact ⟨int_ret (by unfold szR; rw [if_neg (by omega)]), b2⟩
      · obtain rfl : k = es.length := by omega
        go_wp2
        go_ret
        exact ⟨int_ret (by unfold szR; rw [if_pos (by omega)]; omega), hbw⟩

set_option maxHeartbeats 6400000 in
theorem szSeenS_any (v : Value) (es : List Se) (S : Nat → Prop) (w : World) (left : Int) (h : SeensAt w S v es) (h0 : 0 ≤ left) (h1 : left ≤ 1048576) :
    Calls Tryz.prog 21 #[v, .int .i64 left] w fun e w' => e = .returned (.int .i64 (szR left (bulkN es))) ∧ Below w.heap.size w w' := by
  have hB := (show bulkN es = es.length + preN es es.length from rfl)
  have hP := preN_le es
  obtain ⟨a, cap, rfl, hl, hc⟩ := h
  unfold maxLen at hl
  by_cases hlt : left - (es.length : Int) < 0
  · clear hc
    go_enter Tryz.func21, Tryz.ntmps21
    go_wp2
    go_ret
    exact ⟨int_ret (by unfold szR; rw [if_neg (by omega)]), Below.refl _ w⟩
  · have HC := (show Hid (_ ∧ True) from ⟨hc, trivial⟩)
    clear hc
    go_enter Tryz.func21, Tryz.ntmps21
    go_wp2
    go_loopw [1, 5] (fun lv i wr => ∃ k : Nat, k ≤ es.length ∧ i = .int .i64 k ∧ (preN es k : Int) ≤ left - (es.length : Int) ∧ lv = .int .i64 (left - (es.length : Int) - preN es k) ∧ Below w.heap.size w wr) (fun _ i _ => es.length - (intOf i).toNat)
    case atStart => exact ⟨0, Nat.zero_le _, rfl, by simp [preN]; omega, by simp [preN], Below.refl _ _⟩
    case round =>
      obtain ⟨k, hk, rfl, hle, rfl, hbw⟩ := hrel
      by_cases hkl : k < es.length
      · have he := List.getElem?_eq_getElem hkl
        have hps := preN_succ he
        generalize es[k] = x at *
        obtain ⟨b, off, kv, rfl, hSb, hlt2, c0, c1, r1, hkk⟩ := HC.out.1 k x he
        rw [← hbw.cell (by exact hlt2)] at c0 c1
        have HX : Hid (IntsAt wr S kv x.ids) := hkk.below hbw
        obtain ⟨ka, kc, rfl⟩ := hkk.form
        clear hkk he HC
        have hlt' : ((k : Nat) : Int) < ((es.length : Nat) : Int) := by omega
        go_wp2_with fail
        refine (szSeen_any _ x S _ _ HX.out (by omega) (by omega)).mono ?_
        rintro e w1 ⟨rfl, b1⟩
        have b2 : Below w.heap.size w w1 := hbw.trans (b1.mono hbw.size)
        clear b1 HX c0 c1
        have hbd : -1 ≤ szR (left - (es.length : Int) - preN es k) x.bulk ∧ szR (left - (es.length : Int) - preN es k) x.bulk ≤ 1048576 := by unfold szR; split <;> omega
        have hpk := hP (k + 1)
        by_cases hok : (x.bulk : Int) ≤ left - (es.length : Int) - preN es k
        · have hr : szR (left - (es.length : Int) - preN es k) x.bulk = left - (es.length : Int) - preN es (k + 1) := by unfold szR; rw [if_pos hok]; omega
          rw [hr]
          have hr0 : ¬ left - (es.length : Int) - preN es (k + 1) < 0 := by omega
          clear hbd
          go_wp2
          refine ⟨⟨k + 1, by omega, by go_num, by omega, int_val (by omega), b2⟩, by simp [intOf]; omega⟩
        · have hr : szR (left - (es.length : Int) - preN es k) x.bulk = -1 := by unfold szR; rw [if_neg hok]
          rw [hr]
          clear hbd
          go_wp2
          go_ret
          exact ⟨int_ret (by unfold szR; rw [if_neg (by omega)]), b2⟩
      · obtain rfl : k = es.length := by omega
        go_wp2
        go_ret
        exact ⟨int_ret (by unfold szR; rw [if_pos (by omega)]; omega), hbw⟩

end Go.Proofs.YtnehfjnanffjeaaGreatDoor
