/-
  Rows of what was sent and of what was taken: their bulk, two that are alike.
-/
import Derived.Test.YtbaakhpmfljgnaaDoorLinkOne
namespace Go.Proofs.YtbaakhpmfljgnaaDoor
open Go.RowKit Go.Joins

set_option maxRecDepth 100000

set_option maxHeartbeats 6400000 in
theorem szSentS_any (v : Value) (es : List Sn) (S : Nat → Prop) (w : World) (left : Int) (h : SentsAt w S v es) (h0 : 0 ≤ left) (h1 : left ≤ 1048576) :
    Calls Tryd.prog 9 #[v, .int .i64 left] w fun e w' => e = .returned (.int .i64 (szR left (bulkO es))) ∧ Below w.heap.size w w' := by
  have hB := (show bulkO es = es.length + preO es es.length from rfl)
  have hP := preO_le es
  obtain ⟨a, cap, rfl, hl, hc⟩ := h
  unfold maxLen at hl
  by_cases hlt : left - (es.length : Int) < 0
  · clear hc
    go_enter Tryd.func9, Tryd.ntmps9
    go_wp2
    go_ret
    exact ⟨int_ret (by unfold szR; rw [if_neg (by omega)]), Below.refl _ w⟩
  · have HC := (show Hid (_ ∧ True) from ⟨hc, trivial⟩)
    clear hc
    go_enter Tryd.func9, Tryd.ntmps9
    go_wp2
    go_loopw [1, 5] (fun lv i wr => ∃ k : Nat, k ≤ es.length ∧ i = .int .i64 k ∧ (preO es k : Int) ≤ left - (es.length : Int) ∧ lv = .int .i64 (left - (es.length : Int) - preO es k) ∧ Below w.heap.size w wr) (fun _ i _ => es.length - (intOf i).toNat)
    case atStart => exact ⟨0, Nat.zero_le _, rfl, by simp [preO]; omega, by simp [preO], Below.refl _ _⟩
    case round =>
      obtain ⟨k, hk, rfl, hle, rfl, hbw⟩ := hrel
      by_cases hkl : k < es.length
      · have he := List.getElem?_eq_getElem hkl
        have hps := preO_succ he
        generalize es[k] = x at *
        obtain ⟨b, off, rfl, hSb, hlt2, c0, c1, c2, r1, r2, r3⟩ := HC.out.1 k x he
        rw [← hbw.cell (by exact hlt2)] at c0 c1 c2
        clear he HC
        have hlt' : ((k : Nat) : Int) < ((es.length : Nat) : Int) := by omega
        go_wp2_with fail
        refine (szSent_any x _ _ (by omega) (by omega) r3).mono ?_
        rintro e w1 ⟨rfl, b1⟩
        have b2 : Below w.heap.size w w1 := hbw.trans (b1.mono hbw.size)
        clear b1 c0 c1 c2
        have hbd : -1 ≤ szR (left - (es.length : Int) - preO es k) x.bulk ∧ szR (left - (es.length : Int) - preO es k) x.bulk ≤ 1048576 := by unfold szR; split <;> omega
        have hpk := hP (k + 1)
        by_cases hok : (x.bulk : Int) ≤ left - (es.length : Int) - preO es k
        · have hr : szR (left - (es.length : Int) - preO es k) x.bulk = left - (es.length : Int) - preO es (k + 1) := by unfold szR; rw [if_pos hok]; omega
          rw [hr]
          have hr0 : ¬ left - (es.length : Int) - preO es (k + 1) < 0 := by omega
          clear hbd
          go_wp2
          refine ⟨⟨k + 1, by omega, by go_num, by omega, int_val (by omega), b2⟩, by simp [intOf]; omega⟩
        · have hr : szR (left - (es.length : Int) - preO es k) x.bulk = -1 := by unfold szR; rw [if_neg hok]
          rw [hr]
          clear hbd
          go_wp2
          go_ret
          exact ⟨int_ret (by unfold szR; rw [if_neg (by omega)]), b2⟩
      · obtain rfl : k = es.length := by omega
        go_wp2
        go_ret
        exact ⟨int_ret (by unfold szR; rw [if_pos (by omega)]; omega), hbw⟩

set_option maxHeartbeats 6400000 in
theorem szSeenS_any (v : Value) (es : List Se) (S : Nat → Prop) (w : World) (left : Int) (h : SeensAt w S v es) (h0 : 0 ≤ left) (h1 : left ≤ 1048576) :
    Calls Tryd.prog 10 #[v, .int .i64 left] w fun e w' => e = .returned (.int .i64 (szR left (bulkN es))) ∧ Below w.heap.size w w' := by
  have hB := (show bulkN es = es.length + preN es es.length from rfl)
  have hP := preN_le es
  obtain ⟨a, cap, rfl, hl, hc⟩ := h
  unfold maxLen at hl
  by_cases hlt : left - (es.length : Int) < 0
  · clear hc
    go_enter Tryd.func10, Tryd.ntmps10
    go_wp2
    go_ret
    exact ⟨int_ret (by unfold szR; rw [if_neg (by omega)]), Below.refl _ w⟩
  · have HC := (show Hid (_ ∧ True) from ⟨hc, trivial⟩)
    clear hc
    go_enter Tryd.func10, Tryd.ntmps10
    go_wp2
    go_loopw [1, 5] (fun lv i wr => ∃ k : Nat, k ≤ es.length ∧ i = .int .i64 k ∧ (preN es k : Int) ≤ left - (es.length : Int) ∧ lv = .int .i64 (left - (es.length : Int) - preN es k) ∧ Below w.heap.size w wr) (fun _ i _ => es.length - (intOf i).toNat)
    case atStart => exact ⟨0, Nat.zero_le _, rfl, by simp [preN]; omega, by simp [preN], Below.refl _ _⟩
    case round =>
      obtain ⟨k, hk, rfl, hle, rfl, hbw⟩ := hrel
      by_cases hkl : k < es.length
      · have he := List.getElem?_eq_getElem hkl
        have hps := preN_succ he
        generalize es[k] = x at *
        obtain ⟨b, off, kv, rfl, hSb, hlt2, c0, c1, r1, hkk⟩ := HC.out.1 k x he
        rw [← hbw.cell (by exact hlt2)] at c0 c1
        have HX : Hid (IntsAt wr S kv x.ids) := hkk.below hbw
        obtain ⟨ka, kc, rfl⟩ := hkk.form
        clear hkk he HC
        have hlt' : ((k : Nat) : Int) < ((es.length : Nat) : Int) := by omega
        go_wp2_with fail
        refine (szSeen_any _ x S _ _ HX.out (by omega) (by omega)).mono ?_
        rintro e w1 ⟨rfl, b1⟩
        have b2 : Below w.heap.size w w1 := hbw.trans (b1.mono hbw.size)
        clear b1 HX c0 c1
        have hbd : -1 ≤ szR (left - (es.length : Int) - preN es k) x.bulk ∧ szR (left - (es.length : Int) - preN es k) x.bulk ≤ 1048576 := by unfold szR; split <;> omega
        have hpk := hP (k + 1)
        by_cases hok : (x.bulk : Int) ≤ left - (es.length : Int) - preN es k
        · have hr : szR (left - (es.length : Int) - preN es k) x.bulk = left - (es.length : Int) - preN es (k + 1) := by unfold szR; rw [if_pos hok]; omega
          rw [hr]
          have hr0 : ¬ left - (es.length : Int) - preN es (k + 1) < 0 := by omega
          clear hbd
          go_wp2
          refine ⟨⟨k + 1, by omega, by go_num, by omega, int_val (by omega), b2⟩, by simp [intOf]; omega⟩
        · have hr : szR (left - (es.length : Int) - preN es k) x.bulk = -1 := by unfold szR; rw [if_neg hok]
          rw [hr]
          clear hbd
          go_wp2
          go_ret
          exact ⟨int_ret (by unfold szR; rw [if_neg (by omega)]), b2⟩
      · obtain rfl : k = es.length := by omega
        go_wp2
        go_ret
        exact ⟨int_ret (by unfold szR; rw [if_pos (by omega)]; omega), hbw⟩

set_option maxHeartbeats 6400000 in
theorem eqSentS_any (v1 v2 : Value) (es : List Sn) (S1 S2 : Nat → Prop) (w : World) (h1 : SentsAt w S1 v1 es) (h2 : SentsAt w S2 v2 es) (hb : bulkO es ≤ 4194304) :
    Calls Tryd.prog 20 #[v1, v2] w fun e w' => e = .returned (.bool true) ∧ Below w.heap.size w w' := by
  have hlen : es.length ≤ bulkO es := Nat.le_add_right _ _
  obtain ⟨a1, cap1, rfl, -, hc1⟩ := h1
  obtain ⟨a2, cap2, rfl, -, hc2⟩ := h2
  have HC1 := (show Hid (_ ∧ True) from ⟨hc1, trivial⟩)
  have HC2 := (show Hid (_ ∧ True) from ⟨hc2, trivial⟩)
  clear hc1 hc2
  have hnot := ex_not
  have hne : (((es.length : Nat) : Int) != ((es.length : Nat) : Int)) = false := by simp
  go_enter Tryd.func20, Tryd.ntmps20
  go_wp2
  go_loopw [5] (fun i wr => ∃ k : Nat, k ≤ es.length ∧ i = .int .i64 k ∧ Below w.heap.size w wr) (fun i _ => es.length - (intOf i).toNat)
  case atStart => exact ⟨0, Nat.zero_le _, rfl, Below.refl _ _⟩
  case round =>
    obtain ⟨k, hk, rfl, hbw⟩ := hrel
    by_cases hkl : k < es.length
    · have he := List.getElem?_eq_getElem hkl
      generalize es[k] = x at *
      obtain ⟨b1, off1, rfl, -, hl1, c0, c1, c2, -⟩ := HC1.out.1 k x he
      obtain ⟨b2, off2, rfl, -, hl2, d0, d1, d2, -⟩ := HC2.out.1 k x he
      rw [← hbw.cell (by exact hl1)] at c0 c1 c2
      rw [← hbw.cell (by exact hl2)] at d0 d1 d2
      clear he HC1 HC2
      have hlt' : ((k : Nat) : Int) < ((es.length : Nat) : Int) := by omega
      have hsz := hbw.size
      go_wp2
      go_region_with (go_at_call 31; refine (eqSent_any x _).mono ?_; rintro e w1 ⟨rfl, b1⟩)
      all_goals
        have hbw2 : Below w.heap.size w w1 := hbw.drew.trans (b1.mono hsz)
        clear b1
        go_wp2
        go_roundw
        case rel => exact ⟨k + 1, by omega, by go_num, hbw2⟩
        case measure => simp [intOf]; omega
    · clear HC1 HC2
      go_wp2
      go_ret
      exact ⟨rfl, hbw⟩

set_option maxHeartbeats 6400000 in
theorem eqSeenS_any (v1 v2 : Value) (es : List Se) (S1 S2 : Nat → Prop) (w : World) (h1 : SeensAt w S1 v1 es) (h2 : SeensAt w S2 v2 es) (hb : bulkN es ≤ 4194304) :
    Calls Tryd.prog 21 #[v1, v2] w fun e w' => e = .returned (.bool true) ∧ Below w.heap.size w w' := by
  have hlen : es.length ≤ bulkN es := Nat.le_add_right _ _
  have hBA := @bulkN_at es
  obtain ⟨a1, cap1, rfl, -, hc1⟩ := h1
  obtain ⟨a2, cap2, rfl, -, hc2⟩ := h2
  have HC1 := (show Hid (_ ∧ True) from ⟨hc1, trivial⟩)
  have HC2 := (show Hid (_ ∧ True) from ⟨hc2, trivial⟩)
  clear hc1 hc2
  have hnot := ex_not
  have hne : (((es.length : Nat) : Int) != ((es.length : Nat) : Int)) = false := by simp
  go_enter Tryd.func21, Tryd.ntmps21
  go_wp2
  go_loopw [5] (fun i wr => ∃ k : Nat, k ≤ es.length ∧ i = .int .i64 k ∧ Below w.heap.size w wr) (fun i _ => es.length - (intOf i).toNat)
  case atStart => exact ⟨0, Nat.zero_le _, rfl, Below.refl _ _⟩
  case round =>
    obtain ⟨k, hk, rfl, hbw⟩ := hrel
    by_cases hkl : k < es.length
    · have he := List.getElem?_eq_getElem hkl
      have hbk := hBA he
      generalize es[k] = x at *
      obtain ⟨b1, off1, kv1, rfl, -, hl1, c0, c1, -, k1⟩ := HC1.out.1 k x he
      obtain ⟨b2, off2, kv2, rfl, -, hl2, d0, d1, -, k2⟩ := HC2.out.1 k x he
      rw [← hbw.cell (by exact hl1)] at c0 c1
      rw [← hbw.cell (by exact hl2)] at d0 d1
      have HX1 : Hid (∀ wx : World, Below w.heap.size w wx → IntsAt wx S1 kv1 x.ids) := fun wx hx => k1.below hx
      have HX2 : Hid (∀ wx : World, Below w.heap.size w wx → IntsAt wx S2 kv2 x.ids) := fun wx hx => k2.below hx
      obtain ⟨ka1, kc1, rfl⟩ := k1.form
      obtain ⟨ka2, kc2, rfl⟩ := k2.form
      clear k1 k2 he HC1 HC2 hBA
      have hlt' : ((k : Nat) : Int) < ((es.length : Nat) : Int) := by omega
      have hsz := hbw.size
      go_wp2
      go_region_with (go_at_call 32; refine (eqSeen_any _ _ x S1 S2 _ (HX1.out _ hbw.drew) (HX2.out _ hbw.drew) (by omega)).mono ?_; rintro e w1 ⟨rfl, b1⟩)
      all_goals
        have hbw2 : Below w.heap.size w w1 := hbw.drew.trans (b1.mono hsz)
        clear b1
        go_wp2
        go_roundw
        case rel => exact ⟨k + 1, by omega, by go_num, hbw2⟩
        case measure => simp [intOf]; omega
    · clear HC1 HC2
      go_wp2
      go_ret
      exact ⟨rfl, hbw⟩
end Go.Proofs.YtbaakhpmfljgnaaDoor
