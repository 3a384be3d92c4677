/-
  The laws' comparisons of rows of numbers, of cells and of heaps, at two that are alike.
-/
import Derived.Test.YtfhjkiimdkjhjaaGreatDoorCellsAt
import Derived.Test.YtfhjkiimdkjhjaaGreatDoorQuietGood
namespace Go.Proofs.YtfhjkiimdkjhjaaGreatDoor
open Go.RowKit Go.Joins

set_option maxRecDepth 100000

set_option maxHeartbeats 3200000 in
theorem sameInts_same (v1 v2 : Value) (ts : List Int) (S1 S2 : Nat → Prop) (w : World) (h1 : IntsAt w S1 v1 ts) (h2 : IntsAt w S2 v2 ts) :
    Calls Tryz.prog 13 #[v1, v2] w fun e w' => e = .returned (.bool true) ∧ Below w.heap.size w w' := by
  obtain ⟨a1, cap1, rfl, hm1, hc1⟩ := h1
  obtain ⟨a2, cap2, rfl, hm2, hc2⟩ := h2
  unfold maxLen at hm1 hm2
  have HC1 := (show Hid (_ ∧ True) from ⟨hc1, trivial⟩)
  have HC2 := (show Hid (_ ∧ True) from ⟨hc2, trivial⟩)
  clear hc1 hc2
  have hne : (((ts.length : Nat) : Int) != ((ts.length : Nat) : Int)) = false := by simp
  go_enter Tryz.func13, Tryz.ntmps13
  go_wp2
  go_loopw [5] (fun i wr => ∃ k : Nat, k ≤ ts.length ∧ i = .int .i64 k ∧ Below w.heap.size w wr) (fun i _ => ts.length - (intOf i).toNat)
  case atStart => exact ⟨0, Nat.zero_le _, rfl, Below.refl _ _⟩
  case round =>
    obtain ⟨k, hk, rfl, hbw⟩ := hrel
    by_cases hkl : k < ts.length
    · have he := List.getElem?_eq_getElem hkl
      generalize ts[k] = x at *
      obtain ⟨b1, off1, rfl, -, hl1, c0, -⟩ := HC1.out.1 k x he
      obtain ⟨b2, off2, rfl, -, hl2, d0, -⟩ := HC2.out.1 k x he
      rw [← hbw.cell (by exact hl1)] at c0
      rw [← hbw.cell (by exact hl2)] at d0
      clear he HC1 HC2
      have hlt' : ((k : Nat) : Int) < ((ts.length : Nat) : Int) := by omega
      have hst : (x == x) = true := by simp
      have hsn : (x != x) = false := by simp
      go_wp2
      go_quiet (fail)
      go_wp2
      go_roundw
      case rel => exact ⟨k + 1, by omega, by go_num, drewN_below hbw _⟩
      case measure => simp [intOf]; omega
    · clear HC1 HC2
      go_wp2
      go_ret
      exact ⟨rfl, hbw⟩

set_option maxHeartbeats 3200000 in
theorem sameCell_same (v1 v2 : Value) (x : Ce) (S1 S2 : Nat → Prop) (w : World) (h1 : CeAt w S1 v1 x) (h2 : CeAt w S2 v2 x) :
    Calls Tryz.prog 36 #[v1, v2] w fun e w' => e = .returned (.bool true) ∧ Below w.heap.size w w' := by
  obtain ⟨kv1, rfl, -, -, -, k1⟩ := h1
  obtain ⟨kv2, rfl, -, -, -, k2⟩ := h2
  obtain ⟨a1, c1, rfl⟩ := k1.form
  obtain ⟨a2, c2, rfl⟩ := k2.form
  have e1 : (x.kind == x.kind) = true := by simp
  have e2 : (x.n == x.n) = true := by simp
  have e3 : (x.pos == x.pos) = true := by simp
  have B0 : Below w.heap.size w ((w.alloc (.cells #[.int .i64 x.kind, .int .i64 x.n, .int .i64 x.pos, .slice a1 x.kids.length c1] 32)).alloc (.cells #[.int .i64 x.kind, .int .i64 x.n, .int .i64 x.pos, .slice a2 x.kids.length c2] 32)) :=
    ((Below.refl _ w).alloc (Nat.le_refl _) _).alloc (by simp) _
  have HK1 := (show Hid (_ ∧ True) from ⟨k1.below B0, trivial⟩)
  have HK2 := (show Hid (_ ∧ True) from ⟨k2.below B0, trivial⟩)
  have HB0 := (show Hid (_ ∧ True) from ⟨B0, trivial⟩)
  clear k1 k2 B0
  go_enter Tryz.func36, Tryz.ntmps36
  go_wp2_with (go_at_call 13; refine (sameInts_same _ _ x.kids S1 S2 _ HK1.out.1 HK2.out.1).mono ?_; rintro e w1 ⟨rfl, b1⟩)
  go_ret
  exact ⟨rfl, HB0.out.1.trans (b1.mono HB0.out.1.size)⟩

set_option maxHeartbeats 6400000 in
theorem sameHeap_same (v1 v2 : Value) (es : List Ce) (S1 S2 : Nat → Prop) (w : World) (h1 : CellsAt w S1 v1 es) (h2 : CellsAt w S2 v2 es) :
    Calls Tryz.prog 12 #[v1, v2] w fun e w' => e = .returned (.bool true) ∧ Below w.heap.size w w' := by
  obtain ⟨a1, cap1, rfl, hm1, hc1⟩ := h1
  obtain ⟨a2, cap2, rfl, -, hc2⟩ := h2
  unfold maxLen at hm1
  have HC1 := (show Hid (_ ∧ True) from ⟨hc1, trivial⟩)
  have HC2 := (show Hid (_ ∧ True) from ⟨hc2, trivial⟩)
  clear hc1 hc2
  have hnot := ex_not
  have hne : (((es.length : Nat) : Int) != ((es.length : Nat) : Int)) = false := by simp
  go_enter Tryz.func12, Tryz.ntmps12
  go_wp2
  go_loopw [5] (fun i wr => ∃ k : Nat, k ≤ es.length ∧ i = .int .i64 k ∧ Below w.heap.size w wr) (fun i _ => es.length - (intOf i).toNat)
  case atStart => exact ⟨0, Nat.zero_le _, rfl, Below.refl _ _⟩
  case round =>
    obtain ⟨k, hk, rfl, hbw⟩ := hrel
    by_cases hkl : k < es.length
    · have he := List.getElem?_eq_getElem hkl
      generalize es[k] = x at *
      obtain ⟨b1, off1, kv1, rfl, -, hl1, c0, c1, c2, c3, r1, r2, r3, k1⟩ := HC1.out.1 k x he
      obtain ⟨b2, off2, kv2, rfl, -, hl2, d0, d1, d2, d3, -, -, -, k2⟩ := HC2.out.1 k x he
      rw [← hbw.cell (by exact hl1)] at c0 c1 c2 c3
      rw [← hbw.cell (by exact hl2)] at d0 d1 d2 d3
      have HX1 : Hid (∀ wx : World, Below w.heap.size w wx → CeAt wx S1 (.agg #[.int .i64 x.kind, .int .i64 x.n, .int .i64 x.pos, kv1]) x) := fun wx hx => ⟨kv1, rfl, r1, r2, r3, k1.below hx⟩
      have HX2 : Hid (∀ wx : World, Below w.heap.size w wx → CeAt wx S2 (.agg #[.int .i64 x.kind, .int .i64 x.n, .int .i64 x.pos, kv2]) x) := fun wx hx => ⟨kv2, rfl, r1, r2, r3, k2.below hx⟩
      obtain ⟨ka1, kc1, rfl⟩ := k1.form
      obtain ⟨ka2, kc2, rfl⟩ := k2.form
      clear k1 k2 he HC1 HC2 r1 r2 r3
      have hlt' : ((k : Nat) : Int) < ((es.length : Nat) : Int) := by omega
      have hsz := hbw.size
      go_wp2
      go_region_with (go_at_call 36; refine (sameCell_same _ _ x S1 S2 _ (HX1.out _ hbw.drew) (HX2.out _ hbw.drew)).mono ?_; rintro e w1 ⟨rfl, b1⟩)
      all_goals
        have hbw2 : Below w.heap.size w w1 := hbw.drew.trans (b1.mono hsz)
        clear b1
        go_wp2
        go_roundw
        case rel => exact ⟨k + 1, by omega, by go_num, hbw2⟩
        case measure => simp [intOf]; omega
    · clear HC1 HC2
      go_wp2
      go_ret
      exact ⟨rfl, hbw⟩
end Go.Proofs.YtfhjkiimdkjhjaaGreatDoor
