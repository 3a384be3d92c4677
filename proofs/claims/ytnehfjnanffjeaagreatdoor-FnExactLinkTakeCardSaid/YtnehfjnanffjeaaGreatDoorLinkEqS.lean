/-
  Rows of what was sent and of what was taken: two that are alike.
-/
import Derived.Test.YtnehfjnanffjeaaGreatDoorMB
namespace Go.Proofs.YtnehfjnanffjeaaGreatDoor
open Go.RowKit Go.Joins

set_option maxRecDepth 100000

set_option maxHeartbeats 6400000 in
theorem eqSentS_any (v1 v2 : Value) (es : List Sn) (S1 S2 : Nat → Prop) (w : World) (h1 : SentsAt w S1 v1 es) (h2 : SentsAt w S2 v2 es) (hb : bulkO es ≤ 4194304) :
    Calls Tryz.prog 35 #[v1, v2] w fun e w' => e = .returned (.bool true) ∧ Below w.heap.size w w' := by
  have hlen : es.length ≤ bulkO es := Nat.le_add_right _ _
  obtain ⟨a1, cap1, rfl, -, hc1⟩ := h1
  obtain ⟨a2, cap2, rfl, -, hc2⟩ := h2
  have HC1 := (show Hid (_ ∧ True) from ⟨hc1, trivial⟩)
  have HC2 := (show Hid (_ ∧ True) from ⟨hc2, trivial⟩)
  clear hc1 hc2
  have hnot := ex_not
  have hne : (((es.length : Nat) : Int) != ((es.length : Nat) : Int)) = false := by simp
  go_enter Tryz.func35, Tryz.ntmps35
  go_wp2
  go_loopw [5] (fun i wr => ∃ k : Nat, k ≤ es.length ∧ i = .int .i64 k ∧ Below w.heap.size w wr) (fun i _ => es.length - (intOf i).toNat)
  case atStart => exact ⟨0, Nat.zero_le _, rfl, Below.refl _ _⟩
  case round =>
    obtain ⟨k, hk, rfl, hbw⟩ := hrel
    by_cases hkl : k < es.length
    · have he := List.getElem?_eq_getElem hkl
      generalize es[k] = x at *
      obtain ⟨b1, off1, rfl, -, hl1, c0, c1, c2, -⟩ := HC1.out.1 k x he
      obtain ⟨b2, off2, rfl, -, hl2, d0, d1, d2, -⟩ := HC2.out.1 k x he
      rw [← hbw.cell (by exact hl1)] at c0 c1 c2
      rw [← hbw.cell (by exact hl2)] at d0 d1 d2
      clear he HC1 HC2
      have hlt' : ((k : Nat) : Int) < ((es.length : Nat) : Int) := by omega
      have hsz := hbw.size
      go_wp2
      go_region_with (go_at_call 72; refine (eqSent_any x _).mono ?_; rintro e w1 ⟨rfl, b1⟩)
      all_goals
        have hbw2 : Below w.heap.size w w1 := hbw.drew.trans (b1.mono hsz)
        clear b1
        go_wp2
        go_roundw
        case rel => exact ⟨k + 1, by omega, by go_num, hbw2⟩
        case measure => simp [intOf]; omega
    · clear HC1 HC2
      go_wp2
      go_ret
      exact ⟨rfl, hbw⟩

set_option maxHeartbeats 6400000 in
theorem eqSeenS_any (v1 v2 : Value) (es : List Se) (S1 S2 : Nat → Prop) (w : World) (h1 : SeensAt w S1 v1 es) (h2 : SeensAt w S2 v2 es) (hb : bulkN es ≤ 4194304) :
    Calls Tryz.prog 36 #[v1, v2] w fun e w' => e = .returned (.bool true) ∧ Below w.heap.size w w' := by
  have hlen : es.length ≤ bulkN es := Nat.le_add_right _ _
  have hBA := @bulkN_at es
  obtain ⟨a1, cap1, rfl, -, hc1⟩ := h1
  obtain ⟨a2, cap2, rfl, -, hc2⟩ := h2
  have HC1 := (show Hid (_ ∧ True) from ⟨hc1, trivial⟩)
  have HC2 := (show Hid (_ ∧ True) from ⟨hc2, trivial⟩)
  clear hc1 hc2
  have hnot := ex_not
  have hne : (((es.length : Nat) : Int) != ((es.length : Nat) : Int)) = false := by simp
  go_enter Tryz.func36, Tryz.ntmps36
  go_wp2
  go_loopw [5] (fun i wr => ∃ k : Nat, k ≤ es.length ∧ i = .int .i64 k ∧ Below w.heap.size w wr) (fun i _ => es.length - (intOf i).toNat)
  case atStart => exact ⟨0, Nat.zero_le _, rfl, Below.refl _ _⟩
  case round =>
    obtain ⟨k, hk, rfl, hbw⟩ := hrel
    by_cases hkl : k < es.length
    · have he := List.getElem?_eq_getElem hkl
      have hbk := hBA he
      generalize es[k] = x at *
      obtain ⟨b1, off1, kv1, rfl, -, hl1, c0, c1, -, k1⟩ := HC1.out.1 k x he
      obtain ⟨b2, off2, kv2, rfl, -, hl2, d0, d1, -, k2⟩ := HC2.out.1 k x he
      rw [← hbw.cell (by exact hl1)] at c0 c1
      rw [← hbw.cell (by exact hl2)] at d0 d1
      have HX1 : Hid (∀ wx : World, Below w.heap.size w wx → IntsAt wx S1 kv1 x.ids) := fun wx hx => k1.below hx
      have HX2 : Hid (∀ wx : World, Below w.heap.size w wx → IntsAt wx S2 kv2 x.ids) := fun wx hx => k2.below hx
      obtain ⟨ka1, kc1, rfl⟩ := k1.form
      obtain ⟨ka2, kc2, rfl⟩ := k2.form
      clear k1 k2 he HC1 HC2 hBA
      have hlt' : ((k : Nat) : Int) < ((es.length : Nat) : Int) := by omega
      have hsz := hbw.size
      go_wp2
      go_region_with (go_at_call 73; refine (eqSeen_any _ _ x S1 S2 _ (HX1.out _ hbw.drew) (HX2.out _ hbw.drew) (by omega)).mono ?_; rintro e w1 ⟨rfl, b1⟩)
      all_goals
        have hbw2 : Below w.heap.size w w1 := hbw.drew.trans (b1.mono hsz)
        clear b1
        go_wp2
        go_roundw
        case rel => exact ⟨k + 1, by omega, by go_num, hbw2⟩
        case measure => simp [intOf]; omega
    · clear HC1 HC2
      go_wp2
      go_ret
      exact ⟨rfl, hbw⟩
end Go.Proofs.YtnehfjnanffjeaaGreatDoor
