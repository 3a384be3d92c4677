/-
  The specification's draw of a text for Lex.
-/
import Derived.Test.YtfnnodaggjgkfaaGreatDoorDrawArgs
namespace Go.Proofs.YtfnnodaggjgkfaaGreatDoor
open Go.RowKit Go.Joins

set_option maxRecDepth 100000

abbrev SpoilL : List ByteArray := [⟨#[32]⟩, ⟨#[48]⟩, ⟨#[120]⟩, ⟨#[10]⟩, ⟨#[33]⟩, ⟨#[40]⟩, ⟨#[32, 61, 32]⟩, ⟨#[91]⟩, ⟨#[92]⟩]

set_option maxHeartbeats 3200000 in
theorem spoil_dr (B g : Nat) (V : Value) (len : Nat) (s : ByteArray) (w : World) (hs : s.size ≤ 100000) (h : Dr B w g V len) :
    Calls Tryz.prog 27 #[.pointer (some ⟨g, 0, none⟩), .string s] w fun e w' => ∃ t : ByteArray, e = .returned (.string t) ∧ t.size ≤ s.size + 32 ∧ Dr B w' g V len ∧ w.grownBy w' (some g) := by
  go_enter Tryz.func27, Tryz.ntmps27
  go_wp2_with fail
  refine (below_dr B g V len _ _ (by omega) (by omega) h).mono ?_
  rintro e w1 ⟨x, rfl, x0, x1, h1, g1⟩
  obtain ⟨i, rfl⟩ := Int.eq_ofNat_of_zero_le x0
  go_wp2_with fail
  refine (below_dr B g V len _ _ (by omega) (by omega) h1).mono ?_
  rintro e w2 ⟨y, rfl, y0, y1, h2, g2⟩
  have G2 := g1.trans g2
  clear g1 g2 h1
  have hi : i ≤ s.size := by omega
  by_cases hy0 : y = 0
  · subst hy0
    go_wp2
    go_ret
    exact ⟨_, rfl, by simp [ByteArray.size_extract]; omega, h2, G2⟩
  by_cases hy1 : y = 1
  · subst hy1
    go_wp2
    have hb2 : Below w2.heap.size w2 ((w2.alloc (.cells (SpoilL.map Value.string).toArray 9)).drew) := ((Below.refl _ w2).alloc (Nat.le_refl _) _).drew
    have t2 : TextsIs ((w2.alloc (.cells (SpoilL.map Value.string).toArray 9)).drew) (.slice (some ⟨w2.heap.size, 0, none⟩) 9 9) 9 32 g := (texts_lit SpoilL w2 9 32 g rfl (by decide) (by decide) h2.2.1.lt).below ((Below.refl _ _).drew)
    have h2' := h2.below hb2
    have hext : (s.extract 0 i).size = i := by simp [ByteArray.size_extract]; omega
    have hext2 : (s.extract i s.size).size = s.size - i := by simp [ByteArray.size_extract]
    have hb2g : w2.grownBy ((w2.alloc (.cells (SpoilL.map Value.string).toArray 9)).drew) (some g) := grown_of_below' hb2
    clear hb2
    go_region_with (go_at_call 28; refine (pick_dr B g V len _ 9 32 _ (by decide) (by exact t2) (by exact h2')).mono ?_; rintro e w3 ⟨u, rfl, hu, h3, g3⟩)
    all_goals
      have G3 := G2.trans (hb2g.trans g3)
      clear t2 h2' hb2g g3 G2
      go_wp2
      go_ret
      exact ⟨_, rfl, by simp only [ByteArray.size_append, hext, hext2]; omega, h3, G3⟩
  · go_wp2
    go_ret
    exact ⟨_, rfl, by omega, h2, G2⟩

set_option maxHeartbeats 3200000 in
theorem drawLex_dr (V : Value) (len : Nat) (w : World) (hcode : CodeIs w.heap.size w V len) :
    Calls Tryz.prog 5 #[V] w fun e w' => ∃ t : ByteArray, e = .returned (.string t) ∧ t.size ≤ 40000 ∧ Below w.heap.size w w' := by
  go_enter Tryz.func5, Tryz.ntmps5
  go_wp2_with fail
  refine (new_dr V len _ hcode).mono ?_
  rintro e w1 ⟨rfl, h1, b1⟩
  go_wp2_with fail
  refine (program_dr w.heap.size w.heap.size V len _ h1).mono ?_
  rintro e w2 ⟨s, rfl, hs, h2, g2⟩
  have b2 := below_new b1 g2
  clear g2 b1 h1
  go_wp2_with fail
  refine (below_dr w.heap.size w.heap.size V len _ _ (by omega) (by omega) h2).mono ?_
  rintro e w3 ⟨y, rfl, y0, y1, h3, g3⟩
  have b3 := below_new b2 g3
  clear g3 b2 h2
  by_cases hy0 : y = 0
  · subst hy0
    go_wp2_with fail
    refine (spoil_dr w.heap.size w.heap.size V len s _ (by omega) h3).mono ?_
    rintro e w4 ⟨t, rfl, ht, h4, g4⟩
    go_wp2
    go_ret
    exact ⟨t, rfl, by omega, below_new b3 g4⟩
  by_cases hy1 : y = 1
  · subst hy1
    go_wp2
    go_loopw [4] (fun sv wr => ∃ t : ByteArray, sv = .string t ∧ t.size ≤ 30000 ∧ Dr w.heap.size wr w.heap.size V len ∧ Below w.heap.size w wr) (fun sv _ => 30001 - (match sv with | .string t => t.size | _ => 0))
    case atStart => exact ⟨s, rfl, by omega, h3, b3⟩
    case round =>
      obtain ⟨t, rfl, ht, h4, b4⟩ := hrel
      go_wp2_with fail
      refine (below_dr w.heap.size w.heap.size V len _ _ (by omega) (by omega) h4).mono ?_
      rintro e w5 ⟨x, rfl, x0, x1, h5, g5⟩
      have b5 := below_new b4 g5
      clear g5 b4 h4
      by_cases hlt : (t.size : Int) < 2000 + x
      · go_wp2
        refine ⟨⟨t ++ ⟨#[32]⟩, rfl, by simp [ByteArray.size_append, sz]; omega, h5, b5⟩, by simp [ByteArray.size_append, sz]; omega⟩
      · go_wp2
        go_ret
        exact ⟨t, rfl, by omega, b5⟩
  by_cases hy2 : y = 2
  · subst hy2
    go_wp2_with fail
    refine (pick_dr w.heap.size w.heap.size V len _ 9 32 _ (by decide) (texts_lit [⟨#[57, 57, 57, 57, 57, 57, 57, 57, 57]⟩, ⟨#[49, 48, 48, 48, 48, 48, 48, 48, 48, 48]⟩, ⟨#[97, 98, 99, 100, 101, 102, 103, 104, 105]⟩, ⟨#[61, 61]⟩, ⟨#[61, 32, 61]⟩, ⟨#[91, 32, 93]⟩, ⟨#[45]⟩, ⟨#[45, 62]⟩, ⟨#[97, 58, 98]⟩] w3 9 32 w.heap.size rfl (by decide) (by decide) h3.2.1.lt) (h3.alloc _)).mono ?_
    rintro e w4 ⟨t, rfl, ht, h4, g4⟩
    go_wp2
    go_ret
    exact ⟨_, rfl, by simp only [ByteArray.size_append]; omega, below_new (b3.alloc b3.size _) g4⟩
  · go_wp2
    go_ret
    exact ⟨s, rfl, by omega, b3⟩
end Go.Proofs.YtfnnodaggjgkfaaGreatDoor
