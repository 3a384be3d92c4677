/-
  The law FnExactMean walked.
-/
import Derived.Test.YtkhkmmjollcfaaaGreatDoorMZa
import Derived.Test.YtkhkmmjollcfaaaGreatDoorMZc
import Derived.Test.YtkhkmmjollcfaaaGreatDoorMZb
import Derived.Test.YtkhkmmjollcfaaaGreatDoorExEq
namespace Go.Proofs.YtkhkmmjollcfaaaGreatDoor
open Go.RowKit Go.Joins

set_option maxRecDepth 100000

set_option maxHeartbeats 6400000 in
theorem lawMean_walk (d : Nat) (v : Value) (p : Pr) (F : Int) (w : World) (h : PrAt w (fun _ => True) d v p) (htab : Lib.TabIs Tryz.prog w "internal/strconv.uint64pow10" .u64 Lib.pow10Tab) :
    Calls Tryz.prog 3 #[v, .int .i64 F] w fun e w' => e = .returned (.bool true) ∧ Below w.heap.size w w' := by
  have HT : Hid (Lib.TabIs Tryz.prog w "internal/strconv.uint64pow10" .u64 Lib.pow10Tab) := htab
  clear htab
  have H1 : Hid (PrAt w (fun _ => True) d v p) := h
  obtain ⟨nv, bv, rfl, hn, hk⟩ := h
  obtain ⟨a1, c1, rfl⟩ := hn.form
  obtain ⟨a2, c2, rfl⟩ := hk.form
  clear hn hk
  have B0 : Below w.heap.size w (w.alloc (.cells #[.slice a1 p.names.length c1, .slice a2 p.bodies.length c2] 25)) := (Below.refl _ w).alloc (Nat.le_refl _) _
  have O1 : (w.alloc (.cells #[.slice a1 p.names.length c1, .slice a2 p.bodies.length c2] 25)).heap[w.heap.size]? = some (.cells #[.slice a1 p.names.length c1, .slice a2 p.bodies.length c2] 25) := (MapKept.heap_alloc w _).1
  have P3 : (w.alloc (.cells #[.slice a1 p.names.length c1, .slice a2 p.bodies.length c2] 25)).heap.size = w.heap.size + 1 := by simp
  have L1 : Hid (∀ wk : World, Below (w.alloc (.cells #[.slice a1 p.names.length c1, .slice a2 p.bodies.length c2] 25)).heap.size (w.alloc (.cells #[.slice a1 p.names.length c1, .slice a2 p.bodies.length c2] 25)) wk → wk.heap[w.heap.size]? = some (.cells #[.slice a1 p.names.length c1, .slice a2 p.bodies.length c2] 25)) := fun wk hb => (hb.block _ (by rw [P3]; omega)).trans O1
  have HB0 : Hid (∀ wk : World, Below (w.alloc (.cells #[.slice a1 p.names.length c1, .slice a2 p.bodies.length c2] 25)).heap.size (w.alloc (.cells #[.slice a1 p.names.length c1, .slice a2 p.bodies.length c2] 25)) wk → Below w.heap.size w wk) := fun wk hb => B0.trans (hb.mono B0.size)
  clear O1
  go_enter Tryz.func3, Tryz.ntmps3
  go_wp2_with fail
  generalize (w.alloc (.cells #[.slice a1 p.names.length c1, .slice a2 p.bodies.length c2] 25)) = w2 at *
  refine (szProgram_any d _ p _ _ _ (H1.out.below B0) (by omega) (by omega)).mono ?_
  rintro e w3 ⟨rfl, b3⟩
  by_cases hx : p.bulk ≤ 1048576
  · have hr : szR 1048576 p.bulk = 1048576 - p.bulk := by unfold szR; rw [if_pos (by omega)]
    rw [hr]
    have hr0 : ¬ (1048576 : Int) - p.bulk < 0 := by omega
    have M3 := L1.out _ b3
    have y0 : w3.cell? ⟨w.heap.size, 0, none⟩ = some (.slice a1 p.names.length c1) := by rw [cell_of_block M3]; rfl
    have y1 : w3.cell? ⟨w.heap.size, 1, none⟩ = some (.slice a2 p.bodies.length c2) := by rw [cell_of_block M3]; rfl
    clear hr M3
    go_wp2_with fail
    refine (toProgram_any d _ p _ _ (H1.out.below (HB0.out _ b3)) hx).mono ?_
    rintro e w4 ⟨v4, rfl, p4, d4⟩
    have b4 : Below w2.heap.size w2 w4 := b3.trans (d4.mono b3.size)
    clear d4 y0 y1
    have HP4 := (show Hid (_ ∧ True) from ⟨p4, trivial⟩)
    obtain ⟨nv4, bv4, rfl, hn4, hk4⟩ := p4
    obtain ⟨a4, c4, rfl⟩ := hn4.form
    obtain ⟨a5, c5, rfl⟩ := hk4.form
    clear hn4 hk4
    go_wp2_with fail
    refine (specMean_any d _ p _ F _ HP4.out.1).mono ?_
    rintro e w5 ⟨rfl, d5⟩
    have b5 : Below w2.heap.size w2 w5 := b4.trans (d5.mono b4.size)
    clear d5 HP4 b3 b4
    have M5 := L1.out _ b5
    have y0 : w5.cell? ⟨w.heap.size, 0, none⟩ = some (.slice a1 p.names.length c1) := by rw [cell_of_block M5]; rfl
    have y1 : w5.cell? ⟨w.heap.size, 1, none⟩ = some (.slice a2 p.bodies.length c2) := by rw [cell_of_block M5]; rfl
    clear M5
    go_wp2_with fail
    refine (toProgram_any d _ p _ _ (H1.out.below (HB0.out _ b5)) hx).mono ?_
    rintro e w6 ⟨v6, rfl, p6, d6⟩
    have b6 : Below w2.heap.size w2 w6 := b5.trans (d6.mono b5.size)
    clear d6 y0 y1
    have HP6 := (show Hid (_ ∧ True) from ⟨p6, trivial⟩)
    obtain ⟨nv6, bv6, rfl, hn6, hk6⟩ := p6
    obtain ⟨a6, c6, rfl⟩ := hn6.form
    obtain ⟨a7, c7, rfl⟩ := hk6.form
    clear hn6 hk6
    have e6 := HP6.out.1.belowP ((Below.refl _ w6).alloc (Nat.le_refl _) (.cells #[.slice a6 p.names.length c6, .slice a7 p.bodies.length c7] 31))
    have b6a : Below w2.heap.size w2 (w6.alloc (.cells #[.slice a6 p.names.length c6, .slice a7 p.bodies.length c7] 31)) := b6.alloc b6.size _
    have O6 : (w6.alloc (.cells #[.slice a6 p.names.length c6, .slice a7 p.bodies.length c7] 31)).heap[w6.heap.size]? = some (.cells #[.slice a6 p.names.length c6, .slice a7 p.bodies.length c7] 31) := (MapKept.heap_alloc w6 _).1
    have s6 : (w6.alloc (.cells #[.slice a6 p.names.length c6, .slice a7 p.bodies.length c7] 31)).heap.size = w6.heap.size + 1 := by simp
    have HE6 := (show Hid (_ ∧ _ ∧ _) from ⟨e6, b6a, O6⟩)
    clear e6 b6a O6
    go_wp2_with fail
    refine (implMean_any d _ p F _ HE6.out.1.plain (Lib.tabBelow_of_tabIs HT.out _ (HB0.out _ HE6.out.2.1))).mono ?_
    rintro e w7 ⟨rfl, d7⟩
    have b7 : Below w2.heap.size w2 w7 := HE6.out.2.1.trans (d7.mono HE6.out.2.1.size)
    have e7 := HE6.out.1.belowP d7
    have O7 : w7.heap[w6.heap.size]? = some (.cells #[.slice a6 p.names.length c6, .slice a7 p.bodies.length c7] 31) := (d7.block _ (by rw [s6]; omega)).trans HE6.out.2.2
    have HE7 := (show Hid (_ ∧ _ ∧ _) from ⟨e7, b7, O7⟩)
    have x0 : w7.cell? ⟨w6.heap.size, 0, none⟩ = some (.slice a6 p.names.length c6) := by rw [cell_of_block O7]; rfl
    have x1 : w7.cell? ⟨w6.heap.size, 1, none⟩ = some (.slice a7 p.bodies.length c7) := by rw [cell_of_block O7]; rfl
    have M7 := L1.out _ b7
    have y0 : w7.cell? ⟨w.heap.size, 0, none⟩ = some (.slice a1 p.names.length c1) := by rw [cell_of_block M7]; rfl
    have y1 : w7.cell? ⟨w.heap.size, 1, none⟩ = some (.slice a2 p.bodies.length c2) := by rw [cell_of_block M7]; rfl
    have hlt7 : w6.heap.size < w7.heap.size := (Array.getElem?_eq_some_iff.1 O7).1
    clear e7 b7 O7 M7 d7 HE6 HP6 s6
    have hss : ((mB p F).toList != (mB p F).toList) = false := by simp
    have hss2 : (mC p F != mC p F) = false := by simp
    have hnot := ex_not
    generalize mB p F = q at *
    generalize mC p F = qc at *
    go_wp2_with fail
    go_region_with (first
      | (go_at_call 7; refine (toProgram_any d _ p _ _ (H1.out.below (HB0.out _ HE7.out.2.1.drew)) hx).mono ?_; rintro e w8 ⟨v8, rfl, p8, d8⟩; have D8 : Below w7.heap.size w7 w8 := (Below.refl _ w7).drew.trans d8; have HP8 := (show Hid (_ ∧ _) from ⟨p8, D8⟩); obtain ⟨nv8, bv8, rfl, hn8, hk8⟩ := p8; obtain ⟨a8, c8, rfl⟩ := hn8.form; obtain ⟨a9, c9, rfl⟩ := hk8.form; have O8 := (D8.block _ hlt7).trans HE7.out.2.2; have z0 : w8.cell? ⟨w6.heap.size, 0, none⟩ = some (.slice a6 p.names.length c6) := (by rw [cell_of_block O8]; rfl); have z1 : w8.cell? ⟨w6.heap.size, 1, none⟩ = some (.slice a7 p.bodies.length c7) := (by rw [cell_of_block O8]; rfl); clear hn8 hk8 O8 d8 D8)
      | (go_at_call 9; refine (eqProgram_any d _ _ p _ _ _ (HE7.out.1.below HP8.out.2) HP8.out.1 hx).mono ?_; rintro e w9 ⟨rfl, d9⟩; have b9 : Below w2.heap.size w2 w9 := (HE7.out.2.1.trans (HP8.out.2.mono HE7.out.2.1.size)).trans (d9.mono (HE7.out.2.1.trans (HP8.out.2.mono HE7.out.2.1.size)).size); clear d9))
    all_goals
      go_wp2
      go_ret
      exact ⟨rfl, HB0.out _ b9⟩
  · have hr : szR 1048576 p.bulk = -1 := by unfold szR; rw [if_neg (by omega)]
    rw [hr]
    go_wp2
    go_ret
    exact ⟨rfl, HB0.out _ b3⟩

end Go.Proofs.YtkhkmmjollcfaaaGreatDoor
