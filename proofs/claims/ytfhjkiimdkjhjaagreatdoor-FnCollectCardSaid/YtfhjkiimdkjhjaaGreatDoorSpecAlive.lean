/-
  The specification's Alive.
-/
import Derived.Test.YtfhjkiimdkjhjaaGreatDoorME
namespace Go.Proofs.YtfhjkiimdkjhjaaGreatDoor
open Go.RowKit Go.Joins

set_option maxRecDepth 100000


set_option maxHeartbeats 12800000 in
theorem specAlive_any (v rv : Value) (es : List Ce) (rs : List Int) (S S2 : Nat → Prop) (w : World) (h : CellsAt w S v es) (h2 : IntsAt w S2 rv rs) (hn : bulkL es + rs.length ≤ 100000000) :
    Calls Tryz.prog 17 #[v, rv] w fun e w' => ∃ ov, e = .returned ov ∧ w'.ownsRow w.heap.size 3 1 ov (aliveOf es rs).length ((aliveOf es rs).map (fun z => Value.int .i64 z)) ∧ Below w.heap.size w w' := by
  have hlen : es.length ≤ bulkL es := Nat.le_add_right _ _
  obtain ⟨i0, hi, hz0, hz1, hz2⟩ := info_parts infoCdI
  have E0 := ow_empty w w.heap.size 3 (Nat.le_refl _)
  have B0 : Below w.heap.size w (w.alloc (.cells #[] 3)) := (Below.refl _ w).alloc (Nat.le_refl _) _
  have HC := (show Hid (_ ∧ _) from ⟨h.below B0, h2.below B0⟩)
  obtain ⟨a, cap, rfl⟩ := h.form
  obtain ⟨ra, rcap, rfl⟩ := h2.form
  have HE := (show Hid (_ ∧ _) from ⟨E0, B0⟩)
  clear h h2 E0 B0
  have hs0 : (w.alloc (.cells #[] 3)).heap.size = w.heap.size + 1 := by simp
  go_enter Tryz.func17, Tryz.ntmps17
  go_wp2_with fail
  refine (l05Mark_any _ _ es rs S S2 _ HC.out.1 HC.out.2 hn).mono ?_
  rintro e w1 ⟨sv, rfl, hS, b1⟩
  have hE1 := HE.out.1.kept (w' := w1) (⟨b1.os, b1.tape, b1.output, b1.size, fun k hk _ => b1.block k hk⟩ : (w.alloc (.cells #[] 3)).grownBy w1 none) (by simp [Value.ownBlock])
  have B1 : Below w.heap.size w w1 := HE.out.2.trans (b1.mono HE.out.2.size)
  obtain ⟨sa, scap, hsv⟩ := own_form hS
  rw [hs0] at hS
  have HS := (show Hid (_ ∧ _ ∧ _) from ⟨hS, hE1, B1⟩)
  subst hsv
  clear hS hE1 B1 b1 HC HE
  go_wp2
  go_loopw [5, 7] (fun ov i wr => ∃ k : Nat, k ≤ es.length ∧ i = .int .i64 k ∧ wr.ownsRow w.heap.size 3 1 ov (aliveTo es rs k).length ((aliveTo es rs k).map (fun z => Value.int .i64 z)) ∧ wr.ownsRow (w.heap.size + 1) 4 1 (.slice sa es.length scap) es.length ((marksOf es rs).map Value.bool) ∧ Below w.heap.size w wr) (fun _ i _ => es.length - (intOf i).toNat)
  case atStart => exact ⟨0, Nat.zero_le _, rfl, HS.out.2.1, HS.out.1, HS.out.2.2⟩
  case round =>
    clear HS
    obtain ⟨k, hk, rfl, hO, hS, hbw⟩ := hrel
    have hsz := hbw.size
    have hal := aliveTo_len es rs k
    by_cases hkl : k < es.length
    · have hlt' : ((k : Nat) : Int) < ((es.length : Nat) : Int) := by omega
      obtain ⟨gs, sc', hs', hgs1, hgs2, hgs3⟩ := ow_some hS (by omega)
      simp only [Value.slice.injEq, true_and] at hs'
      obtain ⟨rfl, rfl⟩ := hs'
      have s0 : wr.cell? ⟨gs, k, none⟩ = ((marksOf es rs).map Value.bool)[k]? := hS.cellAt k (by omega)
      rw [List.getElem?_map] at s0
      by_cases hr : Reach es rs k
      · rw [marksOf_yes hr, Option.map_some] at s0
        have HN := (show Hid (_ ∧ True) from ⟨aliveTo_yes hr, trivial⟩)
        obtain ⟨oa, oc, rfl⟩ := own_form hO
        have HW := (show Hid (_ ∧ _ ∧ _) from ⟨hO.alloc (.cells #[.int .i64 (k : Int)] 3), hS.alloc (.cells #[.int .i64 (k : Int)] 3), hbw.alloc hsz (.cells #[.int .i64 (k : Int)] 3)⟩)
        clear hO hS hbw hr
        generalize aliveTo es rs k = al at *
        go_wp2_with (at_builtin; refine wpList_append_own_at _ rfl _ _ 25 rfl w.heap.size 3 i0 (.int .i64 0) 1 8 Tryz.underlying25 hi hz0 hz1 hz2 rfl (by decide) _ al.length _ rfl HW.out.1 ⟨wr.heap.size, 0, none⟩ 1 1 [.int .i64 (k : Int)] rfl rfl (cell_one_new _ _ _) (int_one _) (by unfold maxLen; omega) (by omega) (by simp; omega) ?_; intro v2 w2 hown2 hgrow2 hnil2 hat2)
        refine ⟨⟨k + 1, by omega, by go_num, ?_, HW.out.2.1.kept hgrow2 (ow_apart HW.out.2.1 HW.out.1 (by decide)), Below.grown HW.out.2.2 hgrow2 (fun j hj => (HW.out.1.lt j hj).1) (by simp; omega)⟩, by simp [intOf]; omega⟩
        rw [HN.out.1, List.length_append, List.map_append]
        exact hown2
      · rw [marksOf_no hkl hr, Option.map_some] at s0
        have HN := (show Hid (_ ∧ True) from ⟨aliveTo_no hr, trivial⟩)
        have HW := (show Hid (_ ∧ _ ∧ _) from ⟨hO, hS, hbw⟩)
        clear hO hS hbw hr
        go_wp2
        refine ⟨⟨k + 1, by omega, by go_num, ?_, HW.out.2.1, HW.out.2.2⟩, by simp [intOf]; omega⟩
        rw [HN.out.1]
        exact HW.out.1
    · obtain rfl : k = es.length := by omega
      rw [aliveTo_all] at hO
      have HW := (show Hid (_ ∧ _) from ⟨hO, hbw⟩)
      clear hO hS hbw
      go_wp2
      go_ret
      exact ⟨_, rfl, HW.out.1, HW.out.2⟩
end Go.Proofs.YtfhjkiimdkjhjaaGreatDoor
