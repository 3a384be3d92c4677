/-
  The specification's places told by Follow, and places behind a move.
-/
import Derived.Test.YthjpmdoljceaiaaCollectPure
import Derived.Test.YthjpmdoljceaiaaSpecFollow
import Derived.Test.YthjpmdoljceaiaaOwnInts
namespace Go.Proofs.Ythjpmdoljceaiaa
open Go.RowKit Go.Joins

set_option maxRecDepth 100000

set_option maxHeartbeats 12800000 in
theorem l05Short_any (v lv : Value) (es : List Ce) (zs : List Int) (S S2 : Nat → Prop) (w : World) (h : CellsAt w S v es) (h2 : IntsAt w S2 lv zs) (hn : es.length ≤ 4194304) (hz : zs.length ≤ 100000000) :
    Calls Try.prog 37 #[v, lv] w fun e w' => ∃ ov, e = .returned ov ∧ w'.ownsRow w.heap.size 3 1 ov zs.length (intVs (shortL es zs)) ∧ (∀ z ∈ shortL es zs, inI64 z) ∧ (∀ b, ov.ownBlock = some b → w.heap.size ≤ b) ∧ Below w.heap.size w w' := by
  obtain ⟨i0, hi, hz0, hz1, hz2⟩ := info_parts infoCdI
  have HC := (show Hid (_ ∧ True) from ⟨h, trivial⟩)
  obtain ⟨a, cap, rfl⟩ := h.form
  obtain ⟨ra, rcap, rfl, -, hrc⟩ := h2
  have hin : ∀ z ∈ zs, inI64 z := fun z hz => by
    obtain ⟨i, hi⟩ := List.getElem?_of_mem hz
    obtain ⟨_, _, _, _, _, _, hin⟩ := hrc i z hi
    exact hin
  have HI := (show Hid (_ ∧ _) from ⟨hrc, shortL_in (es := es) hin (by omega)⟩)
  have E0 := ow_empty w w.heap.size 3 (Nat.le_refl _)
  have B0 : Below w.heap.size w (w.alloc (.cells #[] 3)) := (Below.refl _ w).alloc (Nat.le_refl _) _
  have HE := (show Hid (_ ∧ _) from ⟨E0, B0⟩)
  clear h hrc hin E0 B0
  go_enter Try.func37, Try.ntmps37
  go_wp2
  go_loopw [5, 6] (fun ov i wr => ∃ k : Nat, k ≤ zs.length ∧ i = .int .i64 k ∧ wr.ownsRow w.heap.size 3 1 ov k (intVs (shortL es (zs.take k))) ∧ Below w.heap.size w wr) (fun _ i _ => zs.length - (intOf i).toNat)
  case atStart => exact ⟨0, Nat.zero_le _, rfl, HE.out.1, HE.out.2⟩
  case round =>
    clear HE
    obtain ⟨k, hk, rfl, hO, hbw⟩ := hrel
    have hsz := hbw.size
    obtain ⟨oa, oc, rfl⟩ := own_form hO
    by_cases hkl : k < zs.length
    · have he := List.getElem?_eq_getElem hkl
      generalize zs[k] = z at *
      obtain ⟨b, off, rfl, -, hlt2, c0, hzz⟩ := HI.out.1 k z he
      have hc0 := c0
      rw [← hbw.cell (by exact hlt2)] at c0
      have hlt' : ((k : Nat) : Int) < ((zs.length : Nat) : Int) := by omega
      have HN := (show Hid (_ ∧ _ ∧ _ ∧ _) from ⟨shortL_take es zs k he, hO, hbw, HC.out.1.below hbw⟩)
      clear he hO hbw
      go_wp2_with fail
      refine (specFollow_any _ es z S _ HN.out.2.2.2 hn).mono ?_
      rintro e w1 ⟨rfl, b1⟩
      have hb1 : Below w.heap.size w w1 := HN.out.2.2.1.trans (b1.mono hsz)
      have hO1 : w1.ownsRow w.heap.size 3 1 (.slice oa k oc) k (intVs (shortL es (zs.take k))) := own_moved HN.out.2.1 (fun g hg => b1.block g (own_lt HN.out.2.1 g hg))
      have hs1 := hb1.size
      have c1 : w1.cell? ⟨b, off + k, none⟩ = some (.int .i64 z) := by rw [hb1.cell (by exact hlt2)]; exact hc0
      have hfin := followN_in es (es.length + 1) z
      by_cases hf : follow es z < 0
      · have HY := (show Hid (_ ∧ _ ∧ _) from ⟨hO1.alloc (.cells #[.int .i64 z] 3), hb1.alloc hs1 (.cells #[.int .i64 z] 3), (by unfold shortZ; rw [if_pos hf] : shortZ es z = z)⟩)
        clear hO1 hb1 b1 hfin
        generalize follow es z = f at *
        go_wp2_with (at_builtin; refine wpList_append_own_at _ rfl _ _ 30 rfl w.heap.size 3 i0 (.int .i64 0) 1 8 Try.underlying30 hi hz0 hz1 hz2 rfl (by decide) _ k _ rfl HY.out.1 ⟨w1.heap.size, 0, none⟩ 1 1 [.int .i64 z] rfl rfl (cell_one_new _ _ _) (int_one _) (by unfold maxLen; omega) (by omega) (by simp; omega) ?_; intro v2 w2 hown2 hgrow2 hnil2 hat2)
        refine ⟨⟨k + 1, by omega, by go_num, ?_, Below.grown HY.out.2.1 hgrow2 (fun j hj => (HY.out.1.lt j hj).1) (by simp; omega)⟩, by simp [intOf]; omega⟩
        rw [HN.out.1, HY.out.2.2]
        unfold intVs
        rw [List.map_append]
        exact hown2
      · have HY := (show Hid (_ ∧ _ ∧ _) from ⟨hO1.alloc (.cells #[.int .i64 (follow es z)] 3), hb1.alloc hs1 (.cells #[.int .i64 (follow es z)] 3), (by unfold shortZ; rw [if_neg hf] : shortZ es z = follow es z)⟩)
        clear hO1 hb1 b1
        have hfb : follow es z < es.length := by
          rcases hfin with h | h
          · exact absurd (show follow es z < 0 by unfold follow; omega) hf
          · exact h.2
        clear hfin
        generalize follow es z = f at *
        go_wp2_with (at_builtin; refine wpList_append_own_at _ rfl _ _ 30 rfl w.heap.size 3 i0 (.int .i64 0) 1 8 Try.underlying30 hi hz0 hz1 hz2 rfl (by decide) _ k _ rfl HY.out.1 ⟨w1.heap.size, 0, none⟩ 1 1 [.int .i64 f] rfl rfl (cell_one_new _ _ _) (int_one _) (by unfold maxLen; omega) (by omega) (by simp; omega) ?_; intro v2 w2 hown2 hgrow2 hnil2 hat2)
        refine ⟨⟨k + 1, by omega, by go_num, ?_, Below.grown HY.out.2.1 hgrow2 (fun j hj => (HY.out.1.lt j hj).1) (by simp; omega)⟩, by simp [intOf]; omega⟩
        rw [HN.out.1, HY.out.2.2]
        unfold intVs
        rw [List.map_append]
        exact hown2
    · obtain rfl : k = zs.length := by omega
      rw [List.take_length] at hO
      have HW := (show Hid (_ ∧ _) from ⟨hO, hbw⟩)
      clear hO hbw
      go_wp2
      go_ret
      exact ⟨_, rfl, HW.out.1, HI.out.2, fun b hb => (own_type HW.out.1 b hb).1, HW.out.2⟩

set_option maxHeartbeats 12800000 in
theorem l05Moved_any (tv lv : Value) (to zs : List Int) (S S2 : Nat → Prop) (w : World) (h : IntsAt w S tv to) (h2 : IntsAt w S2 lv zs) (hn : to.length ≤ 100000000) (hz : zs.length ≤ 100000000) :
    Calls Try.prog 38 #[tv, lv] w fun e w' => ∃ ov, e = .returned ov ∧ w'.ownsRow w.heap.size 3 1 ov zs.length (intVs (movedL to zs)) ∧ Below w.heap.size w w' := by
  obtain ⟨i0, hi, hz0, hz1, hz2⟩ := info_parts infoCdI
  obtain ⟨a, cap, rfl, -, hc⟩ := h
  obtain ⟨ra, rcap, rfl, -, hrc⟩ := h2
  have HI := (show Hid (_ ∧ _) from ⟨hrc, hc⟩)
  have E0 := ow_empty w w.heap.size 3 (Nat.le_refl _)
  have B0 : Below w.heap.size w (w.alloc (.cells #[] 3)) := (Below.refl _ w).alloc (Nat.le_refl _) _
  have HE := (show Hid (_ ∧ _) from ⟨E0, B0⟩)
  clear hrc hc E0 B0
  go_enter Try.func38, Try.ntmps38
  go_wp2
  go_loopw [5, 6] (fun ov i wr => ∃ k : Nat, k ≤ zs.length ∧ i = .int .i64 k ∧ wr.ownsRow w.heap.size 3 1 ov k (intVs (movedL to (zs.take k))) ∧ Below w.heap.size w wr) (fun _ i _ => zs.length - (intOf i).toNat)
  case atStart => exact ⟨0, Nat.zero_le _, rfl, HE.out.1, HE.out.2⟩
  case round =>
    clear HE
    obtain ⟨k, hk, rfl, hO, hbw⟩ := hrel
    have hsz := hbw.size
    obtain ⟨oa, oc, rfl⟩ := own_form hO
    by_cases hkl : k < zs.length
    · have he := List.getElem?_eq_getElem hkl
      generalize zs[k] = z at *
      obtain ⟨b, off, rfl, -, hlt2, c0, hzz⟩ := HI.out.1 k z he
      rw [← hbw.cell (by exact hlt2)] at c0
      have hlt' : ((k : Nat) : Int) < ((zs.length : Nat) : Int) := by omega
      by_cases hin : inB z 0 ((to.length : Int) - 1) = true
      · have hin2 := hin
        unfold inB at hin2
        rw [Bool.and_eq_true, decide_eq_true_eq, decide_eq_true_eq] at hin2
        obtain ⟨j, rfl⟩ : ∃ j : Nat, z = j := ⟨z.toNat, by omega⟩
        have hj : j < to.length := by omega
        have hej := List.getElem?_eq_getElem hj
        generalize to[j] = y at *
        obtain ⟨b3, off3, rfl, -, hlt3, d0, hyy⟩ := HI.out.2 j y hej
        rw [← hbw.cell (by exact hlt3)] at d0
        have hjl : ((j : Nat) : Int) < ((to.length : Nat) : Int) := by omega
        have HN := (show Hid (_ ∧ _ ∧ _ ∧ _) from ⟨movedL_take to zs k he, movedZ_at hej, hO.alloc (.cells #[.int .i64 y] 3), hbw.alloc hsz (.cells #[.int .i64 y] 3)⟩)
        clear he hej hO hbw HI hin2
        go_wp2_with fail
        refine (specIn_is _ _ _ true hin _).mono ?_
        rintro e w1 ⟨rfl, rfl⟩
        go_wp2_with (at_builtin; refine wpList_append_own_at _ rfl _ _ 30 rfl w.heap.size 3 i0 (.int .i64 0) 1 8 Try.underlying30 hi hz0 hz1 hz2 rfl (by decide) _ k _ rfl HN.out.2.2.1 ⟨w1.heap.size, 0, none⟩ 1 1 [.int .i64 y] rfl rfl (cell_one_new _ _ _) (int_one _) (by unfold maxLen; omega) (by omega) (by simp; omega) ?_; intro v2 w2 hown2 hgrow2 hnil2 hat2)
        refine ⟨⟨k + 1, by omega, by go_num, ?_, Below.grown HN.out.2.2.2 hgrow2 (fun j hj => (HN.out.2.2.1.lt j hj).1) (by simp; omega)⟩, by simp [intOf]; omega⟩
        rw [HN.out.1, HN.out.2.1]
        unfold intVs
        rw [List.map_append]
        exact hown2
      · have hin' : inB z 0 ((to.length : Int) - 1) = false := by simpa using hin
        have HN := (show Hid (_ ∧ _ ∧ _ ∧ _) from ⟨movedL_take to zs k he, movedZ_out hin', hO.alloc (.cells #[.int .i64 (-1)] 3), hbw.alloc hsz (.cells #[.int .i64 (-1)] 3)⟩)
        clear he hO hbw HI hin
        go_wp2_with fail
        refine (specIn_is _ _ _ false hin' _).mono ?_
        rintro e w1 ⟨rfl, rfl⟩
        go_wp2_with (at_builtin; refine wpList_append_own_at _ rfl _ _ 30 rfl w.heap.size 3 i0 (.int .i64 0) 1 8 Try.underlying30 hi hz0 hz1 hz2 rfl (by decide) _ k _ rfl HN.out.2.2.1 ⟨w1.heap.size, 0, none⟩ 1 1 [.int .i64 (-1)] rfl rfl (cell_one_new _ _ _) (int_one _) (by unfold maxLen; omega) (by omega) (by simp; omega) ?_; intro v2 w2 hown2 hgrow2 hnil2 hat2)
        refine ⟨⟨k + 1, by omega, by go_num, ?_, Below.grown HN.out.2.2.2 hgrow2 (fun j hj => (HN.out.2.2.1.lt j hj).1) (by simp; omega)⟩, by simp [intOf]; omega⟩
        rw [HN.out.1, HN.out.2.1]
        unfold intVs
        rw [List.map_append]
        exact hown2
    · obtain rfl : k = zs.length := by omega
      rw [List.take_length] at hO
      have HW := (show Hid (_ ∧ _) from ⟨hO, hbw⟩)
      clear hO hbw
      go_wp2
      go_ret
      exact ⟨_, rfl, HW.out.1, HW.out.2⟩
end Go.Proofs.Ythjpmdoljceaiaa
