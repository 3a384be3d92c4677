/-
  The specification's places told by Follow, and places behind a move.
  The specification's marking of what one comes to.
  A row of numbers of a call's own is a row of numbers in memory.
  The specification's Collect.
-/
import Derived.Test.YtfhjkiimdkjhjaaGreatDoorCollectPure
import Derived.Test.YtfhjkiimdkjhjaaGreatDoorSpecFollow
import Derived.Test.YtfhjkiimdkjhjaaGreatDoorOwnInts
import Derived.Test.YtfhjkiimdkjhjaaGreatDoorReachPure
import Derived.Test.YtfhjkiimdkjhjaaGreatDoorNode
import Derived.Test.YtfhjkiimdkjhjaaGreatDoorOwnRow
import Derived.Test.YtfhjkiimdkjhjaaGreatDoorHpRow
namespace Go.Proofs.YtfhjkiimdkjhjaaGreatDoor
open Go.RowKit Go.Joins

set_option maxRecDepth 100000

set_option maxHeartbeats 12800000 in
theorem l05Short_any (v lv : Value) (es : List Ce) (zs : List Int) (S S2 : Nat → Prop) (w : World) (h : CellsAt w S v es) (h2 : IntsAt w S2 lv zs) (hn : es.length ≤ 4194304) (hz : zs.length ≤ 100000000) :
    Calls Tryz.prog 31 #[v, lv] w fun e w' => ∃ ov, e = .returned ov ∧ w'.ownsRow w.heap.size 3 1 ov zs.length (intVs (shortL es zs)) ∧ (∀ z ∈ shortL es zs, inI64 z) ∧ (∀ b, ov.ownBlock = some b → w.heap.size ≤ b) ∧ Below w.heap.size w w' := by
  obtain ⟨i0, hi, hz0, hz1, hz2⟩ := info_parts infoCdI
  have HC := (show Hid (_ ∧ True) from ⟨h, trivial⟩)
  obtain ⟨a, cap, rfl⟩ := h.form
  obtain ⟨ra, rcap, rfl, -, hrc⟩ := h2
  have hin : ∀ z ∈ zs, inI64 z := fun z hz => by
    obtain ⟨i, hi⟩ := List.getElem?_of_mem hz
    obtain ⟨_, _, _, _, _, _, hin⟩ := hrc i z hi
    exact hin
  have HI := (show Hid (_ ∧ _) from ⟨hrc, shortL_in (es := es) hin (by omega)⟩)
  have E0 := ow_empty w w.heap.size 3 (Nat.le_refl _)
  have B0 : Below w.heap.size w (w.alloc (.cells #[] 3)) := (Below.refl _ w).alloc (Nat.le_refl _) _
  have HE := (show Hid (_ ∧ _) from ⟨E0, B0⟩)
  clear h hrc hin E0 B0
  go_enter Tryz.func31, Tryz.ntmps31
  go_wp2
  go_loopw [5, 6] (fun ov i wr => ∃ k : Nat, k ≤ zs.length ∧ i = .int .i64 k ∧ wr.ownsRow w.heap.size 3 1 ov k (intVs (shortL es (zs.take k))) ∧ Below w.heap.size w wr) (fun _ i _ => zs.length - (intOf i).toNat)
  case atStart => exact ⟨0, Nat.zero_le _, rfl, HE.out.1, HE.out.2⟩
  case round =>
    clear HE
    obtain ⟨k, hk, rfl, hO, hbw⟩ := hrel
    have hsz := hbw.size
    obtain ⟨oa, oc, rfl⟩ := own_form hO
    by_cases hkl : k < zs.length
    · have he := List.getElem?_eq_getElem hkl
      generalize zs[k] = z at *
      obtain ⟨b, off, rfl, -, hlt2, c0, hzz⟩ := HI.out.1 k z he
      have hc0 := c0
      rw [← hbw.cell (by exact hlt2)] at c0
      have hlt' : ((k : Nat) : Int) < ((zs.length : Nat) : Int) := by omega
      have HN := (show Hid (_ ∧ _ ∧ _ ∧ _) from ⟨shortL_take es zs k he, hO, hbw, HC.out.1.below hbw⟩)
      clear he hO hbw
      go_wp2_with fail
      refine (specFollow_any _ es z S _ HN.out.2.2.2 hn).mono ?_
      rintro e w1 ⟨rfl, b1⟩
      have hb1 : Below w.heap.size w w1 := HN.out.2.2.1.trans (b1.mono hsz)
      have hO1 : w1.ownsRow w.heap.size 3 1 (.slice oa k oc) k (intVs (shortL es (zs.take k))) := own_moved HN.out.2.1 (fun g hg => b1.block g (own_lt HN.out.2.1 g hg))
      have hs1 := hb1.size
      have c1 : w1.cell? ⟨b, off + k, none⟩ = some (.int .i64 z) := by rw [hb1.cell (by exact hlt2)]; exact hc0
      have hfin := followN_in es (es.length + 1) z
      by_cases hf : follow es z < 0
      · have HY := (show Hid (_ ∧ _ ∧ _) from ⟨hO1.alloc (.cells #[.int .i64 z] 3), hb1.alloc hs1 (.cells #[.int .i64 z] 3), (by unfold shortZ; rw [if_pos hf] : shortZ es z = z)⟩)
        clear hO1 hb1 b1 hfin
        generalize follow es z = f at *
        go_wp2_with (at_builtin; refine wpList_append_own_at _ rfl _ _ 25 rfl w.heap.size 3 i0 (.int .i64 0) 1 8 Tryz.underlying25 hi hz0 hz1 hz2 rfl (by decide) _ k _ rfl HY.out.1 ⟨w1.heap.size, 0, none⟩ 1 1 [.int .i64 z] rfl rfl (cell_one_new _ _ _) (int_one _) (by unfold maxLen; omega) (by omega) (by simp; omega) ?_; intro v2 w2 hown2 hgrow2 hnil2 hat2)
        refine ⟨⟨k + 1, by omega, by go_num, ?_, Below.grown HY.out.2.1 hgrow2 (fun j hj => (HY.out.1.lt j hj).1) (by simp; omega)⟩, by simp [intOf]; omega⟩
        rw [HN.out.1, HY.out.2.2]
        unfold intVs
        rw [List.map_append]
        exact hown2
      · have HY := (show Hid (_ ∧ _ ∧ _) from ⟨hO1.alloc (.cells #[.int .i64 (follow es z)] 3), hb1.alloc hs1 (.cells #[.int .i64 (follow es z)] 3), (by unfold shortZ; rw [if_neg hf] : shortZ es z = follow es z)⟩)
        clear hO1 hb1 b1
        have hfb : follow es z < es.length := by
          rcases hfin with h | h
          · exact absurd (show follow es z < 0 by unfold follow; omega) hf
          · exact h.2
        clear hfin
        generalize follow es z = f at *
        go_wp2_with (at_builtin; refine wpList_append_own_at _ rfl _ _ 25 rfl w.heap.size 3 i0 (.int .i64 0) 1 8 Tryz.underlying25 hi hz0 hz1 hz2 rfl (by decide) _ k _ rfl HY.out.1 ⟨w1.heap.size, 0, none⟩ 1 1 [.int .i64 f] rfl rfl (cell_one_new _ _ _) (int_one _) (by unfold maxLen; omega) (by omega) (by simp; omega) ?_; intro v2 w2 hown2 hgrow2 hnil2 hat2)
        refine ⟨⟨k + 1, by omega, by go_num, ?_, Below.grown HY.out.2.1 hgrow2 (fun j hj => (HY.out.1.lt j hj).1) (by simp; omega)⟩, by simp [intOf]; omega⟩
        rw [HN.out.1, HY.out.2.2]
        unfold intVs
        rw [List.map_append]
        exact hown2
    · obtain rfl : k = zs.length := by omega
      rw [List.take_length] at hO
      have HW := (show Hid (_ ∧ _) from ⟨hO, hbw⟩)
      clear hO hbw
      go_wp2
      go_ret
      exact ⟨_, rfl, HW.out.1, HI.out.2, fun b hb => (own_type HW.out.1 b hb).1, HW.out.2⟩

set_option maxHeartbeats 12800000 in
theorem l05Moved_any (tv lv : Value) (to zs : List Int) (S S2 : Nat → Prop) (w : World) (h : IntsAt w S tv to) (h2 : IntsAt w S2 lv zs) (hn : to.length ≤ 100000000) (hz : zs.length ≤ 100000000) :
    Calls Tryz.prog 33 #[tv, lv] w fun e w' => ∃ ov, e = .returned ov ∧ w'.ownsRow w.heap.size 3 1 ov zs.length (intVs (movedL to zs)) ∧ Below w.heap.size w w' := by
  obtain ⟨i0, hi, hz0, hz1, hz2⟩ := info_parts infoCdI
  obtain ⟨a, cap, rfl, -, hc⟩ := h
  obtain ⟨ra, rcap, rfl, -, hrc⟩ := h2
  have HI := (show Hid (_ ∧ _) from ⟨hrc, hc⟩)
  have E0 := ow_empty w w.heap.size 3 (Nat.le_refl _)
  have B0 : Below w.heap.size w (w.alloc (.cells #[] 3)) := (Below.refl _ w).alloc (Nat.le_refl _) _
  have HE := (show Hid (_ ∧ _) from ⟨E0, B0⟩)
  clear hrc hc E0 B0
  go_enter Tryz.func33, Tryz.ntmps33
  go_wp2
  go_loopw [5, 6] (fun ov i wr => ∃ k : Nat, k ≤ zs.length ∧ i = .int .i64 k ∧ wr.ownsRow w.heap.size 3 1 ov k (intVs (movedL to (zs.take k))) ∧ Below w.heap.size w wr) (fun _ i _ => zs.length - (intOf i).toNat)
  case atStart => exact ⟨0, Nat.zero_le _, rfl, HE.out.1, HE.out.2⟩
  case round =>
    clear HE
    obtain ⟨k, hk, rfl, hO, hbw⟩ := hrel
    have hsz := hbw.size
    obtain ⟨oa, oc, rfl⟩ := own_form hO
    by_cases hkl : k < zs.length
    · have he := List.getElem?_eq_getElem hkl
      generalize zs[k] = z at *
      obtain ⟨b, off, rfl, -, hlt2, c0, hzz⟩ := HI.out.1 k z he
      rw [← hbw.cell (by exact hlt2)] at c0
      have hlt' : ((k : Nat) : Int) < ((zs.length : Nat) : Int) := by omega
      by_cases hin : inB z 0 ((to.length : Int) - 1) = true
      · have hin2 := hin
        unfold inB at hin2
        rw [Bool.and_eq_true, decide_eq_true_eq, decide_eq_true_eq] at hin2
        obtain ⟨j, rfl⟩ : ∃ j : Nat, z = j := ⟨z.toNat, by omega⟩
        have hj : j < to.length := by omega
        have hej := List.getElem?_eq_getElem hj
        generalize to[j] = y at *
        obtain ⟨b3, off3, rfl, -, hlt3, d0, hyy⟩ := HI.out.2 j y hej
        rw [← hbw.cell (by exact hlt3)] at d0
        have hjl : ((j : Nat) : Int) < ((to.length : Nat) : Int) := by omega
        have HN := (show Hid (_ ∧ _ ∧ _ ∧ _) from ⟨movedL_take to zs k he, movedZ_at hej, hO.alloc (.cells #[.int .i64 y] 3), hbw.alloc hsz (.cells #[.int .i64 y] 3)⟩)
        clear he hej hO hbw HI hin2
        go_wp2_with fail
        refine (specIn_is _ _ _ true hin _).mono ?_
        rintro e w1 ⟨rfl, rfl⟩
        go_wp2_with (at_builtin; refine wpList_append_own_at _ rfl _ _ 25 rfl w.heap.size 3 i0 (.int .i64 0) 1 8 Tryz.underlying25 hi hz0 hz1 hz2 rfl (by decide) _ k _ rfl HN.out.2.2.1 ⟨w1.heap.size, 0, none⟩ 1 1 [.int .i64 y] rfl rfl (cell_one_new _ _ _) (int_one _) (by unfold maxLen; omega) (by omega) (by simp; omega) ?_; intro v2 w2 hown2 hgrow2 hnil2 hat2)
        refine ⟨⟨k + 1, by omega, by go_num, ?_, Below.grown HN.out.2.2.2 hgrow2 (fun j hj => (HN.out.2.2.1.lt j hj).1) (by simp; omega)⟩, by simp [intOf]; omega⟩
        rw [HN.out.1, HN.out.2.1]
        unfold intVs
        rw [List.map_append]
        exact hown2
      · have hin' : inB z 0 ((to.length : Int) - 1) = false := by simpa using hin
        have HN := (show Hid (_ ∧ _ ∧ _ ∧ _) from ⟨movedL_take to zs k he, movedZ_out hin', hO.alloc (.cells #[.int .i64 (-1)] 3), hbw.alloc hsz (.cells #[.int .i64 (-1)] 3)⟩)
        clear he hO hbw HI hin
        go_wp2_with fail
        refine (specIn_is _ _ _ false hin' _).mono ?_
        rintro e w1 ⟨rfl, rfl⟩
        go_wp2_with (at_builtin; refine wpList_append_own_at _ rfl _ _ 25 rfl w.heap.size 3 i0 (.int .i64 0) 1 8 Tryz.underlying25 hi hz0 hz1 hz2 rfl (by decide) _ k _ rfl HN.out.2.2.1 ⟨w1.heap.size, 0, none⟩ 1 1 [.int .i64 (-1)] rfl rfl (cell_one_new _ _ _) (int_one _) (by unfold maxLen; omega) (by omega) (by simp; omega) ?_; intro v2 w2 hown2 hgrow2 hnil2 hat2)
        refine ⟨⟨k + 1, by omega, by go_num, ?_, Below.grown HN.out.2.2.2 hgrow2 (fun j hj => (HN.out.2.2.1.lt j hj).1) (by simp; omega)⟩, by simp [intOf]; omega⟩
        rw [HN.out.1, HN.out.2.1]
        unfold intVs
        rw [List.map_append]
        exact hown2
    · obtain rfl : k = zs.length := by omega
      rw [List.take_length] at hO
      have HW := (show Hid (_ ∧ _) from ⟨hO, hbw⟩)
      clear hO hbw
      go_wp2
      go_ret
      exact ⟨_, rfl, HW.out.1, HW.out.2⟩
end Go.Proofs.YtfhjkiimdkjhjaaGreatDoor

namespace Go.Proofs.YtfhjkiimdkjhjaaGreatDoor
open Go.RowKit Go.Joins

set_option maxRecDepth 100000

theorem infoB : (Tryz.prog.info? 4).map (fun i => (i.zero, i.size, i.bytes)) = some (some (.bool false), 1, 1) := by kernel_rfl
theorem bool_one (z : Bool) : ∀ u ∈ [Value.bool z], u.oneCell' = true := by
  intro u hu
  rw [List.mem_singleton.1 hu]
  rfl
/-- The marking under way. -/
def MarkRel (w : World) (es : List Ce) (rs : List Int) (m : Nat) (sv tv : Value) (wr : World) : Prop :=
  ∃ (bs : List Bool) (todo : List Int), MarkInv es rs bs todo ∧ m = todo.length + leftOf es bs ∧ (∀ z ∈ todo, inI64 z) ∧ wr.ownsRow w.heap.size 4 1 sv bs.length (bs.map Value.bool) ∧ wr.ownsRow w.heap.size 3 1 tv todo.length (todo.map (fun z => Value.int .i64 z)) ∧ Below w.heap.size w wr

set_option maxHeartbeats 12800000 in
theorem l05Mark_any (v rv : Value) (es : List Ce) (rs : List Int) (S S2 : Nat → Prop) (w : World) (h : CellsAt w S v es) (h2 : IntsAt w S2 rv rs) (hn : bulkL es + rs.length ≤ 100000000) :
    Calls Tryz.prog 32 #[v, rv] w fun e w' => ∃ sv, e = .returned sv ∧ w'.ownsRow w.heap.size 4 1 sv es.length ((marksOf es rs).map Value.bool) ∧ Below w.heap.size w w' := by
  have hlen : es.length ≤ bulkL es := Nat.le_add_right _ _
  have hleft := leftOf_bulk es
  obtain ⟨i0, hi, hz0, hz1, hz2⟩ := info_parts infoB
  obtain ⟨a, cap, rfl, hl, hc⟩ := h
  obtain ⟨ra, rcap, hrv⟩ := h2.form
  clear hl
  have HC := (show Hid (_ ∧ _) from ⟨hc, h2⟩)
  clear hc h2
  subst hrv
  have E0 := ow_empty w w.heap.size 4 (Nat.le_refl _)
  have B0 : Below w.heap.size w (w.alloc (.cells #[] 4)) := (Below.refl _ w).alloc (Nat.le_refl _) _
  have HE := (show Hid (_ ∧ _) from ⟨E0, B0⟩)
  clear E0 B0
  go_enter Tryz.func32, Tryz.ntmps32
  go_wp2
  go_loopw [5, 6] (fun sv i wr => ∃ k : Nat, k ≤ es.length ∧ i = .int .i64 k ∧ wr.ownsRow w.heap.size 4 1 sv k ((List.replicate k false).map Value.bool) ∧ Below w.heap.size w wr) (fun _ i _ => es.length - (intOf i).toNat)
  case atStart => exact ⟨0, Nat.zero_le _, rfl, HE.out.1, HE.out.2⟩
  case round =>
    obtain ⟨k, hk, rfl, hrow, hbw⟩ := hrel
    clear HE
    have hsz := hbw.size
    obtain ⟨sa, scap, rfl⟩ := own_form hrow
    by_cases hkl : k < es.length
    · have hlt' : ((k : Nat) : Int) < ((es.length : Nat) : Int) := by omega
      have HR := (show Hid (_ ∧ _) from ⟨hrow.alloc (.cells #[.bool false] 4), hbw⟩)
      clear hrow hbw HC
      go_wp2_with (at_builtin; refine wpList_append_own_at _ rfl _ _ 52 rfl w.heap.size 4 i0 (.bool false) 1 1 Tryz.underlying52 hi hz0 hz1 hz2 rfl (by decide) _ k _ rfl HR.out.1 ⟨wr.heap.size, 0, none⟩ 1 1 [.bool false] rfl rfl (cell_one_new _ _ _) (bool_one _) (by unfold maxLen; omega) (by omega) (by simp; omega) ?_; intro v2 w2 hown2 hgrow2 hnil2 hat2)
      refine ⟨⟨k + 1, by omega, by go_num, by rw [List.replicate_succ', List.map_append]; exact hown2, Below.grown (HR.out.2.alloc hsz _) hgrow2 (fun j hj => (HR.out.1.lt j hj).1) (by simp; omega)⟩, by simp [intOf]; omega⟩
    · obtain rfl : k = es.length := by omega
      have EI := ow_empty wr w.heap.size 3 hsz
      have GA := World.grownBy_alloc wr (.cells #[] 3) none
      have hb1 : Below w.heap.size w (wr.alloc (.cells #[] 3)) := hbw.alloc hsz _
      have HR := (show Hid (_ ∧ _ ∧ _) from ⟨hrow.alloc (.cells #[] 3), hb1, EI⟩)
      have HI := (show Hid (_ ∧ True) from ⟨HC.out.2.below hb1, trivial⟩)
      have hs1 : (wr.alloc (.cells #[] 3)).heap.size = wr.heap.size + 1 := by simp
      clear hrow hbw EI GA hb1 hi hz0 hz1 hz2
      go_wp2_with (at_builtin; refine wpList_append_ints rfl _ _ rfl w.heap.size _ 0 [] rfl HR.out.2.2 _ rs S2 rfl HI.out.1 (by omega) (by omega) ?_; intro v2 w2 hown2 hgrow2 hat2)
      rw [List.nil_append, Nat.zero_add] at hown2
      have R0 : MarkRel w es rs (rs.length + leftOf es (List.replicate es.length false)) (.slice sa es.length scap) v2 w2 := by
        refine ⟨List.replicate es.length false, rs, MarkInv.start es rs, rfl, fun z hz => ?_, ?_, hown2, ?_⟩
        · obtain ⟨_, _, _, _, hii⟩ := HI.out.1
          obtain ⟨i, hi⟩ := List.getElem?_of_mem hz
          obtain ⟨_, _, _, _, _, _, hin⟩ := hii i z hi
          exact hin
        · have := HR.out.1.kept hgrow2 (ow_apart HR.out.1 HR.out.2.2 (by decide))
          simpa using this
        · exact Below.grown HR.out.2.1 hgrow2 (fun j hj => (HR.out.2.2.lt j hj).1) (by simp; omega)
      have HR0 := (show Hid (_ ∧ True) from ⟨R0, trivial⟩)
      obtain ⟨ta, tcap, rfl⟩ := own_form hown2
      clear R0 hown2 hgrow2 hat2 HR HI
      generalize hSV : Value.slice sa es.length scap = SV at *
      go_loopw [7] (fun tv wr => ∃ m, MarkRel w es rs m SV tv wr ∧ m ≤ 100000000) (fun tv wr => leastM (fun m => MarkRel w es rs m SV tv wr))
      case atStart => exact ⟨_, HR0.out.1, by omega⟩
      case round =>
        clear HR0
        have hR := leastM_spec (p := fun m => MarkRel w es rs m SV u7 wr) (hrel.elim fun m h => ⟨m, h.1⟩)
        have hM : leastM (fun m => MarkRel w es rs m SV u7 wr) ≤ 100000000 := hrel.elim fun m h => Nat.le_trans (leastM_le h.1) h.2
        clear hrel
        generalize hm0 : leastM (fun m => MarkRel w es rs m SV u7 wr) = m0 at *
        have HM0 := (show Hid (_ ∧ True) from ⟨hm0, trivial⟩)
        clear hm0
        obtain ⟨bs, todo, hinv, hm, hz, hS, hT, hbw⟩ := hR
        have hbl := hinv.len
        have hsz := hbw.size
        rcases List.eq_nil_or_concat todo with rfl | ⟨t, z, rfl⟩
        · obtain ⟨ta', tc', rfl⟩ := own_form hT
          have HD := (show Hid (_ ∧ _) from ⟨hinv.done, hS⟩)
          clear hinv hT hz hS hm HC
          go_wp2
          go_ret
          refine ⟨_, rfl, ?_, hbw⟩
          rw [← HD.out.1, ← hbl]
          exact HD.out.2
        · rw [List.concat_eq_append] at *
          rw [List.length_append, List.length_singleton, List.map_append, List.map_singleton] at hT
          rw [List.length_append, List.length_singleton] at hm
          obtain ⟨g, tc', rfl, hg1, hg2, hg3⟩ := ow_some hT (by omega)
          have c0 : wr.cell? ⟨g, t.length, none⟩ = some (.int .i64 z) := by
            rw [hT.cellAt t.length (by omega), List.getElem?_append_right (by simp)]
            simp
          have hT1 := ow_pop hT
          have hzz := hz z (by simp)
          have HZ := (show Hid (_ ∧ True) from ⟨fun y (hy : y ∈ t) => hz y (by simp [hy]), trivial⟩)
          clear hz
          by_cases hin : inB z 0 ((es.length : Int) - 1) = true
          · obtain ⟨k, c, rfl, hk, he, hca⟩ := cellAt_some hin
            clear hca
            rw [← hSV, hbl] at hS
            obtain ⟨gs, sc', hs', hgs1, hgs2, hgs3⟩ := ow_some hS (by omega)
            simp only [Value.slice.injEq, true_and] at hs'
            obtain ⟨rfl, rfl⟩ := hs'
            subst hSV
            have hbk : k < bs.length := by omega
            have s0 : wr.cell? ⟨gs, k, none⟩ = some (.bool bs[k]) := by
              rw [hS.cellAt k (by omega)]
              simp [hbk]
            have hb0 := List.getElem?_eq_getElem hbk
            have hklt : ((k : Nat) : Int) < ((es.length : Nat) : Int) := by omega
            have hS2 : wr.ownsRow w.heap.size 4 1 (.slice (some ⟨gs, 0, none⟩) es.length scap) bs.length (bs.map Value.bool) := by rw [hbl]; exact hS
            cases hbv : bs[k] with
            | true =>
              rw [hbv] at s0 hb0
              have HN := (show Hid (_ ∧ True) from ⟨hinv.skip (fun i hi hl => by
                have hik : k = i := by omega
                subst hik; exact hb0), trivial⟩)
              have HW := (show Hid (_ ∧ _ ∧ _) from ⟨hS2, hT1, hbw⟩)
              clear hinv hS hS2 hT hT1 hbw HC he hb0 hbv
              go_wp2_with fail
              refine (specIn_is _ _ _ true hin _).mono ?_
              rintro e w1 ⟨rfl, rfl⟩
              go_wp2
              have S' : MarkRel w es rs (t.length + leftOf es bs) (.slice (some ⟨gs, 0, none⟩) es.length scap) (.slice (some ⟨g, 0, none⟩) t.length tc') w1 := ⟨bs, t, HN.out.1, rfl, HZ.out.1, HW.out.1, HW.out.2.1, HW.out.2.2⟩
              exact ⟨⟨_, S', by omega⟩, Nat.lt_of_le_of_lt (leastM_le S') (by rw [HM0.out.1]; omega)⟩
            | false =>
              rw [hbv] at s0 hb0
              have f0 : wr.frozen? ⟨gs, k, none⟩ = false := by
                rcases hS.2 with ⟨h', _⟩ | ⟨g', cap', cur, h', _, hc', _⟩
                · simp at h'
                · simp only [Value.slice.injEq, Option.some.injEq, Addr.mk.injEq, and_true, true_and] at h'
                  obtain ⟨rfl, rfl⟩ := h'
                  exact unfrozen_of_block hc' _
              have hls := leftOf_set es bs k c he hb0
              have HN := (show Hid (_ ∧ True) from ⟨hinv.mark he, trivial⟩)
              have hst := hS.stored k (.bool true)
              have hT2 := hT1.kept hst.2 (ow_apart hT1 hS (by decide))
              have hbw2 : Below w.heap.size w (wr.setCell ⟨gs, k, none⟩ (.bool true)) := hbw.setCell (p := ⟨gs, k, none⟩) hgs2 _
              obtain ⟨b, off, kv, rfl, -, hlt2, -, -, -, d3, -, -, -, hkk⟩ := HC.out.1 k c he
              rw [← hbw.cell (by exact hlt2)] at d3
              have hne : ¬ b = gs := by omega
              have HK := (show Hid (_ ∧ True) from ⟨hkk.below hbw2, trivial⟩)
              obtain ⟨ka, kc, rfl⟩ := hkk.form
              have HW := (show Hid (_ ∧ _ ∧ _) from ⟨hst.1, hT2, hbw2⟩)
              have hsz2 : (wr.setCell ⟨gs, k, none⟩ (.bool true)).heap.size = wr.heap.size := by simp
              clear hinv hS hS2 hT hT1 hT2 hbw hbw2 HC he hb0 hbv hst hkk
              go_wp2_with fail
              refine (specIn_is _ _ _ true hin _).mono ?_
              rintro e w1 ⟨rfl, rfl⟩
              go_wp2_with (at_builtin; refine wpList_append_ints rfl _ _ rfl w.heap.size _ t.length _ rfl HW.out.2.1 _ c.kids S rfl HK.out.1 (by omega) (by omega) ?_; intro v2 w2 hown2 hgrow2 hat2)
              rw [← List.map_append, ← List.length_append] at hown2
              have S' : MarkRel w es rs ((t ++ c.kids).length + leftOf es (bs.set k true)) (.slice (some ⟨gs, 0, none⟩) es.length scap) v2 w2 := by
                refine ⟨bs.set k true, t ++ c.kids, HN.out.1, rfl, fun y hy => ?_, ?_, hown2, ?_⟩
                · rw [List.mem_append] at hy
                  rcases hy with hy | hy
                  · exact HZ.out.1 y hy
                  · obtain ⟨_, _, _, _, hii⟩ := HK.out.1
                    obtain ⟨i, hi⟩ := List.getElem?_of_mem hy
                    obtain ⟨_, _, _, _, _, _, hin⟩ := hii i y hi
                    exact hin
                · have := HW.out.1.kept hgrow2 (ow_apart HW.out.1 HW.out.2.1 (by decide))
                  rw [List.length_set, hbl, List.map_set]
                  exact this
                · exact Below.grown HW.out.2.2 hgrow2 (fun j hj => (HW.out.2.1.lt j hj).1) (by omega)
              rw [List.length_append] at S'
              exact ⟨⟨_, S', by omega⟩, Nat.lt_of_le_of_lt (leastM_le S') (by rw [HM0.out.1]; omega)⟩
          · have hin' : inB z 0 ((es.length : Int) - 1) = false := by simpa using hin
            have HN := (show Hid (_ ∧ True) from ⟨hinv.skip (fun i hi hl => by
              subst hi
              unfold inB at hin'
              simp at hin'
              omega), trivial⟩)
            have HW := (show Hid (_ ∧ _ ∧ _) from ⟨hS, hT1, hbw⟩)
            clear hin hinv hS hT hT1 hbw HC
            go_wp2_with fail
            refine (specIn_is _ _ _ false hin' _).mono ?_
            rintro e w1 ⟨rfl, rfl⟩
            go_wp2
            have S' : MarkRel w es rs (t.length + leftOf es bs) SV (.slice (some ⟨g, 0, none⟩) t.length tc') w1 := ⟨bs, t, HN.out.1, rfl, HZ.out.1, HW.out.1, HW.out.2.1, HW.out.2.2⟩
            exact ⟨⟨_, S', by omega⟩, Nat.lt_of_le_of_lt (leastM_le S') (by rw [HM0.out.1]; omega)⟩
end Go.Proofs.YtfhjkiimdkjhjaaGreatDoor

namespace Go.Proofs.YtfhjkiimdkjhjaaGreatDoor
open Go.RowKit Go.Joins

set_option maxRecDepth 100000

/-- A row of numbers of the call's own is a row of numbers in memory. -/
theorem own_ints {w : World} {B : Nat} {v : Value} {zs : List Int} (h : w.ownsRow B 3 1 v zs.length (intVs zs)) (hz : ∀ z ∈ zs, inI64 z) : IntsAt w (fun b => B ≤ b ∧ Pl w b) v zs := by
  rcases h.2 with ⟨rfl, h0⟩ | ⟨g, cap, cur, rfl, hb, hc, hn, hcm, hs, ht⟩
  · obtain rfl : zs = [] := List.length_eq_zero_iff.1 h0
    exact ⟨none, 0, rfl, Nat.zero_le _, fun i t h => by simp at h⟩
  · refine ⟨_, _, rfl, Nat.le_trans hn hcm, fun i z hi => ⟨g, 0, rfl, ⟨hb, cur, _, hc⟩, (Array.getElem?_eq_some_iff.1 hc).1, ?_, hz z (List.mem_of_getElem? hi)⟩⟩
    have := h.cells (g := g) rfl i (.int .i64 z) (by rw [List.getElem?_map, hi]; rfl)
    rw [addr_addI] at this
    exact this
end Go.Proofs.YtfhjkiimdkjhjaaGreatDoor

namespace Go.Proofs.YtfhjkiimdkjhjaaGreatDoor
open Go.RowKit Go.Joins

set_option maxRecDepth 100000

theorem cell_four5 (w : World) (x y z u : Value) (t : TypeId) : ∀ j v, [x, y, z, u][j]? = some v → (w.alloc (.cells #[x, y, z, u] t)).cell? ((⟨w.heap.size, 0, none⟩ : Addr).add j) = some v := by
  intro j v hj
  rw [addr_addI, cell_of_block (MapKept.heap_alloc w _).1, Nat.zero_add]
  simpa using hj
theorem four_ok (x : Ce) (a : Option Addr) (n c : Nat) : ∀ u ∈ ceCells (x, .slice a n c), u.oneCell' = true := by
  intro u hu
  simp only [ceCells, List.mem_cons, List.not_mem_nil, or_false] at hu
  rcases hu with rfl | rfl | rfl | rfl <;> rfl
theorem hp_nil (w : World) (B : Nat) (h : B ≤ w.heap.size) : HpAt (w.alloc (.cells #[] 32)) B (.slice (some ⟨w.heap.size, 0, none⟩) 0 0) [] :=
  ⟨World.ownsRow_made (size := 4) (e := 32) w #[] 0 h (Nat.zero_le _) (by simp), fun r hr => by simp at hr, by simp⟩
theorem shortC_take (es : List Ce) (k : Nat) {c : Ce} (h : es[k]? = some c) : (es.take (k + 1)).map (Ce.short es) = (es.take k).map (Ce.short es) ++ [Ce.short es c] := by
  have hk := (List.getElem?_eq_some_iff.1 h).1
  rw [List.take_succ_eq_append_getElem hk, List.map_append, (List.getElem?_eq_some_iff.1 h).2]
  rfl

set_option maxHeartbeats 12800000 in
theorem specCollect_any (v rv : Value) (es : List Ce) (rts : List Int) (S S2 : Nat → Prop) (w : World) (h : CellsAt w S v es) (h2 : IntsAt w S2 rv rts) (hn : bulkL es + rts.length ≤ 4194304) :
    Calls Tryz.prog 7 #[v, rv] w fun e w' => ∃ cv tv rs, e = .returned (.tuple #[cv, tv]) ∧ HpAt w' w.heap.size cv rs ∧ rs.map Prod.fst = collectC es rts ∧ w'.ownsRow w.heap.size 3 1 tv (collectR es rts).length (intVs (collectR es rts)) ∧ Below w.heap.size w w' := by
  have hlen : es.length ≤ bulkL es := Nat.le_add_right _ _
  have hBA := @bulkL_at es
  obtain ⟨i0, hi, hz0, hz1, hz2⟩ := info_parts infoCell
  obtain ⟨a, cap, rfl⟩ := h.form
  obtain ⟨ra, rcap, rfl⟩ := h2.form
  have HC := (show Hid (_ ∧ _) from ⟨h, h2⟩)
  have HE := (show Hid (_ ∧ _) from ⟨hp_nil w w.heap.size (Nat.le_refl _), (Below.refl w.heap.size w).alloc (Nat.le_refl _) (.cells #[] 32)⟩)
  clear h h2
  go_enter Tryz.func7, Tryz.ntmps7
  go_wp2
  go_loopw [6, 7] (fun sv i wr => ∃ (k : Nat) (rs : List (Ce × Value)), k ≤ es.length ∧ i = .int .i64 k ∧ rs.length = k ∧ rs.map Prod.fst = (es.take k).map (Ce.short es) ∧ HpAt wr w.heap.size sv rs ∧ Below w.heap.size w wr) (fun _ i _ => es.length - (intOf i).toNat)
  case atStart => exact ⟨0, [], Nat.zero_le _, rfl, rfl, by simp, HE.out.1, HE.out.2⟩
  case round =>
    clear HE
    obtain ⟨k, rs, hk, rfl, hrl, hmap, hrow, hbw⟩ := hrel
    have hsz := hbw.size
    obtain ⟨sa, sc, hsv⟩ := own_form hrow.cells
    rw [hrl] at hsv
    subst hsv
    by_cases hkl : k < es.length
    · have he := List.getElem?_eq_getElem hkl
      have hbk := hBA he
      have htk := shortC_take es k he
      generalize es[k] = x at *
      obtain ⟨a0, cap0, hv0, -, hcc⟩ := HC.out.1
      obtain ⟨b, off, kv, ha0, hSb, hlt2, c0, c1, c2, c3, r1, r2, r3, hkk⟩ := hcc k x he
      cases hv0
      subst ha0
      rw [← hbw.cell (by exact hlt2)] at c0 c1 c2 c3
      obtain ⟨ka, kc, rfl⟩ := hkk.form
      have hlt' : ((k : Nat) : Int) < ((es.length : Nat) : Int) := by omega
      have hB1 : Below w.heap.size w (wr.alloc (.cells #[.int .i64 x.kind, .int .i64 x.n, .int .i64 x.pos, .slice ka x.kids.length kc] 32)) := hbw.alloc hsz _
      have HX := (show Hid (_ ∧ _ ∧ _ ∧ _ ∧ _ ∧ _) from ⟨htk, hmap, hrow, hrl, HC.out.1.below hB1, hkk.below hB1⟩)
      have HB := (show Hid (_ ∧ _) from ⟨hbw, hB1⟩)
      have hbx : x.bulk = x.kids.length := rfl
      have hbl : b < wr.heap.size := by omega
      have hbn : ¬ b = wr.heap.size := by omega
      have hO0 : (wr.alloc (.cells #[.int .i64 x.kind, .int .i64 x.n, .int .i64 x.pos, .slice ka x.kids.length kc] 32)).heap[wr.heap.size]? = some (.cells #[.int .i64 x.kind, .int .i64 x.n, .int .i64 x.pos, .slice ka x.kids.length kc] 32 (0, 0)) := (MapKept.heap_alloc wr _).1
      have HO := (show Hid (_ ∧ _) from ⟨hO0, (⟨r1, r2, r3⟩ : inI64 x.kind ∧ inI64 x.n ∧ inI64 x.pos)⟩)
      have hs0 : (wr.alloc (.cells #[.int .i64 x.kind, .int .i64 x.n, .int .i64 x.pos, .slice ka x.kids.length kc] 32)).heap.size = wr.heap.size + 1 := by simp
      clear hkk he htk hmap hrow hrl hbw hB1 hcc hBA hO0 r1 r2 r3
      go_wp2_with fail
      refine (l05Short_any _ _ es x.kids S S _ HX.out.2.2.2.2.1 HX.out.2.2.2.2.2 (by omega) (by omega)).mono ?_
      rintro e w1 ⟨ov, rfl, ho, hoin, hob, b1⟩
      have O1 : w1.heap[wr.heap.size]? = some (.cells #[.int .i64 x.kind, .int .i64 x.n, .int .i64 x.pos, .slice ka x.kids.length kc] 32 (0, 0)) := (b1.block _ (by rw [hs0]; omega)).trans HO.out.1
      have y0 : w1.cell? ⟨wr.heap.size, 0, none⟩ = some (.int .i64 x.kind) := by rw [cell_of_block O1]; rfl
      have y1 : w1.cell? ⟨wr.heap.size, 1, none⟩ = some (.int .i64 x.n) := by rw [cell_of_block O1]; rfl
      have y2 : w1.cell? ⟨wr.heap.size, 2, none⟩ = some (.int .i64 x.pos) := by rw [cell_of_block O1]; rfl
      have y3 : w1.cell? ⟨wr.heap.size, 3, none⟩ = some (.slice ka x.kids.length kc) := by rw [cell_of_block O1]; rfl
      have f3 : w1.frozen? ⟨wr.heap.size, 3, none⟩ = false := unfrozen_of_block O1 3
      have hs1 := b1.size
      rw [hs0] at hs1 ho hob
      obtain ⟨oa, oc, rfl⟩ := own_form ho
      have hW1 : HpAt w1 w.heap.size (.slice sa k sc) rs := (HX.out.2.2.1.alloc _).below b1
      have hnO : ¬ HpOwn (.slice sa k sc) rs wr.heap.size := fun hp => by have := (HX.out.2.2.1.own hp).2; omega
      have hW2 := hW1.store (off := 3) hnO (.slice oa x.kids.length oc)
      have ho2 : (w1.setCell ⟨wr.heap.size, 3, none⟩ (.slice oa x.kids.length oc)).ownsRow (wr.heap.size + 1) 3 1 (.slice oa x.kids.length oc) x.kids.length (intVs (shortL es x.kids)) :=
        own_moved ho (fun g hg => Below.heap_setCell _ _ _ _ (fun e => by have e' : g = wr.heap.size := e; have := hob g hg; omega))
      have hB1 : Below w.heap.size w (w1.setCell ⟨wr.heap.size, 3, none⟩ (.slice oa x.kids.length oc)) := ((HB.out.2).trans (b1.mono (by rw [hs0]; omega))).setCell (p := ⟨wr.heap.size, 3, none⟩) (by simp; omega) _
      have hs2 : (w1.setCell ⟨wr.heap.size, 3, none⟩ (.slice oa x.kids.length oc)).heap.size = w1.heap.size := by simp
      have hcw := hW2.cells
      rw [HX.out.2.2.2.1] at hcw
      have HY := (show Hid (_ ∧ _ ∧ _ ∧ _ ∧ _) from ⟨hW2, ho2, hB1, hoin, hcw.alloc (.cells #[.int .i64 x.kind, .int .i64 x.n, .int .i64 x.pos, .slice oa x.kids.length oc] 32)⟩)
      have hnews := cell_four5 (w1.setCell ⟨wr.heap.size, 3, none⟩ (.slice oa x.kids.length oc)) (.int .i64 x.kind) (.int .i64 x.n) (.int .i64 x.pos) (.slice oa x.kids.length oc) 32
      have HNW := (show Hid (_ ∧ True) from ⟨hnews, trivial⟩)
      clear ho hoin hob b1 O1 hW1 hW2 ho2 hB1 hcw hnews hnO
      go_wp2_with (at_builtin; refine wpList_append_own_at _ rfl _ _ 24 rfl w.heap.size 32 i0 _ 4 48 Tryz.underlying24 hi hz0 hz1 hz2 rfl (by decide) _ k _ rfl HY.out.2.2.2.2 ⟨w1.heap.size, 0, none⟩ 1 1 (ceCells (Ce.short es x, .slice oa x.kids.length oc)) rfl rfl (by have := HNW.out.1; rw [hs2] at this; exact this) (four_ok _ _ _ _) (by unfold maxLen; omega) (by omega) (by simp; omega) ?_; intro v3 w3 hown3 hgrow3 hnil3 hat3)
      have hxk : (HY.out.1.alloc (.cells #[.int .i64 x.kind, .int .i64 x.n, .int .i64 x.pos, .slice oa x.kids.length oc] 32)).cells = (HY.out.1.alloc (.cells #[.int .i64 x.kind, .int .i64 x.n, .int .i64 x.pos, .slice oa x.kids.length oc] 32)).cells := rfl
      clear hxk
      have hP := HpAt.push (x := Ce.short es x) (kv := .slice oa x.kids.length oc) (HY.out.1.alloc (.cells #[.int .i64 x.kind, .int .i64 x.n, .int .i64 x.pos, .slice oa x.kids.length oc] 32)) (by rw [HX.out.2.2.2.1]; exact hown3) hgrow3 (by
          show World.ownsRow _ _ _ _ _ (shortL es x.kids).length (intVs (shortL es x.kids))
          rw [shortL_len]
          exact own_mono (HY.out.2.1.alloc _) (by omega)) ⟨HO.out.2.1, HO.out.2.2.1, HO.out.2.2.2, HY.out.2.2.2.1⟩ (fun r hr => by
          cases hb : r.2.ownBlock with
          | none => exact .inl hb
          | some q =>
            refine .inr fun e => ?_
            have h4 := own_lt (HX.out.2.2.1.kids r hr).1 q hb
            have h5 := (own_type HY.out.2.1 q (e.symm.trans hb)).1
            omega)
      refine ⟨⟨k + 1, rs ++ [(Ce.short es x, .slice oa x.kids.length oc)], by omega, by go_num, by rw [List.length_append, HX.out.2.2.2.1]; rfl, by rw [List.map_append, HX.out.2.1, HX.out.1]; rfl, hP, ?_⟩, by simp [intOf]; omega⟩
      exact Below.grown (HY.out.2.2.1.alloc (by rw [hs2]; omega) _) hgrow3 (fun j hj => (HY.out.2.2.2.2.lt j hj).1) (by simp; omega)
    · obtain rfl : k = es.length := by omega
      rw [List.take_length] at hmap
      have hmap' : rs.map Prod.fst = shortC es := hmap
      have HW := (show Hid (_ ∧ _ ∧ _ ∧ _) from ⟨hrow, hmap', HC.out.1.below hbw, HC.out.2.below hbw⟩)
      have HB := (show Hid (_ ∧ _) from ⟨hbw, hrl⟩)
      clear hrow hmap hmap' hbw hrl hBA
      have hsb := shortC_bulk es
      have hsl := shortC_len es
      go_wp2_with fail
      refine (l05Short_any _ _ es rts S S2 _ HW.out.2.2.1 HW.out.2.2.2 (by omega) (by omega)).mono ?_
      rintro e w2 ⟨fv, rfl, hf, hfin, hfb, d2⟩
      obtain ⟨fa, fc, rfl⟩ := own_form hf
      have hs2 := d2.size
      have hB2 : Below w.heap.size w w2 := HB.out.1.trans (d2.mono hsz)
      have hW2 := HW.out.1.below d2
      have hA2 : CellsAt w2 (fun b => w.heap.size ≤ b ∧ Pl w2 b) (.slice sa es.length sc) (shortC es) := by
        have := hW2.at
        rw [HW.out.2.1] at this
        exact this
      have hI2 : IntsAt w2 (fun b => wr.heap.size ≤ b ∧ Pl w2 b) (.slice fa rts.length fc) (shortL es rts) := own_ints (by rw [shortL_len]; exact hf) hfin
      have H2 := (show Hid (_ ∧ _ ∧ _ ∧ _ ∧ _ ∧ _) from ⟨hW2, hA2, hI2, hf, hfin, hB2⟩)
      have hfl := shortL_len es rts
      clear hf hfin hfb d2 hW2 hA2 hI2 hB2
      go_wp2_with fail
      refine (l05Mark_any _ _ (shortC es) (shortL es rts) _ _ _ H2.out.2.1 H2.out.2.2.1 (by omega)).mono ?_
      rintro e w3 ⟨sv, rfl, hS, d3⟩
      have hml := marksOf_len (shortC es) (shortL es rts)
      rw [hsl] at hS hml
      obtain ⟨ba, bc, rfl⟩ := own_form hS
      have hs3 := d3.size
      have HC3 := (show Hid (_ ∧ _ ∧ _ ∧ _) from ⟨H2.out.2.1.below d3, H2.out.2.2.1.below d3, hS, H2.out.2.2.2.2.2.trans (d3.mono H2.out.2.2.2.2.2.size)⟩)
      have HCD : Hid (collectTo es rts = toOf 0 (marksOf (shortC es) (shortL es rts)) ∧ collectC es rts = (keepT (shortC es) (marksOf (shortC es) (shortL es rts))).map (Ce.moved (collectTo es rts)) ∧ collectR es rts = movedL (collectTo es rts) (shortL es rts)) := ⟨rfl, rfl, rfl⟩
      generalize marksOf (shortC es) (shortL es rts) = bs at *
      have hb3 := HC3.out.2.2.2.size
      have E3 := ow_empty w3 w3.heap.size 3 (Nat.le_refl _)
      have HE3 := (show Hid (_ ∧ _) from ⟨E3, (Below.refl w3.heap.size w3).alloc (Nat.le_refl _) (.cells #[] 3)⟩)
      clear hS d3 E3 H2 HW HB
      obtain ⟨j0, hj, hy0, hy1, hy2⟩ := info_parts infoCdI
      go_wp2
      go_loopw [11, 12, 13] (fun tv nv i wr => ∃ k : Nat, k ≤ es.length ∧ i = .int .i64 k ∧ nv = .int .i64 (countT (bs.take k) : Int) ∧ wr.ownsRow w3.heap.size 3 1 tv k (intVs (toOf 0 (bs.take k))) ∧ Below w3.heap.size w3 wr) (fun _ _ i _ => es.length - (intOf i).toNat)
      case atStart => exact ⟨0, Nat.zero_le _, rfl, rfl, HE3.out.1, HE3.out.2⟩
      case round =>
        clear HE3
        rename_i wr0
        obtain ⟨k, hk, rfl, rfl, hO, hbw⟩ := hrel
        have hsz3 := hbw.size
        obtain ⟨oa, oc, rfl⟩ := own_form hO
        have hct := countT_le (bs.take k)
        have htl : (bs.take k).length ≤ k := by rw [List.length_take]; omega
        by_cases hkl : k < es.length
        · have hlt' : ((k : Nat) : Int) < ((es.length : Nat) : Int) := by omega
          have he := List.getElem?_eq_getElem (l := bs) (i := k) (by omega)
          obtain ⟨gs, sc', hs', hgs1, -, -⟩ := ow_some HC3.out.2.2.1 (by omega)
          simp only [Value.slice.injEq, true_and] at hs'
          obtain ⟨rfl, rfl⟩ := hs'
          have s0 := HC3.out.2.2.1.cellAt k (by omega)
          rw [List.getElem?_map, he, Option.map_some, ← hbw.cell (by exact hgs1)] at s0
          cases hbv : bs[k] with
          | true =>
            rw [hbv] at s0 he
            have HN := (show Hid (_ ∧ _ ∧ _ ∧ _) from ⟨(by rw [take_snoc bs k he, toOf_app]; simp [toOf] : toOf 0 (bs.take (k + 1)) = toOf 0 (bs.take k) ++ [(countT (bs.take k) : Int)]), (by rw [take_snoc bs k he, countT_app]; simp [countT] : countT (bs.take (k + 1)) = countT (bs.take k) + 1), hO.alloc (.cells #[.int .i64 (countT (bs.take k) : Int)] 3), hbw.alloc hsz3 (.cells #[.int .i64 (countT (bs.take k) : Int)] 3)⟩)
            clear hO hbw he hbv
            generalize countT (bs.take k) = n at *
            go_wp2_with (at_builtin; refine wpList_append_own_at _ rfl _ _ 25 rfl w3.heap.size 3 j0 (.int .i64 0) 1 8 Tryz.underlying25 hj hy0 hy1 hy2 rfl (by decide) _ k _ rfl HN.out.2.2.1 ⟨wr.heap.size, 0, none⟩ 1 1 [.int .i64 (n : Int)] rfl rfl (cell_one_new _ _ _) (int_one _) (by unfold maxLen; omega) (by omega) (by simp; omega) ?_; intro v4 w4 hown4 hgrow4 hnil4 hat4)
            refine ⟨⟨k + 1, by omega, by go_num, ?_, ?_, Below.grown HN.out.2.2.2 hgrow4 (fun j hj => (HN.out.2.2.1.lt j hj).1) (by simp; omega)⟩, by simp [intOf]; omega⟩
            · rw [HN.out.2.1]; exact int_eqv (by omega)
            · rw [HN.out.1]
              unfold intVs
              rw [List.map_append]
              exact hown4
          | false =>
            rw [hbv] at s0 he
            have HN := (show Hid (_ ∧ _ ∧ _ ∧ _) from ⟨(by rw [take_snoc bs k he, toOf_app]; simp [toOf] : toOf 0 (bs.take (k + 1)) = toOf 0 (bs.take k) ++ [(-1 : Int)]), (by rw [take_snoc bs k he, countT_app]; simp [countT] : countT (bs.take (k + 1)) = countT (bs.take k)), hO.alloc (.cells #[.int .i64 (-1)] 3), hbw.alloc hsz3 (.cells #[.int .i64 (-1)] 3)⟩)
            clear hO hbw he hbv
            generalize countT (bs.take k) = n at *
            go_wp2_with (at_builtin; refine wpList_append_own_at _ rfl _ _ 25 rfl w3.heap.size 3 j0 (.int .i64 0) 1 8 Tryz.underlying25 hj hy0 hy1 hy2 rfl (by decide) _ k _ rfl HN.out.2.2.1 ⟨wr.heap.size, 0, none⟩ 1 1 [.int .i64 (-1)] rfl rfl (cell_one_new _ _ _) (int_one _) (by unfold maxLen; omega) (by omega) (by simp; omega) ?_; intro v4 w4 hown4 hgrow4 hnil4 hat4)
            refine ⟨⟨k + 1, by omega, by go_num, ?_, ?_, Below.grown HN.out.2.2.2 hgrow4 (fun j hj => (HN.out.2.2.1.lt j hj).1) (by simp; omega)⟩, by simp [intOf]; omega⟩
            · rw [HN.out.2.1]
            · rw [HN.out.1]
              unfold intVs
              rw [List.map_append]
              exact hown4
        · obtain rfl : k = es.length := by omega
          rw [List.take_of_length_le (by omega)] at hO
          have hto : collectTo es rts = toOf 0 bs := HCD.out.1
          have htol : (toOf 0 bs).length = es.length := by rw [toOf_len, hml]
          have hoin : ∀ z ∈ toOf 0 bs, inI64 z := fun z hz => by
            have := toOf_in bs 0 (by omega) z hz
            exact ⟨by omega, by omega⟩
          have HT := (show Hid (_ ∧ _ ∧ _) from ⟨hto, hO, hoin⟩)
          generalize toOf 0 bs = to at *
          have hB4 := HC3.out.2.2.2.trans (hbw.mono hb3)
          have H4 := (show Hid (_ ∧ _ ∧ _ ∧ _ ∧ _) from ⟨HC3.out.1.below hbw, HC3.out.2.1.below hbw, own_moved HC3.out.2.2.1 (fun g hg => hbw.block g (own_lt HC3.out.2.2.1 g hg)), hB4, own_ints (by rw [htol]; exact hO) hoin⟩)
          have HE4 := (show Hid (_ ∧ _) from ⟨hp_nil wr wr.heap.size (Nat.le_refl _), (Below.refl wr.heap.size wr).alloc (Nat.le_refl _) (.cells #[] 32)⟩)
          have hs4 := hB4.size
          have hBS := @bulkL_at (shortC es)
          rw [hsb] at hBS
          clear hO hbw hto hoin hB4 HC3 hct htl
          obtain ⟨w4, rfl⟩ : ∃ w4, w4 = wr := ⟨wr, rfl⟩
          go_wp2
          go_loopw [14, 15] (fun ov i wr => ∃ (k : Nat) (rs' : List (Ce × Value)), k ≤ es.length ∧ i = .int .i64 k ∧ rs'.length ≤ k ∧ rs'.map Prod.fst = (keepT ((shortC es).take k) (bs.take k)).map (Ce.moved to) ∧ HpAt wr w4.heap.size ov rs' ∧ Below w4.heap.size w4 wr) (fun _ i _ => es.length - (intOf i).toNat)
          case atStart => exact ⟨0, [], Nat.zero_le _, rfl, Nat.zero_le _, by simp [keepT], HE4.out.1, HE4.out.2⟩
          case round =>
            clear HE4
            obtain ⟨k, rs', hk, rfl, hrl, hmap, hrow, hbw⟩ := hrel
            have hsz4 := hbw.size
            by_cases hkl : k < es.length
            · have hlt' : ((k : Nat) : Int) < ((es.length : Nat) : Int) := by omega
              have he := List.getElem?_eq_getElem (l := bs) (i := k) (by omega)
              have hex := List.getElem?_eq_getElem (l := shortC es) (i := k) (by omega)
              obtain ⟨gs, sc', hs', hgs1, -, -⟩ := ow_some H4.out.2.2.1 (by omega)
              simp only [Value.slice.injEq, true_and] at hs'
              obtain ⟨rfl, rfl⟩ := hs'
              have s0 := H4.out.2.2.1.cellAt k (by omega)
              rw [List.getElem?_map, he, Option.map_some, ← hbw.cell (by exact hgs1)] at s0
              have hbk := hBS hex
              generalize (shortC es)[k] = x at *
              have htk : (shortC es).take (k + 1) = (shortC es).take k ++ [x] := take_snoc _ k hex
              have hll : ((shortC es).take k).length = (bs.take k).length := by rw [List.length_take, List.length_take, hsl, hml]
              cases hbv : bs[k] with
              | true =>
                rw [hbv] at s0 he
                have hkeep : (keepT ((shortC es).take (k + 1)) (bs.take (k + 1))).map (Ce.moved to) = (keepT ((shortC es).take k) (bs.take k)).map (Ce.moved to) ++ [Ce.moved to x] := by
                  rw [htk, take_snoc bs k he, keepT_app _ _ _ _ hll, List.map_append]
                  rfl
                obtain ⟨a0, cap0, hv0, -, hcc⟩ := H4.out.1
                obtain ⟨b, off, kv, ha0, hSb, hlt2, c0, c1, c2, c3, r1, r2, r3, hkk⟩ := hcc k x hex
                simp only [Value.slice.injEq] at hv0
                obtain ⟨rfl, -, rfl⟩ := hv0
                subst ha0
                rw [← hbw.cell (by exact hlt2)] at c0 c1 c2 c3
                obtain ⟨ka, kc, rfl⟩ := hkk.form
                obtain ⟨oa, oc, hov⟩ := own_form hrow.cells
                have hB1 : Below w4.heap.size w4 (wr.alloc (.cells #[.int .i64 x.kind, .int .i64 x.n, .int .i64 x.pos, .slice ka x.kids.length kc] 32)) := hbw.alloc hsz4 _
                have hO0 : (wr.alloc (.cells #[.int .i64 x.kind, .int .i64 x.n, .int .i64 x.pos, .slice ka x.kids.length kc] 32)).heap[wr.heap.size]? = some (.cells #[.int .i64 x.kind, .int .i64 x.n, .int .i64 x.pos, .slice ka x.kids.length kc] 32 (0, 0)) := (MapKept.heap_alloc wr _).1
                have HX := (show Hid (_ ∧ _ ∧ _ ∧ _ ∧ _) from ⟨hkeep, hmap, hrow, H4.out.2.2.2.2.below hB1, hkk.below hB1⟩)
                have HB := (show Hid (_ ∧ _) from ⟨hbw, hB1⟩)
                have HO := (show Hid (_ ∧ _) from ⟨hO0, (⟨r1, r2, r3⟩ : inI64 x.kind ∧ inI64 x.n ∧ inI64 x.pos)⟩)
                have hbx : x.bulk = x.kids.length := rfl
                have hbl : b < wr.heap.size := by omega
                have hbn : ¬ b = wr.heap.size := by omega
                have hs0 : (wr.alloc (.cells #[.int .i64 x.kind, .int .i64 x.n, .int .i64 x.pos, .slice ka x.kids.length kc] 32)).heap.size = wr.heap.size + 1 := by simp
                subst hov
                clear hkk he hex htk hmap hrow hbw hB1 hcc hBS hO0 r1 r2 r3 hkeep hll hbv
                have HRL := (show Hid (_ ∧ True) from ⟨hrl, trivial⟩)
                go_wp2_with fail
                refine (l05Moved_any _ _ to x.kids _ _ _ HX.out.2.2.2.1 HX.out.2.2.2.2 (by omega) (by omega)).mono ?_
                rintro e w5 ⟨mv, rfl, ho, b1⟩
                have O1 : w5.heap[wr.heap.size]? = some (.cells #[.int .i64 x.kind, .int .i64 x.n, .int .i64 x.pos, .slice ka x.kids.length kc] 32 (0, 0)) := (b1.block _ (by rw [hs0]; omega)).trans HO.out.1
                have y0 : w5.cell? ⟨wr.heap.size, 0, none⟩ = some (.int .i64 x.kind) := by rw [cell_of_block O1]; rfl
                have y1 : w5.cell? ⟨wr.heap.size, 1, none⟩ = some (.int .i64 x.n) := by rw [cell_of_block O1]; rfl
                have y2 : w5.cell? ⟨wr.heap.size, 2, none⟩ = some (.int .i64 x.pos) := by rw [cell_of_block O1]; rfl
                have y3 : w5.cell? ⟨wr.heap.size, 3, none⟩ = some (.slice ka x.kids.length kc) := by rw [cell_of_block O1]; rfl
                have f3 : w5.frozen? ⟨wr.heap.size, 3, none⟩ = false := unfrozen_of_block O1 3
                have hs1 := b1.size
                rw [hs0] at hs1 ho
                obtain ⟨ma, mc, rfl⟩ := own_form ho
                have hob : ∀ g, Value.ownBlock (.slice ma x.kids.length mc) = some g → wr.heap.size + 1 ≤ g := fun g hg => (own_type ho g hg).1
                have hW1 : HpAt w5 w4.heap.size (.slice oa rs'.length oc) rs' := (HX.out.2.2.1.alloc _).below b1
                have hnO : ¬ HpOwn (.slice oa rs'.length oc) rs' wr.heap.size := fun hp => by have := (HX.out.2.2.1.own hp).2; omega
                have hW2 := hW1.store (off := 3) hnO (.slice ma x.kids.length mc)
                have ho2 : (w5.setCell ⟨wr.heap.size, 3, none⟩ (.slice ma x.kids.length mc)).ownsRow (wr.heap.size + 1) 3 1 (.slice ma x.kids.length mc) x.kids.length (intVs (movedL to x.kids)) :=
                  own_moved ho (fun g hg => Below.heap_setCell _ _ _ _ (fun e => by have e' : g = wr.heap.size := e; have := hob g hg; omega))
                have hB1 : Below w4.heap.size w4 (w5.setCell ⟨wr.heap.size, 3, none⟩ (.slice ma x.kids.length mc)) := ((HB.out.2).trans (b1.mono (by rw [hs0]; omega))).setCell (p := ⟨wr.heap.size, 3, none⟩) (by simp; omega) _
                have hs2 : (w5.setCell ⟨wr.heap.size, 3, none⟩ (.slice ma x.kids.length mc)).heap.size = w5.heap.size := by simp
                have HY := (show Hid (_ ∧ _ ∧ _ ∧ _) from ⟨hW2, ho2, hB1, hW2.cells.alloc (.cells #[.int .i64 x.kind, .int .i64 x.n, .int .i64 x.pos, .slice ma x.kids.length mc] 32)⟩)
                have hnews := cell_four5 (w5.setCell ⟨wr.heap.size, 3, none⟩ (.slice ma x.kids.length mc)) (.int .i64 x.kind) (.int .i64 x.n) (.int .i64 x.pos) (.slice ma x.kids.length mc) 32
                have HNW := (show Hid (_ ∧ True) from ⟨hnews, trivial⟩)
                clear ho hob b1 O1 hW1 hW2 ho2 hB1 hnews hnO
                go_wp2_with (at_builtin; refine wpList_append_own_at _ rfl _ _ 24 rfl w4.heap.size 32 i0 _ 4 48 Tryz.underlying24 hi hz0 hz1 hz2 rfl (by decide) _ rs'.length _ rfl HY.out.2.2.2 ⟨w5.heap.size, 0, none⟩ 1 1 (ceCells (Ce.moved to x, .slice ma x.kids.length mc)) rfl rfl (by have := HNW.out.1; rw [hs2] at this; exact this) (four_ok _ _ _ _) (by unfold maxLen; omega) (by omega) (by simp; omega) ?_; intro v6 w6 hown6 hgrow6 hnil6 hat6)
                have hP := HpAt.push (x := Ce.moved to x) (kv := .slice ma x.kids.length mc) (HY.out.1.alloc (.cells #[.int .i64 x.kind, .int .i64 x.n, .int .i64 x.pos, .slice ma x.kids.length mc] 32)) hown6 hgrow6 (by
                    show World.ownsRow _ _ _ _ _ (movedL to x.kids).length (intVs (movedL to x.kids))
                    rw [movedL_len]
                    exact own_mono (HY.out.2.1.alloc _) (by omega)) ⟨HO.out.2.1, HO.out.2.2.1, HO.out.2.2.2, movedL_in to HT.out.2.2 x.kids⟩ (fun r hr => by
                    cases hb : r.2.ownBlock with
                    | none => exact .inl hb
                    | some q =>
                      refine .inr fun e => ?_
                      have h4 := own_lt (HX.out.2.2.1.kids r hr).1 q hb
                      have h5 := (own_type HY.out.2.1 q (e.symm.trans hb)).1
                      omega)
                refine ⟨⟨k + 1, rs' ++ [(Ce.moved to x, .slice ma x.kids.length mc)], by omega, by go_num, by rw [List.length_append, List.length_singleton]; omega, by rw [List.map_append, HX.out.2.1, HX.out.1]; rfl, hP, ?_⟩, by simp [intOf]; omega⟩
                exact Below.grown (HY.out.2.2.1.alloc (by rw [hs2]; omega) _) hgrow6 (fun j hj => (HY.out.2.2.2.lt j hj).1) (by simp; omega)
              | false =>
                rw [hbv] at s0 he
                have hkeep : (keepT ((shortC es).take (k + 1)) (bs.take (k + 1))).map (Ce.moved to) = (keepT ((shortC es).take k) (bs.take k)).map (Ce.moved to) := by
                  rw [htk, take_snoc bs k he, keepT_app _ _ _ _ hll, List.map_append]
                  simp [keepT]
                have HX := (show Hid (_ ∧ _ ∧ _ ∧ _) from ⟨hkeep, hmap, hrow, hbw⟩)
                clear he hex htk hmap hrow hbw hBS hkeep hll hbv
                go_wp2
                refine ⟨⟨k + 1, rs', by omega, by go_num, by omega, ?_, HX.out.2.2.1, HX.out.2.2.2⟩, by simp [intOf]; omega⟩
                rw [HX.out.1]
                exact HX.out.2.1
            · obtain rfl : k = es.length := by omega
              rw [List.take_of_length_le (by omega), List.take_of_length_le (by omega)] at hmap
              obtain ⟨oa, oc, hov⟩ := own_form hrow.cells
              have HX := (show Hid (_ ∧ _ ∧ _ ∧ _ ∧ _) from ⟨hmap, hrow, H4.out.2.2.2.2.below hbw, H4.out.2.1.below hbw, H4.out.2.2.2.1.trans (hbw.mono hs4)⟩)
              subst hov
              clear hmap hrow hbw hBS
              go_wp2_with fail
              refine (l05Moved_any _ _ to (shortL es rts) _ _ _ HX.out.2.2.1 HX.out.2.2.2.1 (by omega) (by omega)).mono ?_
              rintro e w7 ⟨mv, rfl, ho, b1⟩
              have hB7 : Below w.heap.size w w7 := HX.out.2.2.2.2.trans (b1.mono HX.out.2.2.2.2.size)
              have hs7 := HX.out.2.2.2.2.size
              have hH := HX.out.2.1.below b1
              rw [hfl] at ho
              have HY := (show Hid (_ ∧ _ ∧ _) from ⟨hH, ho, hB7⟩)
              obtain ⟨ma, mc, rfl⟩ := own_form ho
              clear hH ho hB7 b1
              go_wp2
              go_ret2
              refine ⟨_, _, rs', rfl, ⟨own_mono HY.out.1.cells (by omega), fun r hr => ⟨own_mono (HY.out.1.kids r hr).1 (by omega), (HY.out.1.kids r hr).2⟩, HY.out.1.apart⟩, ?_, ?_, HY.out.2.2⟩
              · rw [HCD.out.2.1, HT.out.1]; exact HX.out.1
              · rw [HCD.out.2.2, HT.out.1, movedL_len, hfl]; exact own_mono HY.out.2.1 (by omega)
end Go.Proofs.YtfhjkiimdkjhjaaGreatDoor
