/-
  container/heap's Push and Pop at the places that wait.
-/
import Derived.Test.YtfhjkiimdkjhjaaGreatDoorHeapOps
namespace Go.Proofs.YtfhjkiimdkjhjaaGreatDoor
open Go.RowKit Go.Joins Go.Maps

set_option maxRecDepth 100000

set_option maxHeartbeats 6400000 in
theorem heapPush_any {w : World} {b M : Nat} {sv : Value} {xs : List Int} (h : PQ w b M sv xs) (z : Int) (hz : inI64 z) (hl : xs.length < 100000000) :
    Calls Tryz.prog 65 #[heapV b, .iface 3 (.int .i64 z)] w fun e w' => e = .returned (.tuple #[]) ∧ ∃ sv' ys, ys.Perm (xs ++ [z]) ∧ PQ w' b M sv' ys ∧ Below b w w' := by
  have mP := meth_push ⟨b, 1, none⟩ w
  have hpu := push_is h z hz (by omega)
  have HP := (show Hid (_ ∧ True) from ⟨hpu, trivial⟩)
  clear h hpu
  go_enter Tryz.func65, Tryz.ntmps65
  go_wp2_with fail
  refine HP.out.1.mono ?_
  rintro e w1 ⟨rfl, sv1, hq1, hb1⟩
  have hrow := hq1.row
  have hlen : (xs ++ [z]).length = xs.length + 1 := by simp
  obtain ⟨g, cap, rfl, hg1, hg2, hg3⟩ := ow_some hrow (by omega)
  have mN := meth_len ⟨b, 1, none⟩ _ w1 hq1.cell
  have hup := up_any hq1 rfl xs.length (by omega) (by omega)
  have HQ := (show Hid (_ ∧ _ ∧ _) from ⟨hq1, hb1, hup⟩)
  rw [hlen] at mN
  have hlen2 := (show Hid (_ ∧ True) from ⟨hlen, trivial⟩)
  clear hq1 hb1 hup hrow mP HP hg1 hg2
  generalize hX : xs.length = X at *
  have HX := (show Hid (_ ∧ True) from ⟨hX, trivial⟩)
  clear hX hlen
  go_wp2_with (first
    | (go_at_call 53; refine (len_is _ _ _ _).mono ?_; rintro e w2 ⟨rfl, rfl⟩)
    | (go_at_call 73; refine HQ.out.2.2.mono ?_; rintro e w3 ⟨rfl, ys, hp3, hq3, hb3⟩))
  go_end0
  exact ⟨rfl, _, ys, hp3, hq3, HQ.out.2.1.trans hb3⟩

set_option maxHeartbeats 6400000 in
theorem heapPop_any {w : World} {b M : Nat} {sv : Value} {xs : List Int} (h : PQ w b M sv xs) (h0 : 0 < xs.length) (hl : xs.length < 100000000) :
    Calls Tryz.prog 66 #[heapV b] w fun e w' => ∃ z t sv', e = .returned (.iface 3 (.int .i64 z)) ∧ (t ++ [z]).Perm xs ∧ PQ w' b M sv' t ∧ Below b w w' := by
  obtain ⟨X, hX⟩ : ∃ X, xs.length = X + 1 := ⟨xs.length - 1, by omega⟩
  have hrow := h.row
  obtain ⟨g, cap, rfl, hg1, hg2, hg3⟩ := ow_some hrow h0
  have mN := meth_len ⟨b, 1, none⟩ _ w h.cell
  have mS := meth_swap ⟨b, 1, none⟩ _ w h.cell
  have hsw := swap_is w g cap xs.length _ _ 0 X (by omega) (by omega) (by omega) (cell_at hrow rfl 0 (by omega)) (cell_at hrow rfl X (by omega)) (h.frozen _) (h.frozen _)
  have HQ := (show Hid (_ ∧ _) from ⟨h, hX⟩)
  rw [hX] at mN mS hsw
  have HS := (show Hid (_ ∧ True) from ⟨hsw, trivial⟩)
  have hXl : X < 100000000 := by omega
  clear h hX hrow hsw h0 hl hg3
  go_enter Tryz.func66, Tryz.ntmps66
  go_wp2_with (first
    | (go_at_call 53; refine (len_is _ _ _ _).mono ?_; rintro e w2 ⟨rfl, rfl⟩)
    | (go_at_call 123; refine HS.out.1.mono ?_; rintro e w1 ⟨rfl, q1, hw1⟩; have HW := (show Hid (_ ∧ True) from ⟨hw1, trivial⟩); clear hw1))
  have hX := HQ.out.2
  have hq1 := HQ.out.1.swap rfl 0 X (by omega) (by omega) _ _ rfl rfl q1
  have hb1 := below_swap HQ.out.1 0 X (.int .i64 (xs.getD 0 0)) (.int .i64 (xs.getD X 0)) q1
  rw [← HW.out.1] at hq1 hb1
  have hperm := swapL_perm xs 0 X (by omega) (by omega)
  have hlen := swapL_len xs 0 X
  generalize swapL xs 0 X = ys at *
  rcases List.eq_nil_or_concat ys with rfl | ⟨t, z, rfl⟩
  · simp at hlen; omega
  rw [List.concat_eq_append] at *
  have hlt : t.length = X := by rw [List.length_append, List.length_singleton] at hlen; omega
  have hdn := down_any hq1 (by omega) (by omega)
  rw [hlt] at hdn
  have HD := (show Hid (_ ∧ _ ∧ _ ∧ _) from ⟨hb1, hperm, hlt, hdn⟩)
  clear hq1 hb1 hperm hlt hdn hlen hX HW mN mS HS HQ
  go_wp2_with fail
  refine HD.out.2.2.2.mono ?_
  rintro e w3 ⟨⟨v3, rfl⟩, t', hp3, hq3, hb3⟩
  have mP := meth_pop ⟨b, 1, none⟩ w3
  have hpo := pop_is hq3 (by have := hp3.length_eq; have := HD.out.2.2.1; omega)
  have HE := (show Hid (_ ∧ _ ∧ _) from ⟨hp3, hb3, hpo⟩)
  clear hp3 hq3 hb3 hpo
  go_wp2_with fail
  refine HE.out.2.2.mono ?_
  rintro e w4 ⟨rfl, sv4, hq4, hb4⟩
  go_wp2
  go_ret
  exact ⟨z, t', sv4, rfl, (HE.out.1.append_right [z]).trans HD.out.2.1, hq4, (HD.out.1.trans HE.out.2.1).trans hb4⟩

set_option maxHeartbeats 6400000 in
theorem next_any {w : World} {b M : Nat} {sv : Value} {xs : List Int} (h : PQ w b M sv xs) (h0 : 0 < xs.length) (hl : xs.length < 100000000) :
    Calls Tryz.prog 54 #[.pointer (some ⟨b, 0, none⟩)] w fun e w' => ∃ z t sv', e = .returned (.int .i64 z) ∧ (t ++ [z]).Perm xs ∧ PQ w' b M sv' t ∧ Below b w w' := by
  have hpo := heapPop_any h h0 hl
  have HP := (show Hid (_ ∧ True) from ⟨hpo, trivial⟩)
  clear h hpo
  go_enter Tryz.func54, Tryz.ntmps54
  go_wp2_with fail
  refine HP.out.1.mono ?_
  rintro e w1 ⟨z, t, sv1, rfl, hp1, hq1, hb1⟩
  have ha := assert_int z
  go_wp2
  go_ret
  exact ⟨z, t, sv1, rfl, hp1, hq1, hb1⟩
end Go.Proofs.YtfhjkiimdkjhjaaGreatDoor
