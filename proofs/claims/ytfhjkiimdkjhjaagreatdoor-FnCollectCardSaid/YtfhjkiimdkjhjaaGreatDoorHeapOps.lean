/-
  container/heap at the places that wait: whatever it does keeps them, in some order.
-/
import Derived.Test.YtfhjkiimdkjhjaaGreatDoorHeapMeth
namespace Go.Proofs.YtfhjkiimdkjhjaaGreatDoor
open Go.RowKit Go.Joins Go.Maps

set_option maxRecDepth 100000

theorem PQ.drewN {w : World} {b M : Nat} {sv : Value} {xs : List Int} (h : PQ w b M sv xs) (m : Nat) : PQ (w.drewN m) b M sv xs := h.same (fun _ _ => rfl)
theorem PQ.frozen {w : World} {b M g n cap : Nat} {xs : List Int} (h : PQ w b M (.slice (some ⟨g, 0, none⟩) n cap) xs) (i : Nat) : w.frozen? ⟨g, i, none⟩ = false := by
  rcases h.row.2 with ⟨h', _⟩ | ⟨g', cap', cur, h', _, hc', _⟩
  · simp at h'
  · simp only [Value.slice.injEq, Option.some.injEq, Addr.mk.injEq, and_true] at h'
    obtain ⟨rfl, _⟩ := h'
    exact unfrozen_of_block hc' _
theorem PQ.swap {w : World} {b M g cap n : Nat} {xs : List Int} (h : PQ w b M (.slice (some ⟨g, 0, none⟩) n cap) xs) (hn : n = xs.length) (i j : Nat) (hi : i < xs.length) (hj : j < xs.length) (x y : Int) (hx : x = xs.getD i 0) (hy : y = xs.getD j 0) (q : Nat) :
    PQ (((w.setCell ⟨g, i, none⟩ (.int .i64 y)).setCell ⟨g, j, none⟩ (.int .i64 x)).drewN q) b M (.slice (some ⟨g, 0, none⟩) n cap) (swapL xs i j) := by
  subst hn
  have h1 := h.row.stored i (.int .i64 y)
  have h2 := h1.1.stored j (.int .i64 x)
  have hg : b + 1 ≤ g := (own_type h.row g rfl).1
  refine PQ.drewN ⟨?_, ?_, ?_⟩ q
  · refine (Below.heap_setCell _ _ _ _ (fun e => by have e' : b = g := e; omega)).trans ((Below.heap_setCell _ _ _ _ (fun e => by have e' : b = g := e; omega)).trans h.blk)
  · rw [swapL_len]
    have e : intVs (swapL xs i j) = ((intVs xs).set i (.int .i64 y)).set j (.int .i64 x) := by
      unfold swapL intVs
      rw [List.map_set, List.map_set, hx, hy]
    rw [e]
    exact h2.1
  · intro z hz
    exact h.num z ((swapL_perm xs i j hi hj).mem_iff.1 hz)
theorem below_swap {w : World} {b M g cap n : Nat} {xs : List Int} (h : PQ w b M (.slice (some ⟨g, 0, none⟩) n cap) xs) (i j : Nat) (x y : Value) (q : Nat) : Below b w (((w.setCell ⟨g, i, none⟩ y).setCell ⟨g, j, none⟩ x).drewN q) := by
  have hg : b + 1 ≤ g := (own_type h.row g rfl).1
  exact (((Below.refl b w).setCell (p := ⟨g, i, none⟩) (by simp; omega) _).setCell (p := ⟨g, j, none⟩) (by simp; omega) _).trans (below_draws b _ q)

/-- The interface value that container/heap is given. -/
abbrev heapV (b : Nat) : Value := .iface 93 (.pointer (some ⟨b, 1, none⟩))

set_option maxHeartbeats 6400000 in
theorem up_any {w : World} {b M g cap n : Nat} {xs : List Int} (h : PQ w b M (.slice (some ⟨g, 0, none⟩) n cap) xs) (hn : n = xs.length) (j : Nat) (hj : j < xs.length) (hl : xs.length ≤ 100000000) :
    Calls Tryz.prog 73 #[heapV b, .int .i64 j] w fun e w' => e = .returned (.tuple #[]) ∧ ∃ ys, ys.Perm xs ∧ PQ w' b M (.slice (some ⟨g, 0, none⟩) n cap) ys ∧ Below b w w' := by
  have HP := (show Hid (_ ∧ True) from ⟨h, trivial⟩)
  clear h
  go_enter Tryz.func73, Tryz.ntmps73
  go_wp2
  go_loopw [1] (fun jv wr => ∃ (k : Nat) (ys : List Int), jv = .int .i64 k ∧ k < ys.length ∧ ys.Perm xs ∧ PQ wr b M (.slice (some ⟨g, 0, none⟩) n cap) ys ∧ Below b w wr) (fun jv _ => (intOf jv).toNat)
  case atStart => exact ⟨j, xs, rfl, hj, List.Perm.refl _, HP.out.1, Below.refl _ _⟩
  case round =>
    clear HP
    obtain ⟨k, ys, rfl, hk, hp, hq, hbw⟩ := hrel
    have hlen := hp.length_eq
    rcases Nat.eq_zero_or_pos k with rfl | hk0
    · have HQ := (show Hid (_ ∧ _ ∧ _) from ⟨hp, hq, hbw⟩)
      clear hp hq hbw
      go_wp2
      go_end0
      exact ⟨rfl, ys, HQ.out.1, HQ.out.2.1, HQ.out.2.2⟩
    · obtain ⟨m, rfl⟩ : ∃ m, k = m + 1 := ⟨k - 1, by omega⟩
      clear hk0
      have hne : ((m : Int) / 2 == (m : Int) + 1) = false := by simp; omega
      have hi2 : m / 2 < ys.length := by omega
      have mL := meth_less ⟨b, 1, none⟩ _ wr hq.cell
      have hrow := hq.row
      rw [← hlen] at hn
      have cj := cell_at hrow hn (m + 1) hk
      have ci := cell_at hrow hn (m / 2) hi2
      have hls := less_is wr g cap n _ _ (m + 1) (m / 2) (by omega) (by omega) (by omega) cj ci
      have HQ := (show Hid (_ ∧ _ ∧ _ ∧ _ ∧ _) from ⟨hp, hq, hbw, ci, cj⟩)
      have hc1 : (((m + 1 : Nat)) : Int) = (m : Int) + 1 := by omega
      have hc2 : (((m / 2 : Nat)) : Int) = (m : Int) / 2 := by omega
      rw [hc1, hc2] at hls
      have HN := (show Hid (_ ∧ _ ∧ _ ∧ _) from ⟨hn, hc1, hc2, hls⟩)
      have hk2 : m + 1 < n := by omega
      have hl2 : n ≤ 100000000 := by omega
      clear hp hq hbw hrow ci cj hc1 hc2 hn hlen hk hi2 hj hl hls
      generalize hb : decide (ys.getD (m + 1) 0 < ys.getD (m / 2) 0) = r at *
      clear hb
      go_wp2_with fail
      refine HN.out.2.2.2.mono ?_
      rintro e w1 ⟨rfl, q, hw1⟩
      have hq1 : PQ w1 b M (.slice (some ⟨g, 0, none⟩) n cap) ys := hw1 ▸ HQ.out.2.1.drewN q
      have hb1 : Below b w w1 := HQ.out.2.2.1.trans (hw1 ▸ below_draws b wr q)
      have ci : w1.cell? ⟨g, m / 2, none⟩ = some (.int .i64 (ys.getD (m / 2) 0)) := hw1 ▸ HQ.out.2.2.2.1
      have cj : w1.cell? ⟨g, m + 1, none⟩ = some (.int .i64 (ys.getD (m + 1) 0)) := hw1 ▸ HQ.out.2.2.2.2
      clear hw1 mL
      cases r with
      | true =>
        have mS := meth_swap ⟨b, 1, none⟩ _ w1 hq1.cell
        have hsw := swap_is w1 g cap n _ _ (m / 2) (m + 1) (by omega) (by omega) (by omega) ci cj (hq1.frozen _) (hq1.frozen _)
        rw [HN.out.2.1, HN.out.2.2.1] at hsw
        have HQ1 := (show Hid (_ ∧ _ ∧ _) from ⟨hq1, hb1, hsw⟩)
        clear hq1 hb1 ci cj hsw
        go_wp2_with fail
        refine HQ1.out.2.2.mono ?_
        rintro e w2 ⟨rfl, q2, hw2⟩
        have hn := HN.out.1
        have hk : m + 1 < ys.length := by omega
        have hi2 : m / 2 < ys.length := by omega
        have hq2 := HQ1.out.1.swap hn (m / 2) (m + 1) hi2 hk _ _ rfl rfl q2
        have hb2 := HQ1.out.2.1.trans (below_swap HQ1.out.1 (m / 2) (m + 1) (.int .i64 (ys.getD (m / 2) 0)) (.int .i64 (ys.getD (m + 1) 0)) q2)
        rw [← hw2] at hq2 hb2
        have HF := (show Hid (_ ∧ _) from ⟨hq2, hb2⟩)
        clear hw2 hq2 hb2 hn hk mS HQ1
        go_wp2
        refine ⟨⟨m / 2, swapL ys (m / 2) (m + 1), by rw [HN.out.2.2.1], by rw [swapL_len]; exact hi2, (swapL_perm ys _ _ hi2 (by have := HN.out.1; omega)).trans HQ.out.1, HF.out.1, HF.out.2⟩, by simp [intOf]; omega⟩
      | false =>
        have HQ1 := (show Hid (_ ∧ _) from ⟨hq1, hb1⟩)
        clear hq1 hb1 ci cj
        go_wp2
        go_end0
        exact ⟨rfl, ys, HQ.out.1, HQ1.out.1, HQ1.out.2⟩
theorem swapL_app (t : List Int) (z : Int) (i j : Nat) (hi : i < t.length) (hj : j < t.length) : swapL (t ++ [z]) i j = swapL t i j ++ [z] := by
  unfold swapL
  rw [List.set_append_left _ _ hi, List.set_append_left _ _ (by simpa using hj)]
  simp [List.getElem?_append_left, hi, hj]

set_option maxHeartbeats 6400000 in
theorem down_any {w : World} {b M g cap n : Nat} {t : List Int} {z : Int} (h : PQ w b M (.slice (some ⟨g, 0, none⟩) n cap) (t ++ [z])) (hn : n = t.length + 1) (hl : n ≤ 100000000) :
    Calls Tryz.prog 74 #[heapV b, .int .i64 0, .int .i64 (t.length : Int)] w fun e w' => (∃ v, e = .returned v) ∧ ∃ t', t'.Perm t ∧ PQ w' b M (.slice (some ⟨g, 0, none⟩) n cap) (t' ++ [z]) ∧ Below b w w' := by
  have HP0 := (show Hid (_ ∧ True) from ⟨h, trivial⟩)
  clear h
  go_enter Tryz.func74, Tryz.ntmps74
  go_wp2
  go_loopw [7] (fun iv wr => ∃ (k : Nat) (t' : List Int), iv = .int .i64 k ∧ k ≤ t.length ∧ t'.Perm t ∧ PQ wr b M (.slice (some ⟨g, 0, none⟩) n cap) (t' ++ [z]) ∧ Below b w wr) (fun iv _ => t.length - (intOf iv).toNat)
  case atStart => exact ⟨0, t, rfl, Nat.zero_le _, List.Perm.refl _, HP0.out.1, Below.refl _ _⟩
  case round =>
    clear HP0
    obtain ⟨k, t', rfl, hk, hp, hq1, hb1⟩ := hrel
    have hlen := hp.length_eq
    have HP := (show Hid (_ ∧ True) from ⟨hp, trivial⟩)
    have HN := (show Hid (_ ∧ _) from ⟨(by rw [List.length_append, List.length_singleton]; omega : n = (t' ++ [z]).length), hlen⟩)
    clear hp
    generalize hT : t.length = T at *
    have HT := (show Hid (_ ∧ _) from ⟨hT, hlen⟩)
    have hT2 : T < n := by omega
    have hT3 : t'.length = T := hlen
    have hT4 : T ≤ t'.length := by omega
    clear hT hlen hn hT3
    by_cases h1 : T ≤ 2 * k + 1
    · have h1' : (T : Int) ≤ 2 * (k : Int) + 1 := by omega
      have HQ := (show Hid (_ ∧ _) from ⟨hq1, hb1⟩)
      clear hq1 hb1
      go_wp2
      go_ret
      exact ⟨⟨_, rfl⟩, t', HP.out.1, HQ.out.1, HQ.out.2⟩
    · have h1' : ¬ (T : Int) ≤ 2 * (k : Int) + 1 := by omega
      by_cases h2 : 2 * k + 2 < T
      · have h2' : 2 * (k : Int) + 1 + 1 < (T : Int) := by omega
        have hj2 : 2 * k + 2 < (t' ++ [z]).length := by rw [List.length_append]; omega
        have hj1 : 2 * k + 1 < (t' ++ [z]).length := by rw [List.length_append]; omega
        have mL := meth_less ⟨b, 1, none⟩ _ wr hq1.cell
        have hls := less_is wr g cap n _ _ (2 * k + 2) (2 * k + 1) (by omega) (by omega) (by omega) (cell_at hq1.row HN.out.1 (2 * k + 2) hj2) (cell_at hq1.row HN.out.1 (2 * k + 1) hj1)
        rw [show (((2 * k + 2 : Nat)) : Int) = 2 * (k : Int) + 1 + 1 by omega, show (((2 * k + 1 : Nat)) : Int) = 2 * (k : Int) + 1 by omega] at hls
        have HQ := (show Hid (_ ∧ _ ∧ _) from ⟨hq1, hb1, hls⟩)
        clear hq1 hb1 hls hj2 hj1
        generalize hr : decide ((t' ++ [z]).getD (2 * k + 2) 0 < (t' ++ [z]).getD (2 * k + 1) 0) = r at *
        clear hr
        go_wp2_with fail
        refine HQ.out.2.2.mono ?_
        rintro e w1 ⟨rfl, q, hw1⟩
        have hq1 : PQ w1 b M (.slice (some ⟨g, 0, none⟩) n cap) (t' ++ [z]) := hw1 ▸ HQ.out.1.drewN q
        have hb1 : Below b w w1 := HQ.out.2.1.trans (hw1 ▸ below_draws b wr q)
        clear hw1 mL HQ
        cases r with
        | true =>
          have hjn : 2 * k + 2 < (t' ++ [z]).length := by rw [List.length_append]; omega
          have hin : k < (t' ++ [z]).length := by rw [List.length_append]; omega
          have mL2 := meth_less ⟨b, 1, none⟩ _ w1 hq1.cell
          have cj := cell_at hq1.row HN.out.1 (2 * k + 2) hjn
          have ci := cell_at hq1.row HN.out.1 k hin
          have hls := less_is w1 g cap n _ _ (2 * k + 2) k (by omega) (by omega) (by omega) cj ci
          rw [show (((2 * k + 2 : Nat)) : Int) = 2 * (k : Int) + 1 + 1 by omega] at hls
          have HQ1 := (show Hid (_ ∧ _ ∧ _ ∧ _ ∧ _) from ⟨hq1, hb1, hls, cj, ci⟩)
          clear hq1 hb1 hls cj ci hjn hin
          go_wp2_with fail
          refine HQ1.out.2.2.1.mono ?_
          rintro e w2 ⟨rfl, q2, hw2⟩
          have hq2 : PQ w2 b M (.slice (some ⟨g, 0, none⟩) n cap) (t' ++ [z]) := hw2 ▸ HQ1.out.1.drewN q2
          have hb2 : Below b w w2 := HQ1.out.2.1.trans (hw2 ▸ below_draws b w1 q2)
          have cj : w2.cell? ⟨g, 2 * k + 2, none⟩ = some (.int .i64 ((t' ++ [z]).getD (2 * k + 2) 0)) := hw2 ▸ HQ1.out.2.2.2.1
          have ci : w2.cell? ⟨g, k, none⟩ = some (.int .i64 ((t' ++ [z]).getD k 0)) := hw2 ▸ HQ1.out.2.2.2.2
          clear hw2 mL2 HQ1
          generalize hr2 : decide ((t' ++ [z]).getD (2 * k + 2) 0 < (t' ++ [z]).getD k 0) = r2 at *
          clear hr2
          cases r2 with
          | false =>
            have HQ2 := (show Hid (_ ∧ _) from ⟨hq2, hb2⟩)
            clear hq2 hb2 cj ci
            go_wp2
            go_ret
            exact ⟨⟨_, rfl⟩, t', HP.out.1, HQ2.out.1, HQ2.out.2⟩
          | true =>
            have mS := meth_swap ⟨b, 1, none⟩ _ w2 hq2.cell
            have hsw := swap_is w2 g cap n _ _ k (2 * k + 2) (by omega) (by omega) (by omega) ci cj (hq2.frozen _) (hq2.frozen _)
            rw [show (((2 * k + 2 : Nat)) : Int) = 2 * (k : Int) + 1 + 1 by omega] at hsw
            have HQ2 := (show Hid (_ ∧ _ ∧ _) from ⟨hq2, hb2, hsw⟩)
            clear hq2 hb2 ci cj hsw
            go_wp2_with fail
            refine HQ2.out.2.2.mono ?_
            rintro e w3 ⟨rfl, q3, hw3⟩
            have hq3 := HQ2.out.1.swap HN.out.1 k (2 * k + 2) (by rw [List.length_append]; omega) (by rw [List.length_append]; omega) _ _ rfl rfl q3
            have hb3 := HQ2.out.2.1.trans (below_swap HQ2.out.1 k (2 * k + 2) (.int .i64 ((t' ++ [z]).getD k 0)) (.int .i64 ((t' ++ [z]).getD (2 * k + 2) 0)) q3)
            rw [← hw3, swapL_app t' z k (2 * k + 2) (by omega) (by omega)] at hq3
            rw [← hw3] at hb3
            have HF := (show Hid (_ ∧ _) from ⟨hq3, hb3⟩)
            clear hw3 hq3 hb3 mS HQ2
            go_wp2
            refine ⟨⟨2 * k + 2, swapL t' k (2 * k + 2), by rw [show (((2 * k + 2 : Nat)) : Int) = 2 * (k : Int) + 1 + 1 by omega], by omega, (swapL_perm t' _ _ (by omega) (by omega)).trans HP.out.1, HF.out.1, HF.out.2⟩, by simp [intOf]; omega⟩
        | false =>
          have hjn : 2 * k + 1 < (t' ++ [z]).length := by rw [List.length_append]; omega
          have hin : k < (t' ++ [z]).length := by rw [List.length_append]; omega
          have mL2 := meth_less ⟨b, 1, none⟩ _ w1 hq1.cell
          have cj := cell_at hq1.row HN.out.1 (2 * k + 1) hjn
          have ci := cell_at hq1.row HN.out.1 k hin
          have hls := less_is w1 g cap n _ _ (2 * k + 1) k (by omega) (by omega) (by omega) cj ci
          rw [show (((2 * k + 1 : Nat)) : Int) = 2 * (k : Int) + 1 by omega] at hls
          have HQ1 := (show Hid (_ ∧ _ ∧ _ ∧ _ ∧ _) from ⟨hq1, hb1, hls, cj, ci⟩)
          clear hq1 hb1 hls cj ci hjn hin
          go_wp2_with fail
          refine HQ1.out.2.2.1.mono ?_
          rintro e w2 ⟨rfl, q2, hw2⟩
          have hq2 : PQ w2 b M (.slice (some ⟨g, 0, none⟩) n cap) (t' ++ [z]) := hw2 ▸ HQ1.out.1.drewN q2
          have hb2 : Below b w w2 := HQ1.out.2.1.trans (hw2 ▸ below_draws b w1 q2)
          have cj : w2.cell? ⟨g, 2 * k + 1, none⟩ = some (.int .i64 ((t' ++ [z]).getD (2 * k + 1) 0)) := hw2 ▸ HQ1.out.2.2.2.1
          have ci : w2.cell? ⟨g, k, none⟩ = some (.int .i64 ((t' ++ [z]).getD k 0)) := hw2 ▸ HQ1.out.2.2.2.2
          clear hw2 mL2 HQ1
          generalize hr2 : decide ((t' ++ [z]).getD (2 * k + 1) 0 < (t' ++ [z]).getD k 0) = r2 at *
          clear hr2
          cases r2 with
          | false =>
            have HQ2 := (show Hid (_ ∧ _) from ⟨hq2, hb2⟩)
            clear hq2 hb2 cj ci
            go_wp2
            go_ret
            exact ⟨⟨_, rfl⟩, t', HP.out.1, HQ2.out.1, HQ2.out.2⟩
          | true =>
            have mS := meth_swap ⟨b, 1, none⟩ _ w2 hq2.cell
            have hsw := swap_is w2 g cap n _ _ k (2 * k + 1) (by omega) (by omega) (by omega) ci cj (hq2.frozen _) (hq2.frozen _)
            rw [show (((2 * k + 1 : Nat)) : Int) = 2 * (k : Int) + 1 by omega] at hsw
            have HQ2 := (show Hid (_ ∧ _ ∧ _) from ⟨hq2, hb2, hsw⟩)
            clear hq2 hb2 ci cj hsw
            go_wp2_with fail
            refine HQ2.out.2.2.mono ?_
            rintro e w3 ⟨rfl, q3, hw3⟩
            have hq3 := HQ2.out.1.swap HN.out.1 k (2 * k + 1) (by rw [List.length_append]; omega) (by rw [List.length_append]; omega) _ _ rfl rfl q3
            have hb3 := HQ2.out.2.1.trans (below_swap HQ2.out.1 k (2 * k + 1) (.int .i64 ((t' ++ [z]).getD k 0)) (.int .i64 ((t' ++ [z]).getD (2 * k + 1) 0)) q3)
            rw [← hw3, swapL_app t' z k (2 * k + 1) (by omega) (by omega)] at hq3
            rw [← hw3] at hb3
            have HF := (show Hid (_ ∧ _) from ⟨hq3, hb3⟩)
            clear hw3 hq3 hb3 mS HQ2
            go_wp2
            refine ⟨⟨2 * k + 1, swapL t' k (2 * k + 1), by rw [show (((2 * k + 1 : Nat)) : Int) = 2 * (k : Int) + 1 by omega], by omega, (swapL_perm t' _ _ (by omega) (by omega)).trans HP.out.1, HF.out.1, HF.out.2⟩, by simp [intOf]; omega⟩
      · have h2' : ¬ 2 * (k : Int) + 1 + 1 < (T : Int) := by omega
        have hjn : 2 * k + 1 < (t' ++ [z]).length := by rw [List.length_append]; omega
        have hin : k < (t' ++ [z]).length := by rw [List.length_append]; omega
        have mL2 := meth_less ⟨b, 1, none⟩ _ wr hq1.cell
        have cj := cell_at hq1.row HN.out.1 (2 * k + 1) hjn
        have ci := cell_at hq1.row HN.out.1 k hin
        have hls := less_is wr g cap n _ _ (2 * k + 1) k (by omega) (by omega) (by omega) cj ci
        rw [show (((2 * k + 1 : Nat)) : Int) = 2 * (k : Int) + 1 by omega] at hls
        have HQ1 := (show Hid (_ ∧ _ ∧ _ ∧ _ ∧ _) from ⟨hq1, hb1, hls, cj, ci⟩)
        clear hq1 hb1 hls cj ci hjn hin
        go_wp2_with fail
        refine HQ1.out.2.2.1.mono ?_
        rintro e w2 ⟨rfl, q2, hw2⟩
        have hq2 : PQ w2 b M (.slice (some ⟨g, 0, none⟩) n cap) (t' ++ [z]) := hw2 ▸ HQ1.out.1.drewN q2
        have hb2 : Below b w w2 := HQ1.out.2.1.trans (hw2 ▸ below_draws b wr q2)
        have cj : w2.cell? ⟨g, 2 * k + 1, none⟩ = some (.int .i64 ((t' ++ [z]).getD (2 * k + 1) 0)) := hw2 ▸ HQ1.out.2.2.2.1
        have ci : w2.cell? ⟨g, k, none⟩ = some (.int .i64 ((t' ++ [z]).getD k 0)) := hw2 ▸ HQ1.out.2.2.2.2
        clear hw2 mL2 HQ1
        generalize hr2 : decide ((t' ++ [z]).getD (2 * k + 1) 0 < (t' ++ [z]).getD k 0) = r2 at *
        clear hr2
        cases r2 with
        | false =>
          have HQ2 := (show Hid (_ ∧ _) from ⟨hq2, hb2⟩)
          clear hq2 hb2 cj ci
          go_wp2
          go_ret
          exact ⟨⟨_, rfl⟩, t', HP.out.1, HQ2.out.1, HQ2.out.2⟩
        | true =>
          have mS := meth_swap ⟨b, 1, none⟩ _ w2 hq2.cell
          have hsw := swap_is w2 g cap n _ _ k (2 * k + 1) (by omega) (by omega) (by omega) ci cj (hq2.frozen _) (hq2.frozen _)
          rw [show (((2 * k + 1 : Nat)) : Int) = 2 * (k : Int) + 1 by omega] at hsw
          have HQ2 := (show Hid (_ ∧ _ ∧ _) from ⟨hq2, hb2, hsw⟩)
          clear hq2 hb2 ci cj hsw
          go_wp2_with fail
          refine HQ2.out.2.2.mono ?_
          rintro e w3 ⟨rfl, q3, hw3⟩
          have hq3 := HQ2.out.1.swap HN.out.1 k (2 * k + 1) (by rw [List.length_append]; omega) (by rw [List.length_append]; omega) _ _ rfl rfl q3
          have hb3 := HQ2.out.2.1.trans (below_swap HQ2.out.1 k (2 * k + 1) (.int .i64 ((t' ++ [z]).getD k 0)) (.int .i64 ((t' ++ [z]).getD (2 * k + 1) 0)) q3)
          rw [← hw3, swapL_app t' z k (2 * k + 1) (by omega) (by omega)] at hq3
          rw [← hw3] at hb3
          have HF := (show Hid (_ ∧ _) from ⟨hq3, hb3⟩)
          clear hw3 hq3 hb3 mS HQ2
          go_wp2
          refine ⟨⟨2 * k + 1, swapL t' k (2 * k + 1), by rw [show (((2 * k + 1 : Nat)) : Int) = 2 * (k : Int) + 1 by omega], by omega, (swapL_perm t' _ _ (by omega) (by omega)).trans HP.out.1, HF.out.1, HF.out.2⟩, by simp [intOf]; omega⟩
end Go.Proofs.YtfhjkiimdkjhjaaGreatDoor
