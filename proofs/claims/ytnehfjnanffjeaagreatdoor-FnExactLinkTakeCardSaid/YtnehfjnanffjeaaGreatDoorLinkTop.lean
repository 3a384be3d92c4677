/-
  Links: their bulk, their copies, two that are alike.
-/
import Derived.Test.YtnehfjnanffjeaaGreatDoorLinkRows
import Derived.Test.YtnehfjnanffjeaaGreatDoorMC
namespace Go.Proofs.YtnehfjnanffjeaaGreatDoor
open Go.RowKit Go.Joins

set_option maxRecDepth 100000

set_option maxHeartbeats 1600000 in
theorem szLink_any (v : Value) (l : Lk) (S : Nat → Prop) (w : World) (h : LkAt w S v l) :
    Calls Tryz.prog 5 #[v, .int .i64 1048576] w fun e w' => e = .returned (.int .i64 (szR 1048576 l.bulk)) ∧ Below w.heap.size w w' := by
  obtain ⟨oa, oc, sa, sc, rfl, h3, h4⟩ := h.form
  clear h
  have hbe := (show l.bulk = bulkO l.out + bulkN l.seen from rfl)
  obtain ⟨W0, hW0⟩ : ∃ W0, W0 = w.alloc (.cells (l.row (.slice oa l.out.length oc) (.slice sa l.seen.length sc)) 25) := ⟨_, rfl⟩
  have B0 : Below w.heap.size w W0 := by rw [hW0]; exact (Below.refl _ w).alloc (Nat.le_refl _) _
  have O0 : W0.heap[w.heap.size]? = some (.cells (l.row (.slice oa l.out.length oc) (.slice sa l.seen.length sc)) 25) := by rw [hW0]; exact (MapKept.heap_alloc w _).1
  have H0 := (show Hid (_ ∧ _ ∧ _ ∧ _ ∧ _) from ⟨h3.below B0, h4.below B0, B0, O0, hW0⟩)
  have hs0 : w.heap.size + 1 ≤ W0.heap.size := lt_heap O0
  clear h3 h4 B0 O0 hW0
  go_enter Tryz.func5, Tryz.ntmps5
  go_wp2_with fail
  rw [← (show W0 = _ from H0.out.2.2.2.2)]
  refine (szSentS_any _ l.out S _ _ H0.out.1 (by omega) (by omega)).mono ?_
  rintro e w1 ⟨rfl, b1⟩
  have hs1 : W0.heap.size ≤ w1.heap.size := b1.size
  have H1 := (show Hid (_ ∧ _ ∧ _) from ⟨H0.out.2.1.below b1, H0.out.2.2.1.trans (b1.mono (by omega)), (b1.block _ (lt_heap H0.out.2.2.2.1)).trans H0.out.2.2.2.1⟩)
  clear b1 H0
  obtain ⟨q0, q1, q2, q3⟩ := lbox H1.out.2.2
  by_cases ho : (bulkO l.out : Int) ≤ 1048576
  · have hr : szR 1048576 (bulkO l.out) = 1048576 - (bulkO l.out : Int) := by unfold szR; rw [if_pos ho]
    rw [hr]
    have hr0 : ¬ (1048576 : Int) - (bulkO l.out : Int) < 0 := by omega
    go_wp2_with fail
    clear q0 q1 q2 q3
    refine (szSeenS_any _ l.seen S _ _ H1.out.1 (by omega) (by omega)).mono ?_
    rintro e w2 ⟨rfl, b2⟩
    have H2 := (show Hid (_ ∧ True) from ⟨H1.out.2.1.trans (b2.mono (by omega)), trivial⟩)
    clear b2 H1
    by_cases hn : (bulkN l.seen : Int) ≤ 1048576 - (bulkO l.out : Int)
    · have hr2 : szR (1048576 - (bulkO l.out : Int)) (bulkN l.seen) = 1048576 - (l.bulk : Int) := by unfold szR; rw [if_pos hn]; omega
      rw [hr2]
      have hr4 : ¬ (1048576 : Int) - (l.bulk : Int) < 0 := by omega
      clear hr2
      go_wp2
      go_ret
      exact ⟨int_ret (by unfold szR; rw [if_pos (by omega)]; omega), H2.out.1⟩
    · have hr2 : szR (1048576 - (bulkO l.out : Int)) (bulkN l.seen) = -1 := by unfold szR; rw [if_neg hn]
      rw [hr2]
      clear hr2
      go_wp2
      go_ret
      exact ⟨int_ret (by unfold szR; rw [if_neg (by omega)]), H2.out.1⟩
  · have hr : szR 1048576 (bulkO l.out) = -1 := by unfold szR; rw [if_neg ho]
    rw [hr]
    clear hr q0 q1 q2 q3
    go_wp2
    go_ret
    exact ⟨int_ret (by unfold szR; rw [if_neg (by omega)]), H1.out.2.1⟩


set_option maxHeartbeats 3200000 in
theorem toLink_any (v : Value) (l : Lk) (S : Nat → Prop) (w : World) (h : LkAt w S v l) (hb : l.bulk ≤ 1048576) :
    Calls Tryz.prog 8 #[v] w fun e w' => ∃ v' ov sv rs, e = .returned v' ∧ LkOwn w' w.heap.size v' l ov sv rs ∧ Below w.heap.size w w' := by
  have hfit : inI64 l.id ∧ inI64 l.next := by obtain ⟨_, _, _, a, b, _⟩ := h; exact ⟨a, b⟩
  obtain ⟨oa, oc, sa, sc, rfl, h3, h4⟩ := h.form
  clear h
  have hbe := (show l.bulk = bulkO l.out + bulkN l.seen from rfl)
  obtain ⟨W0, hW0⟩ : ∃ W0, W0 = ((w.alloc (.cells (l.row (.slice oa l.out.length oc) (.slice sa l.seen.length sc)) 25)).alloc (.cells #[.int .i64 0, .int .i64 0, .slice none 0 0, .slice none 0 0] 36)).alloc (.cells (l.row (.slice none 0 0) (.slice none 0 0)) 36) := ⟨_, rfl⟩
  have B0 : Below w.heap.size w W0 := by rw [hW0]; exact (((Below.refl _ w).alloc (Nat.le_refl _) _).alloc (by simp) _).alloc (by simp; omega) _
  have O0 : W0.heap[w.heap.size]? = some (.cells (l.row (.slice oa l.out.length oc) (.slice sa l.seen.length sc)) 25) := by
    rw [hW0, Below.heap_alloc _ _ _ (by simp; omega), Below.heap_alloc _ _ _ (by simp)]; exact (MapKept.heap_alloc w _).1
  have O1 : W0.heap[w.heap.size + 1]? = some (.cells (Lk.row ⟨0, 0, [], []⟩ (.slice none 0 0) (.slice none 0 0)) 36) := by
    have := (MapKept.heap_alloc (w.alloc (.cells (l.row (.slice oa l.out.length oc) (.slice sa l.seen.length sc)) 25)) (.cells #[.int .i64 0, .int .i64 0, .slice none 0 0, .slice none 0 0] 36)).1
    rw [hW0, Below.heap_alloc _ _ _ (by simp)]
    simpa using this
  have O2 : W0.heap[w.heap.size + 1 + 1]? = some (.cells (l.row (.slice none 0 0) (.slice none 0 0)) 36) := by
    have := (MapKept.heap_alloc ((w.alloc (.cells (l.row (.slice oa l.out.length oc) (.slice sa l.seen.length sc)) 25)).alloc (.cells #[.int .i64 0, .int .i64 0, .slice none 0 0, .slice none 0 0] 36)) (.cells (l.row (.slice none 0 0) (.slice none 0 0)) 36)).1
    rw [hW0]
    simpa using this
  have H0 := (show Hid (_ ∧ _ ∧ _ ∧ _ ∧ _ ∧ _ ∧ _ ∧ _) from ⟨h3.below B0, h4, B0, O0, O1, O2, hfit, hW0⟩)
  have hs0 : w.heap.size + 3 ≤ W0.heap.size := lt_heap O2
  clear h3 h4 B0 O0 O1 O2 hW0 hfit
  go_enter Tryz.func8, Tryz.ntmps8
  go_wp2_with fail
  rw [← (show W0 = _ from H0.out.2.2.2.2.2.2.2)]
  refine (toSentS_any _ l.out S _ H0.out.1 (by omega)).mono ?_
  rintro e w1 ⟨ov, rfl, S1, b1⟩
  obtain ⟨oa1, oc1, rfl⟩ := own_form S1.1
  have hs1 : W0.heap.size ≤ w1.heap.size := b1.size
  obtain ⟨W1, hW1⟩ : ∃ W1, W1 = w1.setCell ⟨w.heap.size + 1 + 1, 2, none⟩ (.slice oa1 l.out.length oc1) := ⟨_, rfl⟩
  have P2 := (b1.block _ (lt_heap H0.out.2.2.2.2.2.1)).trans H0.out.2.2.2.2.2.1
  have O2 : W1.heap[w.heap.size + 1 + 1]? = some (.cells (l.row (.slice oa1 l.out.length oc1) (.slice none 0 0)) 36) := by
    rw [hW1, block_setCell P2]
    rfl
  have k1 : ∀ k, k ≠ w.heap.size + 1 + 1 → W1.heap[k]? = w1.heap[k]? := fun k hk => by rw [hW1]; exact Below.heap_setCell _ _ _ k (by simpa using hk)
  have O1 : W1.heap[w.heap.size + 1]? = some (.cells (Lk.row ⟨0, 0, [], []⟩ (.slice none 0 0) (.slice none 0 0)) 36) := by
    rw [k1 _ (by omega)]; exact (b1.block _ (lt_heap H0.out.2.2.2.2.1)).trans H0.out.2.2.2.2.1
  have O0 : W1.heap[w.heap.size]? = some (.cells (l.row (.slice oa l.out.length oc) (.slice sa l.seen.length sc)) 25) := by
    rw [k1 _ (by omega)]; exact (b1.block _ (lt_heap H0.out.2.2.2.1)).trans H0.out.2.2.2.1
  have BW1 : Below w.heap.size w W1 := by rw [hW1]; exact (H0.out.2.2.1.trans (b1.mono (by omega))).setCell (by simp; omega) _
  have bw1 : Below (w.heap.size + 1 + 1) W0 W1 := by rw [hW1]; exact (b1.mono (by omega)).setCell (by simp) _
  have SW1 : SnOwn W1 W0.heap.size (.slice oa1 l.out.length oc1) l.out := S1.moved (fun b hb => k1 b (by have := (own_type S1.1 b hb).1; omega))
  have hsW1 : w1.heap.size = W1.heap.size := by rw [hW1]; simp
  have H1 := (show Hid (_ ∧ _ ∧ _ ∧ _ ∧ _ ∧ _ ∧ _ ∧ _) from ⟨H0.out.2.1.below BW1, SW1, BW1, O0, O1, O2, H0.out.2.2.2.2.2.2.1, hW1⟩)
  have hsW1' : W0.heap.size ≤ W1.heap.size := by omega
  obtain ⟨u0, u1, u2, u3⟩ := lbox P2
  have u2f : w1.frozen? ⟨w.heap.size + 1 + 1, 2, none⟩ = false := unfrozen_of_block P2 2
  have v3 : w1.cell? ⟨w.heap.size, 3, none⟩ = some (.slice sa l.seen.length sc) := (lbox ((b1.block _ (lt_heap H0.out.2.2.2.1)).trans H0.out.2.2.2.1)).2.2.2
  clear S1 P2 O0 O1 O2 k1 bw1 BW1 SW1 hW1 b1 H0
  go_wp2_with fail
  rw [← (show W1 = w1.setCell ⟨w.heap.size + 1 + 1, 2, none⟩ (.slice oa1 l.out.length oc1) from H1.out.2.2.2.2.2.2.2)]
  clear u0 u1 u2 u3 u2f v3
  refine (toSeenS_any _ l.seen S _ H1.out.1 (by omega)).mono ?_
  rintro e w2 ⟨sv, rs, rfl, S2, his, b2⟩
  have hrl : rs.length = l.seen.length := by rw [← his]; simp
  obtain ⟨n2, sa2, sc2, hn2, rfl⟩ := own_formN S2.cells
  obtain rfl : n2 = l.seen.length := by omega
  have P0 := (b2.block _ (lt_heap H1.out.2.2.2.1)).trans H1.out.2.2.2.1
  have P1 := (b2.block _ (lt_heap H1.out.2.2.2.2.1)).trans H1.out.2.2.2.2.1
  have P2 := (b2.block _ (lt_heap H1.out.2.2.2.2.2.1)).trans H1.out.2.2.2.2.2.1
  have hs2 : W1.heap.size ≤ w2.heap.size := b2.size
  obtain ⟨c10, c11, c12, c13⟩ := lbox P1
  obtain ⟨c20, c21, c22, c23⟩ := lbox P2
  have f10 : w2.frozen? ⟨w.heap.size + 1, 0, none⟩ = false := unfrozen_of_block P1 0
  have f11 : w2.frozen? ⟨w.heap.size + 1, 1, none⟩ = false := unfrozen_of_block P1 1
  have f12 : w2.frozen? ⟨w.heap.size + 1, 2, none⟩ = false := unfrozen_of_block P1 2
  have f13 : w2.frozen? ⟨w.heap.size + 1, 3, none⟩ = false := unfrozen_of_block P1 3
  have f23 : w2.frozen? ⟨w.heap.size + 1 + 1, 3, none⟩ = false := unfrozen_of_block P2 3
  have H2 := (show Hid (_ ∧ _ ∧ _ ∧ _ ∧ _) from ⟨S2, his, H1.out.2.1.below b2, H1.out.2.2.1.trans (b2.mono (by omega)), H1.out.2.2.2.2.2.2.1⟩)
  clear P0 P1 P2 b2 S2 his H1 hrl hn2
  go_wp2
  refine bodyPost_ret (v := .agg (l.row (.slice oa1 l.out.length oc1) (.slice sa2 l.seen.length sc2))) (by simp [results, Tryz.results8, go_sem, c10, c11, c12, c13]) rfl ⟨_, _, _, rs, rfl, ⟨rfl, H2.out.2.2.2.2, ?_, ?_, H2.out.2.1⟩, ?_⟩
  · have hh := H2.out.2.2.1
    refine SnOwn.moved (W := w2) ⟨own_mono hh.1 (by omega), hh.2⟩ (fun b hb => ?_)
    have hb1 := (own_type hh.1 b hb).1
    have e1 : ∀ (j : Nat) (u : Value) (W : World), (W.setCell ⟨w.heap.size + 1, j, none⟩ u).heap[b]? = W.heap[b]? := fun j u W => Below.heap_setCell W _ u b (by simp; omega)
    have e2 : ∀ (j : Nat) (u : Value) (W : World), (W.setCell ⟨w.heap.size + 1 + 1, j, none⟩ u).heap[b]? = W.heap[b]? := fun j u W => Below.heap_setCell W _ u b (by simp; omega)
    rw [e1, e1, e1, e1, e2]
  · have hh := H2.out.1
    have hm : SeOwn w2 w.heap.size (.slice sa2 l.seen.length sc2) rs := ⟨own_mono hh.cells (by omega), fun r hr => ⟨own_mono (hh.kids r hr).1 (by omega), (hh.kids r hr).2⟩, hh.apart⟩
    refine hm.moved (fun b hb => ?_)
    have hb1 := (hh.own hb).1
    have e1 : ∀ (j : Nat) (u : Value) (W : World), (W.setCell ⟨w.heap.size + 1, j, none⟩ u).heap[b]? = W.heap[b]? := fun j u W => Below.heap_setCell W _ u b (by simp; omega)
    have e2 : ∀ (j : Nat) (u : Value) (W : World), (W.setCell ⟨w.heap.size + 1 + 1, j, none⟩ u).heap[b]? = W.heap[b]? := fun j u W => Below.heap_setCell W _ u b (by simp; omega)
    rw [e1, e1, e1, e1, e2]
  · exact ((((H2.out.2.2.2.1.setCell (p := ⟨w.heap.size + 1 + 1, 3, none⟩) (by simp; omega) _).setCell (p := ⟨w.heap.size + 1, 0, none⟩) (by simp) _).setCell (p := ⟨w.heap.size + 1, 1, none⟩) (by simp) _).setCell (p := ⟨w.heap.size + 1, 2, none⟩) (by simp) _).setCell (p := ⟨w.heap.size + 1, 3, none⟩) (by simp) _
end Go.Proofs.YtnehfjnanffjeaaGreatDoor
