/-
  A message in memory: its bulk, its copy.
-/
import Derived.Test.YtbaakhpmfljgnabDoorCellOne
import Derived.Test.YtbaakhpmfljgnabDoorMsgEq
namespace Go.Proofs.YtbaakhpmfljgnabDoor
open Go.RowKit Go.Joins

set_option maxRecDepth 100000

set_option maxHeartbeats 3200000 in
theorem szMsg_any (v : Value) (m : Ms) (S : Nat → Prop) (w : World) (left : Int) (h : MsAt w S v m) (h0 : 0 ≤ left) (h1 : left ≤ 1048576) :
    Calls Tryd.prog 4 #[v, .int .i64 left] w fun e w' => e = .returned (.int .i64 (szR left m.cell.bulk)) ∧ Below w.heap.size w w' := by
  obtain ⟨a, c, rfl⟩ := h.form
  have hb0 : Below w.heap.size w (w.alloc (.cells (m.row (.slice a m.cell.kids.length c)) 26)) := (Below.refl _ w).alloc (Nat.le_refl _) _
  have HK := (show Hid (_ ∧ _) from ⟨h.cellAt.belowM hb0, hb0⟩)
  clear h hb0
  go_enter Tryd.func4, Tryd.ntmps4
  go_wp2_with fail
  refine (szCell_any _ m.cell S _ left HK.out.1 h0 h1).mono ?_
  rintro e w1 ⟨rfl, b1⟩
  have b2 : Below w.heap.size w w1 := HK.out.2.trans (b1.mono HK.out.2.size)
  clear b1 HK
  have hbd : -1 ≤ szR left m.cell.bulk ∧ szR left m.cell.bulk ≤ 1048576 := by unfold szR; split <;> omega
  obtain ⟨r, heq⟩ : ∃ r, r = szR left m.cell.bulk := ⟨_, rfl⟩
  rw [← heq] at hbd ⊢
  by_cases hr : r < 0
  · go_wp2
    go_ret
    exact ⟨int_ret (by omega), b2⟩
  · go_wp2
    go_ret
    exact ⟨int_ret (by omega), b2⟩

set_option maxHeartbeats 3200000 in
theorem toMsg_any (v : Value) (m : Ms) (S : Nat → Prop) (w : World) (h : MsAt w S v m) (hb : m.cell.bulk ≤ 1048576) :
    Calls Tryd.prog 6 #[v] w fun e w' => ∃ v', e = .returned v' ∧ MsAt w' (fun b => w.heap.size ≤ b ∧ Pl w' b) v' m ∧ Below w.heap.size w w' := by
  obtain ⟨a, c, rfl⟩ := h.form
  have HM := (show Hid (_ ∧ _) from ⟨h.cellAt, h⟩)
  clear h
  obtain ⟨W0, hW0⟩ : ∃ W0, W0 = (((w.alloc (.cells (m.row (.slice a m.cell.kids.length c)) 26)).alloc (.cells #[.int .i64 0, .int .i64 0, .int .i64 0, .int .i64 0, .int .i64 0, .int .i64 0, .int .i64 0, .int .i64 0, .slice none 0 0] 31)).alloc (.cells #[.int .i64 m.kind, .int .i64 m.frm, .int .i64 m.dst, .int .i64 m.id, .int .i64 m.want, .int .i64 0, .int .i64 0, .int .i64 0, .slice none 0 0] 31)) := ⟨_, rfl⟩
  have B0 : Below w.heap.size w W0 := by rw [hW0]; exact (((Below.refl _ w).alloc (Nat.le_refl _) _).alloc (by simp) _).alloc (by simp; omega) _
  have hs0 : W0.heap.size = w.heap.size + 3 := by rw [hW0]; simp
  have O3 : W0.heap[w.heap.size + 1 + 1]? = some (.cells #[.int .i64 m.kind, .int .i64 m.frm, .int .i64 m.dst, .int .i64 m.id, .int .i64 m.want, .int .i64 0, .int .i64 0, .int .i64 0, .slice none 0 0] 31) := by
    rw [hW0]
    have := (MapKept.heap_alloc ((w.alloc (.cells (m.row (.slice a m.cell.kids.length c)) 26)).alloc (.cells #[.int .i64 0, .int .i64 0, .int .i64 0, .int .i64 0, .int .i64 0, .int .i64 0, .int .i64 0, .int .i64 0, .slice none 0 0] 31)) (.cells #[.int .i64 m.kind, .int .i64 m.frm, .int .i64 m.dst, .int .i64 m.id, .int .i64 m.want, .int .i64 0, .int .i64 0, .int .i64 0, .slice none 0 0] 31)).1
    simpa using this
  have O2 : W0.heap[w.heap.size + 1]? = some (.cells #[.int .i64 0, .int .i64 0, .int .i64 0, .int .i64 0, .int .i64 0, .int .i64 0, .int .i64 0, .int .i64 0, .slice none 0 0] 31) := by
    rw [hW0, Below.heap_alloc _ _ _ (by simp)]
    have := (MapKept.heap_alloc (w.alloc (.cells (m.row (.slice a m.cell.kids.length c)) 26)) (.cells #[.int .i64 0, .int .i64 0, .int .i64 0, .int .i64 0, .int .i64 0, .int .i64 0, .int .i64 0, .int .i64 0, .slice none 0 0] 31)).1
    simpa using this
  have H0 := (show Hid (_ ∧ _ ∧ _ ∧ _ ∧ _) from ⟨B0, O3, O2, hs0, HM.out.1.belowM B0⟩)
  have HW := (show Hid (_ ∧ True) from ⟨hW0, trivial⟩)
  clear B0 O3 O2 hs0 hW0
  go_enter Tryd.func6, Tryd.ntmps6
  go_wp2_with fail
  rw [← HW.out.1]
  refine (toCell_any _ m.cell S W0 H0.out.2.2.2.2 hb).mono ?_
  rintro e w1 ⟨cv, rfl, hc, b1⟩
  obtain ⟨kv, rfl, r1, r2, r3, hk⟩ := hc
  obtain ⟨ka, kc, rfl⟩ := hk.form
  have o3 := (b1.block _ (by have := H0.out.2.2.2.1; omega)).trans H0.out.2.1
  have o2 := (b1.block _ (by have := H0.out.2.2.2.1; omega)).trans H0.out.2.2.1
  have B1 : Below w.heap.size w w1 := H0.out.1.trans (b1.mono H0.out.1.size)
  have K1 := (show Hid (_ ∧ _ ∧ _ ∧ _ ∧ _ ∧ _) from ⟨hk, r1, r2, r3, B1, H0.out.2.2.2.1⟩)
  clear hk r1 r2 r3 B1 b1 HW
  have c0 : w1.cell? ⟨w.heap.size + 1 + 1, 0, none⟩ = some (.int .i64 m.kind) := by rw [cell_of_block o3]; rfl
  have c1 : w1.cell? ⟨w.heap.size + 1 + 1, 1, none⟩ = some (.int .i64 m.frm) := by rw [cell_of_block o3]; rfl
  have c2 : w1.cell? ⟨w.heap.size + 1 + 1, 2, none⟩ = some (.int .i64 m.dst) := by rw [cell_of_block o3]; rfl
  have c3 : w1.cell? ⟨w.heap.size + 1 + 1, 3, none⟩ = some (.int .i64 m.id) := by rw [cell_of_block o3]; rfl
  have c4 : w1.cell? ⟨w.heap.size + 1 + 1, 4, none⟩ = some (.int .i64 m.want) := by rw [cell_of_block o3]; rfl
  have c5 : w1.cell? ⟨w.heap.size + 1 + 1, 5, none⟩ = some (.int .i64 0) := by rw [cell_of_block o3]; rfl
  have c6 : w1.cell? ⟨w.heap.size + 1 + 1, 6, none⟩ = some (.int .i64 0) := by rw [cell_of_block o3]; rfl
  have c7 : w1.cell? ⟨w.heap.size + 1 + 1, 7, none⟩ = some (.int .i64 0) := by rw [cell_of_block o3]; rfl
  have c8 : w1.cell? ⟨w.heap.size + 1 + 1, 8, none⟩ = some (.slice none 0 0) := by rw [cell_of_block o3]; rfl
  have fc5 : w1.frozen? ⟨w.heap.size + 1 + 1, 5, none⟩ = false := unfrozen_of_block o3 5
  have fc6 : w1.frozen? ⟨w.heap.size + 1 + 1, 6, none⟩ = false := unfrozen_of_block o3 6
  have fc7 : w1.frozen? ⟨w.heap.size + 1 + 1, 7, none⟩ = false := unfrozen_of_block o3 7
  have fc8 : w1.frozen? ⟨w.heap.size + 1 + 1, 8, none⟩ = false := unfrozen_of_block o3 8
  have d0 : w1.cell? ⟨w.heap.size + 1, 0, none⟩ = some (.int .i64 0) := by rw [cell_of_block o2]; rfl
  have d1 : w1.cell? ⟨w.heap.size + 1, 1, none⟩ = some (.int .i64 0) := by rw [cell_of_block o2]; rfl
  have d2 : w1.cell? ⟨w.heap.size + 1, 2, none⟩ = some (.int .i64 0) := by rw [cell_of_block o2]; rfl
  have d3 : w1.cell? ⟨w.heap.size + 1, 3, none⟩ = some (.int .i64 0) := by rw [cell_of_block o2]; rfl
  have d4 : w1.cell? ⟨w.heap.size + 1, 4, none⟩ = some (.int .i64 0) := by rw [cell_of_block o2]; rfl
  have d5 : w1.cell? ⟨w.heap.size + 1, 5, none⟩ = some (.int .i64 0) := by rw [cell_of_block o2]; rfl
  have d6 : w1.cell? ⟨w.heap.size + 1, 6, none⟩ = some (.int .i64 0) := by rw [cell_of_block o2]; rfl
  have d7 : w1.cell? ⟨w.heap.size + 1, 7, none⟩ = some (.int .i64 0) := by rw [cell_of_block o2]; rfl
  have d8 : w1.cell? ⟨w.heap.size + 1, 8, none⟩ = some (.slice none 0 0) := by rw [cell_of_block o2]; rfl
  have fd0 : w1.frozen? ⟨w.heap.size + 1, 0, none⟩ = false := unfrozen_of_block o2 0
  have fd1 : w1.frozen? ⟨w.heap.size + 1, 1, none⟩ = false := unfrozen_of_block o2 1
  have fd2 : w1.frozen? ⟨w.heap.size + 1, 2, none⟩ = false := unfrozen_of_block o2 2
  have fd3 : w1.frozen? ⟨w.heap.size + 1, 3, none⟩ = false := unfrozen_of_block o2 3
  have fd4 : w1.frozen? ⟨w.heap.size + 1, 4, none⟩ = false := unfrozen_of_block o2 4
  have fd5 : w1.frozen? ⟨w.heap.size + 1, 5, none⟩ = false := unfrozen_of_block o2 5
  have fd6 : w1.frozen? ⟨w.heap.size + 1, 6, none⟩ = false := unfrozen_of_block o2 6
  have fd7 : w1.frozen? ⟨w.heap.size + 1, 7, none⟩ = false := unfrozen_of_block o2 7
  have fd8 : w1.frozen? ⟨w.heap.size + 1, 8, none⟩ = false := unfrozen_of_block o2 8
  clear o2 o3
  go_wp2
  obtain ⟨kv0, hv0, hr0, -, -, -, -⟩ := HM.out.2
  refine bodyPost_ret (v := .agg (m.row (.slice ka m.cell.kids.length kc))) (by simp [results, Tryd.results6, go_sem, d0, d1, d2, d3, d4, d5, d6, d7, d8]) rfl ⟨_, rfl, ⟨_, rfl, hr0, K1.out.2.1, K1.out.2.2.1, K1.out.2.2.2.1, ?_⟩, ?_⟩
  · have hs0 := K1.out.2.2.2.2.2
    have hk := K1.out.1
    rw [hs0] at hk
    have e1 : ∀ (b : Nat), w.heap.size + 3 ≤ b → ∀ (j : Nat) (u : Value) (W : World), (W.setCell ⟨w.heap.size + 1, j, none⟩ u).heap[b]? = W.heap[b]? := fun b hb j u W => Below.heap_setCell W _ u b (by simp; omega)
    have e2 : ∀ (b : Nat), w.heap.size + 3 ≤ b → ∀ (j : Nat) (u : Value) (W : World), (W.setCell ⟨w.heap.size + 1 + 1, j, none⟩ u).heap[b]? = W.heap[b]? := fun b hb j u W => Below.heap_setCell W _ u b (by simp; omega)
    refine hk.kept (fun b hb1 hb2 => ?_) (by simp) (fun b hb1 _ => ⟨by omega, hb1.2.of ?_⟩)
    · rw [e1 b hb1.1, e1 b hb1.1, e1 b hb1.1, e1 b hb1.1, e1 b hb1.1, e1 b hb1.1, e1 b hb1.1, e1 b hb1.1, e1 b hb1.1, e2 b hb1.1, e2 b hb1.1, e2 b hb1.1, e2 b hb1.1]
    · rw [e1 b hb1.1, e1 b hb1.1, e1 b hb1.1, e1 b hb1.1, e1 b hb1.1, e1 b hb1.1, e1 b hb1.1, e1 b hb1.1, e1 b hb1.1, e2 b hb1.1, e2 b hb1.1, e2 b hb1.1, e2 b hb1.1]
  · iterate 13 refine Below.setCell ?_ (by simp; try omega) _
    exact K1.out.2.2.2.2.1
end Go.Proofs.YtbaakhpmfljgnabDoor
