/-
  The program's copy of a Msg.
-/
import Derived.Test.YtlgnklpaebgnlaaMC
import Derived.Test.YtlgnklpaebgnlaaCpCell
namespace Go.Proofs.Ytlgnklpaebgnlaa
open Go.RowKit Go.Joins

set_option maxRecDepth 100000

set_option maxHeartbeats 6400000 in
theorem copyMsg_dt : ToC 72 MsgR := by
  rintro vs r S w ⟨z0, z1, z2, z3, z4, z5, z6, z7, x8, rfl, q8⟩ h hb
  obtain ⟨v0, v1, v2, v3, v4, v5, v6, v7, v8, rfl, a0, a1, a2, a3, a4, a5, a6, a7, a8⟩ := fs9 h
  obtain ⟨rfl, ia0⟩ := a0.ofInt
  obtain ⟨rfl, ia1⟩ := a1.ofInt
  obtain ⟨rfl, ia2⟩ := a2.ofInt
  obtain ⟨rfl, ia3⟩ := a3.ofInt
  obtain ⟨rfl, ia4⟩ := a4.ofInt
  obtain ⟨rfl, ia5⟩ := a5.ofInt
  obtain ⟨rfl, ia6⟩ := a6.ofInt
  obtain ⟨rfl, ia7⟩ := a7.ofInt
  obtain ⟨p8, c8, rfl⟩ := a8.form
  have hbk : Dt.bulkR [.int z0, .int z1, .int z2, .int z3, .int z4, .int z5, .int z6, .int z7, .row x8] = Dt.bulkS x8 := by simp [Dt.bulkR, Dt.bulk]; try omega
  rw [hbk] at hb
  clear hbk h
  have HI := (show Hid (_ ∧ _ ∧ _ ∧ _ ∧ _ ∧ _ ∧ _ ∧ _ ∧ _) from ⟨ia0, ia1, ia2, ia3, ia4, ia5, ia6, ia7, trivial⟩)
  have HA := (show Hid (_ ∧ _) from ⟨a8, trivial⟩)
  clear a0 a1 a2 a3 a4 a5 a6 a7 a8 ia0 ia1 ia2 ia3 ia4 ia5 ia6 ia7
  obtain ⟨W0, hW0⟩ : ∃ W0, W0 = (w.alloc (.cells #[.int .i64 z0, .int .i64 z1, .int .i64 z2, .int .i64 z3, .int .i64 z4, .int .i64 z5, .int .i64 z6, .int .i64 z7, .slice p8 x8.length c8] 118)).alloc (.cells #[.int .i64 0, .int .i64 0, .int .i64 0, .int .i64 0, .int .i64 0, .int .i64 0, .int .i64 0, .int .i64 0, .slice none 0 0] 118) := ⟨_, rfl⟩
  have B : Below w.heap.size w W0 := by rw [hW0]; exact ((Below.refl _ w).alloc (Nat.le_refl _) _).alloc (by simp) _
  have SZ : W0.heap.size = w.heap.size + 2 := by rw [hW0]; simp
  have O0 : W0.heap[w.heap.size]? = some (.cells #[.int .i64 z0, .int .i64 z1, .int .i64 z2, .int .i64 z3, .int .i64 z4, .int .i64 z5, .int .i64 z6, .int .i64 z7, .slice p8 x8.length c8] 118) := by rw [hW0]; exact (Below.heap_alloc _ _ _ (by simp)).trans (MapKept.heap_alloc w _).1
  have O1 : W0.heap[w.heap.size + 1]? = some (.cells #[.int .i64 0, .int .i64 0, .int .i64 0, .int .i64 0, .int .i64 0, .int .i64 0, .int .i64 0, .int .i64 0, .slice none 0 0] 118) := by
    rw [hW0]
    have := (MapKept.heap_alloc (w.alloc (.cells #[.int .i64 z0, .int .i64 z1, .int .i64 z2, .int .i64 z3, .int .i64 z4, .int .i64 z5, .int .i64 z6, .int .i64 z7, .slice p8 x8.length c8] 118)) (.cells #[.int .i64 0, .int .i64 0, .int .i64 0, .int .i64 0, .int .i64 0, .int .i64 0, .int .i64 0, .int .i64 0, .slice none 0 0] 118)).1
    simpa using this
  have HS := (show Hid (_ ∧ _ ∧ _ ∧ _ ∧ _) from ⟨O0, O1, B, SZ, trivial⟩)
  have HW := (show Hid (_ ∧ True) from ⟨hW0, trivial⟩)
  clear O0 O1 B SZ hW0
  go_enter Try.func72, Try.ntmps72
  go_wp2_with fail
  rw [← HW.out.1]
  refine (copyCell_dt [.int .i64 z5, .int .i64 z6, .int .i64 z7, .slice p8 x8.length c8] [.int z5, .int z6, .int z7, .row x8] S _ ⟨_, _, _, _, rfl, q8⟩ ⟨(FAt.int _ HI.out.2.2.2.2.2.1), (FAt.int _ HI.out.2.2.2.2.2.2.1), (FAt.int _ HI.out.2.2.2.2.2.2.2.1), HA.out.1.up HS.out.2.2.1, trivial⟩ (by rw [show Dt.bulkR [.int z5, .int z6, .int z7, .row x8] = Dt.bulkS x8 from by simp [Dt.bulkR, Dt.bulk]; try omega]; omega)).mono ?_
  rintro e w1 ⟨u, rfl, n5, bb⟩
  obtain ⟨v5, v6, v7, v8, rfl, k5, k6, k7, k8⟩ := fs4 n5.at
  obtain ⟨rfl, -⟩ := k5.ofInt
  obtain ⟨rfl, -⟩ := k6.ofInt
  obtain ⟨rfl, -⟩ := k7.ofInt
  obtain ⟨s8, t8, rfl⟩ := k8.form
  clear k5 k6 k7 k8
  obtain ⟨O0, O1, B, SZ, -⟩ := HS.out
  rw [SZ] at n5
  have zw1 : w.heap.size + 2 ≤ w1.heap.size := by have := bb.size; rw [SZ] at this; exact this
  have O0 := (bb.block _ (lt_heap O0)).trans O0
  have O1 := (bb.block _ (lt_heap O1)).trans O1
  have B := B.trans (bb.mono B.size)
  have y0_0 : w1.cell? ⟨w.heap.size, 0, none⟩ = some (.int .i64 z0) := by rw [cell_of_block O0]; rfl
  have y0_1 : w1.cell? ⟨w.heap.size, 1, none⟩ = some (.int .i64 z1) := by rw [cell_of_block O0]; rfl
  have y0_2 : w1.cell? ⟨w.heap.size, 2, none⟩ = some (.int .i64 z2) := by rw [cell_of_block O0]; rfl
  have y0_3 : w1.cell? ⟨w.heap.size, 3, none⟩ = some (.int .i64 z3) := by rw [cell_of_block O0]; rfl
  have y0_4 : w1.cell? ⟨w.heap.size, 4, none⟩ = some (.int .i64 z4) := by rw [cell_of_block O0]; rfl
  have y0_5 : w1.cell? ⟨w.heap.size, 5, none⟩ = some (.int .i64 z5) := by rw [cell_of_block O0]; rfl
  have f0_5 : w1.frozen? ⟨w.heap.size, 5, none⟩ = false := unfrozen_of_block O0 5
  have y0_6 : w1.cell? ⟨w.heap.size, 6, none⟩ = some (.int .i64 z6) := by rw [cell_of_block O0]; rfl
  have f0_6 : w1.frozen? ⟨w.heap.size, 6, none⟩ = false := unfrozen_of_block O0 6
  have y0_7 : w1.cell? ⟨w.heap.size, 7, none⟩ = some (.int .i64 z7) := by rw [cell_of_block O0]; rfl
  have f0_7 : w1.frozen? ⟨w.heap.size, 7, none⟩ = false := unfrozen_of_block O0 7
  have y0_8 : w1.cell? ⟨w.heap.size, 8, none⟩ = some (.slice p8 x8.length c8) := by rw [cell_of_block O0]; rfl
  have f0_8 : w1.frozen? ⟨w.heap.size, 8, none⟩ = false := unfrozen_of_block O0 8
  have y1_0 : w1.cell? ⟨w.heap.size + 1, 0, none⟩ = some (.int .i64 0) := by rw [cell_of_block O1]; rfl
  have f1_0 : w1.frozen? ⟨w.heap.size + 1, 0, none⟩ = false := unfrozen_of_block O1 0
  have y1_1 : w1.cell? ⟨w.heap.size + 1, 1, none⟩ = some (.int .i64 0) := by rw [cell_of_block O1]; rfl
  have f1_1 : w1.frozen? ⟨w.heap.size + 1, 1, none⟩ = false := unfrozen_of_block O1 1
  have y1_2 : w1.cell? ⟨w.heap.size + 1, 2, none⟩ = some (.int .i64 0) := by rw [cell_of_block O1]; rfl
  have f1_2 : w1.frozen? ⟨w.heap.size + 1, 2, none⟩ = false := unfrozen_of_block O1 2
  have y1_3 : w1.cell? ⟨w.heap.size + 1, 3, none⟩ = some (.int .i64 0) := by rw [cell_of_block O1]; rfl
  have f1_3 : w1.frozen? ⟨w.heap.size + 1, 3, none⟩ = false := unfrozen_of_block O1 3
  have y1_4 : w1.cell? ⟨w.heap.size + 1, 4, none⟩ = some (.int .i64 0) := by rw [cell_of_block O1]; rfl
  have f1_4 : w1.frozen? ⟨w.heap.size + 1, 4, none⟩ = false := unfrozen_of_block O1 4
  have y1_5 : w1.cell? ⟨w.heap.size + 1, 5, none⟩ = some (.int .i64 0) := by rw [cell_of_block O1]; rfl
  have f1_5 : w1.frozen? ⟨w.heap.size + 1, 5, none⟩ = false := unfrozen_of_block O1 5
  have y1_6 : w1.cell? ⟨w.heap.size + 1, 6, none⟩ = some (.int .i64 0) := by rw [cell_of_block O1]; rfl
  have f1_6 : w1.frozen? ⟨w.heap.size + 1, 6, none⟩ = false := unfrozen_of_block O1 6
  have y1_7 : w1.cell? ⟨w.heap.size + 1, 7, none⟩ = some (.int .i64 0) := by rw [cell_of_block O1]; rfl
  have f1_7 : w1.frozen? ⟨w.heap.size + 1, 7, none⟩ = false := unfrozen_of_block O1 7
  have y1_8 : w1.cell? ⟨w.heap.size + 1, 8, none⟩ = some (.slice none 0 0) := by rw [cell_of_block O1]; rfl
  have f1_8 : w1.frozen? ⟨w.heap.size + 1, 8, none⟩ = false := unfrozen_of_block O1 8
  have HF := (show Hid (_ ∧ _ ∧ _) from ⟨B, n5, trivial⟩)
  clear O0 O1 B SZ bb HS HW n5
  go_wp2
  refine bodyPost_ret (v := .agg #[.int .i64 z0, .int .i64 z1, .int .i64 z2, .int .i64 z3, .int .i64 z4, .int .i64 z5, .int .i64 z6, .int .i64 z7, .slice s8 x8.length t8]) (by simp [results, Try.results72, go_sem, y1_0, y1_1, y1_2, y1_3, y1_4, y1_5, y1_6, y1_7, y1_8]) rfl ⟨_, rfl, ?_, ?_⟩
  · obtain ⟨-, n5, -⟩ := HF.out
    have key : OFs w1 [.int .i64 z0, .int .i64 z1, .int .i64 z2, .int .i64 z3, .int .i64 z4, .int .i64 z5, .int .i64 z6, .int .i64 z7, .slice s8 x8.length t8] [.int z0, .int z1, .int z2, .int z3, .int z4, .int z5, .int z6, .int z7, .row x8] (Btw (w.heap.size + 2) w1.heap.size) := (OFs.int HI.out.1 (OFs.int HI.out.2.1 (OFs.int HI.out.2.2.1 (OFs.int HI.out.2.2.2.1 (OFs.int HI.out.2.2.2.2.1 (OFs.app n5 (show OFs _ [] [] _ from trivial) (by omega) (by omega)))))))
    refine (key.moved (fun b hb' _ => ?_)).mono (fun b hb' => ⟨by have := hb'.1; omega, by have := hb'.2; simpa using this⟩)
    have e1 : ∀ (j : Nat) (u : Value) (W : World), (W.setCell ⟨w.heap.size + 1, j, none⟩ u).heap[b]? = W.heap[b]? := fun j u W => Below.heap_setCell W _ u b (by have := hb'.1; simp; omega)
    have e2 : ∀ (j : Nat) (u : Value) (W : World), (W.setCell ⟨w.heap.size, j, none⟩ u).heap[b]? = W.heap[b]? := fun j u W => Below.heap_setCell W _ u b (by have := hb'.1; simp; omega)
    simp only [e1, e2]
  · iterate 13 refine Below.setCell ?_ (by simp; try omega) _
    exact HF.out.1

end Go.Proofs.Ytlgnklpaebgnlaa
