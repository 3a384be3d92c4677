/-
  The program's copy of a Frame.
-/
import Derived.Test.YtlgnklpaebgnlaaMC
namespace Go.Proofs.Ytlgnklpaebgnlaa
open Go.RowKit Go.Joins

set_option maxRecDepth 100000

set_option maxHeartbeats 6400000 in
theorem copyFrame_dt : ToC 97 FrameR := by
  rintro vs r S w ⟨z0, z1, z2, x3, rfl, q3⟩ h hb
  obtain ⟨v0, v1, v2, v3, rfl, a0, a1, a2, a3⟩ := fs4 h
  obtain ⟨rfl, ia0⟩ := a0.ofInt
  obtain ⟨rfl, ia1⟩ := a1.ofInt
  obtain ⟨rfl, ia2⟩ := a2.ofInt
  obtain ⟨p3, c3, rfl⟩ := a3.form
  have hbk : Dt.bulkR [.int z0, .int z1, .int z2, .row x3] = Dt.bulkS x3 := by simp [Dt.bulkR, Dt.bulk]; try omega
  rw [hbk] at hb
  clear hbk h
  have HI := (show Hid (_ ∧ _ ∧ _ ∧ _) from ⟨ia0, ia1, ia2, trivial⟩)
  have HA := (show Hid (_ ∧ _) from ⟨a3, trivial⟩)
  clear a0 a1 a2 a3 ia0 ia1 ia2
  obtain ⟨W0, hW0⟩ : ∃ W0, W0 = (w.alloc (.cells #[.int .i64 z0, .int .i64 z1, .int .i64 z2, .slice p3 x3.length c3] 66)).alloc (.cells #[.int .i64 0, .int .i64 0, .int .i64 0, .slice none 0 0] 66) := ⟨_, rfl⟩
  have B : Below w.heap.size w W0 := by rw [hW0]; exact ((Below.refl _ w).alloc (Nat.le_refl _) _).alloc (by simp) _
  have SZ : W0.heap.size = w.heap.size + 2 := by rw [hW0]; simp
  have O0 : W0.heap[w.heap.size]? = some (.cells #[.int .i64 z0, .int .i64 z1, .int .i64 z2, .slice p3 x3.length c3] 66) := by rw [hW0]; exact (Below.heap_alloc _ _ _ (by simp)).trans (MapKept.heap_alloc w _).1
  have O1 : W0.heap[w.heap.size + 1]? = some (.cells #[.int .i64 0, .int .i64 0, .int .i64 0, .slice none 0 0] 66) := by
    rw [hW0]
    have := (MapKept.heap_alloc (w.alloc (.cells #[.int .i64 z0, .int .i64 z1, .int .i64 z2, .slice p3 x3.length c3] 66)) (.cells #[.int .i64 0, .int .i64 0, .int .i64 0, .slice none 0 0] 66)).1
    simpa using this
  have HS := (show Hid (_ ∧ _ ∧ _ ∧ _ ∧ _) from ⟨O0, O1, B, SZ, trivial⟩)
  have HW := (show Hid (_ ∧ True) from ⟨hW0, trivial⟩)
  clear O0 O1 B SZ hW0
  go_enter Try.func97, Try.ntmps97
  go_wp2_with fail
  rw [← HW.out.1]
  refine (cloneIntO_dt _ x3 S _ q3 (HA.out.1.up HS.out.2.2.1) (by omega)).mono ?_
  rintro e w1 ⟨u, rfl, n3, bb⟩
  obtain ⟨s3, t3, rfl⟩ := n3.form
  obtain ⟨O0, O1, B, SZ, -⟩ := HS.out
  rw [SZ] at n3
  have zw1 : w.heap.size + 2 ≤ w1.heap.size := by have := bb.size; rw [SZ] at this; exact this
  have O0 := (bb.block _ (lt_heap O0)).trans O0
  have O1 := (bb.block _ (lt_heap O1)).trans O1
  have B := B.trans (bb.mono B.size)
  have y0_0 : w1.cell? ⟨w.heap.size, 0, none⟩ = some (.int .i64 z0) := by rw [cell_of_block O0]; rfl
  have y0_1 : w1.cell? ⟨w.heap.size, 1, none⟩ = some (.int .i64 z1) := by rw [cell_of_block O0]; rfl
  have y0_2 : w1.cell? ⟨w.heap.size, 2, none⟩ = some (.int .i64 z2) := by rw [cell_of_block O0]; rfl
  have y0_3 : w1.cell? ⟨w.heap.size, 3, none⟩ = some (.slice p3 x3.length c3) := by rw [cell_of_block O0]; rfl
  have f0_3 : w1.frozen? ⟨w.heap.size, 3, none⟩ = false := unfrozen_of_block O0 3
  have y1_0 : w1.cell? ⟨w.heap.size + 1, 0, none⟩ = some (.int .i64 0) := by rw [cell_of_block O1]; rfl
  have f1_0 : w1.frozen? ⟨w.heap.size + 1, 0, none⟩ = false := unfrozen_of_block O1 0
  have y1_1 : w1.cell? ⟨w.heap.size + 1, 1, none⟩ = some (.int .i64 0) := by rw [cell_of_block O1]; rfl
  have f1_1 : w1.frozen? ⟨w.heap.size + 1, 1, none⟩ = false := unfrozen_of_block O1 1
  have y1_2 : w1.cell? ⟨w.heap.size + 1, 2, none⟩ = some (.int .i64 0) := by rw [cell_of_block O1]; rfl
  have f1_2 : w1.frozen? ⟨w.heap.size + 1, 2, none⟩ = false := unfrozen_of_block O1 2
  have y1_3 : w1.cell? ⟨w.heap.size + 1, 3, none⟩ = some (.slice none 0 0) := by rw [cell_of_block O1]; rfl
  have f1_3 : w1.frozen? ⟨w.heap.size + 1, 3, none⟩ = false := unfrozen_of_block O1 3
  have HF := (show Hid (_ ∧ _ ∧ _) from ⟨B, n3, trivial⟩)
  clear O0 O1 B SZ bb HS HW n3
  go_wp2
  refine bodyPost_ret (v := .agg #[.int .i64 z0, .int .i64 z1, .int .i64 z2, .slice s3 x3.length t3]) (by simp [results, Try.results97, go_sem, y1_0, y1_1, y1_2, y1_3]) rfl ⟨_, rfl, ?_, ?_⟩
  · obtain ⟨-, n3, -⟩ := HF.out
    have key : OFs w1 [.int .i64 z0, .int .i64 z1, .int .i64 z2, .slice s3 x3.length t3] [.int z0, .int z1, .int z2, .row x3] (Btw (w.heap.size + 2) w1.heap.size) := (OFs.int HI.out.1 (OFs.int HI.out.2.1 (OFs.int HI.out.2.2.1 (OFs.cons n3 (show OFs _ [] [] _ from trivial) (by omega) (by omega)))))
    refine (key.moved (fun b hb' _ => ?_)).mono (fun b hb' => ⟨by have := hb'.1; omega, by have := hb'.2; simpa using this⟩)
    have e1 : ∀ (j : Nat) (u : Value) (W : World), (W.setCell ⟨w.heap.size + 1, j, none⟩ u).heap[b]? = W.heap[b]? := fun j u W => Below.heap_setCell W _ u b (by have := hb'.1; simp; omega)
    have e2 : ∀ (j : Nat) (u : Value) (W : World), (W.setCell ⟨w.heap.size, j, none⟩ u).heap[b]? = W.heap[b]? := fun j u W => Below.heap_setCell W _ u b (by have := hb'.1; simp; omega)
    simp only [e1, e2]
  · iterate 5 refine Below.setCell ?_ (by simp; try omega) _
    exact HF.out.1

end Go.Proofs.Ytlgnklpaebgnlaa
