/-
  The program's copy of a Thread.
-/
import Derived.Test.YtlgnklpaebgnlaaMC
import Derived.Test.YtlgnklpaebgnlaaCloneAny
import Derived.Test.YtlgnklpaebgnlaaCeFrame
namespace Go.Proofs.Ytlgnklpaebgnlaa
open Go.RowKit Go.Joins

set_option maxRecDepth 100000

set_option maxHeartbeats 6400000 in
theorem copyThread_dt : ToC 69 ThreadR := by
  rintro vs r S w ⟨z0, z1, x2, x3, b4, rfl, q2, q3⟩ h hb
  obtain ⟨v0, v1, v2, v3, v4, rfl, a0, a1, a2, a3, a4⟩ := fs5 h
  obtain ⟨rfl, ia0⟩ := a0.ofInt
  obtain ⟨rfl, ia1⟩ := a1.ofInt
  obtain ⟨p2, c2, rfl⟩ := a2.form
  obtain ⟨p3, c3, rfl⟩ := a3.form
  obtain ⟨rfl, ia4⟩ := a4.ofStr
  have hbk : Dt.bulkR [.int z0, .int z1, .row x2, .row x3, .str b4] = Dt.bulkS x2 + Dt.bulkS x3 + b4.size := by simp [Dt.bulkR, Dt.bulk]; try omega
  rw [hbk] at hb
  clear hbk h
  have HI := (show Hid (_ ∧ _ ∧ _ ∧ _) from ⟨ia0, ia1, ia4, trivial⟩)
  have HA := (show Hid (_ ∧ _ ∧ _) from ⟨a2, a3, trivial⟩)
  clear a0 a1 a2 a3 a4 ia0 ia1 ia4
  obtain ⟨W0, hW0⟩ : ∃ W0, W0 = (w.alloc (.cells #[.int .i64 z0, .int .i64 z1, .slice p2 x2.length c2, .slice p3 x3.length c3, .string b4] 69)).alloc (.cells #[.int .i64 0, .int .i64 0, .slice none 0 0, .slice none 0 0, .string ⟨#[]⟩] 69) := ⟨_, rfl⟩
  have B : Below w.heap.size w W0 := by rw [hW0]; exact ((Below.refl _ w).alloc (Nat.le_refl _) _).alloc (by simp) _
  have SZ : W0.heap.size = w.heap.size + 2 := by rw [hW0]; simp
  have O0 : W0.heap[w.heap.size]? = some (.cells #[.int .i64 z0, .int .i64 z1, .slice p2 x2.length c2, .slice p3 x3.length c3, .string b4] 69) := by rw [hW0]; exact (Below.heap_alloc _ _ _ (by simp)).trans (MapKept.heap_alloc w _).1
  have O1 : W0.heap[w.heap.size + 1]? = some (.cells #[.int .i64 0, .int .i64 0, .slice none 0 0, .slice none 0 0, .string ⟨#[]⟩] 69) := by
    rw [hW0]
    have := (MapKept.heap_alloc (w.alloc (.cells #[.int .i64 z0, .int .i64 z1, .slice p2 x2.length c2, .slice p3 x3.length c3, .string b4] 69)) (.cells #[.int .i64 0, .int .i64 0, .slice none 0 0, .slice none 0 0, .string ⟨#[]⟩] 69)).1
    simpa using this
  have HS := (show Hid (_ ∧ _ ∧ _ ∧ _ ∧ _) from ⟨O0, O1, B, SZ, trivial⟩)
  have HW := (show Hid (_ ∧ True) from ⟨hW0, trivial⟩)
  clear O0 O1 B SZ hW0
  go_enter Try.func69, Try.ntmps69
  go_wp2_with fail
  rw [← HW.out.1]
  refine (cloneIntO_dt _ x2 S _ q2 (HA.out.1.up HS.out.2.2.1) (by omega)).mono ?_
  rintro e w1 ⟨u, rfl, n2, bb⟩
  obtain ⟨s2, t2, rfl⟩ := n2.form
  obtain ⟨O0, O1, B, SZ, -⟩ := HS.out
  rw [SZ] at n2
  have zw1 : w.heap.size + 2 ≤ w1.heap.size := by have := bb.size; rw [SZ] at this; exact this
  have O0 := (bb.block _ (lt_heap O0)).trans O0
  have O1 := (bb.block _ (lt_heap O1)).trans O1
  have B := B.trans (bb.mono B.size)
  have y0_0 : w1.cell? ⟨w.heap.size, 0, none⟩ = some (.int .i64 z0) := by rw [cell_of_block O0]; rfl
  have y0_1 : w1.cell? ⟨w.heap.size, 1, none⟩ = some (.int .i64 z1) := by rw [cell_of_block O0]; rfl
  have y0_2 : w1.cell? ⟨w.heap.size, 2, none⟩ = some (.slice p2 x2.length c2) := by rw [cell_of_block O0]; rfl
  have f0_2 : w1.frozen? ⟨w.heap.size, 2, none⟩ = false := unfrozen_of_block O0 2
  have y0_3 : w1.cell? ⟨w.heap.size, 3, none⟩ = some (.slice p3 x3.length c3) := by rw [cell_of_block O0]; rfl
  have y0_4 : w1.cell? ⟨w.heap.size, 4, none⟩ = some (.string b4) := by rw [cell_of_block O0]; rfl
  obtain ⟨W1, hW⟩ : ∃ W, W = (w1.setCell ⟨w.heap.size, 2, none⟩ (.slice s2 x2.length t2)) := ⟨_, rfl⟩
  have SZ' : W1.heap.size = w1.heap.size := by rw [hW]; simp
  have e2 : ∀ (b : Nat), b ≠ w.heap.size → W1.heap[b]? = w1.heap[b]? := by
    intro b hb'
    rw [hW]
    simp only [Below.heap_setCell _ _ _ b (show b ≠ (⟨w.heap.size, _, none⟩ : Addr).block from hb')]
  have P1 := (e2 _ (by omega)).trans O1
  have P0 : W1.heap[w.heap.size]? = some (.cells #[.int .i64 z0, .int .i64 z1, .slice s2 x2.length t2, .slice p3 x3.length c3, .string b4] 69) := by
    rw [hW]
    have := (block_setCell (i := 2) O0 (.slice s2 x2.length t2))
    simpa only [List.setIfInBounds_toArray, List.set_cons_zero, List.set_cons_succ] using this
  have PB : Below w.heap.size w W1 := by rw [hW]; exact (B.setCell (p := ⟨w.heap.size, 2, none⟩) (Nat.le_refl _) (.slice s2 x2.length t2))
  have Pn2 := Own.moved n2 (w' := W1) (fun b hb' _ => e2 b (by have := hb'.1; omega))
  have HS := (show Hid (_ ∧ _ ∧ _ ∧ _ ∧ _ ∧ _) from ⟨P0, P1, PB, SZ', Pn2, trivial⟩)
  have HW := (show Hid (_ ∧ True) from ⟨hW, trivial⟩)
  clear O0 O1 B SZ SZ' bb hW e2 P0 P1 PB n2 Pn2
  go_wp2_with fail
  rw [← HW.out.1]
  refine (copyEachFrame_dt _ x3 S _ q3 (HA.out.2.1.up HS.out.2.2.1) (by omega)).mono ?_
  rintro e w2 ⟨u, rfl, n3, -, bb⟩
  obtain ⟨s3, t3, rfl⟩ := n3.form
  obtain ⟨O0, O1, B, SZ, n2, -⟩ := HS.out
  rw [SZ] at n3
  have zw2 : w1.heap.size ≤ w2.heap.size := by have := bb.size; rw [SZ] at this; exact this
  have O0 := (bb.block _ (lt_heap O0)).trans O0
  have O1 := (bb.block _ (lt_heap O1)).trans O1
  have B := B.trans (bb.mono B.size)
  have n2 := Own.up n2 bb
  have y0_0 : w2.cell? ⟨w.heap.size, 0, none⟩ = some (.int .i64 z0) := by rw [cell_of_block O0]; rfl
  have y0_1 : w2.cell? ⟨w.heap.size, 1, none⟩ = some (.int .i64 z1) := by rw [cell_of_block O0]; rfl
  have y0_2 : w2.cell? ⟨w.heap.size, 2, none⟩ = some (.slice s2 x2.length t2) := by rw [cell_of_block O0]; rfl
  have y0_3 : w2.cell? ⟨w.heap.size, 3, none⟩ = some (.slice p3 x3.length c3) := by rw [cell_of_block O0]; rfl
  have f0_3 : w2.frozen? ⟨w.heap.size, 3, none⟩ = false := unfrozen_of_block O0 3
  have y0_4 : w2.cell? ⟨w.heap.size, 4, none⟩ = some (.string b4) := by rw [cell_of_block O0]; rfl
  obtain ⟨W2, hW⟩ : ∃ W, W = (w2.setCell ⟨w.heap.size, 3, none⟩ (.slice s3 x3.length t3)) := ⟨_, rfl⟩
  have SZ' : W2.heap.size = w2.heap.size := by rw [hW]; simp
  have e2 : ∀ (b : Nat), b ≠ w.heap.size → W2.heap[b]? = w2.heap[b]? := by
    intro b hb'
    rw [hW]
    simp only [Below.heap_setCell _ _ _ b (show b ≠ (⟨w.heap.size, _, none⟩ : Addr).block from hb')]
  have P1 := (e2 _ (by omega)).trans O1
  have P0 : W2.heap[w.heap.size]? = some (.cells #[.int .i64 z0, .int .i64 z1, .slice s2 x2.length t2, .slice s3 x3.length t3, .string b4] 69) := by
    rw [hW]
    have := (block_setCell (i := 3) O0 (.slice s3 x3.length t3))
    simpa only [List.setIfInBounds_toArray, List.set_cons_zero, List.set_cons_succ] using this
  have PB : Below w.heap.size w W2 := by rw [hW]; exact (B.setCell (p := ⟨w.heap.size, 3, none⟩) (Nat.le_refl _) (.slice s3 x3.length t3))
  have Pn2 := Own.moved n2 (w' := W2) (fun b hb' _ => e2 b (by have := hb'.1; omega))
  have Pn3 := Own.moved n3 (w' := W2) (fun b hb' _ => e2 b (by have := hb'.1; omega))
  have HS := (show Hid (_ ∧ _ ∧ _ ∧ _ ∧ _ ∧ _ ∧ _) from ⟨P0, P1, PB, SZ', Pn2, Pn3, trivial⟩)
  have HW := (show Hid (_ ∧ True) from ⟨hW, trivial⟩)
  clear O0 O1 B SZ SZ' bb hW e2 P0 P1 PB n2 n3 Pn2 Pn3
  go_wp2_with fail
  rw [← HW.out.1]
  refine (strClone_any b4 _ (by omega)).mono ?_
  rintro e w3 ⟨rfl, bb⟩
  obtain ⟨O0, O1, B, SZ, n2, n3, -⟩ := HS.out
  have zw3 : w2.heap.size ≤ w3.heap.size := by have := bb.size; rw [SZ] at this; exact this
  have O0 := (bb.block _ (lt_heap O0)).trans O0
  have O1 := (bb.block _ (lt_heap O1)).trans O1
  have B := B.trans (bb.mono B.size)
  have n2 := Own.up n2 bb
  have n3 := Own.up n3 bb
  have y0_0 : w3.cell? ⟨w.heap.size, 0, none⟩ = some (.int .i64 z0) := by rw [cell_of_block O0]; rfl
  have y0_1 : w3.cell? ⟨w.heap.size, 1, none⟩ = some (.int .i64 z1) := by rw [cell_of_block O0]; rfl
  have y0_2 : w3.cell? ⟨w.heap.size, 2, none⟩ = some (.slice s2 x2.length t2) := by rw [cell_of_block O0]; rfl
  have y0_3 : w3.cell? ⟨w.heap.size, 3, none⟩ = some (.slice s3 x3.length t3) := by rw [cell_of_block O0]; rfl
  have y0_4 : w3.cell? ⟨w.heap.size, 4, none⟩ = some (.string b4) := by rw [cell_of_block O0]; rfl
  have f0_4 : w3.frozen? ⟨w.heap.size, 4, none⟩ = false := unfrozen_of_block O0 4
  have y1_0 : w3.cell? ⟨w.heap.size + 1, 0, none⟩ = some (.int .i64 0) := by rw [cell_of_block O1]; rfl
  have f1_0 : w3.frozen? ⟨w.heap.size + 1, 0, none⟩ = false := unfrozen_of_block O1 0
  have y1_1 : w3.cell? ⟨w.heap.size + 1, 1, none⟩ = some (.int .i64 0) := by rw [cell_of_block O1]; rfl
  have f1_1 : w3.frozen? ⟨w.heap.size + 1, 1, none⟩ = false := unfrozen_of_block O1 1
  have y1_2 : w3.cell? ⟨w.heap.size + 1, 2, none⟩ = some (.slice none 0 0) := by rw [cell_of_block O1]; rfl
  have f1_2 : w3.frozen? ⟨w.heap.size + 1, 2, none⟩ = false := unfrozen_of_block O1 2
  have y1_3 : w3.cell? ⟨w.heap.size + 1, 3, none⟩ = some (.slice none 0 0) := by rw [cell_of_block O1]; rfl
  have f1_3 : w3.frozen? ⟨w.heap.size + 1, 3, none⟩ = false := unfrozen_of_block O1 3
  have y1_4 : w3.cell? ⟨w.heap.size + 1, 4, none⟩ = some (.string ⟨#[]⟩) := by rw [cell_of_block O1]; rfl
  have f1_4 : w3.frozen? ⟨w.heap.size + 1, 4, none⟩ = false := unfrozen_of_block O1 4
  have HF := (show Hid (_ ∧ _ ∧ _ ∧ _) from ⟨B, n2, n3, trivial⟩)
  clear O0 O1 B SZ bb HS HW n2 n3
  go_wp2
  refine bodyPost_ret (v := .agg #[.int .i64 z0, .int .i64 z1, .slice s2 x2.length t2, .slice s3 x3.length t3, .string b4]) (by simp [results, Try.results69, go_sem, y1_0, y1_1, y1_2, y1_3, y1_4]) rfl ⟨_, rfl, ?_, ?_⟩
  · obtain ⟨-, n2, n3, -⟩ := HF.out
    have key : OFs w3 [.int .i64 z0, .int .i64 z1, .slice s2 x2.length t2, .slice s3 x3.length t3, .string b4] [.int z0, .int z1, .row x2, .row x3, .str b4] (Btw (w.heap.size + 2) w3.heap.size) := (OFs.int HI.out.1 (OFs.int HI.out.2.1 (OFs.cons n2 (OFs.cons n3 (OFs.str HI.out.2.2.1 (show OFs _ [] [] _ from trivial)) (by omega) (by omega)) (by omega) (by omega))))
    refine (key.moved (fun b hb' _ => ?_)).mono (fun b hb' => ⟨by have := hb'.1; omega, by have := hb'.2; simpa using this⟩)
    have e1 : ∀ (j : Nat) (u : Value) (W : World), (W.setCell ⟨w.heap.size + 1, j, none⟩ u).heap[b]? = W.heap[b]? := fun j u W => Below.heap_setCell W _ u b (by have := hb'.1; simp; omega)
    have e2 : ∀ (j : Nat) (u : Value) (W : World), (W.setCell ⟨w.heap.size, j, none⟩ u).heap[b]? = W.heap[b]? := fun j u W => Below.heap_setCell W _ u b (by have := hb'.1; simp; omega)
    simp only [e1, e2]
  · iterate 6 refine Below.setCell ?_ (by simp; try omega) _
    exact HF.out.1

end Go.Proofs.Ytlgnklpaebgnlaa
