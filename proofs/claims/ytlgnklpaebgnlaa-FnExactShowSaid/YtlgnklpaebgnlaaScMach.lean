/-
  The specification's copy of a machine.
-/
import Derived.Test.YtlgnklpaebgnlaaScTable
import Derived.Test.YtlgnklpaebgnlaaScThread
import Derived.Test.YtlgnklpaebgnlaaScCells
import Derived.Test.YtlgnklpaebgnlaaScMsgs
import Derived.Test.YtlgnklpaebgnlaaDtSlots
import Derived.Deep.RegionHeld3
namespace Go.Proofs.Ytlgnklpaebgnlaa
open Go.RowKit Go.Joins

set_option maxRecDepth 100000

theorem infoThM : (Try.prog.info? 69).map (fun i => (i.zero, i.size, i.bytes)) = some (some (.agg #[.int .i64 0, .int .i64 0, .slice none 0 0, .slice none 0 0, .string ⟨#[]⟩]), 5, 80) := by kernel_rfl

theorem run_buildM5 (a0 a1 a2 a4 a5 a6 : Option Addr) (l0 c0 l1 c1 l2 c2 l4 c4 l5 c5 l6 c6 : Nat) (w : World) : (Instr.build 39 #[(0, .agg #[.slice a0 l0 c0, .slice a1 l1 c1]), (1, .slice a2 l2 c2), (3, .slice a4 l4 c4), (4, .slice a5 l5 c5), (5, .slice a6 l6 c6)]).run Try.prog w = .ok (.agg #[.slice a0 l0 c0, .slice a1 l1 c1, .slice a2 l2 c2, .slice none 0 0, .slice a4 l4 c4, .slice a5 l5 c5, .slice a6 l6 c6]) w := by kernel_rfl
theorem ex_buildM5 (e : Operand → Value) (o : Oper) (x0 x1 x2 x3 x4 : Operand) (a0 a1 a2 a4 a5 a6 : Option Addr) (l0 c0 l1 c1 l2 c2 l4 c4 l5 c5 l6 c6 : Nat) (w : World) (ho : o.op = .build 39 #[(0, x0), (1, x1), (3, x2), (4, x3), (5, x4)]) (h0 : e x0 = .agg #[.slice a0 l0 c0, .slice a1 l1 c1]) (h1 : e x1 = .slice a2 l2 c2) (h2 : e x2 = .slice a4 l4 c4) (h3 : e x3 = .slice a5 l5 c5) (h4 : e x4 = .slice a6 l6 c6) : (execOp e o).run Try.prog w = .ok (.value (.agg #[.slice a0 l0 c0, .slice a1 l1 c1, .slice a2 l2 c2, .slice none 0 0, .slice a4 l4 c4, .slice a5 l5 c5, .slice a6 l6 c6])) w := by
  unfold execOp
  rw [ho]
  simp only [List.map_toArray, List.map_cons, List.map_nil, h0, h1, h2, h3, h4, Sem.run_bind, run_buildM5, Result.andThen_ok, Sem.run_pure]
set_option maxHeartbeats 25600000 in
theorem l06CopyT_dt : ToMT 22 := by
  rintro vs r S w ⟨x0, x1, x2, x3, x4, x5, x6, rfl, q0, q1, q2, q3, q4, q5, q6⟩ h hb
  obtain ⟨v0, v1, v2, v3, v4, v5, v6, rfl, a0, a1, a2, a3, a4, a5, a6⟩ := fs7 h
  obtain ⟨p0, c0, rfl⟩ := a0.form
  obtain ⟨p1, c1, rfl⟩ := a1.form
  obtain ⟨p2, c2, rfl⟩ := a2.form
  obtain ⟨p3, c3, rfl⟩ := a3.form
  obtain ⟨p4, c4, rfl⟩ := a4.form
  obtain ⟨p5, c5, rfl⟩ := a5.form
  obtain ⟨p6, c6, rfl⟩ := a6.form
  rw [show Dt.bulkR [.row x0, .row x1, .row x2, .row x3, .row x4, .row x5, .row x6] = Dt.bulkS x0 + Dt.bulkS x1 + Dt.bulkS x2 + Dt.bulkS x3 + Dt.bulkS x4 + Dt.bulkS x5 + Dt.bulkS x6 from by simp [Dt.bulkR, Dt.bulk]; try omega] at hb
  have hl4 := bulkS_len x4
  have hl5 := bulkS_len x5
  have hl3 := bulkS_len x3
  obtain ⟨iI, hiI, hzI0, hzI1, hzI2⟩ := info_parts infoAI
  obtain ⟨W0, hW0⟩ : ∃ W0, W0 = (w.alloc (.cells #[.slice p0 x0.length c0, .slice p1 x1.length c1, .slice p2 x2.length c2, .slice p3 x3.length c3, .slice p4 x4.length c4, .slice p5 x5.length c5, .slice p6 x6.length c6] 39)).alloc (.cells #[.slice none 0 0, .slice none 0 0, .slice none 0 0, .slice none 0 0, .slice none 0 0, .slice none 0 0, .slice none 0 0] 39) := ⟨_, rfl⟩
  have B : Below w.heap.size w W0 := by rw [hW0]; exact ((Below.refl _ w).alloc (Nat.le_refl _) _).alloc (by simp) _
  have SZ : W0.heap.size = w.heap.size + 2 := by rw [hW0]; simp
  have O0 : W0.heap[w.heap.size]? = some (.cells #[.slice p0 x0.length c0, .slice p1 x1.length c1, .slice p2 x2.length c2, .slice p3 x3.length c3, .slice p4 x4.length c4, .slice p5 x5.length c5, .slice p6 x6.length c6] 39) := by rw [hW0]; exact (Below.heap_alloc _ _ _ (by simp)).trans (MapKept.heap_alloc w _).1
  have O1 : W0.heap[w.heap.size + 1]? = some (.cells #[.slice none 0 0, .slice none 0 0, .slice none 0 0, .slice none 0 0, .slice none 0 0, .slice none 0 0, .slice none 0 0] 39) := by
    rw [hW0]
    have := (MapKept.heap_alloc (w.alloc (.cells #[.slice p0 x0.length c0, .slice p1 x1.length c1, .slice p2 x2.length c2, .slice p3 x3.length c3, .slice p4 x4.length c4, .slice p5 x5.length c5, .slice p6 x6.length c6] 39)) (.cells #[.slice none 0 0, .slice none 0 0, .slice none 0 0, .slice none 0 0, .slice none 0 0, .slice none 0 0, .slice none 0 0] 39)).1
    simpa using this
  have HZ : Hid (∀ wx : World, Below W0.heap.size W0 wx → wx.cell? ⟨w.heap.size, 0, none⟩ = some (.slice p0 x0.length c0) ∧ wx.cell? ⟨w.heap.size, 1, none⟩ = some (.slice p1 x1.length c1) ∧ wx.cell? ⟨w.heap.size, 2, none⟩ = some (.slice p2 x2.length c2) ∧ wx.cell? ⟨w.heap.size, 3, none⟩ = some (.slice p3 x3.length c3) ∧ wx.cell? ⟨w.heap.size, 4, none⟩ = some (.slice p4 x4.length c4) ∧ wx.cell? ⟨w.heap.size, 5, none⟩ = some (.slice p5 x5.length c5) ∧ wx.cell? ⟨w.heap.size, 6, none⟩ = some (.slice p6 x6.length c6)) := fun wx hx => by
    have o := (hx.block _ (lt_heap O0)).trans O0
    exact ⟨by rw [cell_of_block o]; rfl, by rw [cell_of_block o]; rfl, by rw [cell_of_block o]; rfl, by rw [cell_of_block o]; rfl, by rw [cell_of_block o]; rfl, by rw [cell_of_block o]; rfl, by rw [cell_of_block o]; rfl⟩
  have HS := (show Hid (_ ∧ _ ∧ _ ∧ _) from ⟨B, SZ, O0, O1⟩)
  have HA := (show Hid (_ ∧ _ ∧ _ ∧ _ ∧ _ ∧ _ ∧ _ ∧ _) from ⟨a0, a1, a2, a3, a4, a5, a6, trivial⟩)
  have HW := (show Hid (_ ∧ True) from ⟨hW0, trivial⟩)
  clear B SZ O0 O1 hW0 h a0 a1 a2 a3 a4 a5 a6
  go_enter Try.func22, Try.ntmps22
  go_wp2_with fail
  rw [← HW.out.1]
  clear HW
  refine wp_region_held_drew (S := fun w' => w'.cell? ⟨w.heap.size, 0, none⟩ = some (.slice p0 x0.length c0) ∧ w'.cell? ⟨w.heap.size, 1, none⟩ = some (.slice p1 x1.length c1) ∧ w'.cell? ⟨w.heap.size, 2, none⟩ = some (.slice p2 x2.length c2) ∧ w'.cell? ⟨w.heap.size, 3, none⟩ = some (.slice p3 x3.length c3) ∧ w'.cell? ⟨w.heap.size, 4, none⟩ = some (.slice p4 x4.length c4) ∧ w'.cell? ⟨w.heap.size, 5, none⟩ = some (.slice p5 x5.length c5) ∧ w'.cell? ⟨w.heap.size, 6, none⟩ = some (.slice p6 x6.length c6)) (by kernel_rfl) (HZ.out W0 (Below.refl _ W0)) (fun hS => ?_)
  refine wpAnyH_take (i := 0) (v := .pointer (some ⟨w.heap.size, 0, none⟩)) rfl (by kernel_rfl) (by kernel_rfl) (by kernel_rfl) (fun _ _ _ h => h) (Or.inl ⟨by rfl, ?_⟩) hS ?_
  · intro wq hSw
    obtain ⟨e0, e1, e2, e3, e4, e5, e6⟩ := hSw
    go_simp
  simp only [Act.put, List.getElem_toArray, List.getElem_cons_zero, List.setIfInBounds_toArray, List.set_cons_zero, List.set_cons_succ]
  refine wpAnyH_take (i := 1) (v := .agg #[.slice p0 x0.length c0, .slice p1 x1.length c1]) rfl (by kernel_rfl) (by kernel_rfl) (by kernel_rfl) (fun _ _ _ h => h) (Or.inl ⟨by rfl, ?_⟩) hS ?_
  · intro wq hSw
    obtain ⟨e0, e1, e2, e3, e4, e5, e6⟩ := hSw
    go_simp
  simp only [Act.put, List.getElem_toArray, List.getElem_cons_zero, List.getElem_cons_succ, List.setIfInBounds_toArray, List.set_cons_zero, List.set_cons_succ]
  refine wpAnyH_take (i := 3) (v := .pointer (some ⟨w.heap.size, 2, none⟩)) rfl (by kernel_rfl) (by kernel_rfl) (by kernel_rfl) (fun _ _ _ h => h) (Or.inl ⟨by rfl, ?_⟩) hS ?_
  · intro wq hSw
    obtain ⟨e0, e1, e2, e3, e4, e5, e6⟩ := hSw
    go_simp
  simp only [Act.put, List.getElem_toArray, List.getElem_cons_zero, List.getElem_cons_succ, List.setIfInBounds_toArray, List.set_cons_zero, List.set_cons_succ]
  refine wpAnyH_take (i := 4) (v := .slice p2 x2.length c2) rfl (by kernel_rfl) (by kernel_rfl) (by kernel_rfl) (fun _ _ _ h => h) (Or.inl ⟨by rfl, ?_⟩) hS ?_
  · intro wq hSw
    obtain ⟨e0, e1, e2, e3, e4, e5, e6⟩ := hSw
    go_simp
  simp only [Act.put, List.getElem_toArray, List.getElem_cons_zero, List.getElem_cons_succ, List.setIfInBounds_toArray, List.set_cons_zero, List.set_cons_succ]
  refine wpAnyH_take (i := 7) (v := .pointer (some ⟨w.heap.size, 4, none⟩)) rfl (by kernel_rfl) (by kernel_rfl) (by kernel_rfl) (fun _ _ _ h => h) (Or.inl ⟨by rfl, ?_⟩) hS ?_
  · intro wq hSw
    obtain ⟨e0, e1, e2, e3, e4, e5, e6⟩ := hSw
    go_simp
  simp only [Act.put, List.getElem_toArray, List.getElem_cons_zero, List.getElem_cons_succ, List.setIfInBounds_toArray, List.set_cons_zero, List.set_cons_succ]
  refine wpAnyH_take (i := 8) (v := .slice p4 x4.length c4) rfl (by kernel_rfl) (by kernel_rfl) (by kernel_rfl) (fun _ _ _ h => h) (Or.inl ⟨by rfl, ?_⟩) hS ?_
  · intro wq hSw
    obtain ⟨e0, e1, e2, e3, e4, e5, e6⟩ := hSw
    go_simp
  simp only [Act.put, List.getElem_toArray, List.getElem_cons_zero, List.getElem_cons_succ, List.setIfInBounds_toArray, List.set_cons_zero, List.set_cons_succ]
  refine wpAnyH_take (i := 11) (v := .pointer (some ⟨w.heap.size, 5, none⟩)) rfl (by kernel_rfl) (by kernel_rfl) (by kernel_rfl) (fun _ _ _ h => h) (Or.inl ⟨by rfl, ?_⟩) hS ?_
  · intro wq hSw
    obtain ⟨e0, e1, e2, e3, e4, e5, e6⟩ := hSw
    go_simp
  simp only [Act.put, List.getElem_toArray, List.getElem_cons_zero, List.getElem_cons_succ, List.setIfInBounds_toArray, List.set_cons_zero, List.set_cons_succ]
  refine wpAnyH_take (i := 12) (v := .slice p5 x5.length c5) rfl (by kernel_rfl) (by kernel_rfl) (by kernel_rfl) (fun _ _ _ h => h) (Or.inl ⟨by rfl, ?_⟩) hS ?_
  · intro wq hSw
    obtain ⟨e0, e1, e2, e3, e4, e5, e6⟩ := hSw
    go_simp
  simp only [Act.put, List.getElem_toArray, List.getElem_cons_zero, List.getElem_cons_succ, List.setIfInBounds_toArray, List.set_cons_zero, List.set_cons_succ]
  refine wpAnyH_take (i := 14) (v := .pointer (some ⟨w.heap.size, 6, none⟩)) rfl (by kernel_rfl) (by kernel_rfl) (by kernel_rfl) (fun _ _ _ h => h) (Or.inl ⟨by rfl, ?_⟩) hS ?_
  · intro wq hSw
    obtain ⟨e0, e1, e2, e3, e4, e5, e6⟩ := hSw
    go_simp
  simp only [Act.put, List.getElem_toArray, List.getElem_cons_zero, List.getElem_cons_succ, List.setIfInBounds_toArray, List.set_cons_zero, List.set_cons_succ]
  refine wpAnyH_take (i := 15) (v := .slice p6 x6.length c6) rfl (by kernel_rfl) (by kernel_rfl) (by kernel_rfl) (fun _ _ _ h => h) (Or.inl ⟨by rfl, ?_⟩) hS ?_
  · intro wq hSw
    obtain ⟨e0, e1, e2, e3, e4, e5, e6⟩ := hSw
    go_simp
  simp only [Act.put, List.getElem_toArray, List.getElem_cons_zero, List.getElem_cons_succ, List.setIfInBounds_toArray, List.set_cons_zero, List.set_cons_succ]
  refine via_G (fun G toG ofG => ?_)
  have fin : ∀ (wx : World) (s0 s1 : Option Addr) (t0 t1 : Nat) (s2 : Option Addr) (t2 : Nat) (g6 : Nat) (s4 : Option Addr) (t4 : Nat) (g10 : Nat) (s5 : Option Addr) (t5 : Nat) (s6 : Option Addr) (t6 : Nat) (g18 : Nat), Hid ((Below W0.heap.size W0 wx) ∧ (OFs wx [.slice s0 x0.length t0, .slice s1 x1.length t1, .slice s2 x2.length t2, .slice s4 x4.length t4, .slice s5 x5.length t5, .slice s6 x6.length t6] [.row x0, .row x1, .row x2, .row x4, .row x5, .row x6] (fun b => (W0.heap.size ≤ b ∧ b < wx.heap.size) ∧ b ≠ g18)) ∧ (wx.heap[g18]? = some (.cells #[.slice none 0 0, .slice none 0 0, .slice none 0 0, .slice none 0 0, .slice none 0 0, .slice none 0 0, .slice none 0 0] 39) ∧ W0.heap.size ≤ g18) ∧ True) → G 1 #[true, true, true, true, true, true, true, true, true, true, true, true, true, true, true, true, true, true, true, false] #[.agg #[.slice p0 x0.length c0, .slice p1 x1.length c1, .slice p2 x2.length c2, .slice p3 x3.length c3, .slice p4 x4.length c4, .slice p5 x5.length c5, .slice p6 x6.length c6], .pointer (some ⟨w.heap.size, 0, none⟩), .pointer (some ⟨w.heap.size + 1, 0, none⟩), .pointer (some ⟨g18, 0, none⟩), undef, .pointer (some ⟨w.heap.size, 0, none⟩), .agg #[.slice p0 x0.length c0, .slice p1 x1.length c1], .agg #[.slice s0 x0.length t0, .slice s1 x1.length t1], .pointer (some ⟨w.heap.size, 2, none⟩), .slice p2 x2.length c2, .slice s2 x2.length t2, .slice (some ⟨g6, 0, none⟩) 0 0, .pointer (some ⟨w.heap.size, 4, none⟩), .slice p4 x4.length c4, .slice s4 x4.length t4, .slice (some ⟨g10, 0, none⟩) 0 0, .pointer (some ⟨w.heap.size, 5, none⟩), .slice p5 x5.length c5, .slice s5 x5.length t5, .pointer (some ⟨w.heap.size, 6, none⟩), .slice p6 x6.length c6, .slice s6 x6.length t6, .agg #[.slice s0 x0.length t0, .slice s1 x1.length t1, .slice s2 x2.length t2, .slice none 0 0, .slice s4 x4.length t4, .slice s5 x5.length t5, .slice s6 x6.length t6], undef, undef, undef, undef, undef, undef, undef, undef, undef, undef, undef, undef, undef, undef, undef, undef, undef, undef, undef] wx := by
    intro wx s0 s1 t0 t1 s2 t2 g6 s4 t4 g10 s5 t5 s6 t6 g18 HF
    refine toG _ _ _ _ ?_
    obtain ⟨iT, hiT, hzT0, hzT1, hzT2⟩ := info_parts infoThM
    obtain ⟨FB, FO, F18, -⟩ := HF.out
    have hg0 := F18.2
    have hgl := lt_heap F18.1
    have hsz0 := HS.out.2.1
    have y0 : wx.cell? ⟨g18, 0, none⟩ = some (.slice none 0 0) := by rw [cell_of_block F18.1]; rfl
    have f0 : wx.frozen? ⟨g18, 0, none⟩ = false := unfrozen_of_block F18.1 0
    have y1 : wx.cell? ⟨g18, 1, none⟩ = some (.slice none 0 0) := by rw [cell_of_block F18.1]; rfl
    have f1 : wx.frozen? ⟨g18, 1, none⟩ = false := unfrozen_of_block F18.1 1
    have y2 : wx.cell? ⟨g18, 2, none⟩ = some (.slice none 0 0) := by rw [cell_of_block F18.1]; rfl
    have f2 : wx.frozen? ⟨g18, 2, none⟩ = false := unfrozen_of_block F18.1 2
    have y3 : wx.cell? ⟨g18, 3, none⟩ = some (.slice none 0 0) := by rw [cell_of_block F18.1]; rfl
    have f3 : wx.frozen? ⟨g18, 3, none⟩ = false := unfrozen_of_block F18.1 3
    have y4 : wx.cell? ⟨g18, 4, none⟩ = some (.slice none 0 0) := by rw [cell_of_block F18.1]; rfl
    have f4 : wx.frozen? ⟨g18, 4, none⟩ = false := unfrozen_of_block F18.1 4
    have y5 : wx.cell? ⟨g18, 5, none⟩ = some (.slice none 0 0) := by rw [cell_of_block F18.1]; rfl
    have f5 : wx.frozen? ⟨g18, 5, none⟩ = false := unfrozen_of_block F18.1 5
    have y6 : wx.cell? ⟨g18, 6, none⟩ = some (.slice none 0 0) := by rw [cell_of_block F18.1]; rfl
    have f6 : wx.frozen? ⟨g18, 6, none⟩ = false := unfrozen_of_block F18.1 6
    obtain ⟨W1, hW1⟩ : ∃ W1, W1 = (((((((wx.setCell ⟨g18, 0, none⟩ (.slice s0 x0.length t0)).setCell ⟨g18, 1, none⟩ (.slice s1 x1.length t1)).setCell ⟨g18, 2, none⟩ (.slice s2 x2.length t2)).setCell ⟨g18, 3, none⟩ (.slice none 0 0)).setCell ⟨g18, 4, none⟩ (.slice s4 x4.length t4)).setCell ⟨g18, 5, none⟩ (.slice s5 x5.length t5)).setCell ⟨g18, 6, none⟩ (.slice s6 x6.length t6)) := ⟨_, rfl⟩
    have eW : ∀ b, b ≠ g18 → W1.heap[b]? = wx.heap[b]? := fun b hb => by
      rw [hW1]
      simp only [Below.heap_setCell _ _ _ b (show b ≠ (⟨g18, _, none⟩ : Addr).block from hb)]
    have OB : W1.heap[g18]? = some (.cells #[.slice s0 x0.length t0, .slice s1 x1.length t1, .slice s2 x2.length t2, .slice none 0 0, .slice s4 x4.length t4, .slice s5 x5.length t5, .slice s6 x6.length t6] 39) := by
      rw [hW1]
      have := (block_setCell (i := 6) (block_setCell (i := 5) (block_setCell (i := 4) (block_setCell (i := 3) (block_setCell (i := 2) (block_setCell (i := 1) (block_setCell (i := 0) F18.1 (.slice s0 x0.length t0)) (.slice s1 x1.length t1)) (.slice s2 x2.length t2)) (.slice none 0 0)) (.slice s4 x4.length t4)) (.slice s5 x5.length t5)) (.slice s6 x6.length t6))
      simpa only [List.setIfInBounds_toArray, List.set_cons_zero, List.set_cons_succ] using this
    have sW : W1.heap.size = wx.heap.size := by rw [hW1]; simp
    have FOW : OFs W1 [.slice s0 x0.length t0, .slice s1 x1.length t1, .slice s2 x2.length t2, .slice s4 x4.length t4, .slice s5 x5.length t5, .slice s6 x6.length t6] [.row x0, .row x1, .row x2, .row x4, .row x5, .row x6] (fun b => (W0.heap.size ≤ b ∧ b < wx.heap.size) ∧ b ≠ g18) := OFs.moved FO (fun b hb _ => eW b hb.2)
    have O0W : W1.heap[w.heap.size]? = some (.cells #[.slice p0 x0.length c0, .slice p1 x1.length c1, .slice p2 x2.length c2, .slice p3 x3.length c3, .slice p4 x4.length c4, .slice p5 x5.length c5, .slice p6 x6.length c6] 39) := (eW _ (by omega)).trans ((FB.block _ (lt_heap HS.out.2.2.1)).trans HS.out.2.2.1)
    have O1W : W1.heap[w.heap.size + 1]? = some (.cells #[.slice none 0 0, .slice none 0 0, .slice none 0 0, .slice none 0 0, .slice none 0 0, .slice none 0 0, .slice none 0 0] 39) := (eW _ (by omega)).trans ((FB.block _ (lt_heap HS.out.2.2.2)).trans HS.out.2.2.2)
    have BW : Below w.heap.size w W1 := by
      have b0 : Below w.heap.size w wx := HS.out.1.trans (FB.mono HS.out.1.size)
      rw [hW1]
      iterate 7 refine Below.setCell ?_ (by simp; omega) _
      exact b0
    have hS1 : W1.cell? ⟨w.heap.size, 0, none⟩ = some (.slice p0 x0.length c0) ∧ W1.cell? ⟨w.heap.size, 1, none⟩ = some (.slice p1 x1.length c1) ∧ W1.cell? ⟨w.heap.size, 2, none⟩ = some (.slice p2 x2.length c2) ∧ W1.cell? ⟨w.heap.size, 3, none⟩ = some (.slice p3 x3.length c3) ∧ W1.cell? ⟨w.heap.size, 4, none⟩ = some (.slice p4 x4.length c4) ∧ W1.cell? ⟨w.heap.size, 5, none⟩ = some (.slice p5 x5.length c5) ∧ W1.cell? ⟨w.heap.size, 6, none⟩ = some (.slice p6 x6.length c6) := ⟨by rw [cell_of_block O0W]; rfl, by rw [cell_of_block O0W]; rfl, by rw [cell_of_block O0W]; rfl, by rw [cell_of_block O0W]; rfl, by rw [cell_of_block O0W]; rfl, by rw [cell_of_block O0W]; rfl, by rw [cell_of_block O0W]; rfl⟩
    have HF1 := (show Hid (_ ∧ _ ∧ _ ∧ _ ∧ _ ∧ _ ∧ _) from ⟨OB, FOW, O0W, O1W, BW, sW, hS1⟩)
    have HW1 := (show Hid (_ ∧ True) from ⟨hW1, trivial⟩)
    clear OB FOW O0W O1W BW sW hS1 hW1 eW FB FO F18 HF
    refine wpAnyH_ready (rs := [19]) (by kernel_rfl) (by simp) ?_
    refine AllReadyH.cons rfl (fun K hK => ?_) AllReadyH.nil
    go_simp
    rw [← HW1.out.1]
    refine hK.out _ _ HF1.out.2.2.2.2.2.2 (fun _ => ?_)
    clear hK K HW1 y0 f0 y1 f1 y2 f2 y3 f3 y4 f4 y5 f5 y6 f6
    refine wpAnyH_done (by kernel_rfl) ?_ _
    go_wp2
    go_loopw [4] (fun i wr => ∃ (k : Nat) (oa : Option Addr) (oc : Nat), k ≤ x3.length ∧ i = .int .i64 k ∧ Hid (Grow wr wx.heap.size 69 5 (.slice oa k oc) k x3) ∧ Hid (wr.heap[g18]? = some (.cells #[.slice s0 x0.length t0, .slice s1 x1.length t1, .slice s2 x2.length t2, .slice oa k oc, .slice s4 x4.length t4, .slice s5 x5.length t5, .slice s6 x6.length t6] 39)) ∧ Hid (KB (fun b => b = g18 ∨ wx.heap.size ≤ b) W1 wr)) (fun i _ => x3.length - (intOf i).toNat)
    case atStart => exact ⟨0, none, 0, Nat.zero_le _, rfl, Grow.start ⟨rfl, .inl ⟨rfl, rfl⟩⟩ x3, HF1.out.1, KB.refl _ _⟩
    case round =>
      obtain ⟨k, oa, oc, hk, rfl, HG, HOB, HKB⟩ := hrel
      have hszr : wx.heap.size ≤ wr.heap.size := by have := HKB.out.size; have := HF1.out.2.2.2.2.2.1; omega
      have o0 := HKB.out.heap HF1.out.2.2.1 (fun hx => by rcases hx with hx | hx <;> omega)
      have o1 := HKB.out.heap HF1.out.2.2.2.1 (fun hx => by rcases hx with hx | hx <;> omega)
      have Y3 : wr.cell? ⟨w.heap.size, 3, none⟩ = some (.slice p3 x3.length c3) := by rw [cell_of_block o0]; rfl
      have hbw : Below w.heap.size w wr := HF1.out.2.2.2.2.1.trans (HKB.out.below (fun b hb => by rcases hb with hb | hb <;> omega) HF1.out.2.2.2.2.1.size)
      by_cases hkl : k < x3.length
      · skip
        have he := List.getElem?_eq_getElem hkl
        have hbk := bulkS_at he
        generalize x3[k] = r at *
        obtain ⟨z0, z1, E2, E3, b4, rfl, QA, QB⟩ := q3 k r he
        have hA3 := HA.out.2.2.2.1
        obtain ⟨b, off, rfl, -, hlb, us, hus⟩ := hA3.at he
        have c0' : w.cell? ⟨b, off + k * 5, none⟩ = some (us 0) := (hus 0 _ rfl).1
        have c1' : w.cell? ⟨b, off + k * 5 + 1, none⟩ = some (us 1) := (hus 1 _ rfl).1
        have c2' : w.cell? ⟨b, off + k * 5 + 2, none⟩ = some (us 2) := (hus 2 _ rfl).1
        have c3' : w.cell? ⟨b, off + k * 5 + 3, none⟩ = some (us 3) := (hus 3 _ rfl).1
        have c4' : w.cell? ⟨b, off + k * 5 + 4, none⟩ = some (us 4) := (hus 4 _ rfl).1
        have F0 := (hus 0 _ rfl).2
        have F1 := (hus 1 _ rfl).2
        have F2 := (hus 2 _ rfl).2
        have F3 := (hus 3 _ rfl).2
        have F4 := (hus 4 _ rfl).2
        obtain ⟨e2, h2, w2'⟩ := F2.form
        obtain ⟨e3, h3, w3'⟩ := F3.form
        rw [F0.ofInt.1] at c0' F0
        rw [F1.ofInt.1] at c1' F1
        rw [w2'] at c2' F2
        rw [w3'] at c3' F3
        rw [F4.ofStr.1] at c4' F4
        rw [← hbw.cell (by exact hlb)] at c0' c1' c2' c3' c4'
        have HE := (show Hid (_ ∧ _ ∧ _) from ⟨(show FsAt wr S [.int .i64 z0, .int .i64 z1, .slice e2 E2.length h2, .slice e3 E3.length h3, .string b4] [.int z0, .int z1, .row E2, .row E3, .str b4] from ⟨F0.up hbw, F1.up hbw, F2.up hbw, F3.up hbw, F4.up hbw, trivial⟩), (show ThreadR [.int z0, .int z1, .row E2, .row E3, .str b4] from ⟨_, _, _, _, _, rfl, QA, QB⟩), he⟩)
        have hlw : b < wr.heap.size := Nat.lt_of_lt_of_le hlb hbw.size
        have hbu : Dt.bulkR [.int z0, .int z1, .row E2, .row E3, .str b4] ≤ 1048576 := by omega
        clear hus F0 F1 F2 F3 F4 w2' w3' hA3 QA QB he
        have hlt' : ((k : Nat) : Int) < ((x3.length : Nat) : Int) := by omega
        have keepS : ∀ wz : World, (∀ b', b' < w.heap.size + 1 → wz.heap[b']? = wr.heap[b']?) → wz.cell? ⟨w.heap.size, 3, none⟩ = some (.slice (some ⟨b, off, none⟩) x3.length c3) ∧ wz.cell? ⟨b, off + k * 5, none⟩ = some (.int .i64 z0) ∧ wz.cell? ⟨b, off + k * 5 + 1, none⟩ = some (.int .i64 z1) ∧ wz.cell? ⟨b, off + k * 5 + 2, none⟩ = some (.slice e2 E2.length h2) ∧ wz.cell? ⟨b, off + k * 5 + 3, none⟩ = some (.slice e3 E3.length h3) ∧ wz.cell? ⟨b, off + k * 5 + 4, none⟩ = some (.string b4) := fun wz hz =>
          ⟨(World.cell?_of_block (hz _ (by simp))).trans Y3, (World.cell?_of_block (hz _ (by simp; omega))).trans c0', (World.cell?_of_block (hz _ (by simp; omega))).trans c1', (World.cell?_of_block (hz _ (by simp; omega))).trans c2', (World.cell?_of_block (hz _ (by simp; omega))).trans c3', (World.cell?_of_block (hz _ (by simp; omega))).trans c4'⟩
        have HKS := (show Hid (_ ∧ True) from ⟨keepS, trivial⟩)
        have hS0 := keepS wr (fun _ _ => rfl)
        have HS0 := (show Hid (_ ∧ True) from ⟨hS0, trivial⟩)
        clear keepS hS0 o1
        go_wp2_with fail
        refine wp_region_held_drew (S := fun w' => w'.cell? ⟨w.heap.size, 3, none⟩ = some (.slice (some ⟨b, off, none⟩) x3.length c3) ∧ w'.cell? ⟨b, off + k * 5, none⟩ = some (.int .i64 z0) ∧ w'.cell? ⟨b, off + k * 5 + 1, none⟩ = some (.int .i64 z1) ∧ w'.cell? ⟨b, off + k * 5 + 2, none⟩ = some (.slice e2 E2.length h2) ∧ w'.cell? ⟨b, off + k * 5 + 3, none⟩ = some (.slice e3 E3.length h3) ∧ w'.cell? ⟨b, off + k * 5 + 4, none⟩ = some (.string b4)) (by kernel_rfl) HS0.out.1 (fun hS => ?_)
        refine wpAnyH_take (i := 0) (v := .pointer (some ⟨g18, 3, none⟩)) rfl (by kernel_rfl) (by kernel_rfl) (by kernel_rfl) (fun _ _ _ h => h) (Or.inl ⟨by rfl, ?_⟩) hS ?_
        · intro wq hSw
          obtain ⟨q3', qa, qb, qc, qd, qe⟩ := hSw
          go_simp
        simp only [Act.put, List.getElem_toArray, List.getElem_cons_zero, List.setIfInBounds_toArray, List.set_cons_zero, List.set_cons_succ]
        refine wpAnyH_take (i := 2) (v := .pointer (some ⟨w.heap.size, 3, none⟩)) rfl (by kernel_rfl) (by kernel_rfl) (by kernel_rfl) (fun _ _ _ h => h) (Or.inl ⟨by rfl, ?_⟩) hS ?_
        · intro wq hSw
          obtain ⟨q3', qa, qb, qc, qd, qe⟩ := hSw
          go_simp
        simp only [Act.put, List.getElem_toArray, List.getElem_cons_zero, List.getElem_cons_succ, List.setIfInBounds_toArray, List.set_cons_zero, List.set_cons_succ]
        refine wpAnyH_take (i := 3) (v := .slice (some ⟨b, off, none⟩) x3.length c3) rfl (by kernel_rfl) (by kernel_rfl) (by kernel_rfl) (fun _ _ _ h => h) (Or.inl ⟨by rfl, ?_⟩) hS ?_
        · intro wq hSw
          obtain ⟨q3', qa, qb, qc, qd, qe⟩ := hSw
          go_simp
        simp only [Act.put, List.getElem_toArray, List.getElem_cons_zero, List.getElem_cons_succ, List.setIfInBounds_toArray, List.set_cons_zero, List.set_cons_succ]
        refine wpAnyH_take (i := 4) (v := .int .i64 k) rfl (by kernel_rfl) (by kernel_rfl) (by kernel_rfl) (fun _ _ _ h => h) (Or.inl ⟨by rfl, ?_⟩) hS ?_
        · intro wq hSw
          obtain ⟨q3', qa, qb, qc, qd, qe⟩ := hSw
          go_simp
        simp only [Act.put, List.getElem_toArray, List.getElem_cons_zero, List.getElem_cons_succ, List.setIfInBounds_toArray, List.set_cons_zero, List.set_cons_succ]
        refine wpAnyH_take (i := 5) (v := .pointer (some ⟨b, off + k * 5, none⟩)) rfl (by kernel_rfl) (by kernel_rfl) (by kernel_rfl) (fun _ _ _ h => h) (Or.inl ⟨by rfl, ?_⟩) hS ?_
        · intro wq hSw
          obtain ⟨q3', qa, qb, qc, qd, qe⟩ := hSw
          go_simp
        simp only [Act.put, List.getElem_toArray, List.getElem_cons_zero, List.getElem_cons_succ, List.setIfInBounds_toArray, List.set_cons_zero, List.set_cons_succ]
        refine wpAnyH_take (i := 6) (v := .agg #[.int .i64 z0, .int .i64 z1, .slice e2 E2.length h2, .slice e3 E3.length h3, .string b4]) rfl (by kernel_rfl) (by kernel_rfl) (by kernel_rfl) (fun _ _ _ h => h) (Or.inl ⟨by rfl, ?_⟩) hS ?_
        · intro wq hSw
          obtain ⟨q3', qa, qb, qc, qd, qe⟩ := hSw
          go_simp
        simp only [Act.put, List.getElem_toArray, List.getElem_cons_zero, List.getElem_cons_succ, List.setIfInBounds_toArray, List.set_cons_zero, List.set_cons_succ]
        obtain ⟨flatk, hflat⟩ := HG.out.row
        have HH := (show Hid (_ ∧ True) from ⟨hflat, trivial⟩)
        clear hflat
        refine wpAnyH_ready (rs := [1, 7]) (by kernel_rfl) (by simp) ?_
        refine AllReadyH.cons rfl (fun K hK => ?_) (AllReadyH.cons rfl (fun K hK => ?_) AllReadyH.nil)
        · have U3 : wr.drew.cell? ⟨g18, 3, none⟩ = some (.slice oa k oc) := by rw [cell_of_block (show wr.drew.heap[g18]? = _ from HOB.out)]; rfl
          go_simp
          clear U3
          refine hK.out _ _ (HKS.out.1 wr.drew (fun _ _ => rfl)) (fun _ => ?_)
          clear hK K
          try simp only [List.setIfInBounds_toArray, List.set_cons_zero, List.set_cons_succ]
          refine wpAnyH_ready (rs := [7]) (by kernel_rfl) (by simp) ?_
          refine AllReadyH.cons rfl (fun K hK => ?_) AllReadyH.nil
          refine step_call1 rfl 60 (.tmp 36) _ rfl (enters_of Try.func60 (by kernel_rfl) rfl) (.agg #[.int .i64 z0, .int .i64 z1, .slice e2 E2.length h2, .slice e3 E3.length h3, .string b4]) (by simp [Act.eval]) (fun r w' => ∃ us : List Value, r = .agg us.toArray ∧ OFs w' us [.int z0, .int z1, .row E2, .row E3, .str b4] (Btw wr.heap.size w'.heap.size) ∧ Below wr.heap.size wr w') ((l06CopyThread_dt [.int .i64 z0, .int .i64 z1, .slice e2 E2.length h2, .slice e3 E3.length h3, .string b4] [.int z0, .int z1, .row E2, .row E3, .str b4] S _ HE.out.2.1 (FsAt.up HE.out.1 (Below.refl wr.heap.size wr).drew) hbu).mono (fun e w' ⟨us, he, h1, h2⟩ => ⟨_, he, us, rfl, h1, (Below.refl wr.heap.size wr).drew.trans h2⟩)) ?_
          rintro r w3 ⟨us, rfl, N, b3⟩
          obtain ⟨v0, v1, v2, v3, v4, rfl, k0, k1, k2, k3, k4⟩ := fs5 N.at
          obtain ⟨rfl, -⟩ := k0.ofInt
          obtain ⟨rfl, -⟩ := k1.ofInt
          obtain ⟨n2, m2, rfl⟩ := k2.form
          obtain ⟨n3, m3, rfl⟩ := k3.form
          obtain ⟨rfl, -⟩ := k4.ofStr
          have H3 := (show Hid (_ ∧ _) from ⟨N, b3⟩)
          clear N b3 k0 k1 k2 k3 k4
          refine hK.out _ _ (HKS.out.1 w3 (fun b' hb' => H3.out.2.block b' (by omega))) (fun _ => ?_)
          clear hK K
          simp only [Act.put, List.getElem_toArray, List.getElem_cons_zero, List.getElem_cons_succ, List.setIfInBounds_toArray, List.set_cons_zero, List.set_cons_succ]
          refine wpAnyH_ready (rs := [8]) (by kernel_rfl) (by simp) ?_
          refine AllReadyH.cons rfl (fun K hK => ?_) AllReadyH.nil
          go_simp
          refine hK.out _ _ (HKS.out.1 _ (fun b' hb' => ((H3.out.2.alloc H3.out.2.size _).block b' (by omega)))) (fun _ => ?_)
          clear hK K
          try simp only [List.setIfInBounds_toArray, List.set_cons_zero, List.set_cons_succ]
          refine wpAnyH_ready (rs := [9]) (by kernel_rfl) (by simp) ?_
          refine AllReadyH.cons rfl (fun K hK => ?_) AllReadyH.nil
          have B4 : Below wr.heap.size wr (w3.alloc (.cells #[.int .i64 z0, .int .i64 z1, .slice n2 E2.length m2, .slice n3 E3.length m3, .string b4] 69)) := H3.out.2.alloc H3.out.2.size _
          have ofs : OFs (w3.alloc (.cells #[.int .i64 z0, .int .i64 z1, .slice n2 E2.length m2, .slice n3 E3.length m3, .string b4] 69)) [.int .i64 z0, .int .i64 z1, .slice n2 E2.length m2, .slice n3 E3.length m3, .string b4] [.int z0, .int z1, .row E2, .row E3, .str b4] (Btw wr.heap.size (w3.alloc (.cells #[.int .i64 z0, .int .i64 z1, .slice n2 E2.length m2, .slice n3 E3.length m3, .string b4] 69)).heap.size) := (OFs.up H3.out.1 ((Below.refl _ w3).alloc (Nat.le_refl _) _)).mono (fun b hb => ⟨hb.1, by have := hb.2; simp; omega⟩)
          have R4 := own_moved (W' := (w3.alloc (.cells #[.int .i64 z0, .int .i64 z1, .slice n2 E2.length m2, .slice n3 E3.length m3, .string b4] 69))) HH.out.1 (fun g hg => B4.block g (own_lt HH.out.1 g hg))
          refine step_append_row rfl (.tmp 31) (.tmp 38) 36 rfl wx.heap.size 69 iT _ 5 80 Try.underlying36 hiT hzT0 hzT1 hzT2 rfl (by decide) (.slice oa k oc) k _ (by simp [Act.eval]) R4 ⟨w3.heap.size, 0, none⟩ 1 1 [.int .i64 z0, .int .i64 z1, .slice n2 E2.length m2, .slice n3 E3.length m3, .string b4] (by simp [Act.eval]) rfl ?_ (by intro u hu; simp at hu; rcases hu with rfl | rfl | rfl | rfl | rfl <;> rfl) (by unfold maxLen; omega) (by omega) (Nat.le_trans hszr B4.size) ?_
          · intro j u hj
            rw [addr_add, Nat.zero_add, cell_of_block (MapKept.heap_alloc w3 _).1]
            simpa using hj
          intro v8 w8 hown8 hgrow8 hat8
          obtain ⟨a8, c8, rfl⟩ := own_form hown8
          have ob8 := (hgrow8.block g18 (Nat.lt_of_lt_of_le (lt_heap HOB.out) B4.size) (fun e => by have := (own_type HH.out.1 g18 e.symm).1; omega)).trans ((B4.block _ (lt_heap HOB.out)).trans HOB.out)
          have st8 : ∀ b', b' < wx.heap.size → w8.heap[b']? = wr.heap[b']? := fun b' hb' => (hgrow8.block b' (by have := B4.size; omega) (fun e => by have := (own_type HH.out.1 b' e.symm).1; omega)).trans (B4.block b' (by omega))
          have G8 := Grow.next HG.out B4 hszr HE.out.2.2 (q3.len ThreadR.len) ofs HH.out.1 hown8 hgrow8 hat8
          have kb8 : KB (fun b => b = g18 ∨ wx.heap.size ≤ b) W1 w8 := HKB.out.trans ⟨hgrow8.os.trans B4.os, hgrow8.tape.trans B4.tape, hgrow8.output.trans B4.output, Nat.le_trans B4.size hgrow8.size, fun b' hl hx => st8 b' (by have := not_or.1 hx; omega)⟩
          have H8 := (show Hid (_ ∧ _ ∧ _ ∧ _) from ⟨ob8, st8, G8, kb8⟩)
          clear B4 ofs R4 hown8 hgrow8 hat8 ob8 st8 G8 kb8
          refine hK.out _ _ (HKS.out.1 w8 (fun b' hb' => H8.out.2.1 b' (by omega))) (fun _ => ?_)
          clear hK K
          simp only [Act.put, List.getElem_toArray, List.getElem_cons_zero, List.getElem_cons_succ, List.setIfInBounds_toArray, List.set_cons_zero, List.set_cons_succ]
          refine wpAnyH_take (i := 10) (v := .pointer (some ⟨g18, 3, none⟩)) rfl (by kernel_rfl) (by kernel_rfl) (by kernel_rfl) (fun _ _ _ h => h) (Or.inl ⟨by rfl, ?_⟩) (HKS.out.1 w8 (fun b' hb' => H8.out.2.1 b' (by omega))) ?_
          · intro wq hSw
            obtain ⟨q3', qa, qb, qc, qd, qe⟩ := hSw
            go_simp
          simp only [Act.put, List.getElem_toArray, List.getElem_cons_zero, List.getElem_cons_succ, List.setIfInBounds_toArray, List.set_cons_zero, List.set_cons_succ]
          refine wpAnyH_ready (rs := [11]) (by kernel_rfl) (by simp) ?_
          refine AllReadyH.cons rfl (fun K hK => ?_) AllReadyH.nil
          have U3 : w8.cell? ⟨g18, 3, none⟩ = some (.slice oa k oc) := by rw [cell_of_block H8.out.1]; rfl
          have V3 : w8.frozen? ⟨g18, 3, none⟩ = false := unfrozen_of_block H8.out.1 3
          go_simp
          refine hK.out _ _ (HKS.out.1 _ (fun b' hb' => (Below.heap_setCell _ _ _ _ (by simp; omega)).trans (H8.out.2.1 b' (by omega)))) (fun _ => ?_)
          clear hK K U3 V3
          refine wpAnyH_done (by kernel_rfl) ?_ _
          go_wp2
          refine ⟨⟨k + 1, a8, c8, by omega, by go_num, Grow.moved H8.out.2.2.1 (fun b' hb' _ => Below.heap_setCell _ _ _ _ (by simp; omega)) (by simp), ?_, ?_⟩, by simp [intOf]; omega⟩
          · have := block_setCell (i := 3) H8.out.1 (.slice a8 (k + 1) c8)
            simp only [List.setIfInBounds_toArray, List.set_cons_zero, List.set_cons_succ] at this
            exact this
          · exact H8.out.2.2.2.setCell (p := ⟨g18, 3, none⟩) (.inl rfl) _
        · refine step_call1 rfl 60 (.tmp 36) _ rfl (enters_of Try.func60 (by kernel_rfl) rfl) (.agg #[.int .i64 z0, .int .i64 z1, .slice e2 E2.length h2, .slice e3 E3.length h3, .string b4]) (by simp [Act.eval]) (fun r w' => ∃ us : List Value, r = .agg us.toArray ∧ OFs w' us [.int z0, .int z1, .row E2, .row E3, .str b4] (Btw wr.heap.size w'.heap.size) ∧ Below wr.heap.size wr w') ((l06CopyThread_dt [.int .i64 z0, .int .i64 z1, .slice e2 E2.length h2, .slice e3 E3.length h3, .string b4] [.int z0, .int z1, .row E2, .row E3, .str b4] S _ HE.out.2.1 (FsAt.up HE.out.1 (Below.refl wr.heap.size wr).drew) hbu).mono (fun e w' ⟨us, he, h1, h2⟩ => ⟨_, he, us, rfl, h1, (Below.refl wr.heap.size wr).drew.trans h2⟩)) ?_
          rintro r w3 ⟨us, rfl, N, b3⟩
          obtain ⟨v0, v1, v2, v3, v4, rfl, k0, k1, k2, k3, k4⟩ := fs5 N.at
          obtain ⟨rfl, -⟩ := k0.ofInt
          obtain ⟨rfl, -⟩ := k1.ofInt
          obtain ⟨n2, m2, rfl⟩ := k2.form
          obtain ⟨n3, m3, rfl⟩ := k3.form
          obtain ⟨rfl, -⟩ := k4.ofStr
          have H3 := (show Hid (_ ∧ _) from ⟨N, b3⟩)
          clear N b3 k0 k1 k2 k3 k4
          refine hK.out _ _ (HKS.out.1 w3 (fun b' hb' => H3.out.2.block b' (by omega))) (fun _ => ?_)
          clear hK K
          simp only [Act.put, List.getElem_toArray, List.getElem_cons_zero, List.getElem_cons_succ, List.setIfInBounds_toArray, List.set_cons_zero, List.set_cons_succ]
          refine wpAnyH_ready (rs := [1, 8]) (by kernel_rfl) (by simp) ?_
          refine AllReadyH.cons rfl (fun K hK => ?_) (AllReadyH.cons rfl (fun K hK => ?_) AllReadyH.nil)
          · have U3 : w3.cell? ⟨g18, 3, none⟩ = some (.slice oa k oc) := by rw [cell_of_block ((H3.out.2.block _ (lt_heap HOB.out)).trans HOB.out)]; rfl
            go_simp
            clear U3
            refine hK.out _ _ (HKS.out.1 w3 (fun b' hb' => H3.out.2.block b' (by omega))) (fun _ => ?_)
            clear hK K
            try simp only [List.setIfInBounds_toArray, List.set_cons_zero, List.set_cons_succ]
            refine wpAnyH_ready (rs := [8]) (by kernel_rfl) (by simp) ?_
            refine AllReadyH.cons rfl (fun K hK => ?_) AllReadyH.nil
            go_simp
            refine hK.out _ _ (HKS.out.1 _ (fun b' hb' => ((H3.out.2.alloc H3.out.2.size _).block b' (by omega)))) (fun _ => ?_)
            clear hK K
            try simp only [List.setIfInBounds_toArray, List.set_cons_zero, List.set_cons_succ]
            refine wpAnyH_ready (rs := [9]) (by kernel_rfl) (by simp) ?_
            refine AllReadyH.cons rfl (fun K hK => ?_) AllReadyH.nil
            have B4 : Below wr.heap.size wr (w3.alloc (.cells #[.int .i64 z0, .int .i64 z1, .slice n2 E2.length m2, .slice n3 E3.length m3, .string b4] 69)) := H3.out.2.alloc H3.out.2.size _
            have ofs : OFs (w3.alloc (.cells #[.int .i64 z0, .int .i64 z1, .slice n2 E2.length m2, .slice n3 E3.length m3, .string b4] 69)) [.int .i64 z0, .int .i64 z1, .slice n2 E2.length m2, .slice n3 E3.length m3, .string b4] [.int z0, .int z1, .row E2, .row E3, .str b4] (Btw wr.heap.size (w3.alloc (.cells #[.int .i64 z0, .int .i64 z1, .slice n2 E2.length m2, .slice n3 E3.length m3, .string b4] 69)).heap.size) := (OFs.up H3.out.1 ((Below.refl _ w3).alloc (Nat.le_refl _) _)).mono (fun b hb => ⟨hb.1, by have := hb.2; simp; omega⟩)
            have R4 := own_moved (W' := (w3.alloc (.cells #[.int .i64 z0, .int .i64 z1, .slice n2 E2.length m2, .slice n3 E3.length m3, .string b4] 69))) HH.out.1 (fun g hg => B4.block g (own_lt HH.out.1 g hg))
            refine step_append_row rfl (.tmp 31) (.tmp 38) 36 rfl wx.heap.size 69 iT _ 5 80 Try.underlying36 hiT hzT0 hzT1 hzT2 rfl (by decide) (.slice oa k oc) k _ (by simp [Act.eval]) R4 ⟨w3.heap.size, 0, none⟩ 1 1 [.int .i64 z0, .int .i64 z1, .slice n2 E2.length m2, .slice n3 E3.length m3, .string b4] (by simp [Act.eval]) rfl ?_ (by intro u hu; simp at hu; rcases hu with rfl | rfl | rfl | rfl | rfl <;> rfl) (by unfold maxLen; omega) (by omega) (Nat.le_trans hszr B4.size) ?_
            · intro j u hj
              rw [addr_add, Nat.zero_add, cell_of_block (MapKept.heap_alloc w3 _).1]
              simpa using hj
            intro v8 w8 hown8 hgrow8 hat8
            obtain ⟨a8, c8, rfl⟩ := own_form hown8
            have ob8 := (hgrow8.block g18 (Nat.lt_of_lt_of_le (lt_heap HOB.out) B4.size) (fun e => by have := (own_type HH.out.1 g18 e.symm).1; omega)).trans ((B4.block _ (lt_heap HOB.out)).trans HOB.out)
            have st8 : ∀ b', b' < wx.heap.size → w8.heap[b']? = wr.heap[b']? := fun b' hb' => (hgrow8.block b' (by have := B4.size; omega) (fun e => by have := (own_type HH.out.1 b' e.symm).1; omega)).trans (B4.block b' (by omega))
            have G8 := Grow.next HG.out B4 hszr HE.out.2.2 (q3.len ThreadR.len) ofs HH.out.1 hown8 hgrow8 hat8
            have kb8 : KB (fun b => b = g18 ∨ wx.heap.size ≤ b) W1 w8 := HKB.out.trans ⟨hgrow8.os.trans B4.os, hgrow8.tape.trans B4.tape, hgrow8.output.trans B4.output, Nat.le_trans B4.size hgrow8.size, fun b' hl hx => st8 b' (by have := not_or.1 hx; omega)⟩
            have H8 := (show Hid (_ ∧ _ ∧ _ ∧ _) from ⟨ob8, st8, G8, kb8⟩)
            clear B4 ofs R4 hown8 hgrow8 hat8 ob8 st8 G8 kb8
            refine hK.out _ _ (HKS.out.1 w8 (fun b' hb' => H8.out.2.1 b' (by omega))) (fun _ => ?_)
            clear hK K
            simp only [Act.put, List.getElem_toArray, List.getElem_cons_zero, List.getElem_cons_succ, List.setIfInBounds_toArray, List.set_cons_zero, List.set_cons_succ]
            refine wpAnyH_take (i := 10) (v := .pointer (some ⟨g18, 3, none⟩)) rfl (by kernel_rfl) (by kernel_rfl) (by kernel_rfl) (fun _ _ _ h => h) (Or.inl ⟨by rfl, ?_⟩) (HKS.out.1 w8 (fun b' hb' => H8.out.2.1 b' (by omega))) ?_
            · intro wq hSw
              obtain ⟨q3', qa, qb, qc, qd, qe⟩ := hSw
              go_simp
            simp only [Act.put, List.getElem_toArray, List.getElem_cons_zero, List.getElem_cons_succ, List.setIfInBounds_toArray, List.set_cons_zero, List.set_cons_succ]
            refine wpAnyH_ready (rs := [11]) (by kernel_rfl) (by simp) ?_
            refine AllReadyH.cons rfl (fun K hK => ?_) AllReadyH.nil
            have U3 : w8.cell? ⟨g18, 3, none⟩ = some (.slice oa k oc) := by rw [cell_of_block H8.out.1]; rfl
            have V3 : w8.frozen? ⟨g18, 3, none⟩ = false := unfrozen_of_block H8.out.1 3
            go_simp
            refine hK.out _ _ (HKS.out.1 _ (fun b' hb' => (Below.heap_setCell _ _ _ _ (by simp; omega)).trans (H8.out.2.1 b' (by omega)))) (fun _ => ?_)
            clear hK K U3 V3
            refine wpAnyH_done (by kernel_rfl) ?_ _
            go_wp2
            refine ⟨⟨k + 1, a8, c8, by omega, by go_num, Grow.moved H8.out.2.2.1 (fun b' hb' _ => Below.heap_setCell _ _ _ _ (by simp; omega)) (by simp), ?_, ?_⟩, by simp [intOf]; omega⟩
            · have := block_setCell (i := 3) H8.out.1 (.slice a8 (k + 1) c8)
              simp only [List.setIfInBounds_toArray, List.set_cons_zero, List.set_cons_succ] at this
              exact this
            · exact H8.out.2.2.2.setCell (p := ⟨g18, 3, none⟩) (.inl rfl) _
          · go_simp
            refine hK.out _ _ (HKS.out.1 _ (fun b' hb' => ((H3.out.2.alloc H3.out.2.size _).block b' (by omega)))) (fun _ => ?_)
            clear hK K
            try simp only [List.setIfInBounds_toArray, List.set_cons_zero, List.set_cons_succ]
            refine wpAnyH_ready (rs := [1]) (by kernel_rfl) (by simp) ?_
            refine AllReadyH.cons rfl (fun K hK => ?_) AllReadyH.nil
            have U3 : (w3.alloc (.cells #[.int .i64 z0, .int .i64 z1, .slice n2 E2.length m2, .slice n3 E3.length m3, .string b4] 69)).cell? ⟨g18, 3, none⟩ = some (.slice oa k oc) := by rw [cell_of_block (((H3.out.2.alloc H3.out.2.size _).block _ (lt_heap HOB.out)).trans HOB.out)]; rfl
            go_simp
            clear U3
            refine hK.out _ _ (HKS.out.1 _ (fun b' hb' => ((H3.out.2.alloc H3.out.2.size _).block b' (by omega)))) (fun _ => ?_)
            clear hK K
            try simp only [List.setIfInBounds_toArray, List.set_cons_zero, List.set_cons_succ]
            refine wpAnyH_ready (rs := [9]) (by kernel_rfl) (by simp) ?_
            refine AllReadyH.cons rfl (fun K hK => ?_) AllReadyH.nil
            have B4 : Below wr.heap.size wr (w3.alloc (.cells #[.int .i64 z0, .int .i64 z1, .slice n2 E2.length m2, .slice n3 E3.length m3, .string b4] 69)) := H3.out.2.alloc H3.out.2.size _
            have ofs : OFs (w3.alloc (.cells #[.int .i64 z0, .int .i64 z1, .slice n2 E2.length m2, .slice n3 E3.length m3, .string b4] 69)) [.int .i64 z0, .int .i64 z1, .slice n2 E2.length m2, .slice n3 E3.length m3, .string b4] [.int z0, .int z1, .row E2, .row E3, .str b4] (Btw wr.heap.size (w3.alloc (.cells #[.int .i64 z0, .int .i64 z1, .slice n2 E2.length m2, .slice n3 E3.length m3, .string b4] 69)).heap.size) := (OFs.up H3.out.1 ((Below.refl _ w3).alloc (Nat.le_refl _) _)).mono (fun b hb => ⟨hb.1, by have := hb.2; simp; omega⟩)
            have R4 := own_moved (W' := (w3.alloc (.cells #[.int .i64 z0, .int .i64 z1, .slice n2 E2.length m2, .slice n3 E3.length m3, .string b4] 69))) HH.out.1 (fun g hg => B4.block g (own_lt HH.out.1 g hg))
            refine step_append_row rfl (.tmp 31) (.tmp 38) 36 rfl wx.heap.size 69 iT _ 5 80 Try.underlying36 hiT hzT0 hzT1 hzT2 rfl (by decide) (.slice oa k oc) k _ (by simp [Act.eval]) R4 ⟨w3.heap.size, 0, none⟩ 1 1 [.int .i64 z0, .int .i64 z1, .slice n2 E2.length m2, .slice n3 E3.length m3, .string b4] (by simp [Act.eval]) rfl ?_ (by intro u hu; simp at hu; rcases hu with rfl | rfl | rfl | rfl | rfl <;> rfl) (by unfold maxLen; omega) (by omega) (Nat.le_trans hszr B4.size) ?_
            · intro j u hj
              rw [addr_add, Nat.zero_add, cell_of_block (MapKept.heap_alloc w3 _).1]
              simpa using hj
            intro v8 w8 hown8 hgrow8 hat8
            obtain ⟨a8, c8, rfl⟩ := own_form hown8
            have ob8 := (hgrow8.block g18 (Nat.lt_of_lt_of_le (lt_heap HOB.out) B4.size) (fun e => by have := (own_type HH.out.1 g18 e.symm).1; omega)).trans ((B4.block _ (lt_heap HOB.out)).trans HOB.out)
            have st8 : ∀ b', b' < wx.heap.size → w8.heap[b']? = wr.heap[b']? := fun b' hb' => (hgrow8.block b' (by have := B4.size; omega) (fun e => by have := (own_type HH.out.1 b' e.symm).1; omega)).trans (B4.block b' (by omega))
            have G8 := Grow.next HG.out B4 hszr HE.out.2.2 (q3.len ThreadR.len) ofs HH.out.1 hown8 hgrow8 hat8
            have kb8 : KB (fun b => b = g18 ∨ wx.heap.size ≤ b) W1 w8 := HKB.out.trans ⟨hgrow8.os.trans B4.os, hgrow8.tape.trans B4.tape, hgrow8.output.trans B4.output, Nat.le_trans B4.size hgrow8.size, fun b' hl hx => st8 b' (by have := not_or.1 hx; omega)⟩
            have H8 := (show Hid (_ ∧ _ ∧ _ ∧ _) from ⟨ob8, st8, G8, kb8⟩)
            clear B4 ofs R4 hown8 hgrow8 hat8 ob8 st8 G8 kb8
            refine hK.out _ _ (HKS.out.1 w8 (fun b' hb' => H8.out.2.1 b' (by omega))) (fun _ => ?_)
            clear hK K
            simp only [Act.put, List.getElem_toArray, List.getElem_cons_zero, List.getElem_cons_succ, List.setIfInBounds_toArray, List.set_cons_zero, List.set_cons_succ]
            refine wpAnyH_take (i := 10) (v := .pointer (some ⟨g18, 3, none⟩)) rfl (by kernel_rfl) (by kernel_rfl) (by kernel_rfl) (fun _ _ _ h => h) (Or.inl ⟨by rfl, ?_⟩) (HKS.out.1 w8 (fun b' hb' => H8.out.2.1 b' (by omega))) ?_
            · intro wq hSw
              obtain ⟨q3', qa, qb, qc, qd, qe⟩ := hSw
              go_simp
            simp only [Act.put, List.getElem_toArray, List.getElem_cons_zero, List.getElem_cons_succ, List.setIfInBounds_toArray, List.set_cons_zero, List.set_cons_succ]
            refine wpAnyH_ready (rs := [11]) (by kernel_rfl) (by simp) ?_
            refine AllReadyH.cons rfl (fun K hK => ?_) AllReadyH.nil
            have U3 : w8.cell? ⟨g18, 3, none⟩ = some (.slice oa k oc) := by rw [cell_of_block H8.out.1]; rfl
            have V3 : w8.frozen? ⟨g18, 3, none⟩ = false := unfrozen_of_block H8.out.1 3
            go_simp
            refine hK.out _ _ (HKS.out.1 _ (fun b' hb' => (Below.heap_setCell _ _ _ _ (by simp; omega)).trans (H8.out.2.1 b' (by omega)))) (fun _ => ?_)
            clear hK K U3 V3
            refine wpAnyH_done (by kernel_rfl) ?_ _
            go_wp2
            refine ⟨⟨k + 1, a8, c8, by omega, by go_num, Grow.moved H8.out.2.2.1 (fun b' hb' _ => Below.heap_setCell _ _ _ _ (by simp; omega)) (by simp), ?_, ?_⟩, by simp [intOf]; omega⟩
            · have := block_setCell (i := 3) H8.out.1 (.slice a8 (k + 1) c8)
              simp only [List.setIfInBounds_toArray, List.set_cons_zero, List.set_cons_succ] at this
              exact this
            · exact H8.out.2.2.2.setCell (p := ⟨g18, 3, none⟩) (.inl rfl) _
      · obtain rfl : k = x3.length := by omega
        have U0 : wr.cell? ⟨g18, 0, none⟩ = some (.slice s0 x0.length t0) := by rw [cell_of_block HOB.out]; rfl
        have D0 : wr.cell? ⟨w.heap.size + 1, 0, none⟩ = some (.slice none 0 0) := by rw [cell_of_block o1]; rfl
        have G0 : wr.frozen? ⟨w.heap.size + 1, 0, none⟩ = false := unfrozen_of_block o1 0
        have U1 : wr.cell? ⟨g18, 1, none⟩ = some (.slice s1 x1.length t1) := by rw [cell_of_block HOB.out]; rfl
        have D1 : wr.cell? ⟨w.heap.size + 1, 1, none⟩ = some (.slice none 0 0) := by rw [cell_of_block o1]; rfl
        have G1 : wr.frozen? ⟨w.heap.size + 1, 1, none⟩ = false := unfrozen_of_block o1 1
        have U2 : wr.cell? ⟨g18, 2, none⟩ = some (.slice s2 x2.length t2) := by rw [cell_of_block HOB.out]; rfl
        have D2 : wr.cell? ⟨w.heap.size + 1, 2, none⟩ = some (.slice none 0 0) := by rw [cell_of_block o1]; rfl
        have G2 : wr.frozen? ⟨w.heap.size + 1, 2, none⟩ = false := unfrozen_of_block o1 2
        have U3 : wr.cell? ⟨g18, 3, none⟩ = some (.slice oa x3.length oc) := by rw [cell_of_block HOB.out]; rfl
        have D3 : wr.cell? ⟨w.heap.size + 1, 3, none⟩ = some (.slice none 0 0) := by rw [cell_of_block o1]; rfl
        have G3 : wr.frozen? ⟨w.heap.size + 1, 3, none⟩ = false := unfrozen_of_block o1 3
        have U4 : wr.cell? ⟨g18, 4, none⟩ = some (.slice s4 x4.length t4) := by rw [cell_of_block HOB.out]; rfl
        have D4 : wr.cell? ⟨w.heap.size + 1, 4, none⟩ = some (.slice none 0 0) := by rw [cell_of_block o1]; rfl
        have G4 : wr.frozen? ⟨w.heap.size + 1, 4, none⟩ = false := unfrozen_of_block o1 4
        have U5 : wr.cell? ⟨g18, 5, none⟩ = some (.slice s5 x5.length t5) := by rw [cell_of_block HOB.out]; rfl
        have D5 : wr.cell? ⟨w.heap.size + 1, 5, none⟩ = some (.slice none 0 0) := by rw [cell_of_block o1]; rfl
        have G5 : wr.frozen? ⟨w.heap.size + 1, 5, none⟩ = false := unfrozen_of_block o1 5
        have U6 : wr.cell? ⟨g18, 6, none⟩ = some (.slice s6 x6.length t6) := by rw [cell_of_block HOB.out]; rfl
        have D6 : wr.cell? ⟨w.heap.size + 1, 6, none⟩ = some (.slice none 0 0) := by rw [cell_of_block o1]; rfl
        have G6 : wr.frozen? ⟨w.heap.size + 1, 6, none⟩ = false := unfrozen_of_block o1 6
        have FOr := OFs.moved HF1.out.2.1 (w' := wr) (fun b hb hlt => HKB.out.block b hlt (fun hx => by have h1 := hb.1.2; have h2 := hb.2; rcases hx with hx | hx <;> omega))
        obtain ⟨-, Y, y1, y2, y3⟩ := OFs.fam FOr
        have o3 := HG.out.done (q3.len ThreadR.len)
        have key : OFs wr [.slice s0 x0.length t0, .slice s1 x1.length t1, .slice s2 x2.length t2, .slice oa x3.length oc, .slice s4 x4.length t4, .slice s5 x5.length t5, .slice s6 x6.length t6] [.row x0, .row x1, .row x2, .row x3, .row x4, .row x5, .row x6] (fun b => Btw W0.heap.size wr.heap.size b ∧ b ≠ g18) := by
          refine OFs.mk (fun j b => if j = 3 then Btw wx.heap.size wr.heap.size b else (if j < 3 then Y j b else Y (j - 1) b)) rfl (fun j b hb' => ?_) (fun j j' b h1 h2 => ?_) (fun j v d hv hd => ?_)
          · by_cases h3 : j = 3
            · simp only [h3, if_true] at hb'; exact ⟨⟨by omega, hb'.2⟩, by have := hb'.1; omega⟩
            · by_cases h4 : j < 3
              · simp only [h3, h4, if_true, if_false] at hb'; have := y1 _ b hb'; exact ⟨⟨this.1.1, by have := this.1.2; omega⟩, this.2⟩
              · simp only [h3, h4, if_false] at hb'; have := y1 _ b hb'; exact ⟨⟨this.1.1, by have := this.1.2; omega⟩, this.2⟩
          · have lt : ∀ i, Y i b → b < wx.heap.size := fun i hi => (y1 i b hi).1.2
            by_cases h3 : j = 3 <;> by_cases h3' : j' = 3 <;> by_cases h4 : j < 3 <;> by_cases h4' : j' < 3 <;> simp only [h3, h3', h4, h4', if_true, if_false] at h1 h2 <;> first | omega | (have := lt _ h2; have := h1.1; omega) | (have := lt _ h1; have := h2.1; omega) | (have := y2 _ _ b h1 h2; omega)
          · match j, hv, hd with
            | 0, hv, hd => simp at hv hd; subst hv hd; exact y3 0 _ _ rfl rfl
            | 1, hv, hd => simp at hv hd; subst hv hd; exact y3 1 _ _ rfl rfl
            | 2, hv, hd => simp at hv hd; subst hv hd; exact y3 2 _ _ rfl rfl
            | 3, hv, hd => simp at hv hd; subst hv hd; exact o3
            | 4, hv, hd => simp at hv hd; subst hv hd; exact y3 3 _ _ rfl rfl
            | 5, hv, hd => simp at hv hd; subst hv hd; exact y3 4 _ _ rfl rfl
            | 6, hv, hd => simp at hv hd; subst hv hd; exact y3 5 _ _ rfl rfl
        obtain ⟨flat, hty⟩ := HG.out.row
        have HF2 := (show Hid (_ ∧ _ ∧ _) from ⟨key, hbw, hty⟩)
        clear key hbw hty FOr o3 y1 y2 y3 HG HOB HKB o0 o1
        go_wp2
        refine bodyPost_ret (v := .agg #[.slice s0 x0.length t0, .slice s1 x1.length t1, .slice s2 x2.length t2, .slice oa x3.length oc, .slice s4 x4.length t4, .slice s5 x5.length t5, .slice s6 x6.length t6]) (by simp [results, Try.results22, go_sem, D0, D1, D2, D3, D4, D5, D6]) rfl ⟨_, rfl, ?_, ⟨_, rfl, flat, ?_⟩, ?_⟩
        · refine (HF2.out.1.moved (fun b hb' _ => ?_)).mono (fun b hb' => ⟨by have := hb'.1.1; omega, by have := hb'.1.2; simpa using this⟩)
          have e1 : ∀ (j : Nat) (u : Value) (W : World), (W.setCell ⟨w.heap.size + 1, j, none⟩ u).heap[b]? = W.heap[b]? := fun j u W => Below.heap_setCell W _ u b (by have := hb'.1.1; simp; omega)
          simp only [e1]
        · refine own_mono (own_moved HF2.out.2.2 (fun g hg => ?_)) (by omega)
          have hgb := (own_type HF2.out.2.2 g hg).1
          have e1 : ∀ (j : Nat) (u : Value) (W : World), (W.setCell ⟨w.heap.size + 1, j, none⟩ u).heap[g]? = W.heap[g]? := fun j u W => Below.heap_setCell W _ u g (by simp; omega)
          simp only [e1]
        · iterate 7 refine Below.setCell ?_ (by simp) _
          exact HF2.out.2.1
  have st5111 : ∀ (wx : World) (s0 s1 : Option Addr) (t0 t1 : Nat) (s2 : Option Addr) (t2 : Nat) (g6 : Nat) (s4 : Option Addr) (t4 : Nat) (g10 : Nat) (s5 : Option Addr) (t5 : Nat) (s6 : Option Addr) (t6 : Nat) (g18 : Nat), Hid ((Below W0.heap.size W0 wx) ∧ (OFs wx [.slice s0 x0.length t0, .slice s1 x1.length t1, .slice s2 x2.length t2, .slice s4 x4.length t4, .slice s5 x5.length t5, .slice s6 x6.length t6] [.row x0, .row x1, .row x2, .row x4, .row x5, .row x6] (fun b => (W0.heap.size ≤ b ∧ b < wx.heap.size) ∧ b ≠ g18)) ∧ (wx.heap[g18]? = some (.cells #[.slice none 0 0, .slice none 0 0, .slice none 0 0, .slice none 0 0, .slice none 0 0, .slice none 0 0, .slice none 0 0] 39) ∧ W0.heap.size ≤ g18) ∧ True) → G 2 #[true, true, true, true, true, true, true, true, true, true, true, true, true, true, true, true, true, false, true, false] #[.agg #[.slice p0 x0.length c0, .slice p1 x1.length c1, .slice p2 x2.length c2, .slice p3 x3.length c3, .slice p4 x4.length c4, .slice p5 x5.length c5, .slice p6 x6.length c6], .pointer (some ⟨w.heap.size, 0, none⟩), .pointer (some ⟨w.heap.size + 1, 0, none⟩), .pointer (some ⟨g18, 0, none⟩), undef, .pointer (some ⟨w.heap.size, 0, none⟩), .agg #[.slice p0 x0.length c0, .slice p1 x1.length c1], .agg #[.slice s0 x0.length t0, .slice s1 x1.length t1], .pointer (some ⟨w.heap.size, 2, none⟩), .slice p2 x2.length c2, .slice s2 x2.length t2, .slice (some ⟨g6, 0, none⟩) 0 0, .pointer (some ⟨w.heap.size, 4, none⟩), .slice p4 x4.length c4, .slice s4 x4.length t4, .slice (some ⟨g10, 0, none⟩) 0 0, .pointer (some ⟨w.heap.size, 5, none⟩), .slice p5 x5.length c5, .slice s5 x5.length t5, .pointer (some ⟨w.heap.size, 6, none⟩), .slice p6 x6.length c6, .slice s6 x6.length t6, undef, undef, undef, undef, undef, undef, undef, undef, undef, undef, undef, undef, undef, undef, undef, undef, undef, undef, undef, undef] wx := by
    intro wx s0 s1 t0 t1 s2 t2 g6 s4 t4 g10 s5 t5 s6 t6 g18 HF
    refine toG _ _ _ _ ?_
    refine wpAnyH_take (i := 17) (v := .agg #[.slice s0 x0.length t0, .slice s1 x1.length t1, .slice s2 x2.length t2, .slice none 0 0, .slice s4 x4.length t4, .slice s5 x5.length t5, .slice s6 x6.length t6]) rfl (by kernel_rfl) (by kernel_rfl) (by kernel_rfl) (fun _ _ _ h => h) (Or.inl ⟨by rfl, ?_⟩) (HZ.out _ HF.out.1) ?_
    · intro wq _
      exact ex_buildM5 _ _ (.tmp 7) (.tmp 10) (.tmp 14) (.tmp 18) (.tmp 21) _ _ _ _ _ _ _ _ _ _ _ _ _ _ _ _ _ _ wq rfl rfl rfl rfl rfl rfl
    simp only [Act.put, List.getElem_toArray, List.getElem_cons_zero, List.getElem_cons_succ, List.setIfInBounds_toArray, List.set_cons_zero, List.set_cons_succ]
    exact ofG 1 _ _ _ (fin wx s0 s1 t0 t1 s2 t2 g6 s4 t4 g10 s5 t5 s6 t6 g18 HF)
  have st4111 : ∀ (wx : World) (s0 s1 : Option Addr) (t0 t1 : Nat) (s2 : Option Addr) (t2 : Nat) (g6 : Nat) (s4 : Option Addr) (t4 : Nat) (g10 : Nat) (s5 : Option Addr) (t5 : Nat) (g18 : Nat), Hid ((Below W0.heap.size W0 wx) ∧ (OFs wx [.slice s0 x0.length t0, .slice s1 x1.length t1, .slice s2 x2.length t2, .slice s4 x4.length t4, .slice s5 x5.length t5, .int .i64 0] [.row x0, .row x1, .row x2, .row x4, .row x5, .int 0] (fun b => (W0.heap.size ≤ b ∧ b < wx.heap.size) ∧ b ≠ g18)) ∧ (wx.heap[g18]? = some (.cells #[.slice none 0 0, .slice none 0 0, .slice none 0 0, .slice none 0 0, .slice none 0 0, .slice none 0 0, .slice none 0 0] 39) ∧ W0.heap.size ≤ g18) ∧ True) → G 3 #[true, true, true, true, true, true, true, true, true, true, true, true, true, true, true, true, false, false, true, false] #[.agg #[.slice p0 x0.length c0, .slice p1 x1.length c1, .slice p2 x2.length c2, .slice p3 x3.length c3, .slice p4 x4.length c4, .slice p5 x5.length c5, .slice p6 x6.length c6], .pointer (some ⟨w.heap.size, 0, none⟩), .pointer (some ⟨w.heap.size + 1, 0, none⟩), .pointer (some ⟨g18, 0, none⟩), undef, .pointer (some ⟨w.heap.size, 0, none⟩), .agg #[.slice p0 x0.length c0, .slice p1 x1.length c1], .agg #[.slice s0 x0.length t0, .slice s1 x1.length t1], .pointer (some ⟨w.heap.size, 2, none⟩), .slice p2 x2.length c2, .slice s2 x2.length t2, .slice (some ⟨g6, 0, none⟩) 0 0, .pointer (some ⟨w.heap.size, 4, none⟩), .slice p4 x4.length c4, .slice s4 x4.length t4, .slice (some ⟨g10, 0, none⟩) 0 0, .pointer (some ⟨w.heap.size, 5, none⟩), .slice p5 x5.length c5, .slice s5 x5.length t5, .pointer (some ⟨w.heap.size, 6, none⟩), .slice p6 x6.length c6, undef, undef, undef, undef, undef, undef, undef, undef, undef, undef, undef, undef, undef, undef, undef, undef, undef, undef, undef, undef, undef] wx := by
    intro wx s0 s1 t0 t1 s2 t2 g6 s4 t4 g10 s5 t5 g18 HF
    refine toG _ _ _ _ ?_
    refine wpAnyH_ready (rs := [16]) (by kernel_rfl) (by simp) ?_
    refine AllReadyH.cons rfl (fun K hK => ?_) AllReadyH.nil
    · obtain ⟨FB, FO, F18, -⟩ := HF.out
      have hXl : ∀ b, (fun b => (W0.heap.size ≤ b ∧ b < wx.heap.size) ∧ b ≠ g18) b → b < wx.heap.size := fun b hb => hb.1.2
      have hlo := FB.size
      have bw : Below w.heap.size w wx := HS.out.1.trans (FB.mono HS.out.1.size)
      refine step_call1 rfl 59 (.tmp 20) _ rfl (enters_of Try.func59 (by kernel_rfl) rfl) (.slice p6 x6.length c6) (by simp [Act.eval]) (fun r w' => Own w' r (.row x6) (Btw wx.heap.size w'.heap.size) ∧ Below wx.heap.size wx w') ((l06CopyMsgs_dt _ x6 S _ q6 (HA.out.2.2.2.2.2.2.1.up bw) (by omega)).mono (fun e w' ⟨u, he, h1, h2⟩ => ⟨u, he, h1, h2⟩)) ?_
      rintro r w' ⟨N, b1⟩
      obtain ⟨s6, t6, rfl⟩ := N.form
      have FO' := (OFs.put 5 FO hXl b1 N).mono (X' := (fun b => (W0.heap.size ≤ b ∧ b < w'.heap.size) ∧ b ≠ g18)) (fun b hb => by
        rcases hb with hb | hb
        · exact ⟨⟨hb.1.1, Nat.lt_of_lt_of_le hb.1.2 b1.size⟩, hb.2⟩
        · exact ⟨⟨Nat.le_trans hlo hb.1, hb.2⟩, (by have := hb.1; have := lt_heap F18.1; omega)⟩)
      refine hK.out _ _ (HZ.out _ (FB.trans (b1.mono hlo))) (fun _ => ?_)
      clear hK K
      simp only [Act.put, List.getElem_toArray, List.getElem_cons_zero, List.getElem_cons_succ, List.setIfInBounds_toArray, List.set_cons_zero, List.set_cons_succ]
      exact ofG 2 _ _ _ (st5111 w' s0 s1 t0 t1 s2 t2 g6 s4 t4 g10 s5 t5 s6 t6 g18 ⟨(FB.trans (b1.mono hlo)), (FO'), (⟨(b1.block _ (lt_heap F18.1)).trans F18.1, F18.2⟩), trivial⟩)
  have st5110 : ∀ (wx : World) (s0 s1 : Option Addr) (t0 t1 : Nat) (s2 : Option Addr) (t2 : Nat) (g6 : Nat) (s4 : Option Addr) (t4 : Nat) (g10 : Nat) (s5 : Option Addr) (t5 : Nat) (s6 : Option Addr) (t6 : Nat), Hid ((Below W0.heap.size W0 wx) ∧ (OFs wx [.slice s0 x0.length t0, .slice s1 x1.length t1, .slice s2 x2.length t2, .slice s4 x4.length t4, .slice s5 x5.length t5, .slice s6 x6.length t6] [.row x0, .row x1, .row x2, .row x4, .row x5, .row x6] (fun b => (W0.heap.size ≤ b ∧ b < wx.heap.size) ∧ True)) ∧ True) → G 3 #[true, true, true, true, true, true, true, true, true, true, true, true, true, true, true, true, true, false, false, false] #[.agg #[.slice p0 x0.length c0, .slice p1 x1.length c1, .slice p2 x2.length c2, .slice p3 x3.length c3, .slice p4 x4.length c4, .slice p5 x5.length c5, .slice p6 x6.length c6], .pointer (some ⟨w.heap.size, 0, none⟩), .pointer (some ⟨w.heap.size + 1, 0, none⟩), undef, undef, .pointer (some ⟨w.heap.size, 0, none⟩), .agg #[.slice p0 x0.length c0, .slice p1 x1.length c1], .agg #[.slice s0 x0.length t0, .slice s1 x1.length t1], .pointer (some ⟨w.heap.size, 2, none⟩), .slice p2 x2.length c2, .slice s2 x2.length t2, .slice (some ⟨g6, 0, none⟩) 0 0, .pointer (some ⟨w.heap.size, 4, none⟩), .slice p4 x4.length c4, .slice s4 x4.length t4, .slice (some ⟨g10, 0, none⟩) 0 0, .pointer (some ⟨w.heap.size, 5, none⟩), .slice p5 x5.length c5, .slice s5 x5.length t5, .pointer (some ⟨w.heap.size, 6, none⟩), .slice p6 x6.length c6, .slice s6 x6.length t6, undef, undef, undef, undef, undef, undef, undef, undef, undef, undef, undef, undef, undef, undef, undef, undef, undef, undef, undef, undef] wx := by
    intro wx s0 s1 t0 t1 s2 t2 g6 s4 t4 g10 s5 t5 s6 t6 HF
    refine toG _ _ _ _ ?_
    refine wpAnyH_take (i := 17) (v := .agg #[.slice s0 x0.length t0, .slice s1 x1.length t1, .slice s2 x2.length t2, .slice none 0 0, .slice s4 x4.length t4, .slice s5 x5.length t5, .slice s6 x6.length t6]) rfl (by kernel_rfl) (by kernel_rfl) (by kernel_rfl) (fun _ _ _ h => h) (Or.inl ⟨by rfl, ?_⟩) (HZ.out _ HF.out.1) ?_
    · intro wq _
      exact ex_buildM5 _ _ (.tmp 7) (.tmp 10) (.tmp 14) (.tmp 18) (.tmp 21) _ _ _ _ _ _ _ _ _ _ _ _ _ _ _ _ _ _ wq rfl rfl rfl rfl rfl rfl
    simp only [Act.put, List.getElem_toArray, List.getElem_cons_zero, List.getElem_cons_succ, List.setIfInBounds_toArray, List.set_cons_zero, List.set_cons_succ]
    refine wpAnyH_ready (rs := [18]) (by kernel_rfl) (by simp) ?_
    refine AllReadyH.cons rfl (fun K hK => ?_) AllReadyH.nil
    obtain ⟨FB, FO, -⟩ := HF.out
    have hlo := FB.size
    have b0 : Below wx.heap.size wx (wx.alloc (.cells #[.slice none 0 0, .slice none 0 0, .slice none 0 0, .slice none 0 0, .slice none 0 0, .slice none 0 0, .slice none 0 0] 39)) := (Below.refl _ wx).alloc (Nat.le_refl _) _
    have FO' := (OFs.up FO b0).mono (X' := fun b => (W0.heap.size ≤ b ∧ b < (wx.alloc (.cells #[.slice none 0 0, .slice none 0 0, .slice none 0 0, .slice none 0 0, .slice none 0 0, .slice none 0 0, .slice none 0 0] 39)).heap.size) ∧ b ≠ wx.heap.size) (fun b hb => ⟨⟨hb.1.1, by have := hb.1.2; simp; omega⟩, by have := hb.1.2; omega⟩)
    go_simp
    refine hK.out _ _ (HZ.out _ (FB.alloc hlo _)) (fun _ => ?_)
    clear hK K
    simp only [List.setIfInBounds_toArray, List.set_cons_zero, List.set_cons_succ]
    exact ofG 1 _ _ _ (fin (wx.alloc (.cells #[.slice none 0 0, .slice none 0 0, .slice none 0 0, .slice none 0 0, .slice none 0 0, .slice none 0 0, .slice none 0 0] 39)) s0 s1 t0 t1 s2 t2 g6 s4 t4 g10 s5 t5 s6 t6 wx.heap.size ⟨FB.alloc hlo _, FO', ⟨(MapKept.heap_alloc wx _).1, hlo⟩, trivial⟩)
  have st3111 : ∀ (wx : World) (s0 s1 : Option Addr) (t0 t1 : Nat) (s2 : Option Addr) (t2 : Nat) (g6 : Nat) (s4 : Option Addr) (t4 : Nat) (g10 : Nat) (g18 : Nat), Hid ((Below W0.heap.size W0 wx) ∧ (OFs wx [.slice s0 x0.length t0, .slice s1 x1.length t1, .slice s2 x2.length t2, .slice s4 x4.length t4, .slice (some ⟨g10, 0, none⟩) 0 0, .int .i64 0] [.row x0, .row x1, .row x2, .row x4, .row [], .int 0] (fun b => (W0.heap.size ≤ b ∧ b < wx.heap.size) ∧ b ≠ g18)) ∧ (wx.heap[g10]? = some (.cells #[] 3) ∧ W0.heap.size ≤ g10) ∧ (wx.heap[g18]? = some (.cells #[.slice none 0 0, .slice none 0 0, .slice none 0 0, .slice none 0 0, .slice none 0 0, .slice none 0 0, .slice none 0 0] 39) ∧ W0.heap.size ≤ g18) ∧ (g10 ≠ g18) ∧ True) → G 4 #[true, true, true, true, true, true, true, true, true, true, true, true, true, false, true, true, false, false, true, false] #[.agg #[.slice p0 x0.length c0, .slice p1 x1.length c1, .slice p2 x2.length c2, .slice p3 x3.length c3, .slice p4 x4.length c4, .slice p5 x5.length c5, .slice p6 x6.length c6], .pointer (some ⟨w.heap.size, 0, none⟩), .pointer (some ⟨w.heap.size + 1, 0, none⟩), .pointer (some ⟨g18, 0, none⟩), undef, .pointer (some ⟨w.heap.size, 0, none⟩), .agg #[.slice p0 x0.length c0, .slice p1 x1.length c1], .agg #[.slice s0 x0.length t0, .slice s1 x1.length t1], .pointer (some ⟨w.heap.size, 2, none⟩), .slice p2 x2.length c2, .slice s2 x2.length t2, .slice (some ⟨g6, 0, none⟩) 0 0, .pointer (some ⟨w.heap.size, 4, none⟩), .slice p4 x4.length c4, .slice s4 x4.length t4, .slice (some ⟨g10, 0, none⟩) 0 0, .pointer (some ⟨w.heap.size, 5, none⟩), .slice p5 x5.length c5, undef, .pointer (some ⟨w.heap.size, 6, none⟩), .slice p6 x6.length c6, undef, undef, undef, undef, undef, undef, undef, undef, undef, undef, undef, undef, undef, undef, undef, undef, undef, undef, undef, undef, undef] wx := by
    intro wx s0 s1 t0 t1 s2 t2 g6 s4 t4 g10 g18 HF
    refine toG _ _ _ _ ?_
    refine wpAnyH_ready (rs := [13]) (by kernel_rfl) (by simp) ?_
    refine AllReadyH.cons rfl (fun K hK => ?_) AllReadyH.nil
    · obtain ⟨FB, FO, F10, F18, N3, -⟩ := HF.out
      have hXl : ∀ b, (fun b => (W0.heap.size ≤ b ∧ b < wx.heap.size) ∧ b ≠ g18) b → b < wx.heap.size := fun b hb => hb.1.2
      have hlo := FB.size
      have bw : Below w.heap.size w wx := HS.out.1.trans (FB.mono HS.out.1.size)
      refine step_append_fat rfl (.tmp 15) (.tmp 17) 23 rfl W0.heap.size 3 iI (.int .i64 0) 1 8 Try.underlying23 hiI hzI0 hzI1 hzI2 rfl (by decide) (.slice (some ⟨g10, 0, none⟩) 0 0) 0 [] (by simp [Act.eval]) (row_empty F10.1 F10.2) (.slice p5 x5.length c5) (by simp [Act.eval]) x5 S (HA.out.2.2.2.2.2.1.up bw) (q5.len IntR.len) (by unfold maxLen; omega) (by omega) hlo ?_
      intro v' w' flat hown hg hat hf
      rw [Nat.zero_add, List.nil_append] at hown
      obtain ⟨s5, t5, rfl⟩ := own_form hown
      have own := (own_atoms hown (q5.len IntR.len) hf (fun i j r d hr hj => (q5 i r hr).atoms j d hj)).mono (X' := fun b => Value.ownBlock (.slice s5 x5.length t5) = some b) (fun b hb => hb.2)
      have FO' := (OFs.rep 4 FO hXl rfl rfl hg own hat).dom.mono (X' := (fun b => (W0.heap.size ≤ b ∧ b < w'.heap.size) ∧ b ≠ g18)) (fun b hb => by
        rcases hb with ⟨hb | hb, hl⟩
        · exact ⟨⟨hb.1.1, hl⟩, hb.2⟩
        · exact ⟨⟨by omega, hl⟩, (by have := lt_heap F18.1; omega)⟩)
      refine hK.out _ _ (HZ.out _ (Below.grown FB hg hlo (fun k hk => by simp [Value.ownBlock] at hk; have := F10.2; omega))) (fun _ => ?_)
      clear hK K
      simp only [Act.put, List.getElem_toArray, List.getElem_cons_zero, List.getElem_cons_succ, List.setIfInBounds_toArray, List.set_cons_zero, List.set_cons_succ]
      exact ofG 3 _ _ _ (st4111 w' s0 s1 t0 t1 s2 t2 g6 s4 t4 g10 s5 t5 g18 ⟨(Below.grown FB hg hlo (fun k hk => by simp [Value.ownBlock] at hk; have := F10.2; omega)), (FO'), (⟨(hg.block _ (lt_heap F18.1) (fun e => by simp [Value.ownBlock] at e; omega)).trans F18.1, F18.2⟩), trivial⟩)
  have st4110 : ∀ (wx : World) (s0 s1 : Option Addr) (t0 t1 : Nat) (s2 : Option Addr) (t2 : Nat) (g6 : Nat) (s4 : Option Addr) (t4 : Nat) (g10 : Nat) (s5 : Option Addr) (t5 : Nat), Hid ((Below W0.heap.size W0 wx) ∧ (OFs wx [.slice s0 x0.length t0, .slice s1 x1.length t1, .slice s2 x2.length t2, .slice s4 x4.length t4, .slice s5 x5.length t5, .int .i64 0] [.row x0, .row x1, .row x2, .row x4, .row x5, .int 0] (fun b => (W0.heap.size ≤ b ∧ b < wx.heap.size) ∧ True)) ∧ True) → G 4 #[true, true, true, true, true, true, true, true, true, true, true, true, true, true, true, true, false, false, false, false] #[.agg #[.slice p0 x0.length c0, .slice p1 x1.length c1, .slice p2 x2.length c2, .slice p3 x3.length c3, .slice p4 x4.length c4, .slice p5 x5.length c5, .slice p6 x6.length c6], .pointer (some ⟨w.heap.size, 0, none⟩), .pointer (some ⟨w.heap.size + 1, 0, none⟩), undef, undef, .pointer (some ⟨w.heap.size, 0, none⟩), .agg #[.slice p0 x0.length c0, .slice p1 x1.length c1], .agg #[.slice s0 x0.length t0, .slice s1 x1.length t1], .pointer (some ⟨w.heap.size, 2, none⟩), .slice p2 x2.length c2, .slice s2 x2.length t2, .slice (some ⟨g6, 0, none⟩) 0 0, .pointer (some ⟨w.heap.size, 4, none⟩), .slice p4 x4.length c4, .slice s4 x4.length t4, .slice (some ⟨g10, 0, none⟩) 0 0, .pointer (some ⟨w.heap.size, 5, none⟩), .slice p5 x5.length c5, .slice s5 x5.length t5, .pointer (some ⟨w.heap.size, 6, none⟩), .slice p6 x6.length c6, undef, undef, undef, undef, undef, undef, undef, undef, undef, undef, undef, undef, undef, undef, undef, undef, undef, undef, undef, undef, undef] wx := by
    intro wx s0 s1 t0 t1 s2 t2 g6 s4 t4 g10 s5 t5 HF
    refine toG _ _ _ _ ?_
    refine wpAnyH_ready (rs := [16, 18]) (by kernel_rfl) (by simp) ?_
    refine AllReadyH.cons rfl (fun K hK => ?_) (AllReadyH.cons rfl (fun K hK => ?_) AllReadyH.nil)
    · obtain ⟨FB, FO, -⟩ := HF.out
      have hXl : ∀ b, (fun b => (W0.heap.size ≤ b ∧ b < wx.heap.size) ∧ True) b → b < wx.heap.size := fun b hb => hb.1.2
      have hlo := FB.size
      have bw : Below w.heap.size w wx := HS.out.1.trans (FB.mono HS.out.1.size)
      refine step_call1 rfl 59 (.tmp 20) _ rfl (enters_of Try.func59 (by kernel_rfl) rfl) (.slice p6 x6.length c6) (by simp [Act.eval]) (fun r w' => Own w' r (.row x6) (Btw wx.heap.size w'.heap.size) ∧ Below wx.heap.size wx w') ((l06CopyMsgs_dt _ x6 S _ q6 (HA.out.2.2.2.2.2.2.1.up bw) (by omega)).mono (fun e w' ⟨u, he, h1, h2⟩ => ⟨u, he, h1, h2⟩)) ?_
      rintro r w' ⟨N, b1⟩
      obtain ⟨s6, t6, rfl⟩ := N.form
      have FO' := (OFs.put 5 FO hXl b1 N).mono (X' := (fun b => (W0.heap.size ≤ b ∧ b < w'.heap.size) ∧ True)) (fun b hb => by
        rcases hb with hb | hb
        · exact ⟨⟨hb.1.1, Nat.lt_of_lt_of_le hb.1.2 b1.size⟩, hb.2⟩
        · exact ⟨⟨Nat.le_trans hlo hb.1, hb.2⟩, trivial⟩)
      refine hK.out _ _ (HZ.out _ (FB.trans (b1.mono hlo))) (fun _ => ?_)
      clear hK K
      simp only [Act.put, List.getElem_toArray, List.getElem_cons_zero, List.getElem_cons_succ, List.setIfInBounds_toArray, List.set_cons_zero, List.set_cons_succ]
      exact ofG 3 _ _ _ (st5110 w' s0 s1 t0 t1 s2 t2 g6 s4 t4 g10 s5 t5 s6 t6 ⟨(FB.trans (b1.mono hlo)), (FO'), trivial⟩)
    · obtain ⟨FB, FO, -⟩ := HF.out
      have hXl : ∀ b, (fun b => (W0.heap.size ≤ b ∧ b < wx.heap.size) ∧ True) b → b < wx.heap.size := fun b hb => hb.1.2
      have hlo := FB.size
      have b0 : Below wx.heap.size wx (wx.alloc (.cells #[.slice none 0 0, .slice none 0 0, .slice none 0 0, .slice none 0 0, .slice none 0 0, .slice none 0 0, .slice none 0 0] 39)) := (Below.refl _ wx).alloc (Nat.le_refl _) _
      have FO' := (OFs.up FO b0).mono (X' := fun b => (W0.heap.size ≤ b ∧ b < (wx.alloc (.cells #[.slice none 0 0, .slice none 0 0, .slice none 0 0, .slice none 0 0, .slice none 0 0, .slice none 0 0, .slice none 0 0] 39)).heap.size) ∧ b ≠ wx.heap.size) (fun b hb => ⟨⟨hb.1.1, by have := hb.1.2; simp; omega⟩, by have := hb.1.2; omega⟩)
      go_simp
      refine hK.out _ _ (HZ.out _ (FB.alloc hlo _)) (fun _ => ?_)
      clear hK K
      simp only [List.setIfInBounds_toArray, List.set_cons_zero, List.set_cons_succ]
      exact ofG 3 _ _ _ (st4111 (wx.alloc (.cells #[.slice none 0 0, .slice none 0 0, .slice none 0 0, .slice none 0 0, .slice none 0 0, .slice none 0 0, .slice none 0 0] 39)) s0 s1 t0 t1 s2 t2 g6 s4 t4 g10 s5 t5 wx.heap.size ⟨(FB.alloc hlo _), (FO'), (⟨(MapKept.heap_alloc wx _).1, hlo⟩), trivial⟩)
  have st2111 : ∀ (wx : World) (s0 s1 : Option Addr) (t0 t1 : Nat) (s2 : Option Addr) (t2 : Nat) (g6 : Nat) (g10 : Nat) (g18 : Nat), Hid ((Below W0.heap.size W0 wx) ∧ (OFs wx [.slice s0 x0.length t0, .slice s1 x1.length t1, .slice s2 x2.length t2, .slice (some ⟨g6, 0, none⟩) 0 0, .slice (some ⟨g10, 0, none⟩) 0 0, .int .i64 0] [.row x0, .row x1, .row x2, .row [], .row [], .int 0] (fun b => (W0.heap.size ≤ b ∧ b < wx.heap.size) ∧ b ≠ g18)) ∧ (wx.heap[g6]? = some (.cells #[] 3) ∧ W0.heap.size ≤ g6) ∧ (wx.heap[g10]? = some (.cells #[] 3) ∧ W0.heap.size ≤ g10) ∧ (wx.heap[g18]? = some (.cells #[.slice none 0 0, .slice none 0 0, .slice none 0 0, .slice none 0 0, .slice none 0 0, .slice none 0 0, .slice none 0 0] 39) ∧ W0.heap.size ≤ g18) ∧ (g6 ≠ g10) ∧ (g6 ≠ g18) ∧ (g10 ≠ g18) ∧ True) → G 5 #[true, true, true, true, true, true, true, true, true, false, true, true, true, false, true, true, false, false, true, false] #[.agg #[.slice p0 x0.length c0, .slice p1 x1.length c1, .slice p2 x2.length c2, .slice p3 x3.length c3, .slice p4 x4.length c4, .slice p5 x5.length c5, .slice p6 x6.length c6], .pointer (some ⟨w.heap.size, 0, none⟩), .pointer (some ⟨w.heap.size + 1, 0, none⟩), .pointer (some ⟨g18, 0, none⟩), undef, .pointer (some ⟨w.heap.size, 0, none⟩), .agg #[.slice p0 x0.length c0, .slice p1 x1.length c1], .agg #[.slice s0 x0.length t0, .slice s1 x1.length t1], .pointer (some ⟨w.heap.size, 2, none⟩), .slice p2 x2.length c2, .slice s2 x2.length t2, .slice (some ⟨g6, 0, none⟩) 0 0, .pointer (some ⟨w.heap.size, 4, none⟩), .slice p4 x4.length c4, undef, .slice (some ⟨g10, 0, none⟩) 0 0, .pointer (some ⟨w.heap.size, 5, none⟩), .slice p5 x5.length c5, undef, .pointer (some ⟨w.heap.size, 6, none⟩), .slice p6 x6.length c6, undef, undef, undef, undef, undef, undef, undef, undef, undef, undef, undef, undef, undef, undef, undef, undef, undef, undef, undef, undef, undef] wx := by
    intro wx s0 s1 t0 t1 s2 t2 g6 g10 g18 HF
    refine toG _ _ _ _ ?_
    refine wpAnyH_ready (rs := [9]) (by kernel_rfl) (by simp) ?_
    refine AllReadyH.cons rfl (fun K hK => ?_) AllReadyH.nil
    · obtain ⟨FB, FO, F6, F10, F18, N1, N2, N3, -⟩ := HF.out
      have hXl : ∀ b, (fun b => (W0.heap.size ≤ b ∧ b < wx.heap.size) ∧ b ≠ g18) b → b < wx.heap.size := fun b hb => hb.1.2
      have hlo := FB.size
      have bw : Below w.heap.size w wx := HS.out.1.trans (FB.mono HS.out.1.size)
      refine step_append_fat rfl (.tmp 11) (.tmp 13) 23 rfl W0.heap.size 3 iI (.int .i64 0) 1 8 Try.underlying23 hiI hzI0 hzI1 hzI2 rfl (by decide) (.slice (some ⟨g6, 0, none⟩) 0 0) 0 [] (by simp [Act.eval]) (row_empty F6.1 F6.2) (.slice p4 x4.length c4) (by simp [Act.eval]) x4 S (HA.out.2.2.2.2.1.up bw) (q4.len IntR.len) (by unfold maxLen; omega) (by omega) hlo ?_
      intro v' w' flat hown hg hat hf
      rw [Nat.zero_add, List.nil_append] at hown
      obtain ⟨s4, t4, rfl⟩ := own_form hown
      have own := (own_atoms hown (q4.len IntR.len) hf (fun i j r d hr hj => (q4 i r hr).atoms j d hj)).mono (X' := fun b => Value.ownBlock (.slice s4 x4.length t4) = some b) (fun b hb => hb.2)
      have FO' := (OFs.rep 3 FO hXl rfl rfl hg own hat).dom.mono (X' := (fun b => (W0.heap.size ≤ b ∧ b < w'.heap.size) ∧ b ≠ g18)) (fun b hb => by
        rcases hb with ⟨hb | hb, hl⟩
        · exact ⟨⟨hb.1.1, hl⟩, hb.2⟩
        · exact ⟨⟨by omega, hl⟩, (by have := lt_heap F18.1; omega)⟩)
      refine hK.out _ _ (HZ.out _ (Below.grown FB hg hlo (fun k hk => by simp [Value.ownBlock] at hk; have := F6.2; omega))) (fun _ => ?_)
      clear hK K
      simp only [Act.put, List.getElem_toArray, List.getElem_cons_zero, List.getElem_cons_succ, List.setIfInBounds_toArray, List.set_cons_zero, List.set_cons_succ]
      exact ofG 4 _ _ _ (st3111 w' s0 s1 t0 t1 s2 t2 g6 s4 t4 g10 g18 ⟨(Below.grown FB hg hlo (fun k hk => by simp [Value.ownBlock] at hk; have := F6.2; omega)), (FO'), (⟨(hg.block _ (lt_heap F10.1) (fun e => by simp [Value.ownBlock] at e; omega)).trans F10.1, F10.2⟩), (⟨(hg.block _ (lt_heap F18.1) (fun e => by simp [Value.ownBlock] at e; omega)).trans F18.1, F18.2⟩), (N3), trivial⟩)
  have st3101 : ∀ (wx : World) (s0 s1 : Option Addr) (t0 t1 : Nat) (s2 : Option Addr) (t2 : Nat) (g6 : Nat) (s4 : Option Addr) (t4 : Nat) (g18 : Nat), Hid ((Below W0.heap.size W0 wx) ∧ (OFs wx [.slice s0 x0.length t0, .slice s1 x1.length t1, .slice s2 x2.length t2, .slice s4 x4.length t4, .int .i64 0, .int .i64 0] [.row x0, .row x1, .row x2, .row x4, .int 0, .int 0] (fun b => (W0.heap.size ≤ b ∧ b < wx.heap.size) ∧ b ≠ g18)) ∧ (wx.heap[g18]? = some (.cells #[.slice none 0 0, .slice none 0 0, .slice none 0 0, .slice none 0 0, .slice none 0 0, .slice none 0 0, .slice none 0 0] 39) ∧ W0.heap.size ≤ g18) ∧ True) → G 5 #[true, true, true, true, true, true, true, true, true, true, false, true, true, false, true, true, false, false, true, false] #[.agg #[.slice p0 x0.length c0, .slice p1 x1.length c1, .slice p2 x2.length c2, .slice p3 x3.length c3, .slice p4 x4.length c4, .slice p5 x5.length c5, .slice p6 x6.length c6], .pointer (some ⟨w.heap.size, 0, none⟩), .pointer (some ⟨w.heap.size + 1, 0, none⟩), .pointer (some ⟨g18, 0, none⟩), undef, .pointer (some ⟨w.heap.size, 0, none⟩), .agg #[.slice p0 x0.length c0, .slice p1 x1.length c1], .agg #[.slice s0 x0.length t0, .slice s1 x1.length t1], .pointer (some ⟨w.heap.size, 2, none⟩), .slice p2 x2.length c2, .slice s2 x2.length t2, .slice (some ⟨g6, 0, none⟩) 0 0, .pointer (some ⟨w.heap.size, 4, none⟩), .slice p4 x4.length c4, .slice s4 x4.length t4, undef, .pointer (some ⟨w.heap.size, 5, none⟩), .slice p5 x5.length c5, undef, .pointer (some ⟨w.heap.size, 6, none⟩), .slice p6 x6.length c6, undef, undef, undef, undef, undef, undef, undef, undef, undef, undef, undef, undef, undef, undef, undef, undef, undef, undef, undef, undef, undef] wx := by
    intro wx s0 s1 t0 t1 s2 t2 g6 s4 t4 g18 HF
    refine toG _ _ _ _ ?_
    refine wpAnyH_ready (rs := [10]) (by kernel_rfl) (by simp) ?_
    refine AllReadyH.cons rfl (fun K hK => ?_) AllReadyH.nil
    · obtain ⟨FB, FO, F18, -⟩ := HF.out
      have hXl : ∀ b, (fun b => (W0.heap.size ≤ b ∧ b < wx.heap.size) ∧ b ≠ g18) b → b < wx.heap.size := fun b hb => hb.1.2
      have hlo := FB.size
      have b0 : Below wx.heap.size wx (wx.alloc (.cells #[] 3)) := (Below.refl _ wx).alloc (Nat.le_refl _) _
      have FO' := (OFs.put 4 FO hXl b0 (own_empty wx 3)).mono (X' := (fun b => (W0.heap.size ≤ b ∧ b < (wx.alloc (.cells #[] 3)).heap.size) ∧ b ≠ g18)) (fun b hb => by
        rcases hb with hb | hb
        · exact ⟨⟨hb.1.1, by have := hb.1.2; simp; omega⟩, hb.2⟩
        · exact ⟨⟨by have := hb.1; omega, hb.2⟩, (by have := hb.1; have := lt_heap F18.1; omega)⟩)
      go_simp
      refine hK.out _ _ (HZ.out _ (FB.alloc hlo _)) (fun _ => ?_)
      clear hK K
      simp only [List.setIfInBounds_toArray, List.set_cons_zero, List.set_cons_succ]
      exact ofG 4 _ _ _ (st3111 (wx.alloc (.cells #[] 3)) s0 s1 t0 t1 s2 t2 g6 s4 t4 wx.heap.size g18 ⟨(FB.alloc hlo _), (FO'), (⟨(MapKept.heap_alloc wx _).1, hlo⟩), (⟨(b0.block _ (lt_heap F18.1)).trans F18.1, F18.2⟩), (by have := lt_heap F18.1; omega), trivial⟩)
  have st3110 : ∀ (wx : World) (s0 s1 : Option Addr) (t0 t1 : Nat) (s2 : Option Addr) (t2 : Nat) (g6 : Nat) (s4 : Option Addr) (t4 : Nat) (g10 : Nat), Hid ((Below W0.heap.size W0 wx) ∧ (OFs wx [.slice s0 x0.length t0, .slice s1 x1.length t1, .slice s2 x2.length t2, .slice s4 x4.length t4, .slice (some ⟨g10, 0, none⟩) 0 0, .int .i64 0] [.row x0, .row x1, .row x2, .row x4, .row [], .int 0] (fun b => (W0.heap.size ≤ b ∧ b < wx.heap.size) ∧ True)) ∧ (wx.heap[g10]? = some (.cells #[] 3) ∧ W0.heap.size ≤ g10) ∧ True) → G 5 #[true, true, true, true, true, true, true, true, true, true, true, true, true, false, true, true, false, false, false, false] #[.agg #[.slice p0 x0.length c0, .slice p1 x1.length c1, .slice p2 x2.length c2, .slice p3 x3.length c3, .slice p4 x4.length c4, .slice p5 x5.length c5, .slice p6 x6.length c6], .pointer (some ⟨w.heap.size, 0, none⟩), .pointer (some ⟨w.heap.size + 1, 0, none⟩), undef, undef, .pointer (some ⟨w.heap.size, 0, none⟩), .agg #[.slice p0 x0.length c0, .slice p1 x1.length c1], .agg #[.slice s0 x0.length t0, .slice s1 x1.length t1], .pointer (some ⟨w.heap.size, 2, none⟩), .slice p2 x2.length c2, .slice s2 x2.length t2, .slice (some ⟨g6, 0, none⟩) 0 0, .pointer (some ⟨w.heap.size, 4, none⟩), .slice p4 x4.length c4, .slice s4 x4.length t4, .slice (some ⟨g10, 0, none⟩) 0 0, .pointer (some ⟨w.heap.size, 5, none⟩), .slice p5 x5.length c5, undef, .pointer (some ⟨w.heap.size, 6, none⟩), .slice p6 x6.length c6, undef, undef, undef, undef, undef, undef, undef, undef, undef, undef, undef, undef, undef, undef, undef, undef, undef, undef, undef, undef, undef] wx := by
    intro wx s0 s1 t0 t1 s2 t2 g6 s4 t4 g10 HF
    refine toG _ _ _ _ ?_
    refine wpAnyH_ready (rs := [13, 18]) (by kernel_rfl) (by simp) ?_
    refine AllReadyH.cons rfl (fun K hK => ?_) (AllReadyH.cons rfl (fun K hK => ?_) AllReadyH.nil)
    · obtain ⟨FB, FO, F10, -⟩ := HF.out
      have hXl : ∀ b, (fun b => (W0.heap.size ≤ b ∧ b < wx.heap.size) ∧ True) b → b < wx.heap.size := fun b hb => hb.1.2
      have hlo := FB.size
      have bw : Below w.heap.size w wx := HS.out.1.trans (FB.mono HS.out.1.size)
      refine step_append_fat rfl (.tmp 15) (.tmp 17) 23 rfl W0.heap.size 3 iI (.int .i64 0) 1 8 Try.underlying23 hiI hzI0 hzI1 hzI2 rfl (by decide) (.slice (some ⟨g10, 0, none⟩) 0 0) 0 [] (by simp [Act.eval]) (row_empty F10.1 F10.2) (.slice p5 x5.length c5) (by simp [Act.eval]) x5 S (HA.out.2.2.2.2.2.1.up bw) (q5.len IntR.len) (by unfold maxLen; omega) (by omega) hlo ?_
      intro v' w' flat hown hg hat hf
      rw [Nat.zero_add, List.nil_append] at hown
      obtain ⟨s5, t5, rfl⟩ := own_form hown
      have own := (own_atoms hown (q5.len IntR.len) hf (fun i j r d hr hj => (q5 i r hr).atoms j d hj)).mono (X' := fun b => Value.ownBlock (.slice s5 x5.length t5) = some b) (fun b hb => hb.2)
      have FO' := (OFs.rep 4 FO hXl rfl rfl hg own hat).dom.mono (X' := (fun b => (W0.heap.size ≤ b ∧ b < w'.heap.size) ∧ True)) (fun b hb => by
        rcases hb with ⟨hb | hb, hl⟩
        · exact ⟨⟨hb.1.1, hl⟩, hb.2⟩
        · exact ⟨⟨by omega, hl⟩, trivial⟩)
      refine hK.out _ _ (HZ.out _ (Below.grown FB hg hlo (fun k hk => by simp [Value.ownBlock] at hk; have := F10.2; omega))) (fun _ => ?_)
      clear hK K
      simp only [Act.put, List.getElem_toArray, List.getElem_cons_zero, List.getElem_cons_succ, List.setIfInBounds_toArray, List.set_cons_zero, List.set_cons_succ]
      exact ofG 4 _ _ _ (st4110 w' s0 s1 t0 t1 s2 t2 g6 s4 t4 g10 s5 t5 ⟨(Below.grown FB hg hlo (fun k hk => by simp [Value.ownBlock] at hk; have := F10.2; omega)), (FO'), trivial⟩)
    · obtain ⟨FB, FO, F10, -⟩ := HF.out
      have hXl : ∀ b, (fun b => (W0.heap.size ≤ b ∧ b < wx.heap.size) ∧ True) b → b < wx.heap.size := fun b hb => hb.1.2
      have hlo := FB.size
      have b0 : Below wx.heap.size wx (wx.alloc (.cells #[.slice none 0 0, .slice none 0 0, .slice none 0 0, .slice none 0 0, .slice none 0 0, .slice none 0 0, .slice none 0 0] 39)) := (Below.refl _ wx).alloc (Nat.le_refl _) _
      have FO' := (OFs.up FO b0).mono (X' := fun b => (W0.heap.size ≤ b ∧ b < (wx.alloc (.cells #[.slice none 0 0, .slice none 0 0, .slice none 0 0, .slice none 0 0, .slice none 0 0, .slice none 0 0, .slice none 0 0] 39)).heap.size) ∧ b ≠ wx.heap.size) (fun b hb => ⟨⟨hb.1.1, by have := hb.1.2; simp; omega⟩, by have := hb.1.2; omega⟩)
      go_simp
      refine hK.out _ _ (HZ.out _ (FB.alloc hlo _)) (fun _ => ?_)
      clear hK K
      simp only [List.setIfInBounds_toArray, List.set_cons_zero, List.set_cons_succ]
      exact ofG 4 _ _ _ (st3111 (wx.alloc (.cells #[.slice none 0 0, .slice none 0 0, .slice none 0 0, .slice none 0 0, .slice none 0 0, .slice none 0 0, .slice none 0 0] 39)) s0 s1 t0 t1 s2 t2 g6 s4 t4 g10 wx.heap.size ⟨(FB.alloc hlo _), (FO'), (⟨(b0.block _ (lt_heap F10.1)).trans F10.1, F10.2⟩), (⟨(MapKept.heap_alloc wx _).1, hlo⟩), (by have := lt_heap F10.1; omega), trivial⟩)
  have st1111 : ∀ (wx : World) (s0 s1 : Option Addr) (t0 t1 : Nat) (g6 : Nat) (g10 : Nat) (g18 : Nat), Hid ((Below W0.heap.size W0 wx) ∧ (OFs wx [.slice s0 x0.length t0, .slice s1 x1.length t1, .int .i64 0, .slice (some ⟨g6, 0, none⟩) 0 0, .slice (some ⟨g10, 0, none⟩) 0 0, .int .i64 0] [.row x0, .row x1, .int 0, .row [], .row [], .int 0] (fun b => (W0.heap.size ≤ b ∧ b < wx.heap.size) ∧ b ≠ g18)) ∧ (wx.heap[g6]? = some (.cells #[] 3) ∧ W0.heap.size ≤ g6) ∧ (wx.heap[g10]? = some (.cells #[] 3) ∧ W0.heap.size ≤ g10) ∧ (wx.heap[g18]? = some (.cells #[.slice none 0 0, .slice none 0 0, .slice none 0 0, .slice none 0 0, .slice none 0 0, .slice none 0 0, .slice none 0 0] 39) ∧ W0.heap.size ≤ g18) ∧ (g6 ≠ g10) ∧ (g6 ≠ g18) ∧ (g10 ≠ g18) ∧ True) → G 6 #[true, true, true, true, true, false, true, true, true, false, true, true, true, false, true, true, false, false, true, false] #[.agg #[.slice p0 x0.length c0, .slice p1 x1.length c1, .slice p2 x2.length c2, .slice p3 x3.length c3, .slice p4 x4.length c4, .slice p5 x5.length c5, .slice p6 x6.length c6], .pointer (some ⟨w.heap.size, 0, none⟩), .pointer (some ⟨w.heap.size + 1, 0, none⟩), .pointer (some ⟨g18, 0, none⟩), undef, .pointer (some ⟨w.heap.size, 0, none⟩), .agg #[.slice p0 x0.length c0, .slice p1 x1.length c1], .agg #[.slice s0 x0.length t0, .slice s1 x1.length t1], .pointer (some ⟨w.heap.size, 2, none⟩), .slice p2 x2.length c2, undef, .slice (some ⟨g6, 0, none⟩) 0 0, .pointer (some ⟨w.heap.size, 4, none⟩), .slice p4 x4.length c4, undef, .slice (some ⟨g10, 0, none⟩) 0 0, .pointer (some ⟨w.heap.size, 5, none⟩), .slice p5 x5.length c5, undef, .pointer (some ⟨w.heap.size, 6, none⟩), .slice p6 x6.length c6, undef, undef, undef, undef, undef, undef, undef, undef, undef, undef, undef, undef, undef, undef, undef, undef, undef, undef, undef, undef, undef] wx := by
    intro wx s0 s1 t0 t1 g6 g10 g18 HF
    refine toG _ _ _ _ ?_
    refine wpAnyH_ready (rs := [5]) (by kernel_rfl) (by simp) ?_
    refine AllReadyH.cons rfl (fun K hK => ?_) AllReadyH.nil
    · obtain ⟨FB, FO, F6, F10, F18, N1, N2, N3, -⟩ := HF.out
      have hXl : ∀ b, (fun b => (W0.heap.size ≤ b ∧ b < wx.heap.size) ∧ b ≠ g18) b → b < wx.heap.size := fun b hb => hb.1.2
      have hlo := FB.size
      have bw : Below w.heap.size w wx := HS.out.1.trans (FB.mono HS.out.1.size)
      refine step_call1 rfl 58 (.tmp 9) _ rfl (enters_of Try.func58 (by kernel_rfl) rfl) (.slice p2 x2.length c2) (by simp [Act.eval]) (fun r w' => Own w' r (.row x2) (Btw wx.heap.size w'.heap.size) ∧ Below wx.heap.size wx w') ((l05Copy_dt _ x2 S _ q2 (HA.out.2.2.1.up bw) (by omega)).mono (fun e w' ⟨u, he, h1, h2⟩ => ⟨u, he, h1, h2⟩)) ?_
      rintro r w' ⟨N, b1⟩
      obtain ⟨s2, t2, rfl⟩ := N.form
      have FO' := (OFs.put 2 FO hXl b1 N).mono (X' := (fun b => (W0.heap.size ≤ b ∧ b < w'.heap.size) ∧ b ≠ g18)) (fun b hb => by
        rcases hb with hb | hb
        · exact ⟨⟨hb.1.1, Nat.lt_of_lt_of_le hb.1.2 b1.size⟩, hb.2⟩
        · exact ⟨⟨Nat.le_trans hlo hb.1, hb.2⟩, (by have := hb.1; have := lt_heap F18.1; omega)⟩)
      refine hK.out _ _ (HZ.out _ (FB.trans (b1.mono hlo))) (fun _ => ?_)
      clear hK K
      simp only [Act.put, List.getElem_toArray, List.getElem_cons_zero, List.getElem_cons_succ, List.setIfInBounds_toArray, List.set_cons_zero, List.set_cons_succ]
      exact ofG 5 _ _ _ (st2111 w' s0 s1 t0 t1 s2 t2 g6 g10 g18 ⟨(FB.trans (b1.mono hlo)), (FO'), (⟨(b1.block _ (lt_heap F6.1)).trans F6.1, F6.2⟩), (⟨(b1.block _ (lt_heap F10.1)).trans F10.1, F10.2⟩), (⟨(b1.block _ (lt_heap F18.1)).trans F18.1, F18.2⟩), (N1), (N2), (N3), trivial⟩)
  have st2011 : ∀ (wx : World) (s0 s1 : Option Addr) (t0 t1 : Nat) (s2 : Option Addr) (t2 : Nat) (g10 : Nat) (g18 : Nat), Hid ((Below W0.heap.size W0 wx) ∧ (OFs wx [.slice s0 x0.length t0, .slice s1 x1.length t1, .slice s2 x2.length t2, .int .i64 0, .slice (some ⟨g10, 0, none⟩) 0 0, .int .i64 0] [.row x0, .row x1, .row x2, .int 0, .row [], .int 0] (fun b => (W0.heap.size ≤ b ∧ b < wx.heap.size) ∧ b ≠ g18)) ∧ (wx.heap[g10]? = some (.cells #[] 3) ∧ W0.heap.size ≤ g10) ∧ (wx.heap[g18]? = some (.cells #[.slice none 0 0, .slice none 0 0, .slice none 0 0, .slice none 0 0, .slice none 0 0, .slice none 0 0, .slice none 0 0] 39) ∧ W0.heap.size ≤ g18) ∧ (g10 ≠ g18) ∧ True) → G 6 #[true, true, true, true, true, true, false, true, true, false, true, true, true, false, true, true, false, false, true, false] #[.agg #[.slice p0 x0.length c0, .slice p1 x1.length c1, .slice p2 x2.length c2, .slice p3 x3.length c3, .slice p4 x4.length c4, .slice p5 x5.length c5, .slice p6 x6.length c6], .pointer (some ⟨w.heap.size, 0, none⟩), .pointer (some ⟨w.heap.size + 1, 0, none⟩), .pointer (some ⟨g18, 0, none⟩), undef, .pointer (some ⟨w.heap.size, 0, none⟩), .agg #[.slice p0 x0.length c0, .slice p1 x1.length c1], .agg #[.slice s0 x0.length t0, .slice s1 x1.length t1], .pointer (some ⟨w.heap.size, 2, none⟩), .slice p2 x2.length c2, .slice s2 x2.length t2, undef, .pointer (some ⟨w.heap.size, 4, none⟩), .slice p4 x4.length c4, undef, .slice (some ⟨g10, 0, none⟩) 0 0, .pointer (some ⟨w.heap.size, 5, none⟩), .slice p5 x5.length c5, undef, .pointer (some ⟨w.heap.size, 6, none⟩), .slice p6 x6.length c6, undef, undef, undef, undef, undef, undef, undef, undef, undef, undef, undef, undef, undef, undef, undef, undef, undef, undef, undef, undef, undef] wx := by
    intro wx s0 s1 t0 t1 s2 t2 g10 g18 HF
    refine toG _ _ _ _ ?_
    refine wpAnyH_ready (rs := [6]) (by kernel_rfl) (by simp) ?_
    refine AllReadyH.cons rfl (fun K hK => ?_) AllReadyH.nil
    · obtain ⟨FB, FO, F10, F18, N3, -⟩ := HF.out
      have hXl : ∀ b, (fun b => (W0.heap.size ≤ b ∧ b < wx.heap.size) ∧ b ≠ g18) b → b < wx.heap.size := fun b hb => hb.1.2
      have hlo := FB.size
      have b0 : Below wx.heap.size wx (wx.alloc (.cells #[] 3)) := (Below.refl _ wx).alloc (Nat.le_refl _) _
      have FO' := (OFs.put 3 FO hXl b0 (own_empty wx 3)).mono (X' := (fun b => (W0.heap.size ≤ b ∧ b < (wx.alloc (.cells #[] 3)).heap.size) ∧ b ≠ g18)) (fun b hb => by
        rcases hb with hb | hb
        · exact ⟨⟨hb.1.1, by have := hb.1.2; simp; omega⟩, hb.2⟩
        · exact ⟨⟨by have := hb.1; omega, hb.2⟩, (by have := hb.1; have := lt_heap F18.1; omega)⟩)
      go_simp
      refine hK.out _ _ (HZ.out _ (FB.alloc hlo _)) (fun _ => ?_)
      clear hK K
      simp only [List.setIfInBounds_toArray, List.set_cons_zero, List.set_cons_succ]
      exact ofG 5 _ _ _ (st2111 (wx.alloc (.cells #[] 3)) s0 s1 t0 t1 s2 t2 wx.heap.size g10 g18 ⟨(FB.alloc hlo _), (FO'), (⟨(MapKept.heap_alloc wx _).1, hlo⟩), (⟨(b0.block _ (lt_heap F10.1)).trans F10.1, F10.2⟩), (⟨(b0.block _ (lt_heap F18.1)).trans F18.1, F18.2⟩), (by have := lt_heap F10.1; omega), (by have := lt_heap F18.1; omega), (N3), trivial⟩)
  have st2101 : ∀ (wx : World) (s0 s1 : Option Addr) (t0 t1 : Nat) (s2 : Option Addr) (t2 : Nat) (g6 : Nat) (g18 : Nat), Hid ((Below W0.heap.size W0 wx) ∧ (OFs wx [.slice s0 x0.length t0, .slice s1 x1.length t1, .slice s2 x2.length t2, .slice (some ⟨g6, 0, none⟩) 0 0, .int .i64 0, .int .i64 0] [.row x0, .row x1, .row x2, .row [], .int 0, .int 0] (fun b => (W0.heap.size ≤ b ∧ b < wx.heap.size) ∧ b ≠ g18)) ∧ (wx.heap[g6]? = some (.cells #[] 3) ∧ W0.heap.size ≤ g6) ∧ (wx.heap[g18]? = some (.cells #[.slice none 0 0, .slice none 0 0, .slice none 0 0, .slice none 0 0, .slice none 0 0, .slice none 0 0, .slice none 0 0] 39) ∧ W0.heap.size ≤ g18) ∧ (g6 ≠ g18) ∧ True) → G 6 #[true, true, true, true, true, true, true, true, true, false, false, true, true, false, true, true, false, false, true, false] #[.agg #[.slice p0 x0.length c0, .slice p1 x1.length c1, .slice p2 x2.length c2, .slice p3 x3.length c3, .slice p4 x4.length c4, .slice p5 x5.length c5, .slice p6 x6.length c6], .pointer (some ⟨w.heap.size, 0, none⟩), .pointer (some ⟨w.heap.size + 1, 0, none⟩), .pointer (some ⟨g18, 0, none⟩), undef, .pointer (some ⟨w.heap.size, 0, none⟩), .agg #[.slice p0 x0.length c0, .slice p1 x1.length c1], .agg #[.slice s0 x0.length t0, .slice s1 x1.length t1], .pointer (some ⟨w.heap.size, 2, none⟩), .slice p2 x2.length c2, .slice s2 x2.length t2, .slice (some ⟨g6, 0, none⟩) 0 0, .pointer (some ⟨w.heap.size, 4, none⟩), .slice p4 x4.length c4, undef, undef, .pointer (some ⟨w.heap.size, 5, none⟩), .slice p5 x5.length c5, undef, .pointer (some ⟨w.heap.size, 6, none⟩), .slice p6 x6.length c6, undef, undef, undef, undef, undef, undef, undef, undef, undef, undef, undef, undef, undef, undef, undef, undef, undef, undef, undef, undef, undef] wx := by
    intro wx s0 s1 t0 t1 s2 t2 g6 g18 HF
    refine toG _ _ _ _ ?_
    refine wpAnyH_ready (rs := [9, 10]) (by kernel_rfl) (by simp) ?_
    refine AllReadyH.cons rfl (fun K hK => ?_) (AllReadyH.cons rfl (fun K hK => ?_) AllReadyH.nil)
    · obtain ⟨FB, FO, F6, F18, N2, -⟩ := HF.out
      have hXl : ∀ b, (fun b => (W0.heap.size ≤ b ∧ b < wx.heap.size) ∧ b ≠ g18) b → b < wx.heap.size := fun b hb => hb.1.2
      have hlo := FB.size
      have bw : Below w.heap.size w wx := HS.out.1.trans (FB.mono HS.out.1.size)
      refine step_append_fat rfl (.tmp 11) (.tmp 13) 23 rfl W0.heap.size 3 iI (.int .i64 0) 1 8 Try.underlying23 hiI hzI0 hzI1 hzI2 rfl (by decide) (.slice (some ⟨g6, 0, none⟩) 0 0) 0 [] (by simp [Act.eval]) (row_empty F6.1 F6.2) (.slice p4 x4.length c4) (by simp [Act.eval]) x4 S (HA.out.2.2.2.2.1.up bw) (q4.len IntR.len) (by unfold maxLen; omega) (by omega) hlo ?_
      intro v' w' flat hown hg hat hf
      rw [Nat.zero_add, List.nil_append] at hown
      obtain ⟨s4, t4, rfl⟩ := own_form hown
      have own := (own_atoms hown (q4.len IntR.len) hf (fun i j r d hr hj => (q4 i r hr).atoms j d hj)).mono (X' := fun b => Value.ownBlock (.slice s4 x4.length t4) = some b) (fun b hb => hb.2)
      have FO' := (OFs.rep 3 FO hXl rfl rfl hg own hat).dom.mono (X' := (fun b => (W0.heap.size ≤ b ∧ b < w'.heap.size) ∧ b ≠ g18)) (fun b hb => by
        rcases hb with ⟨hb | hb, hl⟩
        · exact ⟨⟨hb.1.1, hl⟩, hb.2⟩
        · exact ⟨⟨by omega, hl⟩, (by have := lt_heap F18.1; omega)⟩)
      refine hK.out _ _ (HZ.out _ (Below.grown FB hg hlo (fun k hk => by simp [Value.ownBlock] at hk; have := F6.2; omega))) (fun _ => ?_)
      clear hK K
      simp only [Act.put, List.getElem_toArray, List.getElem_cons_zero, List.getElem_cons_succ, List.setIfInBounds_toArray, List.set_cons_zero, List.set_cons_succ]
      exact ofG 5 _ _ _ (st3101 w' s0 s1 t0 t1 s2 t2 g6 s4 t4 g18 ⟨(Below.grown FB hg hlo (fun k hk => by simp [Value.ownBlock] at hk; have := F6.2; omega)), (FO'), (⟨(hg.block _ (lt_heap F18.1) (fun e => by simp [Value.ownBlock] at e; omega)).trans F18.1, F18.2⟩), trivial⟩)
    · obtain ⟨FB, FO, F6, F18, N2, -⟩ := HF.out
      have hXl : ∀ b, (fun b => (W0.heap.size ≤ b ∧ b < wx.heap.size) ∧ b ≠ g18) b → b < wx.heap.size := fun b hb => hb.1.2
      have hlo := FB.size
      have b0 : Below wx.heap.size wx (wx.alloc (.cells #[] 3)) := (Below.refl _ wx).alloc (Nat.le_refl _) _
      have FO' := (OFs.put 4 FO hXl b0 (own_empty wx 3)).mono (X' := (fun b => (W0.heap.size ≤ b ∧ b < (wx.alloc (.cells #[] 3)).heap.size) ∧ b ≠ g18)) (fun b hb => by
        rcases hb with hb | hb
        · exact ⟨⟨hb.1.1, by have := hb.1.2; simp; omega⟩, hb.2⟩
        · exact ⟨⟨by have := hb.1; omega, hb.2⟩, (by have := hb.1; have := lt_heap F18.1; omega)⟩)
      go_simp
      refine hK.out _ _ (HZ.out _ (FB.alloc hlo _)) (fun _ => ?_)
      clear hK K
      simp only [List.setIfInBounds_toArray, List.set_cons_zero, List.set_cons_succ]
      exact ofG 5 _ _ _ (st2111 (wx.alloc (.cells #[] 3)) s0 s1 t0 t1 s2 t2 g6 wx.heap.size g18 ⟨(FB.alloc hlo _), (FO'), (⟨(b0.block _ (lt_heap F6.1)).trans F6.1, F6.2⟩), (⟨(MapKept.heap_alloc wx _).1, hlo⟩), (⟨(b0.block _ (lt_heap F18.1)).trans F18.1, F18.2⟩), (by have := lt_heap F6.1; omega), (N2), (by have := lt_heap F18.1; omega), trivial⟩)
  have st2110 : ∀ (wx : World) (s0 s1 : Option Addr) (t0 t1 : Nat) (s2 : Option Addr) (t2 : Nat) (g6 : Nat) (g10 : Nat), Hid ((Below W0.heap.size W0 wx) ∧ (OFs wx [.slice s0 x0.length t0, .slice s1 x1.length t1, .slice s2 x2.length t2, .slice (some ⟨g6, 0, none⟩) 0 0, .slice (some ⟨g10, 0, none⟩) 0 0, .int .i64 0] [.row x0, .row x1, .row x2, .row [], .row [], .int 0] (fun b => (W0.heap.size ≤ b ∧ b < wx.heap.size) ∧ True)) ∧ (wx.heap[g6]? = some (.cells #[] 3) ∧ W0.heap.size ≤ g6) ∧ (wx.heap[g10]? = some (.cells #[] 3) ∧ W0.heap.size ≤ g10) ∧ (g6 ≠ g10) ∧ True) → G 6 #[true, true, true, true, true, true, true, true, true, false, true, true, true, false, true, true, false, false, false, false] #[.agg #[.slice p0 x0.length c0, .slice p1 x1.length c1, .slice p2 x2.length c2, .slice p3 x3.length c3, .slice p4 x4.length c4, .slice p5 x5.length c5, .slice p6 x6.length c6], .pointer (some ⟨w.heap.size, 0, none⟩), .pointer (some ⟨w.heap.size + 1, 0, none⟩), undef, undef, .pointer (some ⟨w.heap.size, 0, none⟩), .agg #[.slice p0 x0.length c0, .slice p1 x1.length c1], .agg #[.slice s0 x0.length t0, .slice s1 x1.length t1], .pointer (some ⟨w.heap.size, 2, none⟩), .slice p2 x2.length c2, .slice s2 x2.length t2, .slice (some ⟨g6, 0, none⟩) 0 0, .pointer (some ⟨w.heap.size, 4, none⟩), .slice p4 x4.length c4, undef, .slice (some ⟨g10, 0, none⟩) 0 0, .pointer (some ⟨w.heap.size, 5, none⟩), .slice p5 x5.length c5, undef, .pointer (some ⟨w.heap.size, 6, none⟩), .slice p6 x6.length c6, undef, undef, undef, undef, undef, undef, undef, undef, undef, undef, undef, undef, undef, undef, undef, undef, undef, undef, undef, undef, undef] wx := by
    intro wx s0 s1 t0 t1 s2 t2 g6 g10 HF
    refine toG _ _ _ _ ?_
    refine wpAnyH_ready (rs := [9, 18]) (by kernel_rfl) (by simp) ?_
    refine AllReadyH.cons rfl (fun K hK => ?_) (AllReadyH.cons rfl (fun K hK => ?_) AllReadyH.nil)
    · obtain ⟨FB, FO, F6, F10, N1, -⟩ := HF.out
      have hXl : ∀ b, (fun b => (W0.heap.size ≤ b ∧ b < wx.heap.size) ∧ True) b → b < wx.heap.size := fun b hb => hb.1.2
      have hlo := FB.size
      have bw : Below w.heap.size w wx := HS.out.1.trans (FB.mono HS.out.1.size)
      refine step_append_fat rfl (.tmp 11) (.tmp 13) 23 rfl W0.heap.size 3 iI (.int .i64 0) 1 8 Try.underlying23 hiI hzI0 hzI1 hzI2 rfl (by decide) (.slice (some ⟨g6, 0, none⟩) 0 0) 0 [] (by simp [Act.eval]) (row_empty F6.1 F6.2) (.slice p4 x4.length c4) (by simp [Act.eval]) x4 S (HA.out.2.2.2.2.1.up bw) (q4.len IntR.len) (by unfold maxLen; omega) (by omega) hlo ?_
      intro v' w' flat hown hg hat hf
      rw [Nat.zero_add, List.nil_append] at hown
      obtain ⟨s4, t4, rfl⟩ := own_form hown
      have own := (own_atoms hown (q4.len IntR.len) hf (fun i j r d hr hj => (q4 i r hr).atoms j d hj)).mono (X' := fun b => Value.ownBlock (.slice s4 x4.length t4) = some b) (fun b hb => hb.2)
      have FO' := (OFs.rep 3 FO hXl rfl rfl hg own hat).dom.mono (X' := (fun b => (W0.heap.size ≤ b ∧ b < w'.heap.size) ∧ True)) (fun b hb => by
        rcases hb with ⟨hb | hb, hl⟩
        · exact ⟨⟨hb.1.1, hl⟩, hb.2⟩
        · exact ⟨⟨by omega, hl⟩, trivial⟩)
      refine hK.out _ _ (HZ.out _ (Below.grown FB hg hlo (fun k hk => by simp [Value.ownBlock] at hk; have := F6.2; omega))) (fun _ => ?_)
      clear hK K
      simp only [Act.put, List.getElem_toArray, List.getElem_cons_zero, List.getElem_cons_succ, List.setIfInBounds_toArray, List.set_cons_zero, List.set_cons_succ]
      exact ofG 5 _ _ _ (st3110 w' s0 s1 t0 t1 s2 t2 g6 s4 t4 g10 ⟨(Below.grown FB hg hlo (fun k hk => by simp [Value.ownBlock] at hk; have := F6.2; omega)), (FO'), (⟨(hg.block _ (lt_heap F10.1) (fun e => by simp [Value.ownBlock] at e; omega)).trans F10.1, F10.2⟩), trivial⟩)
    · obtain ⟨FB, FO, F6, F10, N1, -⟩ := HF.out
      have hXl : ∀ b, (fun b => (W0.heap.size ≤ b ∧ b < wx.heap.size) ∧ True) b → b < wx.heap.size := fun b hb => hb.1.2
      have hlo := FB.size
      have b0 : Below wx.heap.size wx (wx.alloc (.cells #[.slice none 0 0, .slice none 0 0, .slice none 0 0, .slice none 0 0, .slice none 0 0, .slice none 0 0, .slice none 0 0] 39)) := (Below.refl _ wx).alloc (Nat.le_refl _) _
      have FO' := (OFs.up FO b0).mono (X' := fun b => (W0.heap.size ≤ b ∧ b < (wx.alloc (.cells #[.slice none 0 0, .slice none 0 0, .slice none 0 0, .slice none 0 0, .slice none 0 0, .slice none 0 0, .slice none 0 0] 39)).heap.size) ∧ b ≠ wx.heap.size) (fun b hb => ⟨⟨hb.1.1, by have := hb.1.2; simp; omega⟩, by have := hb.1.2; omega⟩)
      go_simp
      refine hK.out _ _ (HZ.out _ (FB.alloc hlo _)) (fun _ => ?_)
      clear hK K
      simp only [List.setIfInBounds_toArray, List.set_cons_zero, List.set_cons_succ]
      exact ofG 5 _ _ _ (st2111 (wx.alloc (.cells #[.slice none 0 0, .slice none 0 0, .slice none 0 0, .slice none 0 0, .slice none 0 0, .slice none 0 0, .slice none 0 0] 39)) s0 s1 t0 t1 s2 t2 g6 g10 wx.heap.size ⟨(FB.alloc hlo _), (FO'), (⟨(b0.block _ (lt_heap F6.1)).trans F6.1, F6.2⟩), (⟨(b0.block _ (lt_heap F10.1)).trans F10.1, F10.2⟩), (⟨(MapKept.heap_alloc wx _).1, hlo⟩), (N1), (by have := lt_heap F6.1; omega), (by have := lt_heap F10.1; omega), trivial⟩)
  have st3100 : ∀ (wx : World) (s0 s1 : Option Addr) (t0 t1 : Nat) (s2 : Option Addr) (t2 : Nat) (g6 : Nat) (s4 : Option Addr) (t4 : Nat), Hid ((Below W0.heap.size W0 wx) ∧ (OFs wx [.slice s0 x0.length t0, .slice s1 x1.length t1, .slice s2 x2.length t2, .slice s4 x4.length t4, .int .i64 0, .int .i64 0] [.row x0, .row x1, .row x2, .row x4, .int 0, .int 0] (fun b => (W0.heap.size ≤ b ∧ b < wx.heap.size) ∧ True)) ∧ True) → G 6 #[true, true, true, true, true, true, true, true, true, true, false, true, true, false, true, true, false, false, false, false] #[.agg #[.slice p0 x0.length c0, .slice p1 x1.length c1, .slice p2 x2.length c2, .slice p3 x3.length c3, .slice p4 x4.length c4, .slice p5 x5.length c5, .slice p6 x6.length c6], .pointer (some ⟨w.heap.size, 0, none⟩), .pointer (some ⟨w.heap.size + 1, 0, none⟩), undef, undef, .pointer (some ⟨w.heap.size, 0, none⟩), .agg #[.slice p0 x0.length c0, .slice p1 x1.length c1], .agg #[.slice s0 x0.length t0, .slice s1 x1.length t1], .pointer (some ⟨w.heap.size, 2, none⟩), .slice p2 x2.length c2, .slice s2 x2.length t2, .slice (some ⟨g6, 0, none⟩) 0 0, .pointer (some ⟨w.heap.size, 4, none⟩), .slice p4 x4.length c4, .slice s4 x4.length t4, undef, .pointer (some ⟨w.heap.size, 5, none⟩), .slice p5 x5.length c5, undef, .pointer (some ⟨w.heap.size, 6, none⟩), .slice p6 x6.length c6, undef, undef, undef, undef, undef, undef, undef, undef, undef, undef, undef, undef, undef, undef, undef, undef, undef, undef, undef, undef, undef] wx := by
    intro wx s0 s1 t0 t1 s2 t2 g6 s4 t4 HF
    refine toG _ _ _ _ ?_
    refine wpAnyH_ready (rs := [10, 18]) (by kernel_rfl) (by simp) ?_
    refine AllReadyH.cons rfl (fun K hK => ?_) (AllReadyH.cons rfl (fun K hK => ?_) AllReadyH.nil)
    · obtain ⟨FB, FO, -⟩ := HF.out
      have hXl : ∀ b, (fun b => (W0.heap.size ≤ b ∧ b < wx.heap.size) ∧ True) b → b < wx.heap.size := fun b hb => hb.1.2
      have hlo := FB.size
      have b0 : Below wx.heap.size wx (wx.alloc (.cells #[] 3)) := (Below.refl _ wx).alloc (Nat.le_refl _) _
      have FO' := (OFs.put 4 FO hXl b0 (own_empty wx 3)).mono (X' := (fun b => (W0.heap.size ≤ b ∧ b < (wx.alloc (.cells #[] 3)).heap.size) ∧ True)) (fun b hb => by
        rcases hb with hb | hb
        · exact ⟨⟨hb.1.1, by have := hb.1.2; simp; omega⟩, hb.2⟩
        · exact ⟨⟨by have := hb.1; omega, hb.2⟩, trivial⟩)
      go_simp
      refine hK.out _ _ (HZ.out _ (FB.alloc hlo _)) (fun _ => ?_)
      clear hK K
      simp only [List.setIfInBounds_toArray, List.set_cons_zero, List.set_cons_succ]
      exact ofG 5 _ _ _ (st3110 (wx.alloc (.cells #[] 3)) s0 s1 t0 t1 s2 t2 g6 s4 t4 wx.heap.size ⟨(FB.alloc hlo _), (FO'), (⟨(MapKept.heap_alloc wx _).1, hlo⟩), trivial⟩)
    · obtain ⟨FB, FO, -⟩ := HF.out
      have hXl : ∀ b, (fun b => (W0.heap.size ≤ b ∧ b < wx.heap.size) ∧ True) b → b < wx.heap.size := fun b hb => hb.1.2
      have hlo := FB.size
      have b0 : Below wx.heap.size wx (wx.alloc (.cells #[.slice none 0 0, .slice none 0 0, .slice none 0 0, .slice none 0 0, .slice none 0 0, .slice none 0 0, .slice none 0 0] 39)) := (Below.refl _ wx).alloc (Nat.le_refl _) _
      have FO' := (OFs.up FO b0).mono (X' := fun b => (W0.heap.size ≤ b ∧ b < (wx.alloc (.cells #[.slice none 0 0, .slice none 0 0, .slice none 0 0, .slice none 0 0, .slice none 0 0, .slice none 0 0, .slice none 0 0] 39)).heap.size) ∧ b ≠ wx.heap.size) (fun b hb => ⟨⟨hb.1.1, by have := hb.1.2; simp; omega⟩, by have := hb.1.2; omega⟩)
      go_simp
      refine hK.out _ _ (HZ.out _ (FB.alloc hlo _)) (fun _ => ?_)
      clear hK K
      simp only [List.setIfInBounds_toArray, List.set_cons_zero, List.set_cons_succ]
      exact ofG 5 _ _ _ (st3101 (wx.alloc (.cells #[.slice none 0 0, .slice none 0 0, .slice none 0 0, .slice none 0 0, .slice none 0 0, .slice none 0 0, .slice none 0 0] 39)) s0 s1 t0 t1 s2 t2 g6 s4 t4 wx.heap.size ⟨(FB.alloc hlo _), (FO'), (⟨(MapKept.heap_alloc wx _).1, hlo⟩), trivial⟩)
  have st0111 : ∀ (wx : World) (g6 : Nat) (g10 : Nat) (g18 : Nat), Hid ((Below W0.heap.size W0 wx) ∧ (OFs wx [.int .i64 0, .int .i64 0, .int .i64 0, .slice (some ⟨g6, 0, none⟩) 0 0, .slice (some ⟨g10, 0, none⟩) 0 0, .int .i64 0] [.int 0, .int 0, .int 0, .row [], .row [], .int 0] (fun b => (W0.heap.size ≤ b ∧ b < wx.heap.size) ∧ b ≠ g18)) ∧ (wx.heap[g6]? = some (.cells #[] 3) ∧ W0.heap.size ≤ g6) ∧ (wx.heap[g10]? = some (.cells #[] 3) ∧ W0.heap.size ≤ g10) ∧ (wx.heap[g18]? = some (.cells #[.slice none 0 0, .slice none 0 0, .slice none 0 0, .slice none 0 0, .slice none 0 0, .slice none 0 0, .slice none 0 0] 39) ∧ W0.heap.size ≤ g18) ∧ (g6 ≠ g10) ∧ (g6 ≠ g18) ∧ (g10 ≠ g18) ∧ True) → G 7 #[true, true, false, true, true, false, true, true, true, false, true, true, true, false, true, true, false, false, true, false] #[.agg #[.slice p0 x0.length c0, .slice p1 x1.length c1, .slice p2 x2.length c2, .slice p3 x3.length c3, .slice p4 x4.length c4, .slice p5 x5.length c5, .slice p6 x6.length c6], .pointer (some ⟨w.heap.size, 0, none⟩), .pointer (some ⟨w.heap.size + 1, 0, none⟩), .pointer (some ⟨g18, 0, none⟩), undef, .pointer (some ⟨w.heap.size, 0, none⟩), .agg #[.slice p0 x0.length c0, .slice p1 x1.length c1], undef, .pointer (some ⟨w.heap.size, 2, none⟩), .slice p2 x2.length c2, undef, .slice (some ⟨g6, 0, none⟩) 0 0, .pointer (some ⟨w.heap.size, 4, none⟩), .slice p4 x4.length c4, undef, .slice (some ⟨g10, 0, none⟩) 0 0, .pointer (some ⟨w.heap.size, 5, none⟩), .slice p5 x5.length c5, undef, .pointer (some ⟨w.heap.size, 6, none⟩), .slice p6 x6.length c6, undef, undef, undef, undef, undef, undef, undef, undef, undef, undef, undef, undef, undef, undef, undef, undef, undef, undef, undef, undef, undef] wx := by
    intro wx g6 g10 g18 HF
    refine toG _ _ _ _ ?_
    refine wpAnyH_ready (rs := [2]) (by kernel_rfl) (by simp) ?_
    refine AllReadyH.cons rfl (fun K hK => ?_) AllReadyH.nil
    · obtain ⟨FB, FO, F6, F10, F18, N1, N2, N3, -⟩ := HF.out
      have hXl : ∀ b, (fun b => (W0.heap.size ≤ b ∧ b < wx.heap.size) ∧ b ≠ g18) b → b < wx.heap.size := fun b hb => hb.1.2
      have hlo := FB.size
      have bw : Below w.heap.size w wx := HS.out.1.trans (FB.mono HS.out.1.size)
      refine step_call1 rfl 57 (.tmp 6) _ rfl (enters_of Try.func57 (by kernel_rfl) rfl) (.agg #[.slice p0 x0.length c0, .slice p1 x1.length c1]) (by simp [Act.eval]) (fun r w' => ∃ us : List Value, r = .agg us.toArray ∧ OFs w' us [.row x0, .row x1] (Btw wx.heap.size w'.heap.size) ∧ Below wx.heap.size wx w') ((l06CopyTable_dt [.slice p0 x0.length c0, .slice p1 x1.length c1] [.row x0, .row x1] S _ ⟨_, _, rfl, q0, q1⟩ ⟨HA.out.1.up bw, HA.out.2.1.up bw, trivial⟩ (by rw [show Dt.bulkR [.row x0, .row x1] = Dt.bulkS x0 + Dt.bulkS x1 from (by simp [Dt.bulkR, Dt.bulk])]; omega)).mono (fun e w' ⟨us, he, h1, h2⟩ => ⟨_, he, us, rfl, h1, h2⟩)) ?_
      rintro r w' ⟨us, rfl, N, b1⟩
      obtain ⟨v0, v1, rfl, k0, k1⟩ := fs2 N.at
      obtain ⟨s0, t0, rfl⟩ := k0.form
      obtain ⟨s1, t1, rfl⟩ := k1.form
      obtain ⟨X1, X2, h1, h2, h3, -, X3, X4, h4, h5, h6, -, h7⟩ := FO
      have FO0 : OFs w' ([.slice s0 x0.length t0, .slice s1 x1.length t1] ++ [.int .i64 0, .slice (some ⟨g6, 0, none⟩) 0 0, .slice (some ⟨g10, 0, none⟩) 0 0, .int .i64 0]) ([.row x0, .row x1] ++ [.int 0, .row [], .row [], .int 0]) (fun b => (fun b => (W0.heap.size ≤ b ∧ b < wx.heap.size) ∧ b ≠ g18) b ∨ Btw wx.heap.size w'.heap.size b) := OFs.join (fun b hb => .inr hb) (fun b hb => .inl (h2 b (h5 b hb))) (fun b hb hb' => by have := hXl b (h2 b (h5 b hb')); have := hb.1; omega) N (OFs.up h7 b1)
      have FO' := FO0.mono (X' := (fun b => (W0.heap.size ≤ b ∧ b < w'.heap.size) ∧ b ≠ g18)) (fun b hb => by
        rcases hb with hb | hb
        · exact ⟨⟨hb.1.1, Nat.lt_of_lt_of_le hb.1.2 b1.size⟩, hb.2⟩
        · exact ⟨⟨Nat.le_trans hlo hb.1, hb.2⟩, (by have := hb.1; have := lt_heap F18.1; omega)⟩)
      refine hK.out _ _ (HZ.out _ (FB.trans (b1.mono hlo))) (fun _ => ?_)
      clear hK K
      simp only [Act.put, List.getElem_toArray, List.getElem_cons_zero, List.getElem_cons_succ, List.setIfInBounds_toArray, List.set_cons_zero, List.set_cons_succ]
      exact ofG 6 _ _ _ (st1111 w' s0 s1 t0 t1 g6 g10 g18 ⟨(FB.trans (b1.mono hlo)), (FO'), (⟨(b1.block _ (lt_heap F6.1)).trans F6.1, F6.2⟩), (⟨(b1.block _ (lt_heap F10.1)).trans F10.1, F10.2⟩), (⟨(b1.block _ (lt_heap F18.1)).trans F18.1, F18.2⟩), (N1), (N2), (N3), trivial⟩)
  have st1011 : ∀ (wx : World) (s0 s1 : Option Addr) (t0 t1 : Nat) (g10 : Nat) (g18 : Nat), Hid ((Below W0.heap.size W0 wx) ∧ (OFs wx [.slice s0 x0.length t0, .slice s1 x1.length t1, .int .i64 0, .int .i64 0, .slice (some ⟨g10, 0, none⟩) 0 0, .int .i64 0] [.row x0, .row x1, .int 0, .int 0, .row [], .int 0] (fun b => (W0.heap.size ≤ b ∧ b < wx.heap.size) ∧ b ≠ g18)) ∧ (wx.heap[g10]? = some (.cells #[] 3) ∧ W0.heap.size ≤ g10) ∧ (wx.heap[g18]? = some (.cells #[.slice none 0 0, .slice none 0 0, .slice none 0 0, .slice none 0 0, .slice none 0 0, .slice none 0 0, .slice none 0 0] 39) ∧ W0.heap.size ≤ g18) ∧ (g10 ≠ g18) ∧ True) → G 7 #[true, true, true, true, true, false, false, true, true, false, true, true, true, false, true, true, false, false, true, false] #[.agg #[.slice p0 x0.length c0, .slice p1 x1.length c1, .slice p2 x2.length c2, .slice p3 x3.length c3, .slice p4 x4.length c4, .slice p5 x5.length c5, .slice p6 x6.length c6], .pointer (some ⟨w.heap.size, 0, none⟩), .pointer (some ⟨w.heap.size + 1, 0, none⟩), .pointer (some ⟨g18, 0, none⟩), undef, .pointer (some ⟨w.heap.size, 0, none⟩), .agg #[.slice p0 x0.length c0, .slice p1 x1.length c1], .agg #[.slice s0 x0.length t0, .slice s1 x1.length t1], .pointer (some ⟨w.heap.size, 2, none⟩), .slice p2 x2.length c2, undef, undef, .pointer (some ⟨w.heap.size, 4, none⟩), .slice p4 x4.length c4, undef, .slice (some ⟨g10, 0, none⟩) 0 0, .pointer (some ⟨w.heap.size, 5, none⟩), .slice p5 x5.length c5, undef, .pointer (some ⟨w.heap.size, 6, none⟩), .slice p6 x6.length c6, undef, undef, undef, undef, undef, undef, undef, undef, undef, undef, undef, undef, undef, undef, undef, undef, undef, undef, undef, undef, undef] wx := by
    intro wx s0 s1 t0 t1 g10 g18 HF
    refine toG _ _ _ _ ?_
    refine wpAnyH_ready (rs := [5, 6]) (by kernel_rfl) (by simp) ?_
    refine AllReadyH.cons rfl (fun K hK => ?_) (AllReadyH.cons rfl (fun K hK => ?_) AllReadyH.nil)
    · obtain ⟨FB, FO, F10, F18, N3, -⟩ := HF.out
      have hXl : ∀ b, (fun b => (W0.heap.size ≤ b ∧ b < wx.heap.size) ∧ b ≠ g18) b → b < wx.heap.size := fun b hb => hb.1.2
      have hlo := FB.size
      have bw : Below w.heap.size w wx := HS.out.1.trans (FB.mono HS.out.1.size)
      refine step_call1 rfl 58 (.tmp 9) _ rfl (enters_of Try.func58 (by kernel_rfl) rfl) (.slice p2 x2.length c2) (by simp [Act.eval]) (fun r w' => Own w' r (.row x2) (Btw wx.heap.size w'.heap.size) ∧ Below wx.heap.size wx w') ((l05Copy_dt _ x2 S _ q2 (HA.out.2.2.1.up bw) (by omega)).mono (fun e w' ⟨u, he, h1, h2⟩ => ⟨u, he, h1, h2⟩)) ?_
      rintro r w' ⟨N, b1⟩
      obtain ⟨s2, t2, rfl⟩ := N.form
      have FO' := (OFs.put 2 FO hXl b1 N).mono (X' := (fun b => (W0.heap.size ≤ b ∧ b < w'.heap.size) ∧ b ≠ g18)) (fun b hb => by
        rcases hb with hb | hb
        · exact ⟨⟨hb.1.1, Nat.lt_of_lt_of_le hb.1.2 b1.size⟩, hb.2⟩
        · exact ⟨⟨Nat.le_trans hlo hb.1, hb.2⟩, (by have := hb.1; have := lt_heap F18.1; omega)⟩)
      refine hK.out _ _ (HZ.out _ (FB.trans (b1.mono hlo))) (fun _ => ?_)
      clear hK K
      simp only [Act.put, List.getElem_toArray, List.getElem_cons_zero, List.getElem_cons_succ, List.setIfInBounds_toArray, List.set_cons_zero, List.set_cons_succ]
      exact ofG 6 _ _ _ (st2011 w' s0 s1 t0 t1 s2 t2 g10 g18 ⟨(FB.trans (b1.mono hlo)), (FO'), (⟨(b1.block _ (lt_heap F10.1)).trans F10.1, F10.2⟩), (⟨(b1.block _ (lt_heap F18.1)).trans F18.1, F18.2⟩), (N3), trivial⟩)
    · obtain ⟨FB, FO, F10, F18, N3, -⟩ := HF.out
      have hXl : ∀ b, (fun b => (W0.heap.size ≤ b ∧ b < wx.heap.size) ∧ b ≠ g18) b → b < wx.heap.size := fun b hb => hb.1.2
      have hlo := FB.size
      have b0 : Below wx.heap.size wx (wx.alloc (.cells #[] 3)) := (Below.refl _ wx).alloc (Nat.le_refl _) _
      have FO' := (OFs.put 3 FO hXl b0 (own_empty wx 3)).mono (X' := (fun b => (W0.heap.size ≤ b ∧ b < (wx.alloc (.cells #[] 3)).heap.size) ∧ b ≠ g18)) (fun b hb => by
        rcases hb with hb | hb
        · exact ⟨⟨hb.1.1, by have := hb.1.2; simp; omega⟩, hb.2⟩
        · exact ⟨⟨by have := hb.1; omega, hb.2⟩, (by have := hb.1; have := lt_heap F18.1; omega)⟩)
      go_simp
      refine hK.out _ _ (HZ.out _ (FB.alloc hlo _)) (fun _ => ?_)
      clear hK K
      simp only [List.setIfInBounds_toArray, List.set_cons_zero, List.set_cons_succ]
      exact ofG 6 _ _ _ (st1111 (wx.alloc (.cells #[] 3)) s0 s1 t0 t1 wx.heap.size g10 g18 ⟨(FB.alloc hlo _), (FO'), (⟨(MapKept.heap_alloc wx _).1, hlo⟩), (⟨(b0.block _ (lt_heap F10.1)).trans F10.1, F10.2⟩), (⟨(b0.block _ (lt_heap F18.1)).trans F18.1, F18.2⟩), (by have := lt_heap F10.1; omega), (by have := lt_heap F18.1; omega), (N3), trivial⟩)
  have st1101 : ∀ (wx : World) (s0 s1 : Option Addr) (t0 t1 : Nat) (g6 : Nat) (g18 : Nat), Hid ((Below W0.heap.size W0 wx) ∧ (OFs wx [.slice s0 x0.length t0, .slice s1 x1.length t1, .int .i64 0, .slice (some ⟨g6, 0, none⟩) 0 0, .int .i64 0, .int .i64 0] [.row x0, .row x1, .int 0, .row [], .int 0, .int 0] (fun b => (W0.heap.size ≤ b ∧ b < wx.heap.size) ∧ b ≠ g18)) ∧ (wx.heap[g6]? = some (.cells #[] 3) ∧ W0.heap.size ≤ g6) ∧ (wx.heap[g18]? = some (.cells #[.slice none 0 0, .slice none 0 0, .slice none 0 0, .slice none 0 0, .slice none 0 0, .slice none 0 0, .slice none 0 0] 39) ∧ W0.heap.size ≤ g18) ∧ (g6 ≠ g18) ∧ True) → G 7 #[true, true, true, true, true, false, true, true, true, false, false, true, true, false, true, true, false, false, true, false] #[.agg #[.slice p0 x0.length c0, .slice p1 x1.length c1, .slice p2 x2.length c2, .slice p3 x3.length c3, .slice p4 x4.length c4, .slice p5 x5.length c5, .slice p6 x6.length c6], .pointer (some ⟨w.heap.size, 0, none⟩), .pointer (some ⟨w.heap.size + 1, 0, none⟩), .pointer (some ⟨g18, 0, none⟩), undef, .pointer (some ⟨w.heap.size, 0, none⟩), .agg #[.slice p0 x0.length c0, .slice p1 x1.length c1], .agg #[.slice s0 x0.length t0, .slice s1 x1.length t1], .pointer (some ⟨w.heap.size, 2, none⟩), .slice p2 x2.length c2, undef, .slice (some ⟨g6, 0, none⟩) 0 0, .pointer (some ⟨w.heap.size, 4, none⟩), .slice p4 x4.length c4, undef, undef, .pointer (some ⟨w.heap.size, 5, none⟩), .slice p5 x5.length c5, undef, .pointer (some ⟨w.heap.size, 6, none⟩), .slice p6 x6.length c6, undef, undef, undef, undef, undef, undef, undef, undef, undef, undef, undef, undef, undef, undef, undef, undef, undef, undef, undef, undef, undef] wx := by
    intro wx s0 s1 t0 t1 g6 g18 HF
    refine toG _ _ _ _ ?_
    refine wpAnyH_ready (rs := [5, 10]) (by kernel_rfl) (by simp) ?_
    refine AllReadyH.cons rfl (fun K hK => ?_) (AllReadyH.cons rfl (fun K hK => ?_) AllReadyH.nil)
    · obtain ⟨FB, FO, F6, F18, N2, -⟩ := HF.out
      have hXl : ∀ b, (fun b => (W0.heap.size ≤ b ∧ b < wx.heap.size) ∧ b ≠ g18) b → b < wx.heap.size := fun b hb => hb.1.2
      have hlo := FB.size
      have bw : Below w.heap.size w wx := HS.out.1.trans (FB.mono HS.out.1.size)
      refine step_call1 rfl 58 (.tmp 9) _ rfl (enters_of Try.func58 (by kernel_rfl) rfl) (.slice p2 x2.length c2) (by simp [Act.eval]) (fun r w' => Own w' r (.row x2) (Btw wx.heap.size w'.heap.size) ∧ Below wx.heap.size wx w') ((l05Copy_dt _ x2 S _ q2 (HA.out.2.2.1.up bw) (by omega)).mono (fun e w' ⟨u, he, h1, h2⟩ => ⟨u, he, h1, h2⟩)) ?_
      rintro r w' ⟨N, b1⟩
      obtain ⟨s2, t2, rfl⟩ := N.form
      have FO' := (OFs.put 2 FO hXl b1 N).mono (X' := (fun b => (W0.heap.size ≤ b ∧ b < w'.heap.size) ∧ b ≠ g18)) (fun b hb => by
        rcases hb with hb | hb
        · exact ⟨⟨hb.1.1, Nat.lt_of_lt_of_le hb.1.2 b1.size⟩, hb.2⟩
        · exact ⟨⟨Nat.le_trans hlo hb.1, hb.2⟩, (by have := hb.1; have := lt_heap F18.1; omega)⟩)
      refine hK.out _ _ (HZ.out _ (FB.trans (b1.mono hlo))) (fun _ => ?_)
      clear hK K
      simp only [Act.put, List.getElem_toArray, List.getElem_cons_zero, List.getElem_cons_succ, List.setIfInBounds_toArray, List.set_cons_zero, List.set_cons_succ]
      exact ofG 6 _ _ _ (st2101 w' s0 s1 t0 t1 s2 t2 g6 g18 ⟨(FB.trans (b1.mono hlo)), (FO'), (⟨(b1.block _ (lt_heap F6.1)).trans F6.1, F6.2⟩), (⟨(b1.block _ (lt_heap F18.1)).trans F18.1, F18.2⟩), (N2), trivial⟩)
    · obtain ⟨FB, FO, F6, F18, N2, -⟩ := HF.out
      have hXl : ∀ b, (fun b => (W0.heap.size ≤ b ∧ b < wx.heap.size) ∧ b ≠ g18) b → b < wx.heap.size := fun b hb => hb.1.2
      have hlo := FB.size
      have b0 : Below wx.heap.size wx (wx.alloc (.cells #[] 3)) := (Below.refl _ wx).alloc (Nat.le_refl _) _
      have FO' := (OFs.put 4 FO hXl b0 (own_empty wx 3)).mono (X' := (fun b => (W0.heap.size ≤ b ∧ b < (wx.alloc (.cells #[] 3)).heap.size) ∧ b ≠ g18)) (fun b hb => by
        rcases hb with hb | hb
        · exact ⟨⟨hb.1.1, by have := hb.1.2; simp; omega⟩, hb.2⟩
        · exact ⟨⟨by have := hb.1; omega, hb.2⟩, (by have := hb.1; have := lt_heap F18.1; omega)⟩)
      go_simp
      refine hK.out _ _ (HZ.out _ (FB.alloc hlo _)) (fun _ => ?_)
      clear hK K
      simp only [List.setIfInBounds_toArray, List.set_cons_zero, List.set_cons_succ]
      exact ofG 6 _ _ _ (st1111 (wx.alloc (.cells #[] 3)) s0 s1 t0 t1 g6 wx.heap.size g18 ⟨(FB.alloc hlo _), (FO'), (⟨(b0.block _ (lt_heap F6.1)).trans F6.1, F6.2⟩), (⟨(MapKept.heap_alloc wx _).1, hlo⟩), (⟨(b0.block _ (lt_heap F18.1)).trans F18.1, F18.2⟩), (by have := lt_heap F6.1; omega), (N2), (by have := lt_heap F18.1; omega), trivial⟩)
  have st1110 : ∀ (wx : World) (s0 s1 : Option Addr) (t0 t1 : Nat) (g6 : Nat) (g10 : Nat), Hid ((Below W0.heap.size W0 wx) ∧ (OFs wx [.slice s0 x0.length t0, .slice s1 x1.length t1, .int .i64 0, .slice (some ⟨g6, 0, none⟩) 0 0, .slice (some ⟨g10, 0, none⟩) 0 0, .int .i64 0] [.row x0, .row x1, .int 0, .row [], .row [], .int 0] (fun b => (W0.heap.size ≤ b ∧ b < wx.heap.size) ∧ True)) ∧ (wx.heap[g6]? = some (.cells #[] 3) ∧ W0.heap.size ≤ g6) ∧ (wx.heap[g10]? = some (.cells #[] 3) ∧ W0.heap.size ≤ g10) ∧ (g6 ≠ g10) ∧ True) → G 7 #[true, true, true, true, true, false, true, true, true, false, true, true, true, false, true, true, false, false, false, false] #[.agg #[.slice p0 x0.length c0, .slice p1 x1.length c1, .slice p2 x2.length c2, .slice p3 x3.length c3, .slice p4 x4.length c4, .slice p5 x5.length c5, .slice p6 x6.length c6], .pointer (some ⟨w.heap.size, 0, none⟩), .pointer (some ⟨w.heap.size + 1, 0, none⟩), undef, undef, .pointer (some ⟨w.heap.size, 0, none⟩), .agg #[.slice p0 x0.length c0, .slice p1 x1.length c1], .agg #[.slice s0 x0.length t0, .slice s1 x1.length t1], .pointer (some ⟨w.heap.size, 2, none⟩), .slice p2 x2.length c2, undef, .slice (some ⟨g6, 0, none⟩) 0 0, .pointer (some ⟨w.heap.size, 4, none⟩), .slice p4 x4.length c4, undef, .slice (some ⟨g10, 0, none⟩) 0 0, .pointer (some ⟨w.heap.size, 5, none⟩), .slice p5 x5.length c5, undef, .pointer (some ⟨w.heap.size, 6, none⟩), .slice p6 x6.length c6, undef, undef, undef, undef, undef, undef, undef, undef, undef, undef, undef, undef, undef, undef, undef, undef, undef, undef, undef, undef, undef] wx := by
    intro wx s0 s1 t0 t1 g6 g10 HF
    refine toG _ _ _ _ ?_
    refine wpAnyH_ready (rs := [5, 18]) (by kernel_rfl) (by simp) ?_
    refine AllReadyH.cons rfl (fun K hK => ?_) (AllReadyH.cons rfl (fun K hK => ?_) AllReadyH.nil)
    · obtain ⟨FB, FO, F6, F10, N1, -⟩ := HF.out
      have hXl : ∀ b, (fun b => (W0.heap.size ≤ b ∧ b < wx.heap.size) ∧ True) b → b < wx.heap.size := fun b hb => hb.1.2
      have hlo := FB.size
      have bw : Below w.heap.size w wx := HS.out.1.trans (FB.mono HS.out.1.size)
      refine step_call1 rfl 58 (.tmp 9) _ rfl (enters_of Try.func58 (by kernel_rfl) rfl) (.slice p2 x2.length c2) (by simp [Act.eval]) (fun r w' => Own w' r (.row x2) (Btw wx.heap.size w'.heap.size) ∧ Below wx.heap.size wx w') ((l05Copy_dt _ x2 S _ q2 (HA.out.2.2.1.up bw) (by omega)).mono (fun e w' ⟨u, he, h1, h2⟩ => ⟨u, he, h1, h2⟩)) ?_
      rintro r w' ⟨N, b1⟩
      obtain ⟨s2, t2, rfl⟩ := N.form
      have FO' := (OFs.put 2 FO hXl b1 N).mono (X' := (fun b => (W0.heap.size ≤ b ∧ b < w'.heap.size) ∧ True)) (fun b hb => by
        rcases hb with hb | hb
        · exact ⟨⟨hb.1.1, Nat.lt_of_lt_of_le hb.1.2 b1.size⟩, hb.2⟩
        · exact ⟨⟨Nat.le_trans hlo hb.1, hb.2⟩, trivial⟩)
      refine hK.out _ _ (HZ.out _ (FB.trans (b1.mono hlo))) (fun _ => ?_)
      clear hK K
      simp only [Act.put, List.getElem_toArray, List.getElem_cons_zero, List.getElem_cons_succ, List.setIfInBounds_toArray, List.set_cons_zero, List.set_cons_succ]
      exact ofG 6 _ _ _ (st2110 w' s0 s1 t0 t1 s2 t2 g6 g10 ⟨(FB.trans (b1.mono hlo)), (FO'), (⟨(b1.block _ (lt_heap F6.1)).trans F6.1, F6.2⟩), (⟨(b1.block _ (lt_heap F10.1)).trans F10.1, F10.2⟩), (N1), trivial⟩)
    · obtain ⟨FB, FO, F6, F10, N1, -⟩ := HF.out
      have hXl : ∀ b, (fun b => (W0.heap.size ≤ b ∧ b < wx.heap.size) ∧ True) b → b < wx.heap.size := fun b hb => hb.1.2
      have hlo := FB.size
      have b0 : Below wx.heap.size wx (wx.alloc (.cells #[.slice none 0 0, .slice none 0 0, .slice none 0 0, .slice none 0 0, .slice none 0 0, .slice none 0 0, .slice none 0 0] 39)) := (Below.refl _ wx).alloc (Nat.le_refl _) _
      have FO' := (OFs.up FO b0).mono (X' := fun b => (W0.heap.size ≤ b ∧ b < (wx.alloc (.cells #[.slice none 0 0, .slice none 0 0, .slice none 0 0, .slice none 0 0, .slice none 0 0, .slice none 0 0, .slice none 0 0] 39)).heap.size) ∧ b ≠ wx.heap.size) (fun b hb => ⟨⟨hb.1.1, by have := hb.1.2; simp; omega⟩, by have := hb.1.2; omega⟩)
      go_simp
      refine hK.out _ _ (HZ.out _ (FB.alloc hlo _)) (fun _ => ?_)
      clear hK K
      simp only [List.setIfInBounds_toArray, List.set_cons_zero, List.set_cons_succ]
      exact ofG 6 _ _ _ (st1111 (wx.alloc (.cells #[.slice none 0 0, .slice none 0 0, .slice none 0 0, .slice none 0 0, .slice none 0 0, .slice none 0 0, .slice none 0 0] 39)) s0 s1 t0 t1 g6 g10 wx.heap.size ⟨(FB.alloc hlo _), (FO'), (⟨(b0.block _ (lt_heap F6.1)).trans F6.1, F6.2⟩), (⟨(b0.block _ (lt_heap F10.1)).trans F10.1, F10.2⟩), (⟨(MapKept.heap_alloc wx _).1, hlo⟩), (N1), (by have := lt_heap F6.1; omega), (by have := lt_heap F10.1; omega), trivial⟩)
  have st2001 : ∀ (wx : World) (s0 s1 : Option Addr) (t0 t1 : Nat) (s2 : Option Addr) (t2 : Nat) (g18 : Nat), Hid ((Below W0.heap.size W0 wx) ∧ (OFs wx [.slice s0 x0.length t0, .slice s1 x1.length t1, .slice s2 x2.length t2, .int .i64 0, .int .i64 0, .int .i64 0] [.row x0, .row x1, .row x2, .int 0, .int 0, .int 0] (fun b => (W0.heap.size ≤ b ∧ b < wx.heap.size) ∧ b ≠ g18)) ∧ (wx.heap[g18]? = some (.cells #[.slice none 0 0, .slice none 0 0, .slice none 0 0, .slice none 0 0, .slice none 0 0, .slice none 0 0, .slice none 0 0] 39) ∧ W0.heap.size ≤ g18) ∧ True) → G 7 #[true, true, true, true, true, true, false, true, true, false, false, true, true, false, true, true, false, false, true, false] #[.agg #[.slice p0 x0.length c0, .slice p1 x1.length c1, .slice p2 x2.length c2, .slice p3 x3.length c3, .slice p4 x4.length c4, .slice p5 x5.length c5, .slice p6 x6.length c6], .pointer (some ⟨w.heap.size, 0, none⟩), .pointer (some ⟨w.heap.size + 1, 0, none⟩), .pointer (some ⟨g18, 0, none⟩), undef, .pointer (some ⟨w.heap.size, 0, none⟩), .agg #[.slice p0 x0.length c0, .slice p1 x1.length c1], .agg #[.slice s0 x0.length t0, .slice s1 x1.length t1], .pointer (some ⟨w.heap.size, 2, none⟩), .slice p2 x2.length c2, .slice s2 x2.length t2, undef, .pointer (some ⟨w.heap.size, 4, none⟩), .slice p4 x4.length c4, undef, undef, .pointer (some ⟨w.heap.size, 5, none⟩), .slice p5 x5.length c5, undef, .pointer (some ⟨w.heap.size, 6, none⟩), .slice p6 x6.length c6, undef, undef, undef, undef, undef, undef, undef, undef, undef, undef, undef, undef, undef, undef, undef, undef, undef, undef, undef, undef, undef] wx := by
    intro wx s0 s1 t0 t1 s2 t2 g18 HF
    refine toG _ _ _ _ ?_
    refine wpAnyH_ready (rs := [6, 10]) (by kernel_rfl) (by simp) ?_
    refine AllReadyH.cons rfl (fun K hK => ?_) (AllReadyH.cons rfl (fun K hK => ?_) AllReadyH.nil)
    · obtain ⟨FB, FO, F18, -⟩ := HF.out
      have hXl : ∀ b, (fun b => (W0.heap.size ≤ b ∧ b < wx.heap.size) ∧ b ≠ g18) b → b < wx.heap.size := fun b hb => hb.1.2
      have hlo := FB.size
      have b0 : Below wx.heap.size wx (wx.alloc (.cells #[] 3)) := (Below.refl _ wx).alloc (Nat.le_refl _) _
      have FO' := (OFs.put 3 FO hXl b0 (own_empty wx 3)).mono (X' := (fun b => (W0.heap.size ≤ b ∧ b < (wx.alloc (.cells #[] 3)).heap.size) ∧ b ≠ g18)) (fun b hb => by
        rcases hb with hb | hb
        · exact ⟨⟨hb.1.1, by have := hb.1.2; simp; omega⟩, hb.2⟩
        · exact ⟨⟨by have := hb.1; omega, hb.2⟩, (by have := hb.1; have := lt_heap F18.1; omega)⟩)
      go_simp
      refine hK.out _ _ (HZ.out _ (FB.alloc hlo _)) (fun _ => ?_)
      clear hK K
      simp only [List.setIfInBounds_toArray, List.set_cons_zero, List.set_cons_succ]
      exact ofG 6 _ _ _ (st2101 (wx.alloc (.cells #[] 3)) s0 s1 t0 t1 s2 t2 wx.heap.size g18 ⟨(FB.alloc hlo _), (FO'), (⟨(MapKept.heap_alloc wx _).1, hlo⟩), (⟨(b0.block _ (lt_heap F18.1)).trans F18.1, F18.2⟩), (by have := lt_heap F18.1; omega), trivial⟩)
    · obtain ⟨FB, FO, F18, -⟩ := HF.out
      have hXl : ∀ b, (fun b => (W0.heap.size ≤ b ∧ b < wx.heap.size) ∧ b ≠ g18) b → b < wx.heap.size := fun b hb => hb.1.2
      have hlo := FB.size
      have b0 : Below wx.heap.size wx (wx.alloc (.cells #[] 3)) := (Below.refl _ wx).alloc (Nat.le_refl _) _
      have FO' := (OFs.put 4 FO hXl b0 (own_empty wx 3)).mono (X' := (fun b => (W0.heap.size ≤ b ∧ b < (wx.alloc (.cells #[] 3)).heap.size) ∧ b ≠ g18)) (fun b hb => by
        rcases hb with hb | hb
        · exact ⟨⟨hb.1.1, by have := hb.1.2; simp; omega⟩, hb.2⟩
        · exact ⟨⟨by have := hb.1; omega, hb.2⟩, (by have := hb.1; have := lt_heap F18.1; omega)⟩)
      go_simp
      refine hK.out _ _ (HZ.out _ (FB.alloc hlo _)) (fun _ => ?_)
      clear hK K
      simp only [List.setIfInBounds_toArray, List.set_cons_zero, List.set_cons_succ]
      exact ofG 6 _ _ _ (st2011 (wx.alloc (.cells #[] 3)) s0 s1 t0 t1 s2 t2 wx.heap.size g18 ⟨(FB.alloc hlo _), (FO'), (⟨(MapKept.heap_alloc wx _).1, hlo⟩), (⟨(b0.block _ (lt_heap F18.1)).trans F18.1, F18.2⟩), (by have := lt_heap F18.1; omega), trivial⟩)
  have st2010 : ∀ (wx : World) (s0 s1 : Option Addr) (t0 t1 : Nat) (s2 : Option Addr) (t2 : Nat) (g10 : Nat), Hid ((Below W0.heap.size W0 wx) ∧ (OFs wx [.slice s0 x0.length t0, .slice s1 x1.length t1, .slice s2 x2.length t2, .int .i64 0, .slice (some ⟨g10, 0, none⟩) 0 0, .int .i64 0] [.row x0, .row x1, .row x2, .int 0, .row [], .int 0] (fun b => (W0.heap.size ≤ b ∧ b < wx.heap.size) ∧ True)) ∧ (wx.heap[g10]? = some (.cells #[] 3) ∧ W0.heap.size ≤ g10) ∧ True) → G 7 #[true, true, true, true, true, true, false, true, true, false, true, true, true, false, true, true, false, false, false, false] #[.agg #[.slice p0 x0.length c0, .slice p1 x1.length c1, .slice p2 x2.length c2, .slice p3 x3.length c3, .slice p4 x4.length c4, .slice p5 x5.length c5, .slice p6 x6.length c6], .pointer (some ⟨w.heap.size, 0, none⟩), .pointer (some ⟨w.heap.size + 1, 0, none⟩), undef, undef, .pointer (some ⟨w.heap.size, 0, none⟩), .agg #[.slice p0 x0.length c0, .slice p1 x1.length c1], .agg #[.slice s0 x0.length t0, .slice s1 x1.length t1], .pointer (some ⟨w.heap.size, 2, none⟩), .slice p2 x2.length c2, .slice s2 x2.length t2, undef, .pointer (some ⟨w.heap.size, 4, none⟩), .slice p4 x4.length c4, undef, .slice (some ⟨g10, 0, none⟩) 0 0, .pointer (some ⟨w.heap.size, 5, none⟩), .slice p5 x5.length c5, undef, .pointer (some ⟨w.heap.size, 6, none⟩), .slice p6 x6.length c6, undef, undef, undef, undef, undef, undef, undef, undef, undef, undef, undef, undef, undef, undef, undef, undef, undef, undef, undef, undef, undef] wx := by
    intro wx s0 s1 t0 t1 s2 t2 g10 HF
    refine toG _ _ _ _ ?_
    refine wpAnyH_ready (rs := [6, 18]) (by kernel_rfl) (by simp) ?_
    refine AllReadyH.cons rfl (fun K hK => ?_) (AllReadyH.cons rfl (fun K hK => ?_) AllReadyH.nil)
    · obtain ⟨FB, FO, F10, -⟩ := HF.out
      have hXl : ∀ b, (fun b => (W0.heap.size ≤ b ∧ b < wx.heap.size) ∧ True) b → b < wx.heap.size := fun b hb => hb.1.2
      have hlo := FB.size
      have b0 : Below wx.heap.size wx (wx.alloc (.cells #[] 3)) := (Below.refl _ wx).alloc (Nat.le_refl _) _
      have FO' := (OFs.put 3 FO hXl b0 (own_empty wx 3)).mono (X' := (fun b => (W0.heap.size ≤ b ∧ b < (wx.alloc (.cells #[] 3)).heap.size) ∧ True)) (fun b hb => by
        rcases hb with hb | hb
        · exact ⟨⟨hb.1.1, by have := hb.1.2; simp; omega⟩, hb.2⟩
        · exact ⟨⟨by have := hb.1; omega, hb.2⟩, trivial⟩)
      go_simp
      refine hK.out _ _ (HZ.out _ (FB.alloc hlo _)) (fun _ => ?_)
      clear hK K
      simp only [List.setIfInBounds_toArray, List.set_cons_zero, List.set_cons_succ]
      exact ofG 6 _ _ _ (st2110 (wx.alloc (.cells #[] 3)) s0 s1 t0 t1 s2 t2 wx.heap.size g10 ⟨(FB.alloc hlo _), (FO'), (⟨(MapKept.heap_alloc wx _).1, hlo⟩), (⟨(b0.block _ (lt_heap F10.1)).trans F10.1, F10.2⟩), (by have := lt_heap F10.1; omega), trivial⟩)
    · obtain ⟨FB, FO, F10, -⟩ := HF.out
      have hXl : ∀ b, (fun b => (W0.heap.size ≤ b ∧ b < wx.heap.size) ∧ True) b → b < wx.heap.size := fun b hb => hb.1.2
      have hlo := FB.size
      have b0 : Below wx.heap.size wx (wx.alloc (.cells #[.slice none 0 0, .slice none 0 0, .slice none 0 0, .slice none 0 0, .slice none 0 0, .slice none 0 0, .slice none 0 0] 39)) := (Below.refl _ wx).alloc (Nat.le_refl _) _
      have FO' := (OFs.up FO b0).mono (X' := fun b => (W0.heap.size ≤ b ∧ b < (wx.alloc (.cells #[.slice none 0 0, .slice none 0 0, .slice none 0 0, .slice none 0 0, .slice none 0 0, .slice none 0 0, .slice none 0 0] 39)).heap.size) ∧ b ≠ wx.heap.size) (fun b hb => ⟨⟨hb.1.1, by have := hb.1.2; simp; omega⟩, by have := hb.1.2; omega⟩)
      go_simp
      refine hK.out _ _ (HZ.out _ (FB.alloc hlo _)) (fun _ => ?_)
      clear hK K
      simp only [List.setIfInBounds_toArray, List.set_cons_zero, List.set_cons_succ]
      exact ofG 6 _ _ _ (st2011 (wx.alloc (.cells #[.slice none 0 0, .slice none 0 0, .slice none 0 0, .slice none 0 0, .slice none 0 0, .slice none 0 0, .slice none 0 0] 39)) s0 s1 t0 t1 s2 t2 g10 wx.heap.size ⟨(FB.alloc hlo _), (FO'), (⟨(b0.block _ (lt_heap F10.1)).trans F10.1, F10.2⟩), (⟨(MapKept.heap_alloc wx _).1, hlo⟩), (by have := lt_heap F10.1; omega), trivial⟩)
  have st2100 : ∀ (wx : World) (s0 s1 : Option Addr) (t0 t1 : Nat) (s2 : Option Addr) (t2 : Nat) (g6 : Nat), Hid ((Below W0.heap.size W0 wx) ∧ (OFs wx [.slice s0 x0.length t0, .slice s1 x1.length t1, .slice s2 x2.length t2, .slice (some ⟨g6, 0, none⟩) 0 0, .int .i64 0, .int .i64 0] [.row x0, .row x1, .row x2, .row [], .int 0, .int 0] (fun b => (W0.heap.size ≤ b ∧ b < wx.heap.size) ∧ True)) ∧ (wx.heap[g6]? = some (.cells #[] 3) ∧ W0.heap.size ≤ g6) ∧ True) → G 7 #[true, true, true, true, true, true, true, true, true, false, false, true, true, false, true, true, false, false, false, false] #[.agg #[.slice p0 x0.length c0, .slice p1 x1.length c1, .slice p2 x2.length c2, .slice p3 x3.length c3, .slice p4 x4.length c4, .slice p5 x5.length c5, .slice p6 x6.length c6], .pointer (some ⟨w.heap.size, 0, none⟩), .pointer (some ⟨w.heap.size + 1, 0, none⟩), undef, undef, .pointer (some ⟨w.heap.size, 0, none⟩), .agg #[.slice p0 x0.length c0, .slice p1 x1.length c1], .agg #[.slice s0 x0.length t0, .slice s1 x1.length t1], .pointer (some ⟨w.heap.size, 2, none⟩), .slice p2 x2.length c2, .slice s2 x2.length t2, .slice (some ⟨g6, 0, none⟩) 0 0, .pointer (some ⟨w.heap.size, 4, none⟩), .slice p4 x4.length c4, undef, undef, .pointer (some ⟨w.heap.size, 5, none⟩), .slice p5 x5.length c5, undef, .pointer (some ⟨w.heap.size, 6, none⟩), .slice p6 x6.length c6, undef, undef, undef, undef, undef, undef, undef, undef, undef, undef, undef, undef, undef, undef, undef, undef, undef, undef, undef, undef, undef] wx := by
    intro wx s0 s1 t0 t1 s2 t2 g6 HF
    refine toG _ _ _ _ ?_
    refine wpAnyH_ready (rs := [9, 10, 18]) (by kernel_rfl) (by simp) ?_
    refine AllReadyH.cons rfl (fun K hK => ?_) (AllReadyH.cons rfl (fun K hK => ?_) (AllReadyH.cons rfl (fun K hK => ?_) AllReadyH.nil))
    · obtain ⟨FB, FO, F6, -⟩ := HF.out
      have hXl : ∀ b, (fun b => (W0.heap.size ≤ b ∧ b < wx.heap.size) ∧ True) b → b < wx.heap.size := fun b hb => hb.1.2
      have hlo := FB.size
      have bw : Below w.heap.size w wx := HS.out.1.trans (FB.mono HS.out.1.size)
      refine step_append_fat rfl (.tmp 11) (.tmp 13) 23 rfl W0.heap.size 3 iI (.int .i64 0) 1 8 Try.underlying23 hiI hzI0 hzI1 hzI2 rfl (by decide) (.slice (some ⟨g6, 0, none⟩) 0 0) 0 [] (by simp [Act.eval]) (row_empty F6.1 F6.2) (.slice p4 x4.length c4) (by simp [Act.eval]) x4 S (HA.out.2.2.2.2.1.up bw) (q4.len IntR.len) (by unfold maxLen; omega) (by omega) hlo ?_
      intro v' w' flat hown hg hat hf
      rw [Nat.zero_add, List.nil_append] at hown
      obtain ⟨s4, t4, rfl⟩ := own_form hown
      have own := (own_atoms hown (q4.len IntR.len) hf (fun i j r d hr hj => (q4 i r hr).atoms j d hj)).mono (X' := fun b => Value.ownBlock (.slice s4 x4.length t4) = some b) (fun b hb => hb.2)
      have FO' := (OFs.rep 3 FO hXl rfl rfl hg own hat).dom.mono (X' := (fun b => (W0.heap.size ≤ b ∧ b < w'.heap.size) ∧ True)) (fun b hb => by
        rcases hb with ⟨hb | hb, hl⟩
        · exact ⟨⟨hb.1.1, hl⟩, hb.2⟩
        · exact ⟨⟨by omega, hl⟩, trivial⟩)
      refine hK.out _ _ (HZ.out _ (Below.grown FB hg hlo (fun k hk => by simp [Value.ownBlock] at hk; have := F6.2; omega))) (fun _ => ?_)
      clear hK K
      simp only [Act.put, List.getElem_toArray, List.getElem_cons_zero, List.getElem_cons_succ, List.setIfInBounds_toArray, List.set_cons_zero, List.set_cons_succ]
      exact ofG 6 _ _ _ (st3100 w' s0 s1 t0 t1 s2 t2 g6 s4 t4 ⟨(Below.grown FB hg hlo (fun k hk => by simp [Value.ownBlock] at hk; have := F6.2; omega)), (FO'), trivial⟩)
    · obtain ⟨FB, FO, F6, -⟩ := HF.out
      have hXl : ∀ b, (fun b => (W0.heap.size ≤ b ∧ b < wx.heap.size) ∧ True) b → b < wx.heap.size := fun b hb => hb.1.2
      have hlo := FB.size
      have b0 : Below wx.heap.size wx (wx.alloc (.cells #[] 3)) := (Below.refl _ wx).alloc (Nat.le_refl _) _
      have FO' := (OFs.put 4 FO hXl b0 (own_empty wx 3)).mono (X' := (fun b => (W0.heap.size ≤ b ∧ b < (wx.alloc (.cells #[] 3)).heap.size) ∧ True)) (fun b hb => by
        rcases hb with hb | hb
        · exact ⟨⟨hb.1.1, by have := hb.1.2; simp; omega⟩, hb.2⟩
        · exact ⟨⟨by have := hb.1; omega, hb.2⟩, trivial⟩)
      go_simp
      refine hK.out _ _ (HZ.out _ (FB.alloc hlo _)) (fun _ => ?_)
      clear hK K
      simp only [List.setIfInBounds_toArray, List.set_cons_zero, List.set_cons_succ]
      exact ofG 6 _ _ _ (st2110 (wx.alloc (.cells #[] 3)) s0 s1 t0 t1 s2 t2 g6 wx.heap.size ⟨(FB.alloc hlo _), (FO'), (⟨(b0.block _ (lt_heap F6.1)).trans F6.1, F6.2⟩), (⟨(MapKept.heap_alloc wx _).1, hlo⟩), (by have := lt_heap F6.1; omega), trivial⟩)
    · obtain ⟨FB, FO, F6, -⟩ := HF.out
      have hXl : ∀ b, (fun b => (W0.heap.size ≤ b ∧ b < wx.heap.size) ∧ True) b → b < wx.heap.size := fun b hb => hb.1.2
      have hlo := FB.size
      have b0 : Below wx.heap.size wx (wx.alloc (.cells #[.slice none 0 0, .slice none 0 0, .slice none 0 0, .slice none 0 0, .slice none 0 0, .slice none 0 0, .slice none 0 0] 39)) := (Below.refl _ wx).alloc (Nat.le_refl _) _
      have FO' := (OFs.up FO b0).mono (X' := fun b => (W0.heap.size ≤ b ∧ b < (wx.alloc (.cells #[.slice none 0 0, .slice none 0 0, .slice none 0 0, .slice none 0 0, .slice none 0 0, .slice none 0 0, .slice none 0 0] 39)).heap.size) ∧ b ≠ wx.heap.size) (fun b hb => ⟨⟨hb.1.1, by have := hb.1.2; simp; omega⟩, by have := hb.1.2; omega⟩)
      go_simp
      refine hK.out _ _ (HZ.out _ (FB.alloc hlo _)) (fun _ => ?_)
      clear hK K
      simp only [List.setIfInBounds_toArray, List.set_cons_zero, List.set_cons_succ]
      exact ofG 6 _ _ _ (st2101 (wx.alloc (.cells #[.slice none 0 0, .slice none 0 0, .slice none 0 0, .slice none 0 0, .slice none 0 0, .slice none 0 0, .slice none 0 0] 39)) s0 s1 t0 t1 s2 t2 g6 wx.heap.size ⟨(FB.alloc hlo _), (FO'), (⟨(b0.block _ (lt_heap F6.1)).trans F6.1, F6.2⟩), (⟨(MapKept.heap_alloc wx _).1, hlo⟩), (by have := lt_heap F6.1; omega), trivial⟩)
  have st0011 : ∀ (wx : World) (g10 : Nat) (g18 : Nat), Hid ((Below W0.heap.size W0 wx) ∧ (OFs wx [.int .i64 0, .int .i64 0, .int .i64 0, .int .i64 0, .slice (some ⟨g10, 0, none⟩) 0 0, .int .i64 0] [.int 0, .int 0, .int 0, .int 0, .row [], .int 0] (fun b => (W0.heap.size ≤ b ∧ b < wx.heap.size) ∧ b ≠ g18)) ∧ (wx.heap[g10]? = some (.cells #[] 3) ∧ W0.heap.size ≤ g10) ∧ (wx.heap[g18]? = some (.cells #[.slice none 0 0, .slice none 0 0, .slice none 0 0, .slice none 0 0, .slice none 0 0, .slice none 0 0, .slice none 0 0] 39) ∧ W0.heap.size ≤ g18) ∧ (g10 ≠ g18) ∧ True) → G 8 #[true, true, false, true, true, false, false, true, true, false, true, true, true, false, true, true, false, false, true, false] #[.agg #[.slice p0 x0.length c0, .slice p1 x1.length c1, .slice p2 x2.length c2, .slice p3 x3.length c3, .slice p4 x4.length c4, .slice p5 x5.length c5, .slice p6 x6.length c6], .pointer (some ⟨w.heap.size, 0, none⟩), .pointer (some ⟨w.heap.size + 1, 0, none⟩), .pointer (some ⟨g18, 0, none⟩), undef, .pointer (some ⟨w.heap.size, 0, none⟩), .agg #[.slice p0 x0.length c0, .slice p1 x1.length c1], undef, .pointer (some ⟨w.heap.size, 2, none⟩), .slice p2 x2.length c2, undef, undef, .pointer (some ⟨w.heap.size, 4, none⟩), .slice p4 x4.length c4, undef, .slice (some ⟨g10, 0, none⟩) 0 0, .pointer (some ⟨w.heap.size, 5, none⟩), .slice p5 x5.length c5, undef, .pointer (some ⟨w.heap.size, 6, none⟩), .slice p6 x6.length c6, undef, undef, undef, undef, undef, undef, undef, undef, undef, undef, undef, undef, undef, undef, undef, undef, undef, undef, undef, undef, undef] wx := by
    intro wx g10 g18 HF
    refine toG _ _ _ _ ?_
    refine wpAnyH_ready (rs := [2, 6]) (by kernel_rfl) (by simp) ?_
    refine AllReadyH.cons rfl (fun K hK => ?_) (AllReadyH.cons rfl (fun K hK => ?_) AllReadyH.nil)
    · obtain ⟨FB, FO, F10, F18, N3, -⟩ := HF.out
      have hXl : ∀ b, (fun b => (W0.heap.size ≤ b ∧ b < wx.heap.size) ∧ b ≠ g18) b → b < wx.heap.size := fun b hb => hb.1.2
      have hlo := FB.size
      have bw : Below w.heap.size w wx := HS.out.1.trans (FB.mono HS.out.1.size)
      refine step_call1 rfl 57 (.tmp 6) _ rfl (enters_of Try.func57 (by kernel_rfl) rfl) (.agg #[.slice p0 x0.length c0, .slice p1 x1.length c1]) (by simp [Act.eval]) (fun r w' => ∃ us : List Value, r = .agg us.toArray ∧ OFs w' us [.row x0, .row x1] (Btw wx.heap.size w'.heap.size) ∧ Below wx.heap.size wx w') ((l06CopyTable_dt [.slice p0 x0.length c0, .slice p1 x1.length c1] [.row x0, .row x1] S _ ⟨_, _, rfl, q0, q1⟩ ⟨HA.out.1.up bw, HA.out.2.1.up bw, trivial⟩ (by rw [show Dt.bulkR [.row x0, .row x1] = Dt.bulkS x0 + Dt.bulkS x1 from (by simp [Dt.bulkR, Dt.bulk])]; omega)).mono (fun e w' ⟨us, he, h1, h2⟩ => ⟨_, he, us, rfl, h1, h2⟩)) ?_
      rintro r w' ⟨us, rfl, N, b1⟩
      obtain ⟨v0, v1, rfl, k0, k1⟩ := fs2 N.at
      obtain ⟨s0, t0, rfl⟩ := k0.form
      obtain ⟨s1, t1, rfl⟩ := k1.form
      obtain ⟨X1, X2, h1, h2, h3, -, X3, X4, h4, h5, h6, -, h7⟩ := FO
      have FO0 : OFs w' ([.slice s0 x0.length t0, .slice s1 x1.length t1] ++ [.int .i64 0, .int .i64 0, .slice (some ⟨g10, 0, none⟩) 0 0, .int .i64 0]) ([.row x0, .row x1] ++ [.int 0, .int 0, .row [], .int 0]) (fun b => (fun b => (W0.heap.size ≤ b ∧ b < wx.heap.size) ∧ b ≠ g18) b ∨ Btw wx.heap.size w'.heap.size b) := OFs.join (fun b hb => .inr hb) (fun b hb => .inl (h2 b (h5 b hb))) (fun b hb hb' => by have := hXl b (h2 b (h5 b hb')); have := hb.1; omega) N (OFs.up h7 b1)
      have FO' := FO0.mono (X' := (fun b => (W0.heap.size ≤ b ∧ b < w'.heap.size) ∧ b ≠ g18)) (fun b hb => by
        rcases hb with hb | hb
        · exact ⟨⟨hb.1.1, Nat.lt_of_lt_of_le hb.1.2 b1.size⟩, hb.2⟩
        · exact ⟨⟨Nat.le_trans hlo hb.1, hb.2⟩, (by have := hb.1; have := lt_heap F18.1; omega)⟩)
      refine hK.out _ _ (HZ.out _ (FB.trans (b1.mono hlo))) (fun _ => ?_)
      clear hK K
      simp only [Act.put, List.getElem_toArray, List.getElem_cons_zero, List.getElem_cons_succ, List.setIfInBounds_toArray, List.set_cons_zero, List.set_cons_succ]
      exact ofG 7 _ _ _ (st1011 w' s0 s1 t0 t1 g10 g18 ⟨(FB.trans (b1.mono hlo)), (FO'), (⟨(b1.block _ (lt_heap F10.1)).trans F10.1, F10.2⟩), (⟨(b1.block _ (lt_heap F18.1)).trans F18.1, F18.2⟩), (N3), trivial⟩)
    · obtain ⟨FB, FO, F10, F18, N3, -⟩ := HF.out
      have hXl : ∀ b, (fun b => (W0.heap.size ≤ b ∧ b < wx.heap.size) ∧ b ≠ g18) b → b < wx.heap.size := fun b hb => hb.1.2
      have hlo := FB.size
      have b0 : Below wx.heap.size wx (wx.alloc (.cells #[] 3)) := (Below.refl _ wx).alloc (Nat.le_refl _) _
      have FO' := (OFs.put 3 FO hXl b0 (own_empty wx 3)).mono (X' := (fun b => (W0.heap.size ≤ b ∧ b < (wx.alloc (.cells #[] 3)).heap.size) ∧ b ≠ g18)) (fun b hb => by
        rcases hb with hb | hb
        · exact ⟨⟨hb.1.1, by have := hb.1.2; simp; omega⟩, hb.2⟩
        · exact ⟨⟨by have := hb.1; omega, hb.2⟩, (by have := hb.1; have := lt_heap F18.1; omega)⟩)
      go_simp
      refine hK.out _ _ (HZ.out _ (FB.alloc hlo _)) (fun _ => ?_)
      clear hK K
      simp only [List.setIfInBounds_toArray, List.set_cons_zero, List.set_cons_succ]
      exact ofG 7 _ _ _ (st0111 (wx.alloc (.cells #[] 3)) wx.heap.size g10 g18 ⟨(FB.alloc hlo _), (FO'), (⟨(MapKept.heap_alloc wx _).1, hlo⟩), (⟨(b0.block _ (lt_heap F10.1)).trans F10.1, F10.2⟩), (⟨(b0.block _ (lt_heap F18.1)).trans F18.1, F18.2⟩), (by have := lt_heap F10.1; omega), (by have := lt_heap F18.1; omega), (N3), trivial⟩)
  have st0101 : ∀ (wx : World) (g6 : Nat) (g18 : Nat), Hid ((Below W0.heap.size W0 wx) ∧ (OFs wx [.int .i64 0, .int .i64 0, .int .i64 0, .slice (some ⟨g6, 0, none⟩) 0 0, .int .i64 0, .int .i64 0] [.int 0, .int 0, .int 0, .row [], .int 0, .int 0] (fun b => (W0.heap.size ≤ b ∧ b < wx.heap.size) ∧ b ≠ g18)) ∧ (wx.heap[g6]? = some (.cells #[] 3) ∧ W0.heap.size ≤ g6) ∧ (wx.heap[g18]? = some (.cells #[.slice none 0 0, .slice none 0 0, .slice none 0 0, .slice none 0 0, .slice none 0 0, .slice none 0 0, .slice none 0 0] 39) ∧ W0.heap.size ≤ g18) ∧ (g6 ≠ g18) ∧ True) → G 8 #[true, true, false, true, true, false, true, true, true, false, false, true, true, false, true, true, false, false, true, false] #[.agg #[.slice p0 x0.length c0, .slice p1 x1.length c1, .slice p2 x2.length c2, .slice p3 x3.length c3, .slice p4 x4.length c4, .slice p5 x5.length c5, .slice p6 x6.length c6], .pointer (some ⟨w.heap.size, 0, none⟩), .pointer (some ⟨w.heap.size + 1, 0, none⟩), .pointer (some ⟨g18, 0, none⟩), undef, .pointer (some ⟨w.heap.size, 0, none⟩), .agg #[.slice p0 x0.length c0, .slice p1 x1.length c1], undef, .pointer (some ⟨w.heap.size, 2, none⟩), .slice p2 x2.length c2, undef, .slice (some ⟨g6, 0, none⟩) 0 0, .pointer (some ⟨w.heap.size, 4, none⟩), .slice p4 x4.length c4, undef, undef, .pointer (some ⟨w.heap.size, 5, none⟩), .slice p5 x5.length c5, undef, .pointer (some ⟨w.heap.size, 6, none⟩), .slice p6 x6.length c6, undef, undef, undef, undef, undef, undef, undef, undef, undef, undef, undef, undef, undef, undef, undef, undef, undef, undef, undef, undef, undef] wx := by
    intro wx g6 g18 HF
    refine toG _ _ _ _ ?_
    refine wpAnyH_ready (rs := [2, 10]) (by kernel_rfl) (by simp) ?_
    refine AllReadyH.cons rfl (fun K hK => ?_) (AllReadyH.cons rfl (fun K hK => ?_) AllReadyH.nil)
    · obtain ⟨FB, FO, F6, F18, N2, -⟩ := HF.out
      have hXl : ∀ b, (fun b => (W0.heap.size ≤ b ∧ b < wx.heap.size) ∧ b ≠ g18) b → b < wx.heap.size := fun b hb => hb.1.2
      have hlo := FB.size
      have bw : Below w.heap.size w wx := HS.out.1.trans (FB.mono HS.out.1.size)
      refine step_call1 rfl 57 (.tmp 6) _ rfl (enters_of Try.func57 (by kernel_rfl) rfl) (.agg #[.slice p0 x0.length c0, .slice p1 x1.length c1]) (by simp [Act.eval]) (fun r w' => ∃ us : List Value, r = .agg us.toArray ∧ OFs w' us [.row x0, .row x1] (Btw wx.heap.size w'.heap.size) ∧ Below wx.heap.size wx w') ((l06CopyTable_dt [.slice p0 x0.length c0, .slice p1 x1.length c1] [.row x0, .row x1] S _ ⟨_, _, rfl, q0, q1⟩ ⟨HA.out.1.up bw, HA.out.2.1.up bw, trivial⟩ (by rw [show Dt.bulkR [.row x0, .row x1] = Dt.bulkS x0 + Dt.bulkS x1 from (by simp [Dt.bulkR, Dt.bulk])]; omega)).mono (fun e w' ⟨us, he, h1, h2⟩ => ⟨_, he, us, rfl, h1, h2⟩)) ?_
      rintro r w' ⟨us, rfl, N, b1⟩
      obtain ⟨v0, v1, rfl, k0, k1⟩ := fs2 N.at
      obtain ⟨s0, t0, rfl⟩ := k0.form
      obtain ⟨s1, t1, rfl⟩ := k1.form
      obtain ⟨X1, X2, h1, h2, h3, -, X3, X4, h4, h5, h6, -, h7⟩ := FO
      have FO0 : OFs w' ([.slice s0 x0.length t0, .slice s1 x1.length t1] ++ [.int .i64 0, .slice (some ⟨g6, 0, none⟩) 0 0, .int .i64 0, .int .i64 0]) ([.row x0, .row x1] ++ [.int 0, .row [], .int 0, .int 0]) (fun b => (fun b => (W0.heap.size ≤ b ∧ b < wx.heap.size) ∧ b ≠ g18) b ∨ Btw wx.heap.size w'.heap.size b) := OFs.join (fun b hb => .inr hb) (fun b hb => .inl (h2 b (h5 b hb))) (fun b hb hb' => by have := hXl b (h2 b (h5 b hb')); have := hb.1; omega) N (OFs.up h7 b1)
      have FO' := FO0.mono (X' := (fun b => (W0.heap.size ≤ b ∧ b < w'.heap.size) ∧ b ≠ g18)) (fun b hb => by
        rcases hb with hb | hb
        · exact ⟨⟨hb.1.1, Nat.lt_of_lt_of_le hb.1.2 b1.size⟩, hb.2⟩
        · exact ⟨⟨Nat.le_trans hlo hb.1, hb.2⟩, (by have := hb.1; have := lt_heap F18.1; omega)⟩)
      refine hK.out _ _ (HZ.out _ (FB.trans (b1.mono hlo))) (fun _ => ?_)
      clear hK K
      simp only [Act.put, List.getElem_toArray, List.getElem_cons_zero, List.getElem_cons_succ, List.setIfInBounds_toArray, List.set_cons_zero, List.set_cons_succ]
      exact ofG 7 _ _ _ (st1101 w' s0 s1 t0 t1 g6 g18 ⟨(FB.trans (b1.mono hlo)), (FO'), (⟨(b1.block _ (lt_heap F6.1)).trans F6.1, F6.2⟩), (⟨(b1.block _ (lt_heap F18.1)).trans F18.1, F18.2⟩), (N2), trivial⟩)
    · obtain ⟨FB, FO, F6, F18, N2, -⟩ := HF.out
      have hXl : ∀ b, (fun b => (W0.heap.size ≤ b ∧ b < wx.heap.size) ∧ b ≠ g18) b → b < wx.heap.size := fun b hb => hb.1.2
      have hlo := FB.size
      have b0 : Below wx.heap.size wx (wx.alloc (.cells #[] 3)) := (Below.refl _ wx).alloc (Nat.le_refl _) _
      have FO' := (OFs.put 4 FO hXl b0 (own_empty wx 3)).mono (X' := (fun b => (W0.heap.size ≤ b ∧ b < (wx.alloc (.cells #[] 3)).heap.size) ∧ b ≠ g18)) (fun b hb => by
        rcases hb with hb | hb
        · exact ⟨⟨hb.1.1, by have := hb.1.2; simp; omega⟩, hb.2⟩
        · exact ⟨⟨by have := hb.1; omega, hb.2⟩, (by have := hb.1; have := lt_heap F18.1; omega)⟩)
      go_simp
      refine hK.out _ _ (HZ.out _ (FB.alloc hlo _)) (fun _ => ?_)
      clear hK K
      simp only [List.setIfInBounds_toArray, List.set_cons_zero, List.set_cons_succ]
      exact ofG 7 _ _ _ (st0111 (wx.alloc (.cells #[] 3)) g6 wx.heap.size g18 ⟨(FB.alloc hlo _), (FO'), (⟨(b0.block _ (lt_heap F6.1)).trans F6.1, F6.2⟩), (⟨(MapKept.heap_alloc wx _).1, hlo⟩), (⟨(b0.block _ (lt_heap F18.1)).trans F18.1, F18.2⟩), (by have := lt_heap F6.1; omega), (N2), (by have := lt_heap F18.1; omega), trivial⟩)
  have st0110 : ∀ (wx : World) (g6 : Nat) (g10 : Nat), Hid ((Below W0.heap.size W0 wx) ∧ (OFs wx [.int .i64 0, .int .i64 0, .int .i64 0, .slice (some ⟨g6, 0, none⟩) 0 0, .slice (some ⟨g10, 0, none⟩) 0 0, .int .i64 0] [.int 0, .int 0, .int 0, .row [], .row [], .int 0] (fun b => (W0.heap.size ≤ b ∧ b < wx.heap.size) ∧ True)) ∧ (wx.heap[g6]? = some (.cells #[] 3) ∧ W0.heap.size ≤ g6) ∧ (wx.heap[g10]? = some (.cells #[] 3) ∧ W0.heap.size ≤ g10) ∧ (g6 ≠ g10) ∧ True) → G 8 #[true, true, false, true, true, false, true, true, true, false, true, true, true, false, true, true, false, false, false, false] #[.agg #[.slice p0 x0.length c0, .slice p1 x1.length c1, .slice p2 x2.length c2, .slice p3 x3.length c3, .slice p4 x4.length c4, .slice p5 x5.length c5, .slice p6 x6.length c6], .pointer (some ⟨w.heap.size, 0, none⟩), .pointer (some ⟨w.heap.size + 1, 0, none⟩), undef, undef, .pointer (some ⟨w.heap.size, 0, none⟩), .agg #[.slice p0 x0.length c0, .slice p1 x1.length c1], undef, .pointer (some ⟨w.heap.size, 2, none⟩), .slice p2 x2.length c2, undef, .slice (some ⟨g6, 0, none⟩) 0 0, .pointer (some ⟨w.heap.size, 4, none⟩), .slice p4 x4.length c4, undef, .slice (some ⟨g10, 0, none⟩) 0 0, .pointer (some ⟨w.heap.size, 5, none⟩), .slice p5 x5.length c5, undef, .pointer (some ⟨w.heap.size, 6, none⟩), .slice p6 x6.length c6, undef, undef, undef, undef, undef, undef, undef, undef, undef, undef, undef, undef, undef, undef, undef, undef, undef, undef, undef, undef, undef] wx := by
    intro wx g6 g10 HF
    refine toG _ _ _ _ ?_
    refine wpAnyH_ready (rs := [2, 18]) (by kernel_rfl) (by simp) ?_
    refine AllReadyH.cons rfl (fun K hK => ?_) (AllReadyH.cons rfl (fun K hK => ?_) AllReadyH.nil)
    · obtain ⟨FB, FO, F6, F10, N1, -⟩ := HF.out
      have hXl : ∀ b, (fun b => (W0.heap.size ≤ b ∧ b < wx.heap.size) ∧ True) b → b < wx.heap.size := fun b hb => hb.1.2
      have hlo := FB.size
      have bw : Below w.heap.size w wx := HS.out.1.trans (FB.mono HS.out.1.size)
      refine step_call1 rfl 57 (.tmp 6) _ rfl (enters_of Try.func57 (by kernel_rfl) rfl) (.agg #[.slice p0 x0.length c0, .slice p1 x1.length c1]) (by simp [Act.eval]) (fun r w' => ∃ us : List Value, r = .agg us.toArray ∧ OFs w' us [.row x0, .row x1] (Btw wx.heap.size w'.heap.size) ∧ Below wx.heap.size wx w') ((l06CopyTable_dt [.slice p0 x0.length c0, .slice p1 x1.length c1] [.row x0, .row x1] S _ ⟨_, _, rfl, q0, q1⟩ ⟨HA.out.1.up bw, HA.out.2.1.up bw, trivial⟩ (by rw [show Dt.bulkR [.row x0, .row x1] = Dt.bulkS x0 + Dt.bulkS x1 from (by simp [Dt.bulkR, Dt.bulk])]; omega)).mono (fun e w' ⟨us, he, h1, h2⟩ => ⟨_, he, us, rfl, h1, h2⟩)) ?_
      rintro r w' ⟨us, rfl, N, b1⟩
      obtain ⟨v0, v1, rfl, k0, k1⟩ := fs2 N.at
      obtain ⟨s0, t0, rfl⟩ := k0.form
      obtain ⟨s1, t1, rfl⟩ := k1.form
      obtain ⟨X1, X2, h1, h2, h3, -, X3, X4, h4, h5, h6, -, h7⟩ := FO
      have FO0 : OFs w' ([.slice s0 x0.length t0, .slice s1 x1.length t1] ++ [.int .i64 0, .slice (some ⟨g6, 0, none⟩) 0 0, .slice (some ⟨g10, 0, none⟩) 0 0, .int .i64 0]) ([.row x0, .row x1] ++ [.int 0, .row [], .row [], .int 0]) (fun b => (fun b => (W0.heap.size ≤ b ∧ b < wx.heap.size) ∧ True) b ∨ Btw wx.heap.size w'.heap.size b) := OFs.join (fun b hb => .inr hb) (fun b hb => .inl (h2 b (h5 b hb))) (fun b hb hb' => by have := hXl b (h2 b (h5 b hb')); have := hb.1; omega) N (OFs.up h7 b1)
      have FO' := FO0.mono (X' := (fun b => (W0.heap.size ≤ b ∧ b < w'.heap.size) ∧ True)) (fun b hb => by
        rcases hb with hb | hb
        · exact ⟨⟨hb.1.1, Nat.lt_of_lt_of_le hb.1.2 b1.size⟩, hb.2⟩
        · exact ⟨⟨Nat.le_trans hlo hb.1, hb.2⟩, trivial⟩)
      refine hK.out _ _ (HZ.out _ (FB.trans (b1.mono hlo))) (fun _ => ?_)
      clear hK K
      simp only [Act.put, List.getElem_toArray, List.getElem_cons_zero, List.getElem_cons_succ, List.setIfInBounds_toArray, List.set_cons_zero, List.set_cons_succ]
      exact ofG 7 _ _ _ (st1110 w' s0 s1 t0 t1 g6 g10 ⟨(FB.trans (b1.mono hlo)), (FO'), (⟨(b1.block _ (lt_heap F6.1)).trans F6.1, F6.2⟩), (⟨(b1.block _ (lt_heap F10.1)).trans F10.1, F10.2⟩), (N1), trivial⟩)
    · obtain ⟨FB, FO, F6, F10, N1, -⟩ := HF.out
      have hXl : ∀ b, (fun b => (W0.heap.size ≤ b ∧ b < wx.heap.size) ∧ True) b → b < wx.heap.size := fun b hb => hb.1.2
      have hlo := FB.size
      have b0 : Below wx.heap.size wx (wx.alloc (.cells #[.slice none 0 0, .slice none 0 0, .slice none 0 0, .slice none 0 0, .slice none 0 0, .slice none 0 0, .slice none 0 0] 39)) := (Below.refl _ wx).alloc (Nat.le_refl _) _
      have FO' := (OFs.up FO b0).mono (X' := fun b => (W0.heap.size ≤ b ∧ b < (wx.alloc (.cells #[.slice none 0 0, .slice none 0 0, .slice none 0 0, .slice none 0 0, .slice none 0 0, .slice none 0 0, .slice none 0 0] 39)).heap.size) ∧ b ≠ wx.heap.size) (fun b hb => ⟨⟨hb.1.1, by have := hb.1.2; simp; omega⟩, by have := hb.1.2; omega⟩)
      go_simp
      refine hK.out _ _ (HZ.out _ (FB.alloc hlo _)) (fun _ => ?_)
      clear hK K
      simp only [List.setIfInBounds_toArray, List.set_cons_zero, List.set_cons_succ]
      exact ofG 7 _ _ _ (st0111 (wx.alloc (.cells #[.slice none 0 0, .slice none 0 0, .slice none 0 0, .slice none 0 0, .slice none 0 0, .slice none 0 0, .slice none 0 0] 39)) g6 g10 wx.heap.size ⟨(FB.alloc hlo _), (FO'), (⟨(b0.block _ (lt_heap F6.1)).trans F6.1, F6.2⟩), (⟨(b0.block _ (lt_heap F10.1)).trans F10.1, F10.2⟩), (⟨(MapKept.heap_alloc wx _).1, hlo⟩), (N1), (by have := lt_heap F6.1; omega), (by have := lt_heap F10.1; omega), trivial⟩)
  have st1001 : ∀ (wx : World) (s0 s1 : Option Addr) (t0 t1 : Nat) (g18 : Nat), Hid ((Below W0.heap.size W0 wx) ∧ (OFs wx [.slice s0 x0.length t0, .slice s1 x1.length t1, .int .i64 0, .int .i64 0, .int .i64 0, .int .i64 0] [.row x0, .row x1, .int 0, .int 0, .int 0, .int 0] (fun b => (W0.heap.size ≤ b ∧ b < wx.heap.size) ∧ b ≠ g18)) ∧ (wx.heap[g18]? = some (.cells #[.slice none 0 0, .slice none 0 0, .slice none 0 0, .slice none 0 0, .slice none 0 0, .slice none 0 0, .slice none 0 0] 39) ∧ W0.heap.size ≤ g18) ∧ True) → G 8 #[true, true, true, true, true, false, false, true, true, false, false, true, true, false, true, true, false, false, true, false] #[.agg #[.slice p0 x0.length c0, .slice p1 x1.length c1, .slice p2 x2.length c2, .slice p3 x3.length c3, .slice p4 x4.length c4, .slice p5 x5.length c5, .slice p6 x6.length c6], .pointer (some ⟨w.heap.size, 0, none⟩), .pointer (some ⟨w.heap.size + 1, 0, none⟩), .pointer (some ⟨g18, 0, none⟩), undef, .pointer (some ⟨w.heap.size, 0, none⟩), .agg #[.slice p0 x0.length c0, .slice p1 x1.length c1], .agg #[.slice s0 x0.length t0, .slice s1 x1.length t1], .pointer (some ⟨w.heap.size, 2, none⟩), .slice p2 x2.length c2, undef, undef, .pointer (some ⟨w.heap.size, 4, none⟩), .slice p4 x4.length c4, undef, undef, .pointer (some ⟨w.heap.size, 5, none⟩), .slice p5 x5.length c5, undef, .pointer (some ⟨w.heap.size, 6, none⟩), .slice p6 x6.length c6, undef, undef, undef, undef, undef, undef, undef, undef, undef, undef, undef, undef, undef, undef, undef, undef, undef, undef, undef, undef, undef] wx := by
    intro wx s0 s1 t0 t1 g18 HF
    refine toG _ _ _ _ ?_
    refine wpAnyH_ready (rs := [5, 6, 10]) (by kernel_rfl) (by simp) ?_
    refine AllReadyH.cons rfl (fun K hK => ?_) (AllReadyH.cons rfl (fun K hK => ?_) (AllReadyH.cons rfl (fun K hK => ?_) AllReadyH.nil))
    · obtain ⟨FB, FO, F18, -⟩ := HF.out
      have hXl : ∀ b, (fun b => (W0.heap.size ≤ b ∧ b < wx.heap.size) ∧ b ≠ g18) b → b < wx.heap.size := fun b hb => hb.1.2
      have hlo := FB.size
      have bw : Below w.heap.size w wx := HS.out.1.trans (FB.mono HS.out.1.size)
      refine step_call1 rfl 58 (.tmp 9) _ rfl (enters_of Try.func58 (by kernel_rfl) rfl) (.slice p2 x2.length c2) (by simp [Act.eval]) (fun r w' => Own w' r (.row x2) (Btw wx.heap.size w'.heap.size) ∧ Below wx.heap.size wx w') ((l05Copy_dt _ x2 S _ q2 (HA.out.2.2.1.up bw) (by omega)).mono (fun e w' ⟨u, he, h1, h2⟩ => ⟨u, he, h1, h2⟩)) ?_
      rintro r w' ⟨N, b1⟩
      obtain ⟨s2, t2, rfl⟩ := N.form
      have FO' := (OFs.put 2 FO hXl b1 N).mono (X' := (fun b => (W0.heap.size ≤ b ∧ b < w'.heap.size) ∧ b ≠ g18)) (fun b hb => by
        rcases hb with hb | hb
        · exact ⟨⟨hb.1.1, Nat.lt_of_lt_of_le hb.1.2 b1.size⟩, hb.2⟩
        · exact ⟨⟨Nat.le_trans hlo hb.1, hb.2⟩, (by have := hb.1; have := lt_heap F18.1; omega)⟩)
      refine hK.out _ _ (HZ.out _ (FB.trans (b1.mono hlo))) (fun _ => ?_)
      clear hK K
      simp only [Act.put, List.getElem_toArray, List.getElem_cons_zero, List.getElem_cons_succ, List.setIfInBounds_toArray, List.set_cons_zero, List.set_cons_succ]
      exact ofG 7 _ _ _ (st2001 w' s0 s1 t0 t1 s2 t2 g18 ⟨(FB.trans (b1.mono hlo)), (FO'), (⟨(b1.block _ (lt_heap F18.1)).trans F18.1, F18.2⟩), trivial⟩)
    · obtain ⟨FB, FO, F18, -⟩ := HF.out
      have hXl : ∀ b, (fun b => (W0.heap.size ≤ b ∧ b < wx.heap.size) ∧ b ≠ g18) b → b < wx.heap.size := fun b hb => hb.1.2
      have hlo := FB.size
      have b0 : Below wx.heap.size wx (wx.alloc (.cells #[] 3)) := (Below.refl _ wx).alloc (Nat.le_refl _) _
      have FO' := (OFs.put 3 FO hXl b0 (own_empty wx 3)).mono (X' := (fun b => (W0.heap.size ≤ b ∧ b < (wx.alloc (.cells #[] 3)).heap.size) ∧ b ≠ g18)) (fun b hb => by
        rcases hb with hb | hb
        · exact ⟨⟨hb.1.1, by have := hb.1.2; simp; omega⟩, hb.2⟩
        · exact ⟨⟨by have := hb.1; omega, hb.2⟩, (by have := hb.1; have := lt_heap F18.1; omega)⟩)
      go_simp
      refine hK.out _ _ (HZ.out _ (FB.alloc hlo _)) (fun _ => ?_)
      clear hK K
      simp only [List.setIfInBounds_toArray, List.set_cons_zero, List.set_cons_succ]
      exact ofG 7 _ _ _ (st1101 (wx.alloc (.cells #[] 3)) s0 s1 t0 t1 wx.heap.size g18 ⟨(FB.alloc hlo _), (FO'), (⟨(MapKept.heap_alloc wx _).1, hlo⟩), (⟨(b0.block _ (lt_heap F18.1)).trans F18.1, F18.2⟩), (by have := lt_heap F18.1; omega), trivial⟩)
    · obtain ⟨FB, FO, F18, -⟩ := HF.out
      have hXl : ∀ b, (fun b => (W0.heap.size ≤ b ∧ b < wx.heap.size) ∧ b ≠ g18) b → b < wx.heap.size := fun b hb => hb.1.2
      have hlo := FB.size
      have b0 : Below wx.heap.size wx (wx.alloc (.cells #[] 3)) := (Below.refl _ wx).alloc (Nat.le_refl _) _
      have FO' := (OFs.put 4 FO hXl b0 (own_empty wx 3)).mono (X' := (fun b => (W0.heap.size ≤ b ∧ b < (wx.alloc (.cells #[] 3)).heap.size) ∧ b ≠ g18)) (fun b hb => by
        rcases hb with hb | hb
        · exact ⟨⟨hb.1.1, by have := hb.1.2; simp; omega⟩, hb.2⟩
        · exact ⟨⟨by have := hb.1; omega, hb.2⟩, (by have := hb.1; have := lt_heap F18.1; omega)⟩)
      go_simp
      refine hK.out _ _ (HZ.out _ (FB.alloc hlo _)) (fun _ => ?_)
      clear hK K
      simp only [List.setIfInBounds_toArray, List.set_cons_zero, List.set_cons_succ]
      exact ofG 7 _ _ _ (st1011 (wx.alloc (.cells #[] 3)) s0 s1 t0 t1 wx.heap.size g18 ⟨(FB.alloc hlo _), (FO'), (⟨(MapKept.heap_alloc wx _).1, hlo⟩), (⟨(b0.block _ (lt_heap F18.1)).trans F18.1, F18.2⟩), (by have := lt_heap F18.1; omega), trivial⟩)
  have st1010 : ∀ (wx : World) (s0 s1 : Option Addr) (t0 t1 : Nat) (g10 : Nat), Hid ((Below W0.heap.size W0 wx) ∧ (OFs wx [.slice s0 x0.length t0, .slice s1 x1.length t1, .int .i64 0, .int .i64 0, .slice (some ⟨g10, 0, none⟩) 0 0, .int .i64 0] [.row x0, .row x1, .int 0, .int 0, .row [], .int 0] (fun b => (W0.heap.size ≤ b ∧ b < wx.heap.size) ∧ True)) ∧ (wx.heap[g10]? = some (.cells #[] 3) ∧ W0.heap.size ≤ g10) ∧ True) → G 8 #[true, true, true, true, true, false, false, true, true, false, true, true, true, false, true, true, false, false, false, false] #[.agg #[.slice p0 x0.length c0, .slice p1 x1.length c1, .slice p2 x2.length c2, .slice p3 x3.length c3, .slice p4 x4.length c4, .slice p5 x5.length c5, .slice p6 x6.length c6], .pointer (some ⟨w.heap.size, 0, none⟩), .pointer (some ⟨w.heap.size + 1, 0, none⟩), undef, undef, .pointer (some ⟨w.heap.size, 0, none⟩), .agg #[.slice p0 x0.length c0, .slice p1 x1.length c1], .agg #[.slice s0 x0.length t0, .slice s1 x1.length t1], .pointer (some ⟨w.heap.size, 2, none⟩), .slice p2 x2.length c2, undef, undef, .pointer (some ⟨w.heap.size, 4, none⟩), .slice p4 x4.length c4, undef, .slice (some ⟨g10, 0, none⟩) 0 0, .pointer (some ⟨w.heap.size, 5, none⟩), .slice p5 x5.length c5, undef, .pointer (some ⟨w.heap.size, 6, none⟩), .slice p6 x6.length c6, undef, undef, undef, undef, undef, undef, undef, undef, undef, undef, undef, undef, undef, undef, undef, undef, undef, undef, undef, undef, undef] wx := by
    intro wx s0 s1 t0 t1 g10 HF
    refine toG _ _ _ _ ?_
    refine wpAnyH_ready (rs := [5, 6, 18]) (by kernel_rfl) (by simp) ?_
    refine AllReadyH.cons rfl (fun K hK => ?_) (AllReadyH.cons rfl (fun K hK => ?_) (AllReadyH.cons rfl (fun K hK => ?_) AllReadyH.nil))
    · obtain ⟨FB, FO, F10, -⟩ := HF.out
      have hXl : ∀ b, (fun b => (W0.heap.size ≤ b ∧ b < wx.heap.size) ∧ True) b → b < wx.heap.size := fun b hb => hb.1.2
      have hlo := FB.size
      have bw : Below w.heap.size w wx := HS.out.1.trans (FB.mono HS.out.1.size)
      refine step_call1 rfl 58 (.tmp 9) _ rfl (enters_of Try.func58 (by kernel_rfl) rfl) (.slice p2 x2.length c2) (by simp [Act.eval]) (fun r w' => Own w' r (.row x2) (Btw wx.heap.size w'.heap.size) ∧ Below wx.heap.size wx w') ((l05Copy_dt _ x2 S _ q2 (HA.out.2.2.1.up bw) (by omega)).mono (fun e w' ⟨u, he, h1, h2⟩ => ⟨u, he, h1, h2⟩)) ?_
      rintro r w' ⟨N, b1⟩
      obtain ⟨s2, t2, rfl⟩ := N.form
      have FO' := (OFs.put 2 FO hXl b1 N).mono (X' := (fun b => (W0.heap.size ≤ b ∧ b < w'.heap.size) ∧ True)) (fun b hb => by
        rcases hb with hb | hb
        · exact ⟨⟨hb.1.1, Nat.lt_of_lt_of_le hb.1.2 b1.size⟩, hb.2⟩
        · exact ⟨⟨Nat.le_trans hlo hb.1, hb.2⟩, trivial⟩)
      refine hK.out _ _ (HZ.out _ (FB.trans (b1.mono hlo))) (fun _ => ?_)
      clear hK K
      simp only [Act.put, List.getElem_toArray, List.getElem_cons_zero, List.getElem_cons_succ, List.setIfInBounds_toArray, List.set_cons_zero, List.set_cons_succ]
      exact ofG 7 _ _ _ (st2010 w' s0 s1 t0 t1 s2 t2 g10 ⟨(FB.trans (b1.mono hlo)), (FO'), (⟨(b1.block _ (lt_heap F10.1)).trans F10.1, F10.2⟩), trivial⟩)
    · obtain ⟨FB, FO, F10, -⟩ := HF.out
      have hXl : ∀ b, (fun b => (W0.heap.size ≤ b ∧ b < wx.heap.size) ∧ True) b → b < wx.heap.size := fun b hb => hb.1.2
      have hlo := FB.size
      have b0 : Below wx.heap.size wx (wx.alloc (.cells #[] 3)) := (Below.refl _ wx).alloc (Nat.le_refl _) _
      have FO' := (OFs.put 3 FO hXl b0 (own_empty wx 3)).mono (X' := (fun b => (W0.heap.size ≤ b ∧ b < (wx.alloc (.cells #[] 3)).heap.size) ∧ True)) (fun b hb => by
        rcases hb with hb | hb
        · exact ⟨⟨hb.1.1, by have := hb.1.2; simp; omega⟩, hb.2⟩
        · exact ⟨⟨by have := hb.1; omega, hb.2⟩, trivial⟩)
      go_simp
      refine hK.out _ _ (HZ.out _ (FB.alloc hlo _)) (fun _ => ?_)
      clear hK K
      simp only [List.setIfInBounds_toArray, List.set_cons_zero, List.set_cons_succ]
      exact ofG 7 _ _ _ (st1110 (wx.alloc (.cells #[] 3)) s0 s1 t0 t1 wx.heap.size g10 ⟨(FB.alloc hlo _), (FO'), (⟨(MapKept.heap_alloc wx _).1, hlo⟩), (⟨(b0.block _ (lt_heap F10.1)).trans F10.1, F10.2⟩), (by have := lt_heap F10.1; omega), trivial⟩)
    · obtain ⟨FB, FO, F10, -⟩ := HF.out
      have hXl : ∀ b, (fun b => (W0.heap.size ≤ b ∧ b < wx.heap.size) ∧ True) b → b < wx.heap.size := fun b hb => hb.1.2
      have hlo := FB.size
      have b0 : Below wx.heap.size wx (wx.alloc (.cells #[.slice none 0 0, .slice none 0 0, .slice none 0 0, .slice none 0 0, .slice none 0 0, .slice none 0 0, .slice none 0 0] 39)) := (Below.refl _ wx).alloc (Nat.le_refl _) _
      have FO' := (OFs.up FO b0).mono (X' := fun b => (W0.heap.size ≤ b ∧ b < (wx.alloc (.cells #[.slice none 0 0, .slice none 0 0, .slice none 0 0, .slice none 0 0, .slice none 0 0, .slice none 0 0, .slice none 0 0] 39)).heap.size) ∧ b ≠ wx.heap.size) (fun b hb => ⟨⟨hb.1.1, by have := hb.1.2; simp; omega⟩, by have := hb.1.2; omega⟩)
      go_simp
      refine hK.out _ _ (HZ.out _ (FB.alloc hlo _)) (fun _ => ?_)
      clear hK K
      simp only [List.setIfInBounds_toArray, List.set_cons_zero, List.set_cons_succ]
      exact ofG 7 _ _ _ (st1011 (wx.alloc (.cells #[.slice none 0 0, .slice none 0 0, .slice none 0 0, .slice none 0 0, .slice none 0 0, .slice none 0 0, .slice none 0 0] 39)) s0 s1 t0 t1 g10 wx.heap.size ⟨(FB.alloc hlo _), (FO'), (⟨(b0.block _ (lt_heap F10.1)).trans F10.1, F10.2⟩), (⟨(MapKept.heap_alloc wx _).1, hlo⟩), (by have := lt_heap F10.1; omega), trivial⟩)
  have st1100 : ∀ (wx : World) (s0 s1 : Option Addr) (t0 t1 : Nat) (g6 : Nat), Hid ((Below W0.heap.size W0 wx) ∧ (OFs wx [.slice s0 x0.length t0, .slice s1 x1.length t1, .int .i64 0, .slice (some ⟨g6, 0, none⟩) 0 0, .int .i64 0, .int .i64 0] [.row x0, .row x1, .int 0, .row [], .int 0, .int 0] (fun b => (W0.heap.size ≤ b ∧ b < wx.heap.size) ∧ True)) ∧ (wx.heap[g6]? = some (.cells #[] 3) ∧ W0.heap.size ≤ g6) ∧ True) → G 8 #[true, true, true, true, true, false, true, true, true, false, false, true, true, false, true, true, false, false, false, false] #[.agg #[.slice p0 x0.length c0, .slice p1 x1.length c1, .slice p2 x2.length c2, .slice p3 x3.length c3, .slice p4 x4.length c4, .slice p5 x5.length c5, .slice p6 x6.length c6], .pointer (some ⟨w.heap.size, 0, none⟩), .pointer (some ⟨w.heap.size + 1, 0, none⟩), undef, undef, .pointer (some ⟨w.heap.size, 0, none⟩), .agg #[.slice p0 x0.length c0, .slice p1 x1.length c1], .agg #[.slice s0 x0.length t0, .slice s1 x1.length t1], .pointer (some ⟨w.heap.size, 2, none⟩), .slice p2 x2.length c2, undef, .slice (some ⟨g6, 0, none⟩) 0 0, .pointer (some ⟨w.heap.size, 4, none⟩), .slice p4 x4.length c4, undef, undef, .pointer (some ⟨w.heap.size, 5, none⟩), .slice p5 x5.length c5, undef, .pointer (some ⟨w.heap.size, 6, none⟩), .slice p6 x6.length c6, undef, undef, undef, undef, undef, undef, undef, undef, undef, undef, undef, undef, undef, undef, undef, undef, undef, undef, undef, undef, undef] wx := by
    intro wx s0 s1 t0 t1 g6 HF
    refine toG _ _ _ _ ?_
    refine wpAnyH_ready (rs := [5, 10, 18]) (by kernel_rfl) (by simp) ?_
    refine AllReadyH.cons rfl (fun K hK => ?_) (AllReadyH.cons rfl (fun K hK => ?_) (AllReadyH.cons rfl (fun K hK => ?_) AllReadyH.nil))
    · obtain ⟨FB, FO, F6, -⟩ := HF.out
      have hXl : ∀ b, (fun b => (W0.heap.size ≤ b ∧ b < wx.heap.size) ∧ True) b → b < wx.heap.size := fun b hb => hb.1.2
      have hlo := FB.size
      have bw : Below w.heap.size w wx := HS.out.1.trans (FB.mono HS.out.1.size)
      refine step_call1 rfl 58 (.tmp 9) _ rfl (enters_of Try.func58 (by kernel_rfl) rfl) (.slice p2 x2.length c2) (by simp [Act.eval]) (fun r w' => Own w' r (.row x2) (Btw wx.heap.size w'.heap.size) ∧ Below wx.heap.size wx w') ((l05Copy_dt _ x2 S _ q2 (HA.out.2.2.1.up bw) (by omega)).mono (fun e w' ⟨u, he, h1, h2⟩ => ⟨u, he, h1, h2⟩)) ?_
      rintro r w' ⟨N, b1⟩
      obtain ⟨s2, t2, rfl⟩ := N.form
      have FO' := (OFs.put 2 FO hXl b1 N).mono (X' := (fun b => (W0.heap.size ≤ b ∧ b < w'.heap.size) ∧ True)) (fun b hb => by
        rcases hb with hb | hb
        · exact ⟨⟨hb.1.1, Nat.lt_of_lt_of_le hb.1.2 b1.size⟩, hb.2⟩
        · exact ⟨⟨Nat.le_trans hlo hb.1, hb.2⟩, trivial⟩)
      refine hK.out _ _ (HZ.out _ (FB.trans (b1.mono hlo))) (fun _ => ?_)
      clear hK K
      simp only [Act.put, List.getElem_toArray, List.getElem_cons_zero, List.getElem_cons_succ, List.setIfInBounds_toArray, List.set_cons_zero, List.set_cons_succ]
      exact ofG 7 _ _ _ (st2100 w' s0 s1 t0 t1 s2 t2 g6 ⟨(FB.trans (b1.mono hlo)), (FO'), (⟨(b1.block _ (lt_heap F6.1)).trans F6.1, F6.2⟩), trivial⟩)
    · obtain ⟨FB, FO, F6, -⟩ := HF.out
      have hXl : ∀ b, (fun b => (W0.heap.size ≤ b ∧ b < wx.heap.size) ∧ True) b → b < wx.heap.size := fun b hb => hb.1.2
      have hlo := FB.size
      have b0 : Below wx.heap.size wx (wx.alloc (.cells #[] 3)) := (Below.refl _ wx).alloc (Nat.le_refl _) _
      have FO' := (OFs.put 4 FO hXl b0 (own_empty wx 3)).mono (X' := (fun b => (W0.heap.size ≤ b ∧ b < (wx.alloc (.cells #[] 3)).heap.size) ∧ True)) (fun b hb => by
        rcases hb with hb | hb
        · exact ⟨⟨hb.1.1, by have := hb.1.2; simp; omega⟩, hb.2⟩
        · exact ⟨⟨by have := hb.1; omega, hb.2⟩, trivial⟩)
      go_simp
      refine hK.out _ _ (HZ.out _ (FB.alloc hlo _)) (fun _ => ?_)
      clear hK K
      simp only [List.setIfInBounds_toArray, List.set_cons_zero, List.set_cons_succ]
      exact ofG 7 _ _ _ (st1110 (wx.alloc (.cells #[] 3)) s0 s1 t0 t1 g6 wx.heap.size ⟨(FB.alloc hlo _), (FO'), (⟨(b0.block _ (lt_heap F6.1)).trans F6.1, F6.2⟩), (⟨(MapKept.heap_alloc wx _).1, hlo⟩), (by have := lt_heap F6.1; omega), trivial⟩)
    · obtain ⟨FB, FO, F6, -⟩ := HF.out
      have hXl : ∀ b, (fun b => (W0.heap.size ≤ b ∧ b < wx.heap.size) ∧ True) b → b < wx.heap.size := fun b hb => hb.1.2
      have hlo := FB.size
      have b0 : Below wx.heap.size wx (wx.alloc (.cells #[.slice none 0 0, .slice none 0 0, .slice none 0 0, .slice none 0 0, .slice none 0 0, .slice none 0 0, .slice none 0 0] 39)) := (Below.refl _ wx).alloc (Nat.le_refl _) _
      have FO' := (OFs.up FO b0).mono (X' := fun b => (W0.heap.size ≤ b ∧ b < (wx.alloc (.cells #[.slice none 0 0, .slice none 0 0, .slice none 0 0, .slice none 0 0, .slice none 0 0, .slice none 0 0, .slice none 0 0] 39)).heap.size) ∧ b ≠ wx.heap.size) (fun b hb => ⟨⟨hb.1.1, by have := hb.1.2; simp; omega⟩, by have := hb.1.2; omega⟩)
      go_simp
      refine hK.out _ _ (HZ.out _ (FB.alloc hlo _)) (fun _ => ?_)
      clear hK K
      simp only [List.setIfInBounds_toArray, List.set_cons_zero, List.set_cons_succ]
      exact ofG 7 _ _ _ (st1101 (wx.alloc (.cells #[.slice none 0 0, .slice none 0 0, .slice none 0 0, .slice none 0 0, .slice none 0 0, .slice none 0 0, .slice none 0 0] 39)) s0 s1 t0 t1 g6 wx.heap.size ⟨(FB.alloc hlo _), (FO'), (⟨(b0.block _ (lt_heap F6.1)).trans F6.1, F6.2⟩), (⟨(MapKept.heap_alloc wx _).1, hlo⟩), (by have := lt_heap F6.1; omega), trivial⟩)
  have st2000 : ∀ (wx : World) (s0 s1 : Option Addr) (t0 t1 : Nat) (s2 : Option Addr) (t2 : Nat), Hid ((Below W0.heap.size W0 wx) ∧ (OFs wx [.slice s0 x0.length t0, .slice s1 x1.length t1, .slice s2 x2.length t2, .int .i64 0, .int .i64 0, .int .i64 0] [.row x0, .row x1, .row x2, .int 0, .int 0, .int 0] (fun b => (W0.heap.size ≤ b ∧ b < wx.heap.size) ∧ True)) ∧ True) → G 8 #[true, true, true, true, true, true, false, true, true, false, false, true, true, false, true, true, false, false, false, false] #[.agg #[.slice p0 x0.length c0, .slice p1 x1.length c1, .slice p2 x2.length c2, .slice p3 x3.length c3, .slice p4 x4.length c4, .slice p5 x5.length c5, .slice p6 x6.length c6], .pointer (some ⟨w.heap.size, 0, none⟩), .pointer (some ⟨w.heap.size + 1, 0, none⟩), undef, undef, .pointer (some ⟨w.heap.size, 0, none⟩), .agg #[.slice p0 x0.length c0, .slice p1 x1.length c1], .agg #[.slice s0 x0.length t0, .slice s1 x1.length t1], .pointer (some ⟨w.heap.size, 2, none⟩), .slice p2 x2.length c2, .slice s2 x2.length t2, undef, .pointer (some ⟨w.heap.size, 4, none⟩), .slice p4 x4.length c4, undef, undef, .pointer (some ⟨w.heap.size, 5, none⟩), .slice p5 x5.length c5, undef, .pointer (some ⟨w.heap.size, 6, none⟩), .slice p6 x6.length c6, undef, undef, undef, undef, undef, undef, undef, undef, undef, undef, undef, undef, undef, undef, undef, undef, undef, undef, undef, undef, undef] wx := by
    intro wx s0 s1 t0 t1 s2 t2 HF
    refine toG _ _ _ _ ?_
    refine wpAnyH_ready (rs := [6, 10, 18]) (by kernel_rfl) (by simp) ?_
    refine AllReadyH.cons rfl (fun K hK => ?_) (AllReadyH.cons rfl (fun K hK => ?_) (AllReadyH.cons rfl (fun K hK => ?_) AllReadyH.nil))
    · obtain ⟨FB, FO, -⟩ := HF.out
      have hXl : ∀ b, (fun b => (W0.heap.size ≤ b ∧ b < wx.heap.size) ∧ True) b → b < wx.heap.size := fun b hb => hb.1.2
      have hlo := FB.size
      have b0 : Below wx.heap.size wx (wx.alloc (.cells #[] 3)) := (Below.refl _ wx).alloc (Nat.le_refl _) _
      have FO' := (OFs.put 3 FO hXl b0 (own_empty wx 3)).mono (X' := (fun b => (W0.heap.size ≤ b ∧ b < (wx.alloc (.cells #[] 3)).heap.size) ∧ True)) (fun b hb => by
        rcases hb with hb | hb
        · exact ⟨⟨hb.1.1, by have := hb.1.2; simp; omega⟩, hb.2⟩
        · exact ⟨⟨by have := hb.1; omega, hb.2⟩, trivial⟩)
      go_simp
      refine hK.out _ _ (HZ.out _ (FB.alloc hlo _)) (fun _ => ?_)
      clear hK K
      simp only [List.setIfInBounds_toArray, List.set_cons_zero, List.set_cons_succ]
      exact ofG 7 _ _ _ (st2100 (wx.alloc (.cells #[] 3)) s0 s1 t0 t1 s2 t2 wx.heap.size ⟨(FB.alloc hlo _), (FO'), (⟨(MapKept.heap_alloc wx _).1, hlo⟩), trivial⟩)
    · obtain ⟨FB, FO, -⟩ := HF.out
      have hXl : ∀ b, (fun b => (W0.heap.size ≤ b ∧ b < wx.heap.size) ∧ True) b → b < wx.heap.size := fun b hb => hb.1.2
      have hlo := FB.size
      have b0 : Below wx.heap.size wx (wx.alloc (.cells #[] 3)) := (Below.refl _ wx).alloc (Nat.le_refl _) _
      have FO' := (OFs.put 4 FO hXl b0 (own_empty wx 3)).mono (X' := (fun b => (W0.heap.size ≤ b ∧ b < (wx.alloc (.cells #[] 3)).heap.size) ∧ True)) (fun b hb => by
        rcases hb with hb | hb
        · exact ⟨⟨hb.1.1, by have := hb.1.2; simp; omega⟩, hb.2⟩
        · exact ⟨⟨by have := hb.1; omega, hb.2⟩, trivial⟩)
      go_simp
      refine hK.out _ _ (HZ.out _ (FB.alloc hlo _)) (fun _ => ?_)
      clear hK K
      simp only [List.setIfInBounds_toArray, List.set_cons_zero, List.set_cons_succ]
      exact ofG 7 _ _ _ (st2010 (wx.alloc (.cells #[] 3)) s0 s1 t0 t1 s2 t2 wx.heap.size ⟨(FB.alloc hlo _), (FO'), (⟨(MapKept.heap_alloc wx _).1, hlo⟩), trivial⟩)
    · obtain ⟨FB, FO, -⟩ := HF.out
      have hXl : ∀ b, (fun b => (W0.heap.size ≤ b ∧ b < wx.heap.size) ∧ True) b → b < wx.heap.size := fun b hb => hb.1.2
      have hlo := FB.size
      have b0 : Below wx.heap.size wx (wx.alloc (.cells #[.slice none 0 0, .slice none 0 0, .slice none 0 0, .slice none 0 0, .slice none 0 0, .slice none 0 0, .slice none 0 0] 39)) := (Below.refl _ wx).alloc (Nat.le_refl _) _
      have FO' := (OFs.up FO b0).mono (X' := fun b => (W0.heap.size ≤ b ∧ b < (wx.alloc (.cells #[.slice none 0 0, .slice none 0 0, .slice none 0 0, .slice none 0 0, .slice none 0 0, .slice none 0 0, .slice none 0 0] 39)).heap.size) ∧ b ≠ wx.heap.size) (fun b hb => ⟨⟨hb.1.1, by have := hb.1.2; simp; omega⟩, by have := hb.1.2; omega⟩)
      go_simp
      refine hK.out _ _ (HZ.out _ (FB.alloc hlo _)) (fun _ => ?_)
      clear hK K
      simp only [List.setIfInBounds_toArray, List.set_cons_zero, List.set_cons_succ]
      exact ofG 7 _ _ _ (st2001 (wx.alloc (.cells #[.slice none 0 0, .slice none 0 0, .slice none 0 0, .slice none 0 0, .slice none 0 0, .slice none 0 0, .slice none 0 0] 39)) s0 s1 t0 t1 s2 t2 wx.heap.size ⟨(FB.alloc hlo _), (FO'), (⟨(MapKept.heap_alloc wx _).1, hlo⟩), trivial⟩)
  have st0001 : ∀ (wx : World) (g18 : Nat), Hid ((Below W0.heap.size W0 wx) ∧ (OFs wx [.int .i64 0, .int .i64 0, .int .i64 0, .int .i64 0, .int .i64 0, .int .i64 0] [.int 0, .int 0, .int 0, .int 0, .int 0, .int 0] (fun b => (W0.heap.size ≤ b ∧ b < wx.heap.size) ∧ b ≠ g18)) ∧ (wx.heap[g18]? = some (.cells #[.slice none 0 0, .slice none 0 0, .slice none 0 0, .slice none 0 0, .slice none 0 0, .slice none 0 0, .slice none 0 0] 39) ∧ W0.heap.size ≤ g18) ∧ True) → G 9 #[true, true, false, true, true, false, false, true, true, false, false, true, true, false, true, true, false, false, true, false] #[.agg #[.slice p0 x0.length c0, .slice p1 x1.length c1, .slice p2 x2.length c2, .slice p3 x3.length c3, .slice p4 x4.length c4, .slice p5 x5.length c5, .slice p6 x6.length c6], .pointer (some ⟨w.heap.size, 0, none⟩), .pointer (some ⟨w.heap.size + 1, 0, none⟩), .pointer (some ⟨g18, 0, none⟩), undef, .pointer (some ⟨w.heap.size, 0, none⟩), .agg #[.slice p0 x0.length c0, .slice p1 x1.length c1], undef, .pointer (some ⟨w.heap.size, 2, none⟩), .slice p2 x2.length c2, undef, undef, .pointer (some ⟨w.heap.size, 4, none⟩), .slice p4 x4.length c4, undef, undef, .pointer (some ⟨w.heap.size, 5, none⟩), .slice p5 x5.length c5, undef, .pointer (some ⟨w.heap.size, 6, none⟩), .slice p6 x6.length c6, undef, undef, undef, undef, undef, undef, undef, undef, undef, undef, undef, undef, undef, undef, undef, undef, undef, undef, undef, undef, undef] wx := by
    intro wx g18 HF
    refine toG _ _ _ _ ?_
    refine wpAnyH_ready (rs := [2, 6, 10]) (by kernel_rfl) (by simp) ?_
    refine AllReadyH.cons rfl (fun K hK => ?_) (AllReadyH.cons rfl (fun K hK => ?_) (AllReadyH.cons rfl (fun K hK => ?_) AllReadyH.nil))
    · obtain ⟨FB, FO, F18, -⟩ := HF.out
      have hXl : ∀ b, (fun b => (W0.heap.size ≤ b ∧ b < wx.heap.size) ∧ b ≠ g18) b → b < wx.heap.size := fun b hb => hb.1.2
      have hlo := FB.size
      have bw : Below w.heap.size w wx := HS.out.1.trans (FB.mono HS.out.1.size)
      refine step_call1 rfl 57 (.tmp 6) _ rfl (enters_of Try.func57 (by kernel_rfl) rfl) (.agg #[.slice p0 x0.length c0, .slice p1 x1.length c1]) (by simp [Act.eval]) (fun r w' => ∃ us : List Value, r = .agg us.toArray ∧ OFs w' us [.row x0, .row x1] (Btw wx.heap.size w'.heap.size) ∧ Below wx.heap.size wx w') ((l06CopyTable_dt [.slice p0 x0.length c0, .slice p1 x1.length c1] [.row x0, .row x1] S _ ⟨_, _, rfl, q0, q1⟩ ⟨HA.out.1.up bw, HA.out.2.1.up bw, trivial⟩ (by rw [show Dt.bulkR [.row x0, .row x1] = Dt.bulkS x0 + Dt.bulkS x1 from (by simp [Dt.bulkR, Dt.bulk])]; omega)).mono (fun e w' ⟨us, he, h1, h2⟩ => ⟨_, he, us, rfl, h1, h2⟩)) ?_
      rintro r w' ⟨us, rfl, N, b1⟩
      obtain ⟨v0, v1, rfl, k0, k1⟩ := fs2 N.at
      obtain ⟨s0, t0, rfl⟩ := k0.form
      obtain ⟨s1, t1, rfl⟩ := k1.form
      obtain ⟨X1, X2, h1, h2, h3, -, X3, X4, h4, h5, h6, -, h7⟩ := FO
      have FO0 : OFs w' ([.slice s0 x0.length t0, .slice s1 x1.length t1] ++ [.int .i64 0, .int .i64 0, .int .i64 0, .int .i64 0]) ([.row x0, .row x1] ++ [.int 0, .int 0, .int 0, .int 0]) (fun b => (fun b => (W0.heap.size ≤ b ∧ b < wx.heap.size) ∧ b ≠ g18) b ∨ Btw wx.heap.size w'.heap.size b) := OFs.join (fun b hb => .inr hb) (fun b hb => .inl (h2 b (h5 b hb))) (fun b hb hb' => by have := hXl b (h2 b (h5 b hb')); have := hb.1; omega) N (OFs.up h7 b1)
      have FO' := FO0.mono (X' := (fun b => (W0.heap.size ≤ b ∧ b < w'.heap.size) ∧ b ≠ g18)) (fun b hb => by
        rcases hb with hb | hb
        · exact ⟨⟨hb.1.1, Nat.lt_of_lt_of_le hb.1.2 b1.size⟩, hb.2⟩
        · exact ⟨⟨Nat.le_trans hlo hb.1, hb.2⟩, (by have := hb.1; have := lt_heap F18.1; omega)⟩)
      refine hK.out _ _ (HZ.out _ (FB.trans (b1.mono hlo))) (fun _ => ?_)
      clear hK K
      simp only [Act.put, List.getElem_toArray, List.getElem_cons_zero, List.getElem_cons_succ, List.setIfInBounds_toArray, List.set_cons_zero, List.set_cons_succ]
      exact ofG 8 _ _ _ (st1001 w' s0 s1 t0 t1 g18 ⟨(FB.trans (b1.mono hlo)), (FO'), (⟨(b1.block _ (lt_heap F18.1)).trans F18.1, F18.2⟩), trivial⟩)
    · obtain ⟨FB, FO, F18, -⟩ := HF.out
      have hXl : ∀ b, (fun b => (W0.heap.size ≤ b ∧ b < wx.heap.size) ∧ b ≠ g18) b → b < wx.heap.size := fun b hb => hb.1.2
      have hlo := FB.size
      have b0 : Below wx.heap.size wx (wx.alloc (.cells #[] 3)) := (Below.refl _ wx).alloc (Nat.le_refl _) _
      have FO' := (OFs.put 3 FO hXl b0 (own_empty wx 3)).mono (X' := (fun b => (W0.heap.size ≤ b ∧ b < (wx.alloc (.cells #[] 3)).heap.size) ∧ b ≠ g18)) (fun b hb => by
        rcases hb with hb | hb
        · exact ⟨⟨hb.1.1, by have := hb.1.2; simp; omega⟩, hb.2⟩
        · exact ⟨⟨by have := hb.1; omega, hb.2⟩, (by have := hb.1; have := lt_heap F18.1; omega)⟩)
      go_simp
      refine hK.out _ _ (HZ.out _ (FB.alloc hlo _)) (fun _ => ?_)
      clear hK K
      simp only [List.setIfInBounds_toArray, List.set_cons_zero, List.set_cons_succ]
      exact ofG 8 _ _ _ (st0101 (wx.alloc (.cells #[] 3)) wx.heap.size g18 ⟨(FB.alloc hlo _), (FO'), (⟨(MapKept.heap_alloc wx _).1, hlo⟩), (⟨(b0.block _ (lt_heap F18.1)).trans F18.1, F18.2⟩), (by have := lt_heap F18.1; omega), trivial⟩)
    · obtain ⟨FB, FO, F18, -⟩ := HF.out
      have hXl : ∀ b, (fun b => (W0.heap.size ≤ b ∧ b < wx.heap.size) ∧ b ≠ g18) b → b < wx.heap.size := fun b hb => hb.1.2
      have hlo := FB.size
      have b0 : Below wx.heap.size wx (wx.alloc (.cells #[] 3)) := (Below.refl _ wx).alloc (Nat.le_refl _) _
      have FO' := (OFs.put 4 FO hXl b0 (own_empty wx 3)).mono (X' := (fun b => (W0.heap.size ≤ b ∧ b < (wx.alloc (.cells #[] 3)).heap.size) ∧ b ≠ g18)) (fun b hb => by
        rcases hb with hb | hb
        · exact ⟨⟨hb.1.1, by have := hb.1.2; simp; omega⟩, hb.2⟩
        · exact ⟨⟨by have := hb.1; omega, hb.2⟩, (by have := hb.1; have := lt_heap F18.1; omega)⟩)
      go_simp
      refine hK.out _ _ (HZ.out _ (FB.alloc hlo _)) (fun _ => ?_)
      clear hK K
      simp only [List.setIfInBounds_toArray, List.set_cons_zero, List.set_cons_succ]
      exact ofG 8 _ _ _ (st0011 (wx.alloc (.cells #[] 3)) wx.heap.size g18 ⟨(FB.alloc hlo _), (FO'), (⟨(MapKept.heap_alloc wx _).1, hlo⟩), (⟨(b0.block _ (lt_heap F18.1)).trans F18.1, F18.2⟩), (by have := lt_heap F18.1; omega), trivial⟩)
  have st0010 : ∀ (wx : World) (g10 : Nat), Hid ((Below W0.heap.size W0 wx) ∧ (OFs wx [.int .i64 0, .int .i64 0, .int .i64 0, .int .i64 0, .slice (some ⟨g10, 0, none⟩) 0 0, .int .i64 0] [.int 0, .int 0, .int 0, .int 0, .row [], .int 0] (fun b => (W0.heap.size ≤ b ∧ b < wx.heap.size) ∧ True)) ∧ (wx.heap[g10]? = some (.cells #[] 3) ∧ W0.heap.size ≤ g10) ∧ True) → G 9 #[true, true, false, true, true, false, false, true, true, false, true, true, true, false, true, true, false, false, false, false] #[.agg #[.slice p0 x0.length c0, .slice p1 x1.length c1, .slice p2 x2.length c2, .slice p3 x3.length c3, .slice p4 x4.length c4, .slice p5 x5.length c5, .slice p6 x6.length c6], .pointer (some ⟨w.heap.size, 0, none⟩), .pointer (some ⟨w.heap.size + 1, 0, none⟩), undef, undef, .pointer (some ⟨w.heap.size, 0, none⟩), .agg #[.slice p0 x0.length c0, .slice p1 x1.length c1], undef, .pointer (some ⟨w.heap.size, 2, none⟩), .slice p2 x2.length c2, undef, undef, .pointer (some ⟨w.heap.size, 4, none⟩), .slice p4 x4.length c4, undef, .slice (some ⟨g10, 0, none⟩) 0 0, .pointer (some ⟨w.heap.size, 5, none⟩), .slice p5 x5.length c5, undef, .pointer (some ⟨w.heap.size, 6, none⟩), .slice p6 x6.length c6, undef, undef, undef, undef, undef, undef, undef, undef, undef, undef, undef, undef, undef, undef, undef, undef, undef, undef, undef, undef, undef] wx := by
    intro wx g10 HF
    refine toG _ _ _ _ ?_
    refine wpAnyH_ready (rs := [2, 6, 18]) (by kernel_rfl) (by simp) ?_
    refine AllReadyH.cons rfl (fun K hK => ?_) (AllReadyH.cons rfl (fun K hK => ?_) (AllReadyH.cons rfl (fun K hK => ?_) AllReadyH.nil))
    · obtain ⟨FB, FO, F10, -⟩ := HF.out
      have hXl : ∀ b, (fun b => (W0.heap.size ≤ b ∧ b < wx.heap.size) ∧ True) b → b < wx.heap.size := fun b hb => hb.1.2
      have hlo := FB.size
      have bw : Below w.heap.size w wx := HS.out.1.trans (FB.mono HS.out.1.size)
      refine step_call1 rfl 57 (.tmp 6) _ rfl (enters_of Try.func57 (by kernel_rfl) rfl) (.agg #[.slice p0 x0.length c0, .slice p1 x1.length c1]) (by simp [Act.eval]) (fun r w' => ∃ us : List Value, r = .agg us.toArray ∧ OFs w' us [.row x0, .row x1] (Btw wx.heap.size w'.heap.size) ∧ Below wx.heap.size wx w') ((l06CopyTable_dt [.slice p0 x0.length c0, .slice p1 x1.length c1] [.row x0, .row x1] S _ ⟨_, _, rfl, q0, q1⟩ ⟨HA.out.1.up bw, HA.out.2.1.up bw, trivial⟩ (by rw [show Dt.bulkR [.row x0, .row x1] = Dt.bulkS x0 + Dt.bulkS x1 from (by simp [Dt.bulkR, Dt.bulk])]; omega)).mono (fun e w' ⟨us, he, h1, h2⟩ => ⟨_, he, us, rfl, h1, h2⟩)) ?_
      rintro r w' ⟨us, rfl, N, b1⟩
      obtain ⟨v0, v1, rfl, k0, k1⟩ := fs2 N.at
      obtain ⟨s0, t0, rfl⟩ := k0.form
      obtain ⟨s1, t1, rfl⟩ := k1.form
      obtain ⟨X1, X2, h1, h2, h3, -, X3, X4, h4, h5, h6, -, h7⟩ := FO
      have FO0 : OFs w' ([.slice s0 x0.length t0, .slice s1 x1.length t1] ++ [.int .i64 0, .int .i64 0, .slice (some ⟨g10, 0, none⟩) 0 0, .int .i64 0]) ([.row x0, .row x1] ++ [.int 0, .int 0, .row [], .int 0]) (fun b => (fun b => (W0.heap.size ≤ b ∧ b < wx.heap.size) ∧ True) b ∨ Btw wx.heap.size w'.heap.size b) := OFs.join (fun b hb => .inr hb) (fun b hb => .inl (h2 b (h5 b hb))) (fun b hb hb' => by have := hXl b (h2 b (h5 b hb')); have := hb.1; omega) N (OFs.up h7 b1)
      have FO' := FO0.mono (X' := (fun b => (W0.heap.size ≤ b ∧ b < w'.heap.size) ∧ True)) (fun b hb => by
        rcases hb with hb | hb
        · exact ⟨⟨hb.1.1, Nat.lt_of_lt_of_le hb.1.2 b1.size⟩, hb.2⟩
        · exact ⟨⟨Nat.le_trans hlo hb.1, hb.2⟩, trivial⟩)
      refine hK.out _ _ (HZ.out _ (FB.trans (b1.mono hlo))) (fun _ => ?_)
      clear hK K
      simp only [Act.put, List.getElem_toArray, List.getElem_cons_zero, List.getElem_cons_succ, List.setIfInBounds_toArray, List.set_cons_zero, List.set_cons_succ]
      exact ofG 8 _ _ _ (st1010 w' s0 s1 t0 t1 g10 ⟨(FB.trans (b1.mono hlo)), (FO'), (⟨(b1.block _ (lt_heap F10.1)).trans F10.1, F10.2⟩), trivial⟩)
    · obtain ⟨FB, FO, F10, -⟩ := HF.out
      have hXl : ∀ b, (fun b => (W0.heap.size ≤ b ∧ b < wx.heap.size) ∧ True) b → b < wx.heap.size := fun b hb => hb.1.2
      have hlo := FB.size
      have b0 : Below wx.heap.size wx (wx.alloc (.cells #[] 3)) := (Below.refl _ wx).alloc (Nat.le_refl _) _
      have FO' := (OFs.put 3 FO hXl b0 (own_empty wx 3)).mono (X' := (fun b => (W0.heap.size ≤ b ∧ b < (wx.alloc (.cells #[] 3)).heap.size) ∧ True)) (fun b hb => by
        rcases hb with hb | hb
        · exact ⟨⟨hb.1.1, by have := hb.1.2; simp; omega⟩, hb.2⟩
        · exact ⟨⟨by have := hb.1; omega, hb.2⟩, trivial⟩)
      go_simp
      refine hK.out _ _ (HZ.out _ (FB.alloc hlo _)) (fun _ => ?_)
      clear hK K
      simp only [List.setIfInBounds_toArray, List.set_cons_zero, List.set_cons_succ]
      exact ofG 8 _ _ _ (st0110 (wx.alloc (.cells #[] 3)) wx.heap.size g10 ⟨(FB.alloc hlo _), (FO'), (⟨(MapKept.heap_alloc wx _).1, hlo⟩), (⟨(b0.block _ (lt_heap F10.1)).trans F10.1, F10.2⟩), (by have := lt_heap F10.1; omega), trivial⟩)
    · obtain ⟨FB, FO, F10, -⟩ := HF.out
      have hXl : ∀ b, (fun b => (W0.heap.size ≤ b ∧ b < wx.heap.size) ∧ True) b → b < wx.heap.size := fun b hb => hb.1.2
      have hlo := FB.size
      have b0 : Below wx.heap.size wx (wx.alloc (.cells #[.slice none 0 0, .slice none 0 0, .slice none 0 0, .slice none 0 0, .slice none 0 0, .slice none 0 0, .slice none 0 0] 39)) := (Below.refl _ wx).alloc (Nat.le_refl _) _
      have FO' := (OFs.up FO b0).mono (X' := fun b => (W0.heap.size ≤ b ∧ b < (wx.alloc (.cells #[.slice none 0 0, .slice none 0 0, .slice none 0 0, .slice none 0 0, .slice none 0 0, .slice none 0 0, .slice none 0 0] 39)).heap.size) ∧ b ≠ wx.heap.size) (fun b hb => ⟨⟨hb.1.1, by have := hb.1.2; simp; omega⟩, by have := hb.1.2; omega⟩)
      go_simp
      refine hK.out _ _ (HZ.out _ (FB.alloc hlo _)) (fun _ => ?_)
      clear hK K
      simp only [List.setIfInBounds_toArray, List.set_cons_zero, List.set_cons_succ]
      exact ofG 8 _ _ _ (st0011 (wx.alloc (.cells #[.slice none 0 0, .slice none 0 0, .slice none 0 0, .slice none 0 0, .slice none 0 0, .slice none 0 0, .slice none 0 0] 39)) g10 wx.heap.size ⟨(FB.alloc hlo _), (FO'), (⟨(b0.block _ (lt_heap F10.1)).trans F10.1, F10.2⟩), (⟨(MapKept.heap_alloc wx _).1, hlo⟩), (by have := lt_heap F10.1; omega), trivial⟩)
  have st0100 : ∀ (wx : World) (g6 : Nat), Hid ((Below W0.heap.size W0 wx) ∧ (OFs wx [.int .i64 0, .int .i64 0, .int .i64 0, .slice (some ⟨g6, 0, none⟩) 0 0, .int .i64 0, .int .i64 0] [.int 0, .int 0, .int 0, .row [], .int 0, .int 0] (fun b => (W0.heap.size ≤ b ∧ b < wx.heap.size) ∧ True)) ∧ (wx.heap[g6]? = some (.cells #[] 3) ∧ W0.heap.size ≤ g6) ∧ True) → G 9 #[true, true, false, true, true, false, true, true, true, false, false, true, true, false, true, true, false, false, false, false] #[.agg #[.slice p0 x0.length c0, .slice p1 x1.length c1, .slice p2 x2.length c2, .slice p3 x3.length c3, .slice p4 x4.length c4, .slice p5 x5.length c5, .slice p6 x6.length c6], .pointer (some ⟨w.heap.size, 0, none⟩), .pointer (some ⟨w.heap.size + 1, 0, none⟩), undef, undef, .pointer (some ⟨w.heap.size, 0, none⟩), .agg #[.slice p0 x0.length c0, .slice p1 x1.length c1], undef, .pointer (some ⟨w.heap.size, 2, none⟩), .slice p2 x2.length c2, undef, .slice (some ⟨g6, 0, none⟩) 0 0, .pointer (some ⟨w.heap.size, 4, none⟩), .slice p4 x4.length c4, undef, undef, .pointer (some ⟨w.heap.size, 5, none⟩), .slice p5 x5.length c5, undef, .pointer (some ⟨w.heap.size, 6, none⟩), .slice p6 x6.length c6, undef, undef, undef, undef, undef, undef, undef, undef, undef, undef, undef, undef, undef, undef, undef, undef, undef, undef, undef, undef, undef] wx := by
    intro wx g6 HF
    refine toG _ _ _ _ ?_
    refine wpAnyH_ready (rs := [2, 10, 18]) (by kernel_rfl) (by simp) ?_
    refine AllReadyH.cons rfl (fun K hK => ?_) (AllReadyH.cons rfl (fun K hK => ?_) (AllReadyH.cons rfl (fun K hK => ?_) AllReadyH.nil))
    · obtain ⟨FB, FO, F6, -⟩ := HF.out
      have hXl : ∀ b, (fun b => (W0.heap.size ≤ b ∧ b < wx.heap.size) ∧ True) b → b < wx.heap.size := fun b hb => hb.1.2
      have hlo := FB.size
      have bw : Below w.heap.size w wx := HS.out.1.trans (FB.mono HS.out.1.size)
      refine step_call1 rfl 57 (.tmp 6) _ rfl (enters_of Try.func57 (by kernel_rfl) rfl) (.agg #[.slice p0 x0.length c0, .slice p1 x1.length c1]) (by simp [Act.eval]) (fun r w' => ∃ us : List Value, r = .agg us.toArray ∧ OFs w' us [.row x0, .row x1] (Btw wx.heap.size w'.heap.size) ∧ Below wx.heap.size wx w') ((l06CopyTable_dt [.slice p0 x0.length c0, .slice p1 x1.length c1] [.row x0, .row x1] S _ ⟨_, _, rfl, q0, q1⟩ ⟨HA.out.1.up bw, HA.out.2.1.up bw, trivial⟩ (by rw [show Dt.bulkR [.row x0, .row x1] = Dt.bulkS x0 + Dt.bulkS x1 from (by simp [Dt.bulkR, Dt.bulk])]; omega)).mono (fun e w' ⟨us, he, h1, h2⟩ => ⟨_, he, us, rfl, h1, h2⟩)) ?_
      rintro r w' ⟨us, rfl, N, b1⟩
      obtain ⟨v0, v1, rfl, k0, k1⟩ := fs2 N.at
      obtain ⟨s0, t0, rfl⟩ := k0.form
      obtain ⟨s1, t1, rfl⟩ := k1.form
      obtain ⟨X1, X2, h1, h2, h3, -, X3, X4, h4, h5, h6, -, h7⟩ := FO
      have FO0 : OFs w' ([.slice s0 x0.length t0, .slice s1 x1.length t1] ++ [.int .i64 0, .slice (some ⟨g6, 0, none⟩) 0 0, .int .i64 0, .int .i64 0]) ([.row x0, .row x1] ++ [.int 0, .row [], .int 0, .int 0]) (fun b => (fun b => (W0.heap.size ≤ b ∧ b < wx.heap.size) ∧ True) b ∨ Btw wx.heap.size w'.heap.size b) := OFs.join (fun b hb => .inr hb) (fun b hb => .inl (h2 b (h5 b hb))) (fun b hb hb' => by have := hXl b (h2 b (h5 b hb')); have := hb.1; omega) N (OFs.up h7 b1)
      have FO' := FO0.mono (X' := (fun b => (W0.heap.size ≤ b ∧ b < w'.heap.size) ∧ True)) (fun b hb => by
        rcases hb with hb | hb
        · exact ⟨⟨hb.1.1, Nat.lt_of_lt_of_le hb.1.2 b1.size⟩, hb.2⟩
        · exact ⟨⟨Nat.le_trans hlo hb.1, hb.2⟩, trivial⟩)
      refine hK.out _ _ (HZ.out _ (FB.trans (b1.mono hlo))) (fun _ => ?_)
      clear hK K
      simp only [Act.put, List.getElem_toArray, List.getElem_cons_zero, List.getElem_cons_succ, List.setIfInBounds_toArray, List.set_cons_zero, List.set_cons_succ]
      exact ofG 8 _ _ _ (st1100 w' s0 s1 t0 t1 g6 ⟨(FB.trans (b1.mono hlo)), (FO'), (⟨(b1.block _ (lt_heap F6.1)).trans F6.1, F6.2⟩), trivial⟩)
    · obtain ⟨FB, FO, F6, -⟩ := HF.out
      have hXl : ∀ b, (fun b => (W0.heap.size ≤ b ∧ b < wx.heap.size) ∧ True) b → b < wx.heap.size := fun b hb => hb.1.2
      have hlo := FB.size
      have b0 : Below wx.heap.size wx (wx.alloc (.cells #[] 3)) := (Below.refl _ wx).alloc (Nat.le_refl _) _
      have FO' := (OFs.put 4 FO hXl b0 (own_empty wx 3)).mono (X' := (fun b => (W0.heap.size ≤ b ∧ b < (wx.alloc (.cells #[] 3)).heap.size) ∧ True)) (fun b hb => by
        rcases hb with hb | hb
        · exact ⟨⟨hb.1.1, by have := hb.1.2; simp; omega⟩, hb.2⟩
        · exact ⟨⟨by have := hb.1; omega, hb.2⟩, trivial⟩)
      go_simp
      refine hK.out _ _ (HZ.out _ (FB.alloc hlo _)) (fun _ => ?_)
      clear hK K
      simp only [List.setIfInBounds_toArray, List.set_cons_zero, List.set_cons_succ]
      exact ofG 8 _ _ _ (st0110 (wx.alloc (.cells #[] 3)) g6 wx.heap.size ⟨(FB.alloc hlo _), (FO'), (⟨(b0.block _ (lt_heap F6.1)).trans F6.1, F6.2⟩), (⟨(MapKept.heap_alloc wx _).1, hlo⟩), (by have := lt_heap F6.1; omega), trivial⟩)
    · obtain ⟨FB, FO, F6, -⟩ := HF.out
      have hXl : ∀ b, (fun b => (W0.heap.size ≤ b ∧ b < wx.heap.size) ∧ True) b → b < wx.heap.size := fun b hb => hb.1.2
      have hlo := FB.size
      have b0 : Below wx.heap.size wx (wx.alloc (.cells #[.slice none 0 0, .slice none 0 0, .slice none 0 0, .slice none 0 0, .slice none 0 0, .slice none 0 0, .slice none 0 0] 39)) := (Below.refl _ wx).alloc (Nat.le_refl _) _
      have FO' := (OFs.up FO b0).mono (X' := fun b => (W0.heap.size ≤ b ∧ b < (wx.alloc (.cells #[.slice none 0 0, .slice none 0 0, .slice none 0 0, .slice none 0 0, .slice none 0 0, .slice none 0 0, .slice none 0 0] 39)).heap.size) ∧ b ≠ wx.heap.size) (fun b hb => ⟨⟨hb.1.1, by have := hb.1.2; simp; omega⟩, by have := hb.1.2; omega⟩)
      go_simp
      refine hK.out _ _ (HZ.out _ (FB.alloc hlo _)) (fun _ => ?_)
      clear hK K
      simp only [List.setIfInBounds_toArray, List.set_cons_zero, List.set_cons_succ]
      exact ofG 8 _ _ _ (st0101 (wx.alloc (.cells #[.slice none 0 0, .slice none 0 0, .slice none 0 0, .slice none 0 0, .slice none 0 0, .slice none 0 0, .slice none 0 0] 39)) g6 wx.heap.size ⟨(FB.alloc hlo _), (FO'), (⟨(b0.block _ (lt_heap F6.1)).trans F6.1, F6.2⟩), (⟨(MapKept.heap_alloc wx _).1, hlo⟩), (by have := lt_heap F6.1; omega), trivial⟩)
  have st1000 : ∀ (wx : World) (s0 s1 : Option Addr) (t0 t1 : Nat), Hid ((Below W0.heap.size W0 wx) ∧ (OFs wx [.slice s0 x0.length t0, .slice s1 x1.length t1, .int .i64 0, .int .i64 0, .int .i64 0, .int .i64 0] [.row x0, .row x1, .int 0, .int 0, .int 0, .int 0] (fun b => (W0.heap.size ≤ b ∧ b < wx.heap.size) ∧ True)) ∧ True) → G 9 #[true, true, true, true, true, false, false, true, true, false, false, true, true, false, true, true, false, false, false, false] #[.agg #[.slice p0 x0.length c0, .slice p1 x1.length c1, .slice p2 x2.length c2, .slice p3 x3.length c3, .slice p4 x4.length c4, .slice p5 x5.length c5, .slice p6 x6.length c6], .pointer (some ⟨w.heap.size, 0, none⟩), .pointer (some ⟨w.heap.size + 1, 0, none⟩), undef, undef, .pointer (some ⟨w.heap.size, 0, none⟩), .agg #[.slice p0 x0.length c0, .slice p1 x1.length c1], .agg #[.slice s0 x0.length t0, .slice s1 x1.length t1], .pointer (some ⟨w.heap.size, 2, none⟩), .slice p2 x2.length c2, undef, undef, .pointer (some ⟨w.heap.size, 4, none⟩), .slice p4 x4.length c4, undef, undef, .pointer (some ⟨w.heap.size, 5, none⟩), .slice p5 x5.length c5, undef, .pointer (some ⟨w.heap.size, 6, none⟩), .slice p6 x6.length c6, undef, undef, undef, undef, undef, undef, undef, undef, undef, undef, undef, undef, undef, undef, undef, undef, undef, undef, undef, undef, undef] wx := by
    intro wx s0 s1 t0 t1 HF
    refine toG _ _ _ _ ?_
    refine wpAnyH_ready (rs := [5, 6, 10, 18]) (by kernel_rfl) (by simp) ?_
    refine AllReadyH.cons rfl (fun K hK => ?_) (AllReadyH.cons rfl (fun K hK => ?_) (AllReadyH.cons rfl (fun K hK => ?_) (AllReadyH.cons rfl (fun K hK => ?_) AllReadyH.nil)))
    · obtain ⟨FB, FO, -⟩ := HF.out
      have hXl : ∀ b, (fun b => (W0.heap.size ≤ b ∧ b < wx.heap.size) ∧ True) b → b < wx.heap.size := fun b hb => hb.1.2
      have hlo := FB.size
      have bw : Below w.heap.size w wx := HS.out.1.trans (FB.mono HS.out.1.size)
      refine step_call1 rfl 58 (.tmp 9) _ rfl (enters_of Try.func58 (by kernel_rfl) rfl) (.slice p2 x2.length c2) (by simp [Act.eval]) (fun r w' => Own w' r (.row x2) (Btw wx.heap.size w'.heap.size) ∧ Below wx.heap.size wx w') ((l05Copy_dt _ x2 S _ q2 (HA.out.2.2.1.up bw) (by omega)).mono (fun e w' ⟨u, he, h1, h2⟩ => ⟨u, he, h1, h2⟩)) ?_
      rintro r w' ⟨N, b1⟩
      obtain ⟨s2, t2, rfl⟩ := N.form
      have FO' := (OFs.put 2 FO hXl b1 N).mono (X' := (fun b => (W0.heap.size ≤ b ∧ b < w'.heap.size) ∧ True)) (fun b hb => by
        rcases hb with hb | hb
        · exact ⟨⟨hb.1.1, Nat.lt_of_lt_of_le hb.1.2 b1.size⟩, hb.2⟩
        · exact ⟨⟨Nat.le_trans hlo hb.1, hb.2⟩, trivial⟩)
      refine hK.out _ _ (HZ.out _ (FB.trans (b1.mono hlo))) (fun _ => ?_)
      clear hK K
      simp only [Act.put, List.getElem_toArray, List.getElem_cons_zero, List.getElem_cons_succ, List.setIfInBounds_toArray, List.set_cons_zero, List.set_cons_succ]
      exact ofG 8 _ _ _ (st2000 w' s0 s1 t0 t1 s2 t2 ⟨(FB.trans (b1.mono hlo)), (FO'), trivial⟩)
    · obtain ⟨FB, FO, -⟩ := HF.out
      have hXl : ∀ b, (fun b => (W0.heap.size ≤ b ∧ b < wx.heap.size) ∧ True) b → b < wx.heap.size := fun b hb => hb.1.2
      have hlo := FB.size
      have b0 : Below wx.heap.size wx (wx.alloc (.cells #[] 3)) := (Below.refl _ wx).alloc (Nat.le_refl _) _
      have FO' := (OFs.put 3 FO hXl b0 (own_empty wx 3)).mono (X' := (fun b => (W0.heap.size ≤ b ∧ b < (wx.alloc (.cells #[] 3)).heap.size) ∧ True)) (fun b hb => by
        rcases hb with hb | hb
        · exact ⟨⟨hb.1.1, by have := hb.1.2; simp; omega⟩, hb.2⟩
        · exact ⟨⟨by have := hb.1; omega, hb.2⟩, trivial⟩)
      go_simp
      refine hK.out _ _ (HZ.out _ (FB.alloc hlo _)) (fun _ => ?_)
      clear hK K
      simp only [List.setIfInBounds_toArray, List.set_cons_zero, List.set_cons_succ]
      exact ofG 8 _ _ _ (st1100 (wx.alloc (.cells #[] 3)) s0 s1 t0 t1 wx.heap.size ⟨(FB.alloc hlo _), (FO'), (⟨(MapKept.heap_alloc wx _).1, hlo⟩), trivial⟩)
    · obtain ⟨FB, FO, -⟩ := HF.out
      have hXl : ∀ b, (fun b => (W0.heap.size ≤ b ∧ b < wx.heap.size) ∧ True) b → b < wx.heap.size := fun b hb => hb.1.2
      have hlo := FB.size
      have b0 : Below wx.heap.size wx (wx.alloc (.cells #[] 3)) := (Below.refl _ wx).alloc (Nat.le_refl _) _
      have FO' := (OFs.put 4 FO hXl b0 (own_empty wx 3)).mono (X' := (fun b => (W0.heap.size ≤ b ∧ b < (wx.alloc (.cells #[] 3)).heap.size) ∧ True)) (fun b hb => by
        rcases hb with hb | hb
        · exact ⟨⟨hb.1.1, by have := hb.1.2; simp; omega⟩, hb.2⟩
        · exact ⟨⟨by have := hb.1; omega, hb.2⟩, trivial⟩)
      go_simp
      refine hK.out _ _ (HZ.out _ (FB.alloc hlo _)) (fun _ => ?_)
      clear hK K
      simp only [List.setIfInBounds_toArray, List.set_cons_zero, List.set_cons_succ]
      exact ofG 8 _ _ _ (st1010 (wx.alloc (.cells #[] 3)) s0 s1 t0 t1 wx.heap.size ⟨(FB.alloc hlo _), (FO'), (⟨(MapKept.heap_alloc wx _).1, hlo⟩), trivial⟩)
    · obtain ⟨FB, FO, -⟩ := HF.out
      have hXl : ∀ b, (fun b => (W0.heap.size ≤ b ∧ b < wx.heap.size) ∧ True) b → b < wx.heap.size := fun b hb => hb.1.2
      have hlo := FB.size
      have b0 : Below wx.heap.size wx (wx.alloc (.cells #[.slice none 0 0, .slice none 0 0, .slice none 0 0, .slice none 0 0, .slice none 0 0, .slice none 0 0, .slice none 0 0] 39)) := (Below.refl _ wx).alloc (Nat.le_refl _) _
      have FO' := (OFs.up FO b0).mono (X' := fun b => (W0.heap.size ≤ b ∧ b < (wx.alloc (.cells #[.slice none 0 0, .slice none 0 0, .slice none 0 0, .slice none 0 0, .slice none 0 0, .slice none 0 0, .slice none 0 0] 39)).heap.size) ∧ b ≠ wx.heap.size) (fun b hb => ⟨⟨hb.1.1, by have := hb.1.2; simp; omega⟩, by have := hb.1.2; omega⟩)
      go_simp
      refine hK.out _ _ (HZ.out _ (FB.alloc hlo _)) (fun _ => ?_)
      clear hK K
      simp only [List.setIfInBounds_toArray, List.set_cons_zero, List.set_cons_succ]
      exact ofG 8 _ _ _ (st1001 (wx.alloc (.cells #[.slice none 0 0, .slice none 0 0, .slice none 0 0, .slice none 0 0, .slice none 0 0, .slice none 0 0, .slice none 0 0] 39)) s0 s1 t0 t1 wx.heap.size ⟨(FB.alloc hlo _), (FO'), (⟨(MapKept.heap_alloc wx _).1, hlo⟩), trivial⟩)
  have st0000 : ∀ (wx : World) , Hid ((Below W0.heap.size W0 wx) ∧ (OFs wx [.int .i64 0, .int .i64 0, .int .i64 0, .int .i64 0, .int .i64 0, .int .i64 0] [.int 0, .int 0, .int 0, .int 0, .int 0, .int 0] (fun b => (W0.heap.size ≤ b ∧ b < wx.heap.size) ∧ True)) ∧ True) → G 10 #[true, true, false, true, true, false, false, true, true, false, false, true, true, false, true, true, false, false, false, false] #[.agg #[.slice p0 x0.length c0, .slice p1 x1.length c1, .slice p2 x2.length c2, .slice p3 x3.length c3, .slice p4 x4.length c4, .slice p5 x5.length c5, .slice p6 x6.length c6], .pointer (some ⟨w.heap.size, 0, none⟩), .pointer (some ⟨w.heap.size + 1, 0, none⟩), undef, undef, .pointer (some ⟨w.heap.size, 0, none⟩), .agg #[.slice p0 x0.length c0, .slice p1 x1.length c1], undef, .pointer (some ⟨w.heap.size, 2, none⟩), .slice p2 x2.length c2, undef, undef, .pointer (some ⟨w.heap.size, 4, none⟩), .slice p4 x4.length c4, undef, undef, .pointer (some ⟨w.heap.size, 5, none⟩), .slice p5 x5.length c5, undef, .pointer (some ⟨w.heap.size, 6, none⟩), .slice p6 x6.length c6, undef, undef, undef, undef, undef, undef, undef, undef, undef, undef, undef, undef, undef, undef, undef, undef, undef, undef, undef, undef, undef] wx := by
    intro wx  HF
    refine toG _ _ _ _ ?_
    refine wpAnyH_ready (rs := [2, 6, 10, 18]) (by kernel_rfl) (by simp) ?_
    refine AllReadyH.cons rfl (fun K hK => ?_) (AllReadyH.cons rfl (fun K hK => ?_) (AllReadyH.cons rfl (fun K hK => ?_) (AllReadyH.cons rfl (fun K hK => ?_) AllReadyH.nil)))
    · obtain ⟨FB, FO, -⟩ := HF.out
      have hXl : ∀ b, (fun b => (W0.heap.size ≤ b ∧ b < wx.heap.size) ∧ True) b → b < wx.heap.size := fun b hb => hb.1.2
      have hlo := FB.size
      have bw : Below w.heap.size w wx := HS.out.1.trans (FB.mono HS.out.1.size)
      refine step_call1 rfl 57 (.tmp 6) _ rfl (enters_of Try.func57 (by kernel_rfl) rfl) (.agg #[.slice p0 x0.length c0, .slice p1 x1.length c1]) (by simp [Act.eval]) (fun r w' => ∃ us : List Value, r = .agg us.toArray ∧ OFs w' us [.row x0, .row x1] (Btw wx.heap.size w'.heap.size) ∧ Below wx.heap.size wx w') ((l06CopyTable_dt [.slice p0 x0.length c0, .slice p1 x1.length c1] [.row x0, .row x1] S _ ⟨_, _, rfl, q0, q1⟩ ⟨HA.out.1.up bw, HA.out.2.1.up bw, trivial⟩ (by rw [show Dt.bulkR [.row x0, .row x1] = Dt.bulkS x0 + Dt.bulkS x1 from (by simp [Dt.bulkR, Dt.bulk])]; omega)).mono (fun e w' ⟨us, he, h1, h2⟩ => ⟨_, he, us, rfl, h1, h2⟩)) ?_
      rintro r w' ⟨us, rfl, N, b1⟩
      obtain ⟨v0, v1, rfl, k0, k1⟩ := fs2 N.at
      obtain ⟨s0, t0, rfl⟩ := k0.form
      obtain ⟨s1, t1, rfl⟩ := k1.form
      obtain ⟨X1, X2, h1, h2, h3, -, X3, X4, h4, h5, h6, -, h7⟩ := FO
      have FO0 : OFs w' ([.slice s0 x0.length t0, .slice s1 x1.length t1] ++ [.int .i64 0, .int .i64 0, .int .i64 0, .int .i64 0]) ([.row x0, .row x1] ++ [.int 0, .int 0, .int 0, .int 0]) (fun b => (fun b => (W0.heap.size ≤ b ∧ b < wx.heap.size) ∧ True) b ∨ Btw wx.heap.size w'.heap.size b) := OFs.join (fun b hb => .inr hb) (fun b hb => .inl (h2 b (h5 b hb))) (fun b hb hb' => by have := hXl b (h2 b (h5 b hb')); have := hb.1; omega) N (OFs.up h7 b1)
      have FO' := FO0.mono (X' := (fun b => (W0.heap.size ≤ b ∧ b < w'.heap.size) ∧ True)) (fun b hb => by
        rcases hb with hb | hb
        · exact ⟨⟨hb.1.1, Nat.lt_of_lt_of_le hb.1.2 b1.size⟩, hb.2⟩
        · exact ⟨⟨Nat.le_trans hlo hb.1, hb.2⟩, trivial⟩)
      refine hK.out _ _ (HZ.out _ (FB.trans (b1.mono hlo))) (fun _ => ?_)
      clear hK K
      simp only [Act.put, List.getElem_toArray, List.getElem_cons_zero, List.getElem_cons_succ, List.setIfInBounds_toArray, List.set_cons_zero, List.set_cons_succ]
      exact ofG 9 _ _ _ (st1000 w' s0 s1 t0 t1 ⟨(FB.trans (b1.mono hlo)), (FO'), trivial⟩)
    · obtain ⟨FB, FO, -⟩ := HF.out
      have hXl : ∀ b, (fun b => (W0.heap.size ≤ b ∧ b < wx.heap.size) ∧ True) b → b < wx.heap.size := fun b hb => hb.1.2
      have hlo := FB.size
      have b0 : Below wx.heap.size wx (wx.alloc (.cells #[] 3)) := (Below.refl _ wx).alloc (Nat.le_refl _) _
      have FO' := (OFs.put 3 FO hXl b0 (own_empty wx 3)).mono (X' := (fun b => (W0.heap.size ≤ b ∧ b < (wx.alloc (.cells #[] 3)).heap.size) ∧ True)) (fun b hb => by
        rcases hb with hb | hb
        · exact ⟨⟨hb.1.1, by have := hb.1.2; simp; omega⟩, hb.2⟩
        · exact ⟨⟨by have := hb.1; omega, hb.2⟩, trivial⟩)
      go_simp
      refine hK.out _ _ (HZ.out _ (FB.alloc hlo _)) (fun _ => ?_)
      clear hK K
      simp only [List.setIfInBounds_toArray, List.set_cons_zero, List.set_cons_succ]
      exact ofG 9 _ _ _ (st0100 (wx.alloc (.cells #[] 3)) wx.heap.size ⟨(FB.alloc hlo _), (FO'), (⟨(MapKept.heap_alloc wx _).1, hlo⟩), trivial⟩)
    · obtain ⟨FB, FO, -⟩ := HF.out
      have hXl : ∀ b, (fun b => (W0.heap.size ≤ b ∧ b < wx.heap.size) ∧ True) b → b < wx.heap.size := fun b hb => hb.1.2
      have hlo := FB.size
      have b0 : Below wx.heap.size wx (wx.alloc (.cells #[] 3)) := (Below.refl _ wx).alloc (Nat.le_refl _) _
      have FO' := (OFs.put 4 FO hXl b0 (own_empty wx 3)).mono (X' := (fun b => (W0.heap.size ≤ b ∧ b < (wx.alloc (.cells #[] 3)).heap.size) ∧ True)) (fun b hb => by
        rcases hb with hb | hb
        · exact ⟨⟨hb.1.1, by have := hb.1.2; simp; omega⟩, hb.2⟩
        · exact ⟨⟨by have := hb.1; omega, hb.2⟩, trivial⟩)
      go_simp
      refine hK.out _ _ (HZ.out _ (FB.alloc hlo _)) (fun _ => ?_)
      clear hK K
      simp only [List.setIfInBounds_toArray, List.set_cons_zero, List.set_cons_succ]
      exact ofG 9 _ _ _ (st0010 (wx.alloc (.cells #[] 3)) wx.heap.size ⟨(FB.alloc hlo _), (FO'), (⟨(MapKept.heap_alloc wx _).1, hlo⟩), trivial⟩)
    · obtain ⟨FB, FO, -⟩ := HF.out
      have hXl : ∀ b, (fun b => (W0.heap.size ≤ b ∧ b < wx.heap.size) ∧ True) b → b < wx.heap.size := fun b hb => hb.1.2
      have hlo := FB.size
      have b0 : Below wx.heap.size wx (wx.alloc (.cells #[.slice none 0 0, .slice none 0 0, .slice none 0 0, .slice none 0 0, .slice none 0 0, .slice none 0 0, .slice none 0 0] 39)) := (Below.refl _ wx).alloc (Nat.le_refl _) _
      have FO' := (OFs.up FO b0).mono (X' := fun b => (W0.heap.size ≤ b ∧ b < (wx.alloc (.cells #[.slice none 0 0, .slice none 0 0, .slice none 0 0, .slice none 0 0, .slice none 0 0, .slice none 0 0, .slice none 0 0] 39)).heap.size) ∧ b ≠ wx.heap.size) (fun b hb => ⟨⟨hb.1.1, by have := hb.1.2; simp; omega⟩, by have := hb.1.2; omega⟩)
      go_simp
      refine hK.out _ _ (HZ.out _ (FB.alloc hlo _)) (fun _ => ?_)
      clear hK K
      simp only [List.setIfInBounds_toArray, List.set_cons_zero, List.set_cons_succ]
      exact ofG 9 _ _ _ (st0001 (wx.alloc (.cells #[.slice none 0 0, .slice none 0 0, .slice none 0 0, .slice none 0 0, .slice none 0 0, .slice none 0 0, .slice none 0 0] 39)) wx.heap.size ⟨(FB.alloc hlo _), (FO'), (⟨(MapKept.heap_alloc wx _).1, hlo⟩), trivial⟩)
  exact st0000 W0.drew ⟨(Below.refl W0.heap.size W0).drew, OFs.int (by constructor <;> decide) (OFs.int (by constructor <;> decide) (OFs.int (by constructor <;> decide) (OFs.int (by constructor <;> decide) (OFs.int (by constructor <;> decide) (OFs.int (by constructor <;> decide) (show OFs _ [] [] _ from trivial)))))), trivial⟩

end Go.Proofs.Ytlgnklpaebgnlaa
