/-
  The program's copy of a Table.
-/
import Derived.Test.YtlgnklpaebgnlaaCeCode
import Derived.Test.YtlgnklpaebgnlaaMC
import Derived.Deep.RegionHeld3
namespace Go.Proofs.Ytlgnklpaebgnlaa
open Go.RowKit Go.Joins

set_option maxRecDepth 100000

theorem run_buildTable (a0 a1 : Option Addr) (l0 c0 l1 c1 : Nat) (w : World) : (Instr.build 34 #[(0, .slice a0 l0 c0), (1, .slice a1 l1 c1)]).run Try.prog w = .ok (.agg #[.slice a0 l0 c0, .slice a1 l1 c1]) w := by kernel_rfl
set_option maxHeartbeats 12800000 in
theorem copyTable_dt : ToC 65 TableR := by
  rintro vs r S w ⟨x0, x1, rfl, q0, q1⟩ h hb
  obtain ⟨v0, v1, rfl, a0, a1⟩ := fs2 h
  obtain ⟨p0, c0, rfl⟩ := a0.form
  obtain ⟨p1, c1, rfl⟩ := a1.form
  rw [show Dt.bulkR [.row x0, .row x1] = Dt.bulkS x0 + Dt.bulkS x1 from by simp [Dt.bulkR, Dt.bulk]; try omega] at hb
  obtain ⟨W0, hW0⟩ : ∃ W0, W0 = (w.alloc (.cells #[.slice p0 x0.length c0, .slice p1 x1.length c1] 34)).alloc (.cells #[.slice none 0 0, .slice none 0 0] 34) := ⟨_, rfl⟩
  have B : Below w.heap.size w W0 := by rw [hW0]; exact ((Below.refl _ w).alloc (Nat.le_refl _) _).alloc (by simp) _
  have SZ : W0.heap.size = w.heap.size + 2 := by rw [hW0]; simp
  have O0 : W0.heap[w.heap.size]? = some (.cells #[.slice p0 x0.length c0, .slice p1 x1.length c1] 34) := by rw [hW0]; exact (Below.heap_alloc _ _ _ (by simp)).trans (MapKept.heap_alloc w _).1
  have O1 : W0.heap[w.heap.size + 1]? = some (.cells #[.slice none 0 0, .slice none 0 0] 34) := by
    rw [hW0]
    have := (MapKept.heap_alloc (w.alloc (.cells #[.slice p0 x0.length c0, .slice p1 x1.length c1] 34)) (.cells #[.slice none 0 0, .slice none 0 0] 34)).1
    simpa using this
  have HZ : Hid (∀ wx : World, Below W0.heap.size W0 wx → wx.cell? ⟨w.heap.size, 0, none⟩ = some (.slice p0 x0.length c0) ∧ wx.cell? ⟨w.heap.size, 1, none⟩ = some (.slice p1 x1.length c1)) := fun wx hx => by
    have o := (hx.block _ (lt_heap O0)).trans O0
    exact ⟨by rw [cell_of_block o]; rfl, by rw [cell_of_block o]; rfl⟩
  have HK : Hid (∀ (wx : World) (u0 u1 : Value), Below W0.heap.size W0 wx → ((wx.setCell ⟨w.heap.size + 1, 0, none⟩ u0).setCell ⟨w.heap.size + 1, 1, none⟩ u1).cell? ⟨w.heap.size, 0, none⟩ = some (.slice p0 x0.length c0) ∧ ((wx.setCell ⟨w.heap.size + 1, 0, none⟩ u0).setCell ⟨w.heap.size + 1, 1, none⟩ u1).cell? ⟨w.heap.size, 1, none⟩ = some (.slice p1 x1.length c1)) := fun wx u0 u1 hx => by
    have e1 : ∀ (j : Nat) (u : Value) (W : World), (W.setCell ⟨w.heap.size + 1, j, none⟩ u).heap[w.heap.size]? = W.heap[w.heap.size]? := fun j u W => Below.heap_setCell W _ u _ (by simp)
    have o : ((wx.setCell ⟨w.heap.size + 1, 0, none⟩ u0).setCell ⟨w.heap.size + 1, 1, none⟩ u1).heap[w.heap.size]? = some (.cells #[.slice p0 x0.length c0, .slice p1 x1.length c1] 34) := by
      simp only [e1]
      exact (hx.block _ (lt_heap O0)).trans O0
    exact ⟨by rw [cell_of_block o]; rfl, by rw [cell_of_block o]; rfl⟩
  have HS := (show Hid (_ ∧ _ ∧ _) from ⟨B, SZ, O1⟩)
  have HA := (show Hid (_ ∧ _ ∧ _) from ⟨a0, a1, trivial⟩)
  have HW := (show Hid (_ ∧ True) from ⟨hW0, trivial⟩)
  obtain ⟨cc0, cc1⟩ := HZ.out W0 (Below.refl _ W0)
  clear B SZ O0 O1 hW0 h a0 a1
  have hbd := run_buildTable
  go_enter Try.func65, Try.ntmps65
  go_wp2_with fail
  rw [← HW.out.1]
  clear HW
  go_region_held3 (fun w' => w'.cell? ⟨w.heap.size, 0, none⟩ = some (.slice p0 x0.length c0) ∧ w'.cell? ⟨w.heap.size, 1, none⟩ = some (.slice p1 x1.length c1))
    (first | with_reducible exact HZ.out _ H2.out.1 | with_reducible exact HZ.out _ H1.out.1 | with_reducible exact HZ.out _ (Below.refl W0.heap.size W0).drew | with_reducible exact HZ.out _ (Below.refl _ W0) | with_reducible exact HK.out w2 _ _ H2.out.1)
    (first
      | (go_at_call 70; refine (cloneIntO_dt _ x1 S _ q1 (HA.out.2.1.up H1.out.2.1) (by omega)).mono ?_; rintro e w2 ⟨u, rfl, n1, b1⟩; obtain ⟨s1, t1, rfl⟩ := n1.form; have H2 := (show Hid (_ ∧ _ ∧ _ ∧ _ ∧ _ ∧ _ ∧ _) from ⟨H1.out.1.trans (b1.mono H1.out.1.size), H1.out.2.1.trans (b1.mono H1.out.2.1.size), H1.out.2.2.1, b1.size, Own.up (H1.out.2.2.2.1) b1, n1, trivial⟩); have o1 := (H2.out.1.block _ (lt_heap HS.out.2.2)).trans HS.out.2.2; have y0 : w2.cell? ⟨w.heap.size + 1, 0, none⟩ = some (.slice none 0 0) := (by rw [cell_of_block o1]; rfl); have f0 : w2.frozen? ⟨w.heap.size + 1, 0, none⟩ = false := unfrozen_of_block o1 0; have y1 : w2.cell? ⟨w.heap.size + 1, 1, none⟩ = some (.slice none 0 0) := (by rw [cell_of_block o1]; rfl); have f1 : w2.frozen? ⟨w.heap.size + 1, 1, none⟩ = false := unfrozen_of_block o1 1; clear o1; clear b1 n1)
      | (go_at_call 91; refine (copyEachCode_dt _ x0 S _ q0 (HA.out.1.up HS.out.1.drew) (by omega)).mono ?_; rintro e w1 ⟨u, rfl, n0, -, b1⟩; obtain ⟨s0, t0, rfl⟩ := n0.form; have H1 := (show Hid (_ ∧ _ ∧ _ ∧ _ ∧ _) from ⟨(Below.refl W0.heap.size W0).drew.trans (b1.mono (Below.refl W0.heap.size W0).drew.size), HS.out.1.drew.trans (b1.mono HS.out.1.drew.size), b1.size, n0, trivial⟩); clear b1 n0))
  all_goals
    go_wp2
    refine bodyPost_ret (v := .agg #[.slice s0 x0.length t0, .slice s1 x1.length t1]) (by simp [results, Try.results65, go_sem, y0, y1]) rfl ⟨_, rfl, ?_, ?_⟩
    · obtain ⟨-, -, z0, z1, n0, n1, -⟩ := H2.out
      rw [show W0.drew.heap.size = w.heap.size + 2 from HS.out.2.1] at z0 n0
      have key : OFs w2 [.slice s0 x0.length t0, .slice s1 x1.length t1] [.row x0, .row x1] (Btw (w.heap.size + 2) w2.heap.size) := (OFs.cons n0 (OFs.cons n1 (show OFs _ [] [] _ from trivial) (by omega) (by omega)) (by omega) (by omega))
      refine (key.moved (fun b hb' _ => ?_)).mono (fun b hb' => ⟨by have := hb'.1; omega, by have := hb'.2; simpa using this⟩)
      have e1 : ∀ (j : Nat) (u : Value) (W : World), (W.setCell ⟨w.heap.size + 1, j, none⟩ u).heap[b]? = W.heap[b]? := fun j u W => Below.heap_setCell W _ u b (by have := hb'.1; simp; omega)
      simp only [e1]
    · iterate 2 refine Below.setCell ?_ (by simp) _
      exact H2.out.2.1

end Go.Proofs.Ytlgnklpaebgnlaa
