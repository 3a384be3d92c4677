/-
  The program's copy of a cell.
-/
import Derived.Test.YtlgnklpaebgnlaaMC
import Derived.Deep.RegionHeld3
namespace Go.Proofs.Ytlgnklpaebgnlaa
open Go.RowKit Go.Joins

set_option maxRecDepth 100000

set_option maxHeartbeats 3200000 in
theorem withKids_dt (z0 z1 z2 : Int) (kv kv' : Value) (a a' : Option Addr) (l c l' c' : Nat) (hk : kv = .slice a l c) (hk' : kv' = .slice a' l' c') (w : World) :
    Calls Try.prog 94 #[.agg #[.int .i64 z0, .int .i64 z1, .int .i64 z2, kv], kv'] w fun e w' => e = .returned (.agg #[.int .i64 z0, .int .i64 z1, .int .i64 z2, kv']) ∧ Below w.heap.size w w' := by
  subst hk hk'
  go_enter Try.func94, Try.ntmps94
  go_wp2
  refine bodyPost_ret (v := .agg #[.int .i64 z0, .int .i64 z1, .int .i64 z2, .slice a' l' c']) (by simp [results, Try.results94, go_sem]) rfl ⟨rfl, ?_⟩
  first
    | exact ((Below.refl _ w).alloc (Nat.le_refl _) _).alloc (by simp) _
    | (repeat (first | refine Below.setCell ?_ (by simp) _ | refine Below.alloc ?_ (by simp) _)
       exact Below.refl _ w)

set_option maxHeartbeats 3200000 in
theorem copyCell_dt : ToC 67 CellR := by
  rintro vs r S w ⟨z0, z1, z2, x3, rfl, q3⟩ h hb
  obtain ⟨v0, v1, v2, v3, rfl, a0, a1, a2, a3⟩ := fs4 h
  obtain ⟨rfl, ia0⟩ := a0.ofInt
  obtain ⟨rfl, ia1⟩ := a1.ofInt
  obtain ⟨rfl, ia2⟩ := a2.ofInt
  obtain ⟨p3, c3, rfl⟩ := a3.form
  rw [show Dt.bulkR [.int z0, .int z1, .int z2, .row x3] = Dt.bulkS x3 from by simp [Dt.bulkR, Dt.bulk]] at hb
  obtain ⟨W0, hW0⟩ : ∃ W0, W0 = (w.alloc (.cells #[.int .i64 z0, .int .i64 z1, .int .i64 z2, .slice p3 x3.length c3] 114)).alloc (.cells #[.int .i64 0, .int .i64 0, .int .i64 0, .slice none 0 0] 114) := ⟨_, rfl⟩
  have B : Below w.heap.size w W0 := by rw [hW0]; exact ((Below.refl _ w).alloc (Nat.le_refl _) _).alloc (by simp) _
  have SZ : W0.heap.size = w.heap.size + 2 := by rw [hW0]; simp
  have O0 : W0.heap[w.heap.size]? = some (.cells #[.int .i64 z0, .int .i64 z1, .int .i64 z2, .slice p3 x3.length c3] 114) := by rw [hW0]; exact (Below.heap_alloc _ _ _ (by simp)).trans (MapKept.heap_alloc w _).1
  have O1 : W0.heap[w.heap.size + 1]? = some (.cells #[.int .i64 0, .int .i64 0, .int .i64 0, .slice none 0 0] 114) := by
    rw [hW0]
    have := (MapKept.heap_alloc (w.alloc (.cells #[.int .i64 z0, .int .i64 z1, .int .i64 z2, .slice p3 x3.length c3] 114)) (.cells #[.int .i64 0, .int .i64 0, .int .i64 0, .slice none 0 0] 114)).1
    simpa using this
  have HZ : Hid (∀ wx : World, Below W0.heap.size W0 wx → wx.cell? ⟨w.heap.size, 0, none⟩ = some (.int .i64 z0) ∧ wx.cell? ⟨w.heap.size, 1, none⟩ = some (.int .i64 z1) ∧ wx.cell? ⟨w.heap.size, 2, none⟩ = some (.int .i64 z2) ∧ wx.cell? ⟨w.heap.size, 3, none⟩ = some (.slice p3 x3.length c3)) := fun wx hx => by
    have o := (hx.block _ (lt_heap O0)).trans O0
    exact ⟨by rw [cell_of_block o]; rfl, by rw [cell_of_block o]; rfl, by rw [cell_of_block o]; rfl, by rw [cell_of_block o]; rfl⟩
  have HK : Hid (∀ (wx : World) (u0 u1 u2 u3 : Value), Below W0.heap.size W0 wx → ((((wx.setCell ⟨w.heap.size + 1, 0, none⟩ u0).setCell ⟨w.heap.size + 1, 1, none⟩ u1).setCell ⟨w.heap.size + 1, 2, none⟩ u2).setCell ⟨w.heap.size + 1, 3, none⟩ u3).cell? ⟨w.heap.size, 0, none⟩ = some (.int .i64 z0) ∧ ((((wx.setCell ⟨w.heap.size + 1, 0, none⟩ u0).setCell ⟨w.heap.size + 1, 1, none⟩ u1).setCell ⟨w.heap.size + 1, 2, none⟩ u2).setCell ⟨w.heap.size + 1, 3, none⟩ u3).cell? ⟨w.heap.size, 1, none⟩ = some (.int .i64 z1) ∧ ((((wx.setCell ⟨w.heap.size + 1, 0, none⟩ u0).setCell ⟨w.heap.size + 1, 1, none⟩ u1).setCell ⟨w.heap.size + 1, 2, none⟩ u2).setCell ⟨w.heap.size + 1, 3, none⟩ u3).cell? ⟨w.heap.size, 2, none⟩ = some (.int .i64 z2) ∧ ((((wx.setCell ⟨w.heap.size + 1, 0, none⟩ u0).setCell ⟨w.heap.size + 1, 1, none⟩ u1).setCell ⟨w.heap.size + 1, 2, none⟩ u2).setCell ⟨w.heap.size + 1, 3, none⟩ u3).cell? ⟨w.heap.size, 3, none⟩ = some (.slice p3 x3.length c3)) := fun wx u0 u1 u2 u3 hx => by
    have e1 : ∀ (j : Nat) (u : Value) (W : World), (W.setCell ⟨w.heap.size + 1, j, none⟩ u).heap[w.heap.size]? = W.heap[w.heap.size]? := fun j u W => Below.heap_setCell W _ u _ (by simp)
    have o : ((((wx.setCell ⟨w.heap.size + 1, 0, none⟩ u0).setCell ⟨w.heap.size + 1, 1, none⟩ u1).setCell ⟨w.heap.size + 1, 2, none⟩ u2).setCell ⟨w.heap.size + 1, 3, none⟩ u3).heap[w.heap.size]? = some (.cells #[.int .i64 z0, .int .i64 z1, .int .i64 z2, .slice p3 x3.length c3] 114) := by
      rw [e1, e1, e1, e1]
      exact (hx.block _ (lt_heap O0)).trans O0
    exact ⟨by rw [cell_of_block o]; rfl, by rw [cell_of_block o]; rfl, by rw [cell_of_block o]; rfl, by rw [cell_of_block o]; rfl⟩
  have HS := (show Hid (_ ∧ _ ∧ _ ∧ _) from ⟨B, SZ, O1, a3.up B⟩)
  have HI := (show Hid (_ ∧ _ ∧ _) from ⟨ia0, ia1, ia2⟩)
  have HW := (show Hid (_ ∧ True) from ⟨hW0, trivial⟩)
  have hc := HZ.out W0 (Below.refl _ W0)
  obtain ⟨cc0, cc1, cc2, cc3⟩ := hc
  clear B SZ O0 O1 a0 a1 a2 a3 ia0 ia1 ia2 hW0 h
  go_enter Try.func67, Try.ntmps67
  go_wp2_with fail
  rw [← HW.out.1]
  clear HW
  go_region_held3 (fun w' => w'.cell? ⟨w.heap.size, 0, none⟩ = some (.int .i64 z0) ∧ w'.cell? ⟨w.heap.size, 1, none⟩ = some (.int .i64 z1) ∧ w'.cell? ⟨w.heap.size, 2, none⟩ = some (.int .i64 z2) ∧ w'.cell? ⟨w.heap.size, 3, none⟩ = some (.slice p3 x3.length c3))
    (first | exact HZ.out _ H2.out.1 | exact HZ.out _ H1.out.1 | exact HZ.out _ (Below.refl _ W0).drew | exact HZ.out _ (Below.refl _ W0) | exact HK.out w2 _ _ _ _ H2.out.1)
    (first
      | (go_at_call 70; refine (cloneIntO_dt _ x3 S _ q3 (HS.out.2.2.2.up (Below.refl _ W0).drew) hb).mono ?_; rintro e w1 ⟨u, rfl, n3, b1⟩; obtain ⟨s3, t3, rfl⟩ := n3.form; have H1 := (show Hid (_ ∧ _) from ⟨(Below.refl _ W0).drew.trans b1, n3⟩); clear b1 n3)
      | (go_at_call 94; refine (withKids_dt z0 z1 z2 _ _ _ _ _ _ _ _ rfl rfl _).mono ?_; rintro e w2 ⟨rfl, b2⟩; have HX : Hid (w1.heap.size ≤ w2.heap.size) := b2.size; have H2 := (show Hid (_ ∧ _) from ⟨H1.out.1.trans (b2.mono H1.out.1.size), H1.out.2.up b2⟩); have o1 := (H2.out.1.block _ (lt_heap HS.out.2.2.1)).trans HS.out.2.2.1; have y0 : w2.cell? ⟨w.heap.size + 1, 0, none⟩ = some (.int .i64 0) := (by rw [cell_of_block o1]; rfl); have y1 : w2.cell? ⟨w.heap.size + 1, 1, none⟩ = some (.int .i64 0) := (by rw [cell_of_block o1]; rfl); have y2 : w2.cell? ⟨w.heap.size + 1, 2, none⟩ = some (.int .i64 0) := (by rw [cell_of_block o1]; rfl); have y3 : w2.cell? ⟨w.heap.size + 1, 3, none⟩ = some (.slice none 0 0) := (by rw [cell_of_block o1]; rfl); have f0 : w2.frozen? ⟨w.heap.size + 1, 0, none⟩ = false := unfrozen_of_block o1 0; have f1 : w2.frozen? ⟨w.heap.size + 1, 1, none⟩ = false := unfrozen_of_block o1 1; have f2 : w2.frozen? ⟨w.heap.size + 1, 2, none⟩ = false := unfrozen_of_block o1 2; have f3 : w2.frozen? ⟨w.heap.size + 1, 3, none⟩ = false := unfrozen_of_block o1 3; clear b2 o1))
  all_goals
    go_wp2
    refine bodyPost_ret (v := .agg #[.int .i64 z0, .int .i64 z1, .int .i64 z2, .slice s3 x3.length t3]) (by simp [results, Try.results67, go_sem, y0, y1, y2, y3]) rfl ⟨_, rfl, ?_, ?_⟩
    · have n3 := H2.out.2
      rw [show W0.drew.heap.size = w.heap.size + 2 from HS.out.2.1] at n3
      have key : OFs w2 [.int .i64 z0, .int .i64 z1, .int .i64 z2, .slice s3 x3.length t3] [.int z0, .int z1, .int z2, .row x3] (Btw (w.heap.size + 2) w2.heap.size) :=
        OFs.int HI.out.1 (OFs.int HI.out.2.1 (OFs.int HI.out.2.2 ⟨_, fun _ => False, fun b hb' => ⟨hb'.1, Nat.lt_of_lt_of_le hb'.2 HX.out⟩, fun _ hf => hf.elim, fun _ _ hf => hf, n3, trivial⟩))
      refine (key.moved (fun b hb' _ => ?_)).mono (fun b hb' => ⟨by have := hb'.1; omega, by have := hb'.2; simpa using this⟩)
      have e1 : ∀ (j : Nat) (u : Value) (W : World), (W.setCell ⟨w.heap.size + 1, j, none⟩ u).heap[b]? = W.heap[b]? := fun j u W => Below.heap_setCell W _ u b (by have := hb'.1; simp; omega)
      simp only [e1]
    · iterate 4 refine Below.setCell ?_ (by simp) _
      exact HS.out.1.trans (H2.out.1.mono HS.out.1.size)
end Go.Proofs.Ytlgnklpaebgnlaa
