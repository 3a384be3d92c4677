/-
  A message's copy, whose kids are a row of the call's own.
-/
import Derived.Test.YtobooepdfknihaaGreatDoorMQ
import Derived.Test.YtobooepdfknihaaGreatDoorMA
import Derived.Test.YtobooepdfknihaaGreatDoorMV
namespace Go.Proofs.YtobooepdfknihaaGreatDoor
open Go.RowKit Go.Joins

set_option maxRecDepth 100000

set_option maxHeartbeats 3200000 in
theorem toCellQ_any (v : Value) (x : Ce) (S : Nat → Prop) (w : World) (h : CeAt w S v x) (hb : x.bulk ≤ 1048576) :
    Calls Tryz.prog 30 #[v] w fun e w' => ∃ kv, e = .returned (.agg #[.int .i64 x.kind, .int .i64 x.n, .int .i64 x.pos, kv]) ∧ w'.ownsRow w.heap.size 3 1 kv x.kids.length (intVs x.kids) ∧ (inI64 x.kind ∧ inI64 x.n ∧ inI64 x.pos ∧ ∀ z ∈ x.kids, inI64 z) ∧ Below w.heap.size w w' := by
  obtain ⟨kv, rfl, r1, r2, r3, hk⟩ := h
  obtain ⟨a, cap, rfl⟩ := hk.form
  have hbe := (show x.bulk = x.kids.length from rfl)
  have HK : Hid (IntsAt w S (.slice a x.kids.length cap) x.kids) := hk
  have HR : Hid (inI64 x.kind ∧ inI64 x.n ∧ inI64 x.pos) := ⟨r1, r2, r3⟩
  clear hk r1 r2 r3
  go_enter Tryz.func30, Tryz.ntmps30
  go_wp2_with fail
  have HB0 : Below w.heap.size w (((w.alloc (.cells #[.int .i64 x.kind, .int .i64 x.n, .int .i64 x.pos, .slice a x.kids.length cap] 28)).alloc (.cells #[.int .i64 0, .int .i64 0, .int .i64 0, .slice none 0 0] 40)).alloc (.cells #[.int .i64 x.kind, .int .i64 x.n, .int .i64 x.pos, .slice none 0 0] 40)) :=
    (((Below.refl _ w).alloc (Nat.le_refl _) _).alloc (by simp) _).alloc (by simp; omega) _
  refine (toIntO_any _ x.kids S _ (HK.out.below HB0) (by omega)).mono ?_
  rintro e w1 ⟨kv, rfl, k1, kz, kb, b1⟩
  have hsz : (((w.alloc (.cells #[.int .i64 x.kind, .int .i64 x.n, .int .i64 x.pos, .slice a x.kids.length cap] 28)).alloc (.cells #[.int .i64 0, .int .i64 0, .int .i64 0, .slice none 0 0] 40)).alloc (.cells #[.int .i64 x.kind, .int .i64 x.n, .int .i64 x.pos, .slice none 0 0] 40)).heap.size = w.heap.size + 3 := by simp
  have o2 : w1.heap[w.heap.size + 1 + 1]? = some (.cells #[.int .i64 x.kind, .int .i64 x.n, .int .i64 x.pos, .slice none 0 0] 40) := by
    rw [b1.block _ (by rw [hsz]; omega)]
    have := (MapKept.heap_alloc ((w.alloc (.cells #[.int .i64 x.kind, .int .i64 x.n, .int .i64 x.pos, .slice a x.kids.length cap] 28)).alloc (.cells #[.int .i64 0, .int .i64 0, .int .i64 0, .slice none 0 0] 40)) (.cells #[.int .i64 x.kind, .int .i64 x.n, .int .i64 x.pos, .slice none 0 0] 40)).1
    simpa using this
  have o1 : w1.heap[w.heap.size + 1]? = some (.cells #[.int .i64 0, .int .i64 0, .int .i64 0, .slice none 0 0] 40) := by
    rw [b1.block _ (by rw [hsz]; omega), Below.heap_alloc _ _ _ (by simp)]
    have := (MapKept.heap_alloc (w.alloc (.cells #[.int .i64 x.kind, .int .i64 x.n, .int .i64 x.pos, .slice a x.kids.length cap] 28)) (.cells #[.int .i64 0, .int .i64 0, .int .i64 0, .slice none 0 0] 40)).1
    simpa using this
  rw [hsz] at k1 b1 kb
  have hs1 : w.heap.size + 3 ≤ w1.heap.size := by have := b1.size; rw [hsz] at this; exact this
  have B1 : Below w.heap.size w w1 := HB0.trans (b1.mono (by omega))
  clear HB0 b1 hsz HK
  obtain ⟨ka, kc, rfl⟩ := own_form k1
  have K1 := (show Hid (_ ∧ _ ∧ _) from ⟨k1, kz, kb⟩)
  clear k1 kz kb
  have c20 : w1.cell? ⟨w.heap.size + 1 + 1, 0, none⟩ = some (.int .i64 x.kind) := by rw [cell_of_block o2]; rfl
  have c21 : w1.cell? ⟨w.heap.size + 1 + 1, 1, none⟩ = some (.int .i64 x.n) := by rw [cell_of_block o2]; rfl
  have c22 : w1.cell? ⟨w.heap.size + 1 + 1, 2, none⟩ = some (.int .i64 x.pos) := by rw [cell_of_block o2]; rfl
  have c23 : w1.cell? ⟨w.heap.size + 1 + 1, 3, none⟩ = some (.slice none 0 0) := by rw [cell_of_block o2]; rfl
  have f23 : w1.frozen? ⟨w.heap.size + 1 + 1, 3, none⟩ = false := unfrozen_of_block o2 3
  have c10 : w1.cell? ⟨w.heap.size + 1, 0, none⟩ = some (.int .i64 0) := by rw [cell_of_block o1]; rfl
  have c11 : w1.cell? ⟨w.heap.size + 1, 1, none⟩ = some (.int .i64 0) := by rw [cell_of_block o1]; rfl
  have c12 : w1.cell? ⟨w.heap.size + 1, 2, none⟩ = some (.int .i64 0) := by rw [cell_of_block o1]; rfl
  have c13 : w1.cell? ⟨w.heap.size + 1, 3, none⟩ = some (.slice none 0 0) := by rw [cell_of_block o1]; rfl
  have f10 : w1.frozen? ⟨w.heap.size + 1, 0, none⟩ = false := unfrozen_of_block o1 0
  have f11 : w1.frozen? ⟨w.heap.size + 1, 1, none⟩ = false := unfrozen_of_block o1 1
  have f12 : w1.frozen? ⟨w.heap.size + 1, 2, none⟩ = false := unfrozen_of_block o1 2
  have f13 : w1.frozen? ⟨w.heap.size + 1, 3, none⟩ = false := unfrozen_of_block o1 3
  clear o1 o2
  go_wp2
  refine bodyPost_ret (v := .agg #[.int .i64 x.kind, .int .i64 x.n, .int .i64 x.pos, .slice ka x.kids.length kc]) (by simp [results, Tryz.results30, go_sem, c10, c11, c12, c13]) rfl ⟨_, rfl, ?_, ⟨HR.out.1, HR.out.2.1, HR.out.2.2, K1.out.2.1⟩, ?_⟩
  · refine own_mono (own_moved K1.out.1 (fun b hb => ?_)) (by omega)
    have hb1 : b = w.heap.size + 3 := Option.some.inj (hb.symm.trans K1.out.2.2)
    have e1 : ∀ (j : Nat) (u : Value) (W : World), (W.setCell ⟨w.heap.size + 1, j, none⟩ u).heap[b]? = W.heap[b]? := fun j u W => Below.heap_setCell W _ u b (by simp; omega)
    have e2 : ∀ (j : Nat) (u : Value) (W : World), (W.setCell ⟨w.heap.size + 1 + 1, j, none⟩ u).heap[b]? = W.heap[b]? := fun j u W => Below.heap_setCell W _ u b (by simp; omega)
    rw [e1, e1, e1, e1, e2]
  · exact ((((B1.setCell (p := ⟨w.heap.size + 1 + 1, 3, none⟩) (by simp; omega) _).setCell (p := ⟨w.heap.size + 1, 0, none⟩) (by simp) _).setCell (p := ⟨w.heap.size + 1, 1, none⟩) (by simp) _).setCell (p := ⟨w.heap.size + 1, 2, none⟩) (by simp) _).setCell (p := ⟨w.heap.size + 1, 3, none⟩) (by simp) _

set_option maxHeartbeats 3200000 in
theorem toMsgO_any (v : Value) (m : Ms) (S : Nat → Prop) (w : World) (h : MsAt w S v m) (hb : m.cell.bulk ≤ 1048576) :
    Calls Tryz.prog 9 #[v] w fun e w' => ∃ ka kc, e = .returned (.agg (m.row (.slice ka m.cell.kids.length kc))) ∧ w'.ownsRow w.heap.size 3 1 (.slice ka m.cell.kids.length kc) m.cell.kids.length (intVs m.cell.kids) ∧ m.fits ∧ Below w.heap.size w w' := by
  obtain ⟨a, c, rfl⟩ := h.form
  have HM := (show Hid (_ ∧ _) from ⟨h.cellAt, h⟩)
  clear h
  obtain ⟨W0, hW0⟩ : ∃ W0, W0 = (((w.alloc (.cells (m.row (.slice a m.cell.kids.length c)) 30)).alloc (.cells #[.int .i64 0, .int .i64 0, .int .i64 0, .int .i64 0, .int .i64 0, .int .i64 0, .int .i64 0, .int .i64 0, .slice none 0 0] 42)).alloc (.cells #[.int .i64 m.kind, .int .i64 m.frm, .int .i64 m.dst, .int .i64 m.id, .int .i64 m.want, .int .i64 0, .int .i64 0, .int .i64 0, .slice none 0 0] 42)) := ⟨_, rfl⟩
  have B0 : Below w.heap.size w W0 := by rw [hW0]; exact (((Below.refl _ w).alloc (Nat.le_refl _) _).alloc (by simp) _).alloc (by simp; omega) _
  have hs0 : W0.heap.size = w.heap.size + 3 := by rw [hW0]; simp
  have O3 : W0.heap[w.heap.size + 1 + 1]? = some (.cells #[.int .i64 m.kind, .int .i64 m.frm, .int .i64 m.dst, .int .i64 m.id, .int .i64 m.want, .int .i64 0, .int .i64 0, .int .i64 0, .slice none 0 0] 42) := by
    rw [hW0]
    have := (MapKept.heap_alloc ((w.alloc (.cells (m.row (.slice a m.cell.kids.length c)) 30)).alloc (.cells #[.int .i64 0, .int .i64 0, .int .i64 0, .int .i64 0, .int .i64 0, .int .i64 0, .int .i64 0, .int .i64 0, .slice none 0 0] 42)) (.cells #[.int .i64 m.kind, .int .i64 m.frm, .int .i64 m.dst, .int .i64 m.id, .int .i64 m.want, .int .i64 0, .int .i64 0, .int .i64 0, .slice none 0 0] 42)).1
    simpa using this
  have O2 : W0.heap[w.heap.size + 1]? = some (.cells #[.int .i64 0, .int .i64 0, .int .i64 0, .int .i64 0, .int .i64 0, .int .i64 0, .int .i64 0, .int .i64 0, .slice none 0 0] 42) := by
    rw [hW0, Below.heap_alloc _ _ _ (by simp)]
    have := (MapKept.heap_alloc (w.alloc (.cells (m.row (.slice a m.cell.kids.length c)) 30)) (.cells #[.int .i64 0, .int .i64 0, .int .i64 0, .int .i64 0, .int .i64 0, .int .i64 0, .int .i64 0, .int .i64 0, .slice none 0 0] 42)).1
    simpa using this
  have H0 := (show Hid (_ ∧ _ ∧ _ ∧ _ ∧ _) from ⟨B0, O3, O2, hs0, HM.out.1.belowM B0⟩)
  have HW := (show Hid (_ ∧ True) from ⟨hW0, trivial⟩)
  clear B0 O3 O2 hs0 hW0
  go_enter Tryz.func9, Tryz.ntmps9
  go_wp2_with fail
  rw [← HW.out.1]
  refine (toCellQ_any _ m.cell S W0 H0.out.2.2.2.2 hb).mono ?_
  rintro e w1 ⟨kv, rfl, hk, ⟨r1, r2, r3, r4⟩, b1⟩
  obtain ⟨ka, kc, rfl⟩ := own_form hk
  have o3 := (b1.block _ (by have := H0.out.2.2.2.1; omega)).trans H0.out.2.1
  have o2 := (b1.block _ (by have := H0.out.2.2.2.1; omega)).trans H0.out.2.2.1
  have B1 : Below w.heap.size w w1 := H0.out.1.trans (b1.mono H0.out.1.size)
  have K1 := (show Hid (_ ∧ _ ∧ _ ∧ _ ∧ _ ∧ _ ∧ _) from ⟨hk, r1, r2, r3, B1, H0.out.2.2.2.1, r4⟩)
  clear hk r1 r2 r3 r4 B1 b1 HW
  have c0 : w1.cell? ⟨w.heap.size + 1 + 1, 0, none⟩ = some (.int .i64 m.kind) := by rw [cell_of_block o3]; rfl
  have c1 : w1.cell? ⟨w.heap.size + 1 + 1, 1, none⟩ = some (.int .i64 m.frm) := by rw [cell_of_block o3]; rfl
  have c2 : w1.cell? ⟨w.heap.size + 1 + 1, 2, none⟩ = some (.int .i64 m.dst) := by rw [cell_of_block o3]; rfl
  have c3 : w1.cell? ⟨w.heap.size + 1 + 1, 3, none⟩ = some (.int .i64 m.id) := by rw [cell_of_block o3]; rfl
  have c4 : w1.cell? ⟨w.heap.size + 1 + 1, 4, none⟩ = some (.int .i64 m.want) := by rw [cell_of_block o3]; rfl
  have c5 : w1.cell? ⟨w.heap.size + 1 + 1, 5, none⟩ = some (.int .i64 0) := by rw [cell_of_block o3]; rfl
  have c6 : w1.cell? ⟨w.heap.size + 1 + 1, 6, none⟩ = some (.int .i64 0) := by rw [cell_of_block o3]; rfl
  have c7 : w1.cell? ⟨w.heap.size + 1 + 1, 7, none⟩ = some (.int .i64 0) := by rw [cell_of_block o3]; rfl
  have c8 : w1.cell? ⟨w.heap.size + 1 + 1, 8, none⟩ = some (.slice none 0 0) := by rw [cell_of_block o3]; rfl
  have fc5 : w1.frozen? ⟨w.heap.size + 1 + 1, 5, none⟩ = false := unfrozen_of_block o3 5
  have fc6 : w1.frozen? ⟨w.heap.size + 1 + 1, 6, none⟩ = false := unfrozen_of_block o3 6
  have fc7 : w1.frozen? ⟨w.heap.size + 1 + 1, 7, none⟩ = false := unfrozen_of_block o3 7
  have fc8 : w1.frozen? ⟨w.heap.size + 1 + 1, 8, none⟩ = false := unfrozen_of_block o3 8
  have d0 : w1.cell? ⟨w.heap.size + 1, 0, none⟩ = some (.int .i64 0) := by rw [cell_of_block o2]; rfl
  have d1 : w1.cell? ⟨w.heap.size + 1, 1, none⟩ = some (.int .i64 0) := by rw [cell_of_block o2]; rfl
  have d2 : w1.cell? ⟨w.heap.size + 1, 2, none⟩ = some (.int .i64 0) := by rw [cell_of_block o2]; rfl
  have d3 : w1.cell? ⟨w.heap.size + 1, 3, none⟩ = some (.int .i64 0) := by rw [cell_of_block o2]; rfl
  have d4 : w1.cell? ⟨w.heap.size + 1, 4, none⟩ = some (.int .i64 0) := by rw [cell_of_block o2]; rfl
  have d5 : w1.cell? ⟨w.heap.size + 1, 5, none⟩ = some (.int .i64 0) := by rw [cell_of_block o2]; rfl
  have d6 : w1.cell? ⟨w.heap.size + 1, 6, none⟩ = some (.int .i64 0) := by rw [cell_of_block o2]; rfl
  have d7 : w1.cell? ⟨w.heap.size + 1, 7, none⟩ = some (.int .i64 0) := by rw [cell_of_block o2]; rfl
  have d8 : w1.cell? ⟨w.heap.size + 1, 8, none⟩ = some (.slice none 0 0) := by rw [cell_of_block o2]; rfl
  have fd0 : w1.frozen? ⟨w.heap.size + 1, 0, none⟩ = false := unfrozen_of_block o2 0
  have fd1 : w1.frozen? ⟨w.heap.size + 1, 1, none⟩ = false := unfrozen_of_block o2 1
  have fd2 : w1.frozen? ⟨w.heap.size + 1, 2, none⟩ = false := unfrozen_of_block o2 2
  have fd3 : w1.frozen? ⟨w.heap.size + 1, 3, none⟩ = false := unfrozen_of_block o2 3
  have fd4 : w1.frozen? ⟨w.heap.size + 1, 4, none⟩ = false := unfrozen_of_block o2 4
  have fd5 : w1.frozen? ⟨w.heap.size + 1, 5, none⟩ = false := unfrozen_of_block o2 5
  have fd6 : w1.frozen? ⟨w.heap.size + 1, 6, none⟩ = false := unfrozen_of_block o2 6
  have fd7 : w1.frozen? ⟨w.heap.size + 1, 7, none⟩ = false := unfrozen_of_block o2 7
  have fd8 : w1.frozen? ⟨w.heap.size + 1, 8, none⟩ = false := unfrozen_of_block o2 8
  clear o2 o3
  go_wp2
  obtain ⟨kv0, hv0, hr0, -, -, -, -⟩ := HM.out.2
  refine bodyPost_ret (v := .agg (m.row (.slice ka m.cell.kids.length kc))) (by simp [results, Tryz.results9, go_sem, d0, d1, d2, d3, d4, d5, d6, d7, d8]) rfl ⟨_, _, rfl, ?_, ⟨hr0.1, hr0.2.1, hr0.2.2.1, hr0.2.2.2.1, hr0.2.2.2.2, K1.out.2.1, K1.out.2.2.1, K1.out.2.2.2.1, K1.out.2.2.2.2.2.2⟩, ?_⟩
  · have hs0 := K1.out.2.2.2.2.2.1
    have hk := K1.out.1
    rw [hs0] at hk
    have e1 : ∀ (b : Nat), w.heap.size + 3 ≤ b → ∀ (j : Nat) (u : Value) (W : World), (W.setCell ⟨w.heap.size + 1, j, none⟩ u).heap[b]? = W.heap[b]? := fun b hb j u W => Below.heap_setCell W _ u b (by simp; omega)
    have e2 : ∀ (b : Nat), w.heap.size + 3 ≤ b → ∀ (j : Nat) (u : Value) (W : World), (W.setCell ⟨w.heap.size + 1 + 1, j, none⟩ u).heap[b]? = W.heap[b]? := fun b hb j u W => Below.heap_setCell W _ u b (by simp; omega)
    refine own_mono (own_moved hk (fun b hb => ?_)) (by omega)
    have hb1 := (own_type hk b hb).1
    rw [e1 b hb1, e1 b hb1, e1 b hb1, e1 b hb1, e1 b hb1, e1 b hb1, e1 b hb1, e1 b hb1, e1 b hb1, e2 b hb1, e2 b hb1, e2 b hb1, e2 b hb1]
  · iterate 13 refine Below.setCell ?_ (by simp; try omega) _
    exact K1.out.2.2.2.2.1
theorem MsAt.of_own {W : World} {B : Nat} {m : Ms} {kv : Value} (h : W.ownsRow B 3 1 kv m.cell.kids.length (intVs m.cell.kids)) (hf : m.fits) : MsAt W (fun b => B ≤ b ∧ Pl W b) (.agg (m.row kv)) m :=
  ⟨kv, rfl, ⟨hf.1, hf.2.1, hf.2.2.1, hf.2.2.2.1, hf.2.2.2.2.1⟩, hf.2.2.2.2.2.1, hf.2.2.2.2.2.2.1, hf.2.2.2.2.2.2.2.1, own_ints h hf.2.2.2.2.2.2.2.2⟩
end Go.Proofs.YtobooepdfknihaaGreatDoor
