/-
  Two cells that are alike.
  A cell in memory: its bulk, its copy, two that are alike.
  Two messages that are alike.
  A message in memory: its bulk, its copy.
  An argument that is a cell, opened.
  An argument that is a message, opened.
-/
import Derived.Test.YtobooepdfknihaaGreatDoorMB
import Derived.Test.YtobooepdfknihaaGreatDoorME
namespace Go.Proofs.YtobooepdfknihaaGreatDoor
open Go.RowKit Go.Joins

set_option maxRecDepth 100000

set_option maxHeartbeats 3200000 in
theorem eqCell_any (v1 v2 : Value) (x : Ce) (S1 S2 : Nat → Prop) (w : World) (h1 : CeAt w S1 v1 x) (h2 : CeAt w S2 v2 x) (hb : x.bulk ≤ 4194304) :
    Calls Tryz.prog 37 #[v1, v2] w fun e w' => e = .returned (.bool true) ∧ Below w.heap.size w w' := by
  have hbe := (show x.bulk = x.kids.length from rfl)
  obtain ⟨kv1, rfl, -, -, -, k1⟩ := h1
  obtain ⟨kv2, rfl, -, -, -, k2⟩ := h2
  obtain ⟨a1, c1, rfl⟩ := k1.form
  obtain ⟨a2, c2, rfl⟩ := k2.form
  have e1 : (x.kind != x.kind) = false := by simp
  have e2 : (x.n != x.n) = false := by simp
  have e3 : (x.pos != x.pos) = false := by simp
  have B0 : Below w.heap.size w ((w.alloc (.cells #[.int .i64 x.kind, .int .i64 x.n, .int .i64 x.pos, .slice a1 x.kids.length c1] 40)).alloc (.cells #[.int .i64 x.kind, .int .i64 x.n, .int .i64 x.pos, .slice a2 x.kids.length c2] 40)) :=
    ((Below.refl _ w).alloc (Nat.le_refl _) _).alloc (by simp) _
  have HK1 := (show Hid (_ ∧ True) from ⟨k1.below B0, trivial⟩)
  have HK2 := (show Hid (_ ∧ True) from ⟨k2.below B0, trivial⟩)
  have HB0 := (show Hid (_ ∧ True) from ⟨B0, trivial⟩)
  have hnot := ex_not
  clear k1 k2 B0
  go_enter Tryz.func37, Tryz.ntmps37
  go_wp2_with fail
  refine (eqIntS_same _ _ x.kids S1 S2 _ HK1.out.1 HK2.out.1 (by omega)).mono ?_
  rintro e w1 ⟨rfl, b1⟩
  have B1 : Below w.heap.size w w1 := HB0.out.1.trans (b1.mono HB0.out.1.size)
  clear b1 HB0 HK1 HK2
  go_wp2
  go_ret
  exact ⟨rfl, B1⟩
end Go.Proofs.YtobooepdfknihaaGreatDoor

namespace Go.Proofs.YtobooepdfknihaaGreatDoor
open Go.RowKit Go.Joins

set_option maxRecDepth 100000

set_option maxHeartbeats 3200000 in
theorem szCell_any (v : Value) (x : Ce) (S : Nat → Prop) (w : World) (left : Int) (h : CeAt w S v x) (h0 : 0 ≤ left) (h1 : left ≤ 1048576) :
    Calls Tryz.prog 22 #[v, .int .i64 left] w fun e w' => e = .returned (.int .i64 (szR left x.bulk)) ∧ Below w.heap.size w w' := by
  obtain ⟨kv, rfl, r1, r2, r3, hk⟩ := h
  have hkl := hk.len
  rw [show x.bulk = x.kids.length from rfl]
  obtain ⟨a, cap, rfl⟩ := hk.form
  have hk1 := hk.below ((Below.refl _ w).alloc (Nat.le_refl _) (.cells #[.int .i64 x.kind, .int .i64 x.n, .int .i64 x.pos, .slice a x.kids.length cap] 28))
  have HK : Hid (IntsAt (w.alloc (.cells #[.int .i64 x.kind, .int .i64 x.n, .int .i64 x.pos, .slice a x.kids.length cap] 28)) S (.slice a x.kids.length cap) x.kids) := hk1
  clear hk hk1 r1 r2 r3
  go_enter Tryz.func22, Tryz.ntmps22
  go_wp2_with fail
  refine (szIntS_any _ x.kids S _ _ HK.out (by omega) (by omega)).mono ?_
  rintro e w1 ⟨rfl, b1⟩
  have b2 : Below w.heap.size w w1 := ((Below.refl _ w).alloc (Nat.le_refl _) _).trans (b1.mono (by simp))
  clear b1 HK
  have hbd : -1 ≤ szR left x.kids.length ∧ szR left x.kids.length ≤ 1048576 := by unfold szR; split <;> omega
  have heq : ∃ r, r = szR left x.kids.length := ⟨_, rfl⟩
  obtain ⟨r, heq⟩ := heq
  rw [← heq] at hbd ⊢
  by_cases hr : r < 0
  · go_wp2
    go_ret
    exact ⟨int_ret (by omega), b2⟩
  · go_wp2
    go_ret
    exact ⟨int_ret (by omega), b2⟩

set_option maxHeartbeats 3200000 in
theorem toCell_any (v : Value) (x : Ce) (S : Nat → Prop) (w : World) (h : CeAt w S v x) (hb : x.bulk ≤ 1048576) :
    Calls Tryz.prog 30 #[v] w fun e w' => ∃ v', e = .returned v' ∧ CeAt w' (fun b => w.heap.size ≤ b ∧ Pl w' b) v' x ∧ Below w.heap.size w w' := by
  obtain ⟨kv, rfl, r1, r2, r3, hk⟩ := h
  obtain ⟨a, cap, rfl⟩ := hk.form
  have hbe := (show x.bulk = x.kids.length from rfl)
  have HK : Hid (IntsAt w S (.slice a x.kids.length cap) x.kids) := hk
  have HR : Hid (inI64 x.kind ∧ inI64 x.n ∧ inI64 x.pos) := ⟨r1, r2, r3⟩
  clear hk r1 r2 r3
  go_enter Tryz.func30, Tryz.ntmps30
  go_wp2_with fail
  have HB0 : Below w.heap.size w (((w.alloc (.cells #[.int .i64 x.kind, .int .i64 x.n, .int .i64 x.pos, .slice a x.kids.length cap] 28)).alloc (.cells #[.int .i64 0, .int .i64 0, .int .i64 0, .slice none 0 0] 40)).alloc (.cells #[.int .i64 x.kind, .int .i64 x.n, .int .i64 x.pos, .slice none 0 0] 40)) :=
    (((Below.refl _ w).alloc (Nat.le_refl _) _).alloc (by simp) _).alloc (by simp; omega) _
  refine (toIntS_any _ x.kids S _ (HK.out.below HB0) (by omega)).mono ?_
  rintro e w1 ⟨kv, rfl, k1, b1⟩
  have hsz : (((w.alloc (.cells #[.int .i64 x.kind, .int .i64 x.n, .int .i64 x.pos, .slice a x.kids.length cap] 28)).alloc (.cells #[.int .i64 0, .int .i64 0, .int .i64 0, .slice none 0 0] 40)).alloc (.cells #[.int .i64 x.kind, .int .i64 x.n, .int .i64 x.pos, .slice none 0 0] 40)).heap.size = w.heap.size + 3 := by simp
  have o2 : w1.heap[w.heap.size + 1 + 1]? = some (.cells #[.int .i64 x.kind, .int .i64 x.n, .int .i64 x.pos, .slice none 0 0] 40) := by
    rw [b1.block _ (by rw [hsz]; omega)]
    have := (MapKept.heap_alloc ((w.alloc (.cells #[.int .i64 x.kind, .int .i64 x.n, .int .i64 x.pos, .slice a x.kids.length cap] 28)).alloc (.cells #[.int .i64 0, .int .i64 0, .int .i64 0, .slice none 0 0] 40)) (.cells #[.int .i64 x.kind, .int .i64 x.n, .int .i64 x.pos, .slice none 0 0] 40)).1
    simpa using this
  have o1 : w1.heap[w.heap.size + 1]? = some (.cells #[.int .i64 0, .int .i64 0, .int .i64 0, .slice none 0 0] 40) := by
    rw [b1.block _ (by rw [hsz]; omega), Below.heap_alloc _ _ _ (by simp)]
    have := (MapKept.heap_alloc (w.alloc (.cells #[.int .i64 x.kind, .int .i64 x.n, .int .i64 x.pos, .slice a x.kids.length cap] 28)) (.cells #[.int .i64 0, .int .i64 0, .int .i64 0, .slice none 0 0] 40)).1
    simpa using this
  rw [hsz] at k1 b1
  have hs1 : w.heap.size + 3 ≤ w1.heap.size := by have := b1.size; rw [hsz] at this; exact this
  have B1 : Below w.heap.size w w1 := HB0.trans (b1.mono (by omega))
  clear HB0 b1 hsz HK
  obtain ⟨ka, kc, rfl⟩ := k1.form
  have K1 : Hid (IntsAt w1 (fun b => w.heap.size + 3 ≤ b ∧ Pl w1 b) (.slice ka x.kids.length kc) x.kids) := k1
  clear k1
  have c20 : w1.cell? ⟨w.heap.size + 1 + 1, 0, none⟩ = some (.int .i64 x.kind) := by rw [cell_of_block o2]; rfl
  have c21 : w1.cell? ⟨w.heap.size + 1 + 1, 1, none⟩ = some (.int .i64 x.n) := by rw [cell_of_block o2]; rfl
  have c22 : w1.cell? ⟨w.heap.size + 1 + 1, 2, none⟩ = some (.int .i64 x.pos) := by rw [cell_of_block o2]; rfl
  have c23 : w1.cell? ⟨w.heap.size + 1 + 1, 3, none⟩ = some (.slice none 0 0) := by rw [cell_of_block o2]; rfl
  have f23 : w1.frozen? ⟨w.heap.size + 1 + 1, 3, none⟩ = false := unfrozen_of_block o2 3
  have c10 : w1.cell? ⟨w.heap.size + 1, 0, none⟩ = some (.int .i64 0) := by rw [cell_of_block o1]; rfl
  have c11 : w1.cell? ⟨w.heap.size + 1, 1, none⟩ = some (.int .i64 0) := by rw [cell_of_block o1]; rfl
  have c12 : w1.cell? ⟨w.heap.size + 1, 2, none⟩ = some (.int .i64 0) := by rw [cell_of_block o1]; rfl
  have c13 : w1.cell? ⟨w.heap.size + 1, 3, none⟩ = some (.slice none 0 0) := by rw [cell_of_block o1]; rfl
  have f10 : w1.frozen? ⟨w.heap.size + 1, 0, none⟩ = false := unfrozen_of_block o1 0
  have f11 : w1.frozen? ⟨w.heap.size + 1, 1, none⟩ = false := unfrozen_of_block o1 1
  have f12 : w1.frozen? ⟨w.heap.size + 1, 2, none⟩ = false := unfrozen_of_block o1 2
  have f13 : w1.frozen? ⟨w.heap.size + 1, 3, none⟩ = false := unfrozen_of_block o1 3
  clear o1 o2
  go_wp2
  refine bodyPost_ret (v := .agg #[.int .i64 x.kind, .int .i64 x.n, .int .i64 x.pos, .slice ka x.kids.length kc]) (by simp [results, Tryz.results30, go_sem, c10, c11, c12, c13]) rfl ⟨_, rfl, ⟨_, rfl, HR.out.1, HR.out.2.1, HR.out.2.2, ?_⟩, ?_⟩
  · have he : ∀ b, w.heap.size + 3 ≤ b → (((((w1.setCell ⟨w.heap.size + 1 + 1, 3, none⟩ (.slice ka x.kids.length kc)).setCell ⟨w.heap.size + 1, 0, none⟩ (.int .i64 x.kind)).setCell ⟨w.heap.size + 1, 1, none⟩ (.int .i64 x.n)).setCell ⟨w.heap.size + 1, 2, none⟩ (.int .i64 x.pos)).setCell ⟨w.heap.size + 1, 3, none⟩ (.slice ka x.kids.length kc)).heap[b]? = w1.heap[b]? := ?_
    refine K1.out.kept (fun b hb1 hb2 => he b hb1.1) (by simp) (fun b hb1 _ => ⟨by omega, hb1.2.of (he b hb1.1)⟩)
    intro b hb1
    have e1 : ∀ (j : Nat) (u : Value) (W : World), (W.setCell ⟨w.heap.size + 1, j, none⟩ u).heap[b]? = W.heap[b]? := fun j u W => Below.heap_setCell W _ u b (by simp; omega)
    have e2 : ∀ (j : Nat) (u : Value) (W : World), (W.setCell ⟨w.heap.size + 1 + 1, j, none⟩ u).heap[b]? = W.heap[b]? := fun j u W => Below.heap_setCell W _ u b (by simp; omega)
    rw [e1, e1, e1, e1, e2]
  · exact ((((B1.setCell (p := ⟨w.heap.size + 1 + 1, 3, none⟩) (by simp; omega) _).setCell (p := ⟨w.heap.size + 1, 0, none⟩) (by simp) _).setCell (p := ⟨w.heap.size + 1, 1, none⟩) (by simp) _).setCell (p := ⟨w.heap.size + 1, 2, none⟩) (by simp) _).setCell (p := ⟨w.heap.size + 1, 3, none⟩) (by simp) _

end Go.Proofs.YtobooepdfknihaaGreatDoor

namespace Go.Proofs.YtobooepdfknihaaGreatDoor
open Go.RowKit Go.Joins

set_option maxRecDepth 100000

set_option maxHeartbeats 3200000 in
theorem eqMsg_any (v1 v2 : Value) (m : Ms) (S1 S2 : Nat → Prop) (w : World) (h1 : MsAt w S1 v1 m) (h2 : MsAt w S2 v2 m) (hb : m.cell.bulk ≤ 4194304) :
    Calls Tryz.prog 12 #[v1, v2] w fun e w' => e = .returned (.bool true) ∧ Below w.heap.size w w' := by
  obtain ⟨a1, c1, rfl⟩ := h1.form
  obtain ⟨a2, c2, rfl⟩ := h2.form
  have e1 : (m.kind != m.kind) = false := by simp
  have e2 : (m.frm != m.frm) = false := by simp
  have e3 : (m.dst != m.dst) = false := by simp
  have e4 : (m.id != m.id) = false := by simp
  have e5 : (m.want != m.want) = false := by simp
  have B0 : Below w.heap.size w ((w.alloc (.cells (m.row (.slice a1 m.cell.kids.length c1)) 42)).alloc (.cells (m.row (.slice a2 m.cell.kids.length c2)) 42)) :=
    ((Below.refl _ w).alloc (Nat.le_refl _) _).alloc (by simp) _
  have HK := (show Hid (_ ∧ _ ∧ _) from ⟨h1.cellAt.belowM B0, h2.cellAt.belowM B0, B0⟩)
  have hnot := ex_not
  clear h1 h2 B0
  go_enter Tryz.func12, Tryz.ntmps12
  go_wp2_with (go_at_call 37; refine (eqCell_any _ _ m.cell S1 S2 _ HK.out.1 HK.out.2.1 hb).mono ?_; rintro e w1 ⟨rfl, b1⟩)
  go_ret
  exact ⟨rfl, HK.out.2.2.trans (b1.mono HK.out.2.2.size)⟩
end Go.Proofs.YtobooepdfknihaaGreatDoor

namespace Go.Proofs.YtobooepdfknihaaGreatDoor
open Go.RowKit Go.Joins

set_option maxRecDepth 100000

set_option maxHeartbeats 3200000 in
theorem szMsg_any (v : Value) (m : Ms) (S : Nat → Prop) (w : World) (left : Int) (h : MsAt w S v m) (h0 : 0 ≤ left) (h1 : left ≤ 1048576) :
    Calls Tryz.prog 6 #[v, .int .i64 left] w fun e w' => e = .returned (.int .i64 (szR left m.cell.bulk)) ∧ Below w.heap.size w w' := by
  obtain ⟨a, c, rfl⟩ := h.form
  have hb0 : Below w.heap.size w (w.alloc (.cells (m.row (.slice a m.cell.kids.length c)) 30)) := (Below.refl _ w).alloc (Nat.le_refl _) _
  have HK := (show Hid (_ ∧ _) from ⟨h.cellAt.belowM hb0, hb0⟩)
  clear h hb0
  go_enter Tryz.func6, Tryz.ntmps6
  go_wp2_with fail
  refine (szCell_any _ m.cell S _ left HK.out.1 h0 h1).mono ?_
  rintro e w1 ⟨rfl, b1⟩
  have b2 : Below w.heap.size w w1 := HK.out.2.trans (b1.mono HK.out.2.size)
  clear b1 HK
  have hbd : -1 ≤ szR left m.cell.bulk ∧ szR left m.cell.bulk ≤ 1048576 := by unfold szR; split <;> omega
  obtain ⟨r, heq⟩ : ∃ r, r = szR left m.cell.bulk := ⟨_, rfl⟩
  rw [← heq] at hbd ⊢
  by_cases hr : r < 0
  · go_wp2
    go_ret
    exact ⟨int_ret (by omega), b2⟩
  · go_wp2
    go_ret
    exact ⟨int_ret (by omega), b2⟩

set_option maxHeartbeats 3200000 in
theorem toMsg_any (v : Value) (m : Ms) (S : Nat → Prop) (w : World) (h : MsAt w S v m) (hb : m.cell.bulk ≤ 1048576) :
    Calls Tryz.prog 9 #[v] w fun e w' => ∃ v', e = .returned v' ∧ MsAt w' (fun b => w.heap.size ≤ b ∧ Pl w' b) v' m ∧ Below w.heap.size w w' := by
  obtain ⟨a, c, rfl⟩ := h.form
  have HM := (show Hid (_ ∧ _) from ⟨h.cellAt, h⟩)
  clear h
  obtain ⟨W0, hW0⟩ : ∃ W0, W0 = (((w.alloc (.cells (m.row (.slice a m.cell.kids.length c)) 30)).alloc (.cells #[.int .i64 0, .int .i64 0, .int .i64 0, .int .i64 0, .int .i64 0, .int .i64 0, .int .i64 0, .int .i64 0, .slice none 0 0] 42)).alloc (.cells #[.int .i64 m.kind, .int .i64 m.frm, .int .i64 m.dst, .int .i64 m.id, .int .i64 m.want, .int .i64 0, .int .i64 0, .int .i64 0, .slice none 0 0] 42)) := ⟨_, rfl⟩
  have B0 : Below w.heap.size w W0 := by rw [hW0]; exact (((Below.refl _ w).alloc (Nat.le_refl _) _).alloc (by simp) _).alloc (by simp; omega) _
  have hs0 : W0.heap.size = w.heap.size + 3 := by rw [hW0]; simp
  have O3 : W0.heap[w.heap.size + 1 + 1]? = some (.cells #[.int .i64 m.kind, .int .i64 m.frm, .int .i64 m.dst, .int .i64 m.id, .int .i64 m.want, .int .i64 0, .int .i64 0, .int .i64 0, .slice none 0 0] 42) := by
    rw [hW0]
    have := (MapKept.heap_alloc ((w.alloc (.cells (m.row (.slice a m.cell.kids.length c)) 30)).alloc (.cells #[.int .i64 0, .int .i64 0, .int .i64 0, .int .i64 0, .int .i64 0, .int .i64 0, .int .i64 0, .int .i64 0, .slice none 0 0] 42)) (.cells #[.int .i64 m.kind, .int .i64 m.frm, .int .i64 m.dst, .int .i64 m.id, .int .i64 m.want, .int .i64 0, .int .i64 0, .int .i64 0, .slice none 0 0] 42)).1
    simpa using this
  have O2 : W0.heap[w.heap.size + 1]? = some (.cells #[.int .i64 0, .int .i64 0, .int .i64 0, .int .i64 0, .int .i64 0, .int .i64 0, .int .i64 0, .int .i64 0, .slice none 0 0] 42) := by
    rw [hW0, Below.heap_alloc _ _ _ (by simp)]
    have := (MapKept.heap_alloc (w.alloc (.cells (m.row (.slice a m.cell.kids.length c)) 30)) (.cells #[.int .i64 0, .int .i64 0, .int .i64 0, .int .i64 0, .int .i64 0, .int .i64 0, .int .i64 0, .int .i64 0, .slice none 0 0] 42)).1
    simpa using this
  have H0 := (show Hid (_ ∧ _ ∧ _ ∧ _ ∧ _) from ⟨B0, O3, O2, hs0, HM.out.1.belowM B0⟩)
  have HW := (show Hid (_ ∧ True) from ⟨hW0, trivial⟩)
  clear B0 O3 O2 hs0 hW0
  go_enter Tryz.func9, Tryz.ntmps9
  go_wp2_with fail
  rw [← HW.out.1]
  refine (toCell_any _ m.cell S W0 H0.out.2.2.2.2 hb).mono ?_
  rintro e w1 ⟨cv, rfl, hc, b1⟩
  obtain ⟨kv, rfl, r1, r2, r3, hk⟩ := hc
  obtain ⟨ka, kc, rfl⟩ := hk.form
  have o3 := (b1.block _ (by have := H0.out.2.2.2.1; omega)).trans H0.out.2.1
  have o2 := (b1.block _ (by have := H0.out.2.2.2.1; omega)).trans H0.out.2.2.1
  have B1 : Below w.heap.size w w1 := H0.out.1.trans (b1.mono H0.out.1.size)
  have K1 := (show Hid (_ ∧ _ ∧ _ ∧ _ ∧ _ ∧ _) from ⟨hk, r1, r2, r3, B1, H0.out.2.2.2.1⟩)
  clear hk r1 r2 r3 B1 b1 HW
  have c0 : w1.cell? ⟨w.heap.size + 1 + 1, 0, none⟩ = some (.int .i64 m.kind) := by rw [cell_of_block o3]; rfl
  have c1 : w1.cell? ⟨w.heap.size + 1 + 1, 1, none⟩ = some (.int .i64 m.frm) := by rw [cell_of_block o3]; rfl
  have c2 : w1.cell? ⟨w.heap.size + 1 + 1, 2, none⟩ = some (.int .i64 m.dst) := by rw [cell_of_block o3]; rfl
  have c3 : w1.cell? ⟨w.heap.size + 1 + 1, 3, none⟩ = some (.int .i64 m.id) := by rw [cell_of_block o3]; rfl
  have c4 : w1.cell? ⟨w.heap.size + 1 + 1, 4, none⟩ = some (.int .i64 m.want) := by rw [cell_of_block o3]; rfl
  have c5 : w1.cell? ⟨w.heap.size + 1 + 1, 5, none⟩ = some (.int .i64 0) := by rw [cell_of_block o3]; rfl
  have c6 : w1.cell? ⟨w.heap.size + 1 + 1, 6, none⟩ = some (.int .i64 0) := by rw [cell_of_block o3]; rfl
  have c7 : w1.cell? ⟨w.heap.size + 1 + 1, 7, none⟩ = some (.int .i64 0) := by rw [cell_of_block o3]; rfl
  have c8 : w1.cell? ⟨w.heap.size + 1 + 1, 8, none⟩ = some (.slice none 0 0) := by rw [cell_of_block o3]; rfl
  have fc5 : w1.frozen? ⟨w.heap.size + 1 + 1, 5, none⟩ = false := unfrozen_of_block o3 5
  have fc6 : w1.frozen? ⟨w.heap.size + 1 + 1, 6, none⟩ = false := unfrozen_of_block o3 6
  have fc7 : w1.frozen? ⟨w.heap.size + 1 + 1, 7, none⟩ = false := unfrozen_of_block o3 7
  have fc8 : w1.frozen? ⟨w.heap.size + 1 + 1, 8, none⟩ = false := unfrozen_of_block o3 8
  have d0 : w1.cell? ⟨w.heap.size + 1, 0, none⟩ = some (.int .i64 0) := by rw [cell_of_block o2]; rfl
  have d1 : w1.cell? ⟨w.heap.size + 1, 1, none⟩ = some (.int .i64 0) := by rw [cell_of_block o2]; rfl
  have d2 : w1.cell? ⟨w.heap.size + 1, 2, none⟩ = some (.int .i64 0) := by rw [cell_of_block o2]; rfl
  have d3 : w1.cell? ⟨w.heap.size + 1, 3, none⟩ = some (.int .i64 0) := by rw [cell_of_block o2]; rfl
  have d4 : w1.cell? ⟨w.heap.size + 1, 4, none⟩ = some (.int .i64 0) := by rw [cell_of_block o2]; rfl
  have d5 : w1.cell? ⟨w.heap.size + 1, 5, none⟩ = some (.int .i64 0) := by rw [cell_of_block o2]; rfl
  have d6 : w1.cell? ⟨w.heap.size + 1, 6, none⟩ = some (.int .i64 0) := by rw [cell_of_block o2]; rfl
  have d7 : w1.cell? ⟨w.heap.size + 1, 7, none⟩ = some (.int .i64 0) := by rw [cell_of_block o2]; rfl
  have d8 : w1.cell? ⟨w.heap.size + 1, 8, none⟩ = some (.slice none 0 0) := by rw [cell_of_block o2]; rfl
  have fd0 : w1.frozen? ⟨w.heap.size + 1, 0, none⟩ = false := unfrozen_of_block o2 0
  have fd1 : w1.frozen? ⟨w.heap.size + 1, 1, none⟩ = false := unfrozen_of_block o2 1
  have fd2 : w1.frozen? ⟨w.heap.size + 1, 2, none⟩ = false := unfrozen_of_block o2 2
  have fd3 : w1.frozen? ⟨w.heap.size + 1, 3, none⟩ = false := unfrozen_of_block o2 3
  have fd4 : w1.frozen? ⟨w.heap.size + 1, 4, none⟩ = false := unfrozen_of_block o2 4
  have fd5 : w1.frozen? ⟨w.heap.size + 1, 5, none⟩ = false := unfrozen_of_block o2 5
  have fd6 : w1.frozen? ⟨w.heap.size + 1, 6, none⟩ = false := unfrozen_of_block o2 6
  have fd7 : w1.frozen? ⟨w.heap.size + 1, 7, none⟩ = false := unfrozen_of_block o2 7
  have fd8 : w1.frozen? ⟨w.heap.size + 1, 8, none⟩ = false := unfrozen_of_block o2 8
  clear o2 o3
  go_wp2
  obtain ⟨kv0, hv0, hr0, -, -, -, -⟩ := HM.out.2
  refine bodyPost_ret (v := .agg (m.row (.slice ka m.cell.kids.length kc))) (by simp [results, Tryz.results9, go_sem, d0, d1, d2, d3, d4, d5, d6, d7, d8]) rfl ⟨_, rfl, ⟨_, rfl, hr0, K1.out.2.1, K1.out.2.2.1, K1.out.2.2.2.1, ?_⟩, ?_⟩
  · have hs0 := K1.out.2.2.2.2.2
    have hk := K1.out.1
    rw [hs0] at hk
    have e1 : ∀ (b : Nat), w.heap.size + 3 ≤ b → ∀ (j : Nat) (u : Value) (W : World), (W.setCell ⟨w.heap.size + 1, j, none⟩ u).heap[b]? = W.heap[b]? := fun b hb j u W => Below.heap_setCell W _ u b (by simp; omega)
    have e2 : ∀ (b : Nat), w.heap.size + 3 ≤ b → ∀ (j : Nat) (u : Value) (W : World), (W.setCell ⟨w.heap.size + 1 + 1, j, none⟩ u).heap[b]? = W.heap[b]? := fun b hb j u W => Below.heap_setCell W _ u b (by simp; omega)
    refine hk.kept (fun b hb1 hb2 => ?_) (by simp) (fun b hb1 _ => ⟨by omega, hb1.2.of ?_⟩)
    · rw [e1 b hb1.1, e1 b hb1.1, e1 b hb1.1, e1 b hb1.1, e1 b hb1.1, e1 b hb1.1, e1 b hb1.1, e1 b hb1.1, e1 b hb1.1, e2 b hb1.1, e2 b hb1.1, e2 b hb1.1, e2 b hb1.1]
    · rw [e1 b hb1.1, e1 b hb1.1, e1 b hb1.1, e1 b hb1.1, e1 b hb1.1, e1 b hb1.1, e1 b hb1.1, e1 b hb1.1, e1 b hb1.1, e2 b hb1.1, e2 b hb1.1, e2 b hb1.1, e2 b hb1.1]
  · iterate 13 refine Below.setCell ?_ (by simp; try omega) _
    exact K1.out.2.2.2.2.1
end Go.Proofs.YtobooepdfknihaaGreatDoor

namespace Go.Proofs.YtobooepdfknihaaGreatDoor
open Go.RowKit Go.Joins

set_option maxRecDepth 100000

theorem cells_cell : Tryz.prog.cellsOf 28 = 4 := by kernel_rfl
section
variable {H : Type} {enc : TypeId × Value → H} {w : World} {spare : Nat → Bool} {held : Bool}

/-- The four fields of a cell that is read. -/
theorem open_lfields {fuel : Nat} {c0 c1 c2 c3 : Value} {x : DataW H × List MemPlace} (h : DataW.trod enc Tryz.prog w 0 spare held fuel 28 [c0, c1, c2, c3] = some x) :
    ∃ k n t, c0 = .int .i64 k ∧ c1 = .int .i64 n ∧ c2 = .int .i64 t ∧ inI64 k ∧ inI64 n ∧ inI64 t ∧ ∃ m y, fuel = m + 1 ∧ DataW.trod enc Tryz.prog w 0 spare held m 26 [c3] = some y := by
  obtain ⟨xs, m, hm, _, _, hlen, hf⟩ := DataW.trod_struct Tryz.underlying28 h
  have hl4 : xs.length = 4 := hlen
  obtain ⟨x0, x1, x2, x3, rfl⟩ : ∃ x0 x1 x2 x3, xs = [x0, x1, x2, x3] := by
    match xs, hl4 with
    | [x0, x1, x2, x3], _ => exact ⟨x0, x1, x2, x3, rfl⟩
  have e1 : Tryz.prog.cellsOf 3 = 1 := by kernel_rfl
  have e3 : Tryz.prog.cellsOf 26 = 1 := by kernel_rfl
  have f0 : DataW.trod enc Tryz.prog w 0 spare held m 3 (([c0, c1, c2, c3].drop 0).take (Tryz.prog.cellsOf 3)) = some x0 := hf 0 _ rfl
  have f1 : DataW.trod enc Tryz.prog w 0 spare held m 3 (([c0, c1, c2, c3].drop 1).take (Tryz.prog.cellsOf 3)) = some x1 := hf 1 _ rfl
  have f2 : DataW.trod enc Tryz.prog w 0 spare held m 3 (([c0, c1, c2, c3].drop 2).take (Tryz.prog.cellsOf 3)) = some x2 := hf 2 _ rfl
  have f3 : DataW.trod enc Tryz.prog w 0 spare held m 26 (([c0, c1, c2, c3].drop 3).take (Tryz.prog.cellsOf 26)) = some x3 := hf 3 _ rfl
  rw [e1] at f0 f1 f2
  rw [e3] at f3
  obtain ⟨k, hk, _, wk⟩ := DataW.trod_int Tryz.underlying3 (show DataW.trod enc Tryz.prog w 0 spare held m 3 [c0] = some x0 from f0)
  obtain ⟨n, hn, _, wn⟩ := DataW.trod_int Tryz.underlying3 (show DataW.trod enc Tryz.prog w 0 spare held m 3 [c1] = some x1 from f1)
  obtain ⟨t, ht, _, wt⟩ := DataW.trod_int Tryz.underlying3 (show DataW.trod enc Tryz.prog w 0 spare held m 3 [c2] = some x2 from f2)
  simp only [List.cons.injEq, and_true] at hk hn ht
  exact ⟨k, n, t, hk, hn, ht, bounds_i64 wk, bounds_i64 wn, bounds_i64 wt, m, x3, hm, f3⟩

theorem open_cell {v : Value} {dd : DataW H} {p : List MemPlace} (hv : ∃ cs, v = .agg cs ∧ cs.size = Tryz.prog.cellsOf 28) (h : DataW.Trod enc Tryz.prog w 0 spare held 28 v dd p) : ∃ c, CeAt w (fun _ => True) v c := by
  obtain ⟨fuel, hf⟩ := h
  obtain ⟨cs, rfl, hcs⟩ := hv
  rw [cells_cell] at hcs
  obtain ⟨l⟩ := cs
  obtain ⟨c0, c1, c2, c3, rfl⟩ : ∃ c0 c1 c2 c3, l = [c0, c1, c2, c3] := by
    match l, hcs with
    | [x0, x1, x2, x3], _ => exact ⟨x0, x1, x2, x3, rfl⟩
  obtain ⟨k, nn, t, rfl, rfl, rfl, rk, rn, rt, m, y, _, hk⟩ := open_lfields (show DataW.trod enc Tryz.prog w 0 spare held fuel 28 [c0, c1, c2, c3] = some (dd, p) from hf)
  obtain ⟨v, es, hv, hes⟩ := open_ints m [c3] y hk
  obtain rfl : c3 = v := by simpa using hv
  exact ⟨⟨k, nn, t, es⟩, c3, rfl, rk, rn, rt, hes⟩
end
end Go.Proofs.YtobooepdfknihaaGreatDoor

namespace Go.Proofs.YtobooepdfknihaaGreatDoor
open Go.RowKit Go.Joins

set_option maxRecDepth 100000

theorem cells_msg : Tryz.prog.cellsOf 30 = 9 := by kernel_rfl
section
variable {H : Type} {enc : TypeId × Value → H} {w : World} {spare : Nat → Bool} {held : Bool}

theorem open_msg {v : Value} {dd : DataW H} {p : List MemPlace} (hv : ∃ cs, v = .agg cs ∧ cs.size = Tryz.prog.cellsOf 30) (h : DataW.Trod enc Tryz.prog w 0 spare held 30 v dd p) : ∃ m, MsAt w (fun _ => True) v m := by
  obtain ⟨fuel, hf⟩ := h
  obtain ⟨cs, rfl, hcs⟩ := hv
  rw [cells_msg] at hcs
  obtain ⟨l⟩ := cs
  obtain ⟨c0, c1, c2, c3, c4, c5, c6, c7, c8, rfl⟩ : ∃ c0 c1 c2 c3 c4 c5 c6 c7 c8, l = [c0, c1, c2, c3, c4, c5, c6, c7, c8] := by
    match l, hcs with
    | [x0, x1, x2, x3, x4, x5, x6, x7, x8], _ => exact ⟨x0, x1, x2, x3, x4, x5, x6, x7, x8, rfl⟩
  obtain ⟨xs, m, hm, _, _, hlen, hg⟩ := DataW.trod_struct Tryz.underlying30 (show DataW.trod enc Tryz.prog w 0 spare held fuel 30 [c0, c1, c2, c3, c4, c5, c6, c7, c8] = some (dd, p) from hf)
  have hl6 : xs.length = 6 := hlen
  obtain ⟨x0, x1, x2, x3, x4, x5, rfl⟩ : ∃ x0 x1 x2 x3 x4 x5, xs = [x0, x1, x2, x3, x4, x5] := by
    match xs, hl6 with
    | [x0, x1, x2, x3, x4, x5], _ => exact ⟨x0, x1, x2, x3, x4, x5, rfl⟩
  have e1 : Tryz.prog.cellsOf 3 = 1 := by kernel_rfl
  have f0 : DataW.trod enc Tryz.prog w 0 spare held m 3 (([c0, c1, c2, c3, c4, c5, c6, c7, c8].drop 0).take (Tryz.prog.cellsOf 3)) = some x0 := hg 0 _ rfl
  have f1 : DataW.trod enc Tryz.prog w 0 spare held m 3 (([c0, c1, c2, c3, c4, c5, c6, c7, c8].drop 1).take (Tryz.prog.cellsOf 3)) = some x1 := hg 1 _ rfl
  have f2 : DataW.trod enc Tryz.prog w 0 spare held m 3 (([c0, c1, c2, c3, c4, c5, c6, c7, c8].drop 2).take (Tryz.prog.cellsOf 3)) = some x2 := hg 2 _ rfl
  have f3 : DataW.trod enc Tryz.prog w 0 spare held m 3 (([c0, c1, c2, c3, c4, c5, c6, c7, c8].drop 3).take (Tryz.prog.cellsOf 3)) = some x3 := hg 3 _ rfl
  have f4 : DataW.trod enc Tryz.prog w 0 spare held m 3 (([c0, c1, c2, c3, c4, c5, c6, c7, c8].drop 4).take (Tryz.prog.cellsOf 3)) = some x4 := hg 4 _ rfl
  have f5 : DataW.trod enc Tryz.prog w 0 spare held m 28 (([c0, c1, c2, c3, c4, c5, c6, c7, c8].drop 5).take (Tryz.prog.cellsOf 28)) = some x5 := hg 5 _ rfl
  rw [e1] at f0 f1 f2 f3 f4
  rw [cells_cell] at f5
  obtain ⟨k0, hk0, _, w0⟩ := DataW.trod_int Tryz.underlying3 (show DataW.trod enc Tryz.prog w 0 spare held m 3 [c0] = some x0 from f0)
  obtain ⟨k1, hk1, _, w1⟩ := DataW.trod_int Tryz.underlying3 (show DataW.trod enc Tryz.prog w 0 spare held m 3 [c1] = some x1 from f1)
  obtain ⟨k2, hk2, _, w2⟩ := DataW.trod_int Tryz.underlying3 (show DataW.trod enc Tryz.prog w 0 spare held m 3 [c2] = some x2 from f2)
  obtain ⟨k3, hk3, _, w3⟩ := DataW.trod_int Tryz.underlying3 (show DataW.trod enc Tryz.prog w 0 spare held m 3 [c3] = some x3 from f3)
  obtain ⟨k4, hk4, _, w4⟩ := DataW.trod_int Tryz.underlying3 (show DataW.trod enc Tryz.prog w 0 spare held m 3 [c4] = some x4 from f4)
  simp only [List.cons.injEq, and_true] at hk0 hk1 hk2 hk3 hk4
  subst hk0 hk1 hk2 hk3 hk4
  obtain ⟨k, nn, t, rfl, rfl, rfl, rk, rn, rt, m', y, _, hk⟩ := open_lfields (show DataW.trod enc Tryz.prog w 0 spare held m 28 [c5, c6, c7, c8] = some x5 from f5)
  obtain ⟨u, es, hu, hes⟩ := open_ints m' [c8] y hk
  obtain rfl : c8 = u := by simpa using hu
  exact ⟨⟨k0, k1, k2, k3, k4, ⟨k, nn, t, es⟩⟩, c8, rfl, ⟨bounds_i64 w0, bounds_i64 w1, bounds_i64 w2, bounds_i64 w3, bounds_i64 w4⟩, rk, rn, rt, hes⟩
end
end Go.Proofs.YtobooepdfknihaaGreatDoor
