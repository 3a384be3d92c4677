/-
  One of what was sent, one of what was taken: their bulk, their copies, two that are alike.
-/
import Derived.Test.YtnehfjnanffjeaaGreatDoorMB
namespace Go.Proofs.YtnehfjnanffjeaaGreatDoor
open Go.RowKit Go.Joins

set_option maxRecDepth 100000


set_option maxHeartbeats 800000 in
theorem szSent_any (s : Sn) (w : World) (left : Int) (h0 : 0 ≤ left) (h1 : left ≤ 1048576) (hs : s.body.size ≤ maxLen) :
    Calls Tryz.prog 46 #[.agg s.row, .int .i64 left] w fun e w' => e = .returned (.int .i64 (szR left s.bulk)) ∧ Below w.heap.size w w' := by
  unfold maxLen at hs
  rw [show s.bulk = s.body.size from rfl]
  have B0 : Hid (∀ o : Obj, Below w.heap.size w (w.alloc o)) := fun o => (Below.refl _ w).alloc (Nat.le_refl _) o
  by_cases h : left - (s.body.size : Int) < 0
  · go_enter Tryz.func46, Tryz.ntmps46
    go_wp2
    all_goals (go_ret; exact ⟨int_ret (by unfold szR; rw [if_neg (by omega)]), B0.out _⟩)
  · go_enter Tryz.func46, Tryz.ntmps46
    go_wp2
    all_goals (go_ret; exact ⟨int_ret (by unfold szR; rw [if_pos (by omega)]), B0.out _⟩)

set_option maxHeartbeats 1600000 in
theorem toSent_any (s : Sn) (w : World) :
    Calls Tryz.prog 57 #[.agg s.row] w fun e w' => e = .returned (.agg s.row) ∧ Below w.heap.size w w' := by
  go_enter Tryz.func57, Tryz.ntmps57
  go_wp2
  refine bodyPost_ret (v := .agg s.row) (by simp [results, Tryz.results57, go_sem]) rfl ?_
  refine ⟨rfl, ?_⟩
  exact (((Below.refl _ w).alloc (Nat.le_refl _) _).alloc (by simp) _).alloc (by simp; omega) _


set_option maxHeartbeats 3200000 in
theorem szSeen_any (kv : Value) (x : Se) (S : Nat → Prop) (w : World) (left : Int) (hk : IntsAt w S kv x.ids) (h0 : 0 ≤ left) (h1 : left ≤ 1048576) :
    Calls Tryz.prog 47 #[.agg #[.int .i64 x.low, kv], .int .i64 left] w fun e w' => e = .returned (.int .i64 (szR left x.bulk)) ∧ Below w.heap.size w w' := by
  have hkl := hk.len
  rw [show x.bulk = x.ids.length from rfl]
  obtain ⟨a, cap, rfl⟩ := hk.form
  have hk1 := hk.below ((Below.refl _ w).alloc (Nat.le_refl _) (.cells #[.int .i64 x.low, .slice a x.ids.length cap] 89))
  have HK : Hid (IntsAt (w.alloc (.cells #[.int .i64 x.low, .slice a x.ids.length cap] 89)) S (.slice a x.ids.length cap) x.ids) := hk1
  clear hk hk1
  go_enter Tryz.func47, Tryz.ntmps47
  go_wp2_with fail
  refine (szIntS_any _ x.ids S _ _ HK.out (by omega) (by omega)).mono ?_
  rintro e w1 ⟨rfl, b1⟩
  have b2 : Below w.heap.size w w1 := ((Below.refl _ w).alloc (Nat.le_refl _) _).trans (b1.mono (by simp))
  clear b1 HK
  have hbd : -1 ≤ szR left x.ids.length ∧ szR left x.ids.length ≤ 1048576 := by unfold szR; split <;> omega
  have heq : ∃ r, r = szR left x.ids.length := ⟨_, rfl⟩
  obtain ⟨r, heq⟩ := heq
  rw [← heq] at hbd ⊢
  by_cases hr : r < 0
  · go_wp2
    go_ret
    exact ⟨int_ret (by omega), b2⟩
  · go_wp2
    go_ret
    exact ⟨int_ret (by omega), b2⟩


set_option maxHeartbeats 3200000 in
theorem toSeenO_any (kv : Value) (x : Se) (S : Nat → Prop) (w : World) (hk : IntsAt w S kv x.ids) (hb : x.bulk ≤ 1048576) :
    Calls Tryz.prog 58 #[.agg #[.int .i64 x.low, kv]] w fun e w' => ∃ kv', e = .returned (.agg #[.int .i64 x.low, kv']) ∧ w'.ownsRow w.heap.size 3 1 kv' x.ids.length (intVs x.ids) ∧ (∀ z ∈ x.ids, inI64 z) ∧ Below w.heap.size w w' := by
  obtain ⟨a, cap, rfl⟩ := hk.form
  have hbe := (show x.bulk = x.ids.length from rfl)
  have HK : Hid (IntsAt w S (.slice a x.ids.length cap) x.ids) := hk
  clear hk
  go_enter Tryz.func58, Tryz.ntmps58
  go_wp2_with fail
  have HB0 : Below w.heap.size w (((w.alloc (.cells #[.int .i64 x.low, .slice a x.ids.length cap] 89)).alloc (.cells #[.int .i64 0, .slice none 0 0] 83)).alloc (.cells #[.int .i64 x.low, .slice none 0 0] 83)) :=
    (((Below.refl _ w).alloc (Nat.le_refl _) _).alloc (by simp) _).alloc (by simp; omega) _
  refine (toIntO_any _ x.ids S _ (HK.out.below HB0) (by omega)).mono ?_
  rintro e w1 ⟨kv, rfl, k1, kz, kb, b1⟩
  have hsz : (((w.alloc (.cells #[.int .i64 x.low, .slice a x.ids.length cap] 89)).alloc (.cells #[.int .i64 0, .slice none 0 0] 83)).alloc (.cells #[.int .i64 x.low, .slice none 0 0] 83)).heap.size = w.heap.size + 3 := by simp
  have o2 : w1.heap[w.heap.size + 1 + 1]? = some (.cells #[.int .i64 x.low, .slice none 0 0] 83) := by
    rw [b1.block _ (by rw [hsz]; omega)]
    have := (MapKept.heap_alloc ((w.alloc (.cells #[.int .i64 x.low, .slice a x.ids.length cap] 89)).alloc (.cells #[.int .i64 0, .slice none 0 0] 83)) (.cells #[.int .i64 x.low, .slice none 0 0] 83)).1
    simpa using this
  have o1 : w1.heap[w.heap.size + 1]? = some (.cells #[.int .i64 0, .slice none 0 0] 83) := by
    rw [b1.block _ (by rw [hsz]; omega), Below.heap_alloc _ _ _ (by simp)]
    have := (MapKept.heap_alloc (w.alloc (.cells #[.int .i64 x.low, .slice a x.ids.length cap] 89)) (.cells #[.int .i64 0, .slice none 0 0] 83)).1
    simpa using this
  rw [hsz] at k1 b1 kb
  have hs1 : w.heap.size + 3 ≤ w1.heap.size := by have := b1.size; rw [hsz] at this; exact this
  have B1 : Below w.heap.size w w1 := HB0.trans (b1.mono (by omega))
  clear HB0 b1 hsz HK
  obtain ⟨ka, kc, rfl⟩ := own_form k1
  have K1 := (show Hid (_ ∧ _ ∧ _) from ⟨k1, kz, kb⟩)
  clear k1 kz kb
  have c20 : w1.cell? ⟨w.heap.size + 1 + 1, 0, none⟩ = some (.int .i64 x.low) := by rw [cell_of_block o2]; rfl
  have c21 : w1.cell? ⟨w.heap.size + 1 + 1, 1, none⟩ = some (.slice none 0 0) := by rw [cell_of_block o2]; rfl
  have f21 : w1.frozen? ⟨w.heap.size + 1 + 1, 1, none⟩ = false := unfrozen_of_block o2 1
  have c10 : w1.cell? ⟨w.heap.size + 1, 0, none⟩ = some (.int .i64 0) := by rw [cell_of_block o1]; rfl
  have c11 : w1.cell? ⟨w.heap.size + 1, 1, none⟩ = some (.slice none 0 0) := by rw [cell_of_block o1]; rfl
  have f10 : w1.frozen? ⟨w.heap.size + 1, 0, none⟩ = false := unfrozen_of_block o1 0
  have f11 : w1.frozen? ⟨w.heap.size + 1, 1, none⟩ = false := unfrozen_of_block o1 1
  clear o1 o2
  go_wp2
  refine bodyPost_ret (v := .agg #[.int .i64 x.low, .slice ka x.ids.length kc]) (by simp [results, Tryz.results58, go_sem, c10, c11]) rfl ⟨_, rfl, ?_, K1.out.2.1, ?_⟩
  · refine own_mono (own_moved K1.out.1 (fun b hb => ?_)) (by omega)
    have hb1 : b = w.heap.size + 3 := Option.some.inj (hb.symm.trans K1.out.2.2)
    have e1 : ∀ (j : Nat) (u : Value) (W : World), (W.setCell ⟨w.heap.size + 1, j, none⟩ u).heap[b]? = W.heap[b]? := fun j u W => Below.heap_setCell W _ u b (by simp; omega)
    have e2 : ∀ (j : Nat) (u : Value) (W : World), (W.setCell ⟨w.heap.size + 1 + 1, j, none⟩ u).heap[b]? = W.heap[b]? := fun j u W => Below.heap_setCell W _ u b (by simp; omega)
    rw [e1, e1, e2]
  · exact ((B1.setCell (p := ⟨w.heap.size + 1 + 1, 1, none⟩) (by simp; omega) _).setCell (p := ⟨w.heap.size + 1, 0, none⟩) (by simp) _).setCell (p := ⟨w.heap.size + 1, 1, none⟩) (by simp) _
end Go.Proofs.YtnehfjnanffjeaaGreatDoor
