/-
  A cell in memory: its bulk, its copy, two that are alike.
-/
import Derived.Test.YtbaakhpmfljgnabDoorInts
import Derived.Test.YtbaakhpmfljgnabDoorIntsAt
import Derived.Test.YtbaakhpmfljgnabDoorCellsAt
import Derived.Test.YtbaakhpmfljgnabDoorCellEq
namespace Go.Proofs.YtbaakhpmfljgnabDoor
open Go.RowKit Go.Joins

set_option maxRecDepth 100000

set_option maxHeartbeats 3200000 in
theorem szCell_any (v : Value) (x : Ce) (S : Nat → Prop) (w : World) (left : Int) (h : CeAt w S v x) (h0 : 0 ≤ left) (h1 : left ≤ 1048576) :
    Calls Tryd.prog 9 #[v, .int .i64 left] w fun e w' => e = .returned (.int .i64 (szR left x.bulk)) ∧ Below w.heap.size w w' := by
  obtain ⟨kv, rfl, r1, r2, r3, hk⟩ := h
  have hkl := hk.len
  rw [show x.bulk = x.kids.length from rfl]
  obtain ⟨a, cap, rfl⟩ := hk.form
  have hk1 := hk.below ((Below.refl _ w).alloc (Nat.le_refl _) (.cells #[.int .i64 x.kind, .int .i64 x.n, .int .i64 x.pos, .slice a x.kids.length cap] 24))
  have HK : Hid (IntsAt (w.alloc (.cells #[.int .i64 x.kind, .int .i64 x.n, .int .i64 x.pos, .slice a x.kids.length cap] 24)) S (.slice a x.kids.length cap) x.kids) := hk1
  clear hk hk1 r1 r2 r3
  go_enter Tryd.func9, Tryd.ntmps9
  go_wp2_with fail
  refine (szIntS_any _ x.kids S _ _ HK.out (by omega) (by omega)).mono ?_
  rintro e w1 ⟨rfl, b1⟩
  have b2 : Below w.heap.size w w1 := ((Below.refl _ w).alloc (Nat.le_refl _) _).trans (b1.mono (by simp))
  clear b1 HK
  have hbd : -1 ≤ szR left x.kids.length ∧ szR left x.kids.length ≤ 1048576 := by unfold szR; split <;> omega
  have heq : ∃ r, r = szR left x.kids.length := ⟨_, rfl⟩
  obtain ⟨r, heq⟩ := heq
  rw [← heq] at hbd ⊢
  by_cases hr : r < 0
  · go_wp2
    go_ret
    exact ⟨int_ret (by omega), b2⟩
  · go_wp2
    go_ret
    exact ⟨int_ret (by omega), b2⟩

set_option maxHeartbeats 3200000 in
theorem toCell_any (v : Value) (x : Ce) (S : Nat → Prop) (w : World) (h : CeAt w S v x) (hb : x.bulk ≤ 1048576) :
    Calls Tryd.prog 13 #[v] w fun e w' => ∃ v', e = .returned v' ∧ CeAt w' (fun b => w.heap.size ≤ b ∧ Pl w' b) v' x ∧ Below w.heap.size w w' := by
  obtain ⟨kv, rfl, r1, r2, r3, hk⟩ := h
  obtain ⟨a, cap, rfl⟩ := hk.form
  have hbe := (show x.bulk = x.kids.length from rfl)
  have HK : Hid (IntsAt w S (.slice a x.kids.length cap) x.kids) := hk
  have HR : Hid (inI64 x.kind ∧ inI64 x.n ∧ inI64 x.pos) := ⟨r1, r2, r3⟩
  clear hk r1 r2 r3
  go_enter Tryd.func13, Tryd.ntmps13
  go_wp2_with fail
  have HB0 : Below w.heap.size w (((w.alloc (.cells #[.int .i64 x.kind, .int .i64 x.n, .int .i64 x.pos, .slice a x.kids.length cap] 24)).alloc (.cells #[.int .i64 0, .int .i64 0, .int .i64 0, .slice none 0 0] 29)).alloc (.cells #[.int .i64 x.kind, .int .i64 x.n, .int .i64 x.pos, .slice none 0 0] 29)) :=
    (((Below.refl _ w).alloc (Nat.le_refl _) _).alloc (by simp) _).alloc (by simp; omega) _
  refine (toIntS_any _ x.kids S _ (HK.out.below HB0) (by omega)).mono ?_
  rintro e w1 ⟨kv, rfl, k1, b1⟩
  have hsz : (((w.alloc (.cells #[.int .i64 x.kind, .int .i64 x.n, .int .i64 x.pos, .slice a x.kids.length cap] 24)).alloc (.cells #[.int .i64 0, .int .i64 0, .int .i64 0, .slice none 0 0] 29)).alloc (.cells #[.int .i64 x.kind, .int .i64 x.n, .int .i64 x.pos, .slice none 0 0] 29)).heap.size = w.heap.size + 3 := by simp
  have o2 : w1.heap[w.heap.size + 1 + 1]? = some (.cells #[.int .i64 x.kind, .int .i64 x.n, .int .i64 x.pos, .slice none 0 0] 29) := by
    rw [b1.block _ (by rw [hsz]; omega)]
    have := (MapKept.heap_alloc ((w.alloc (.cells #[.int .i64 x.kind, .int .i64 x.n, .int .i64 x.pos, .slice a x.kids.length cap] 24)).alloc (.cells #[.int .i64 0, .int .i64 0, .int .i64 0, .slice none 0 0] 29)) (.cells #[.int .i64 x.kind, .int .i64 x.n, .int .i64 x.pos, .slice none 0 0] 29)).1
    simpa using this
  have o1 : w1.heap[w.heap.size + 1]? = some (.cells #[.int .i64 0, .int .i64 0, .int .i64 0, .slice none 0 0] 29) := by
    rw [b1.block _ (by rw [hsz]; omega), Below.heap_alloc _ _ _ (by simp)]
    have := (MapKept.heap_alloc (w.alloc (.cells #[.int .i64 x.kind, .int .i64 x.n, .int .i64 x.pos, .slice a x.kids.length cap] 24)) (.cells #[.int .i64 0, .int .i64 0, .int .i64 0, .slice none 0 0] 29)).1
    simpa using this
  rw [hsz] at k1 b1
  have hs1 : w.heap.size + 3 ≤ w1.heap.size := by have := b1.size; rw [hsz] at this; exact this
  have B1 : Below w.heap.size w w1 := HB0.trans (b1.mono (by omega))
  clear HB0 b1 hsz HK
  obtain ⟨ka, kc, rfl⟩ := k1.form
  have K1 : Hid (IntsAt w1 (fun b => w.heap.size + 3 ≤ b ∧ Pl w1 b) (.slice ka x.kids.length kc) x.kids) := k1
  clear k1
  have c20 : w1.cell? ⟨w.heap.size + 1 + 1, 0, none⟩ = some (.int .i64 x.kind) := by rw [cell_of_block o2]; rfl
  have c21 : w1.cell? ⟨w.heap.size + 1 + 1, 1, none⟩ = some (.int .i64 x.n) := by rw [cell_of_block o2]; rfl
  have c22 : w1.cell? ⟨w.heap.size + 1 + 1, 2, none⟩ = some (.int .i64 x.pos) := by rw [cell_of_block o2]; rfl
  have c23 : w1.cell? ⟨w.heap.size + 1 + 1, 3, none⟩ = some (.slice none 0 0) := by rw [cell_of_block o2]; rfl
  have f23 : w1.frozen? ⟨w.heap.size + 1 + 1, 3, none⟩ = false := unfrozen_of_block o2 3
  have c10 : w1.cell? ⟨w.heap.size + 1, 0, none⟩ = some (.int .i64 0) := by rw [cell_of_block o1]; rfl
  have c11 : w1.cell? ⟨w.heap.size + 1, 1, none⟩ = some (.int .i64 0) := by rw [cell_of_block o1]; rfl
  have c12 : w1.cell? ⟨w.heap.size + 1, 2, none⟩ = some (.int .i64 0) := by rw [cell_of_block o1]; rfl
  have c13 : w1.cell? ⟨w.heap.size + 1, 3, none⟩ = some (.slice none 0 0) := by rw [cell_of_block o1]; rfl
  have f10 : w1.frozen? ⟨w.heap.size + 1, 0, none⟩ = false := unfrozen_of_block o1 0
  have f11 : w1.frozen? ⟨w.heap.size + 1, 1, none⟩ = false := unfrozen_of_block o1 1
  have f12 : w1.frozen? ⟨w.heap.size + 1, 2, none⟩ = false := unfrozen_of_block o1 2
  have f13 : w1.frozen? ⟨w.heap.size + 1, 3, none⟩ = false := unfrozen_of_block o1 3
  clear o1 o2
  go_wp2
  refine bodyPost_ret (v := .agg #[.int .i64 x.kind, .int .i64 x.n, .int .i64 x.pos, .slice ka x.kids.length kc]) (by simp [results, Tryd.results13, go_sem, c10, c11, c12, c13]) rfl ⟨_, rfl, ⟨_, rfl, HR.out.1, HR.out.2.1, HR.out.2.2, ?_⟩, ?_⟩
  · have he : ∀ b, w.heap.size + 3 ≤ b → (((((w1.setCell ⟨w.heap.size + 1 + 1, 3, none⟩ (.slice ka x.kids.length kc)).setCell ⟨w.heap.size + 1, 0, none⟩ (.int .i64 x.kind)).setCell ⟨w.heap.size + 1, 1, none⟩ (.int .i64 x.n)).setCell ⟨w.heap.size + 1, 2, none⟩ (.int .i64 x.pos)).setCell ⟨w.heap.size + 1, 3, none⟩ (.slice ka x.kids.length kc)).heap[b]? = w1.heap[b]? := ?_
    refine K1.out.kept (fun b hb1 hb2 => he b hb1.1) (by simp) (fun b hb1 _ => ⟨by omega, hb1.2.of (he b hb1.1)⟩)
    intro b hb1
    have e1 : ∀ (j : Nat) (u : Value) (W : World), (W.setCell ⟨w.heap.size + 1, j, none⟩ u).heap[b]? = W.heap[b]? := fun j u W => Below.heap_setCell W _ u b (by simp; omega)
    have e2 : ∀ (j : Nat) (u : Value) (W : World), (W.setCell ⟨w.heap.size + 1 + 1, j, none⟩ u).heap[b]? = W.heap[b]? := fun j u W => Below.heap_setCell W _ u b (by simp; omega)
    rw [e1, e1, e1, e1, e2]
  · exact ((((B1.setCell (p := ⟨w.heap.size + 1 + 1, 3, none⟩) (by simp; omega) _).setCell (p := ⟨w.heap.size + 1, 0, none⟩) (by simp) _).setCell (p := ⟨w.heap.size + 1, 1, none⟩) (by simp) _).setCell (p := ⟨w.heap.size + 1, 2, none⟩) (by simp) _).setCell (p := ⟨w.heap.size + 1, 3, none⟩) (by simp) _

end Go.Proofs.YtbaakhpmfljgnabDoor
