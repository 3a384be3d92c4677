/-
  The law of GetPack, walked.
-/
import Derived.Test.YtfcgpfjmabhmeabDoorSpecGetPack
namespace Go.Proofs.YtfcgpfjmabhmeabDoor
open Go.RowKit Go.Joins

set_option maxRecDepth 100000

set_option maxHeartbeats 1600000 in
theorem eqPack_any (p : Pa) (w : World) : Calls Tryd.prog 12 #[.agg p.row, .agg p.row] w fun e w' => e = .returned (.bool true) ∧ Below w.heap.size w w' := by
  have e1 : (p.kind != p.kind) = false := by simp
  have e2 : (p.frm != p.frm) = false := by simp
  have e3 : (p.dst != p.dst) = false := by simp
  have e4 : (p.seq != p.seq) = false := by simp
  have e5 : (p.low != p.low) = false := by simp
  have e6 : (p.body.toList != p.body.toList) = false := by simp
  have B0 : Hid (∀ o o' : Obj, Below w.heap.size w ((w.alloc o).alloc o')) := fun o o' => ((Below.refl _ w).alloc (Nat.le_refl _) o).alloc (by simp) o'
  go_enter Tryd.func12, Tryd.ntmps12
  go_wp2
  go_ret
  exact ⟨rfl, B0.out _ _⟩

set_option maxHeartbeats 1600000 in
theorem getPack_walk (s : ByteArray) (hs : s.size ≤ maxLen) (w : World) (hg : ET w) :
    Calls Tryd.prog 4 #[.string s] w fun e w' => e = .returned (.bool true) ∧ Below w.heap.size w w' := by
  unfold maxLen at hs
  by_cases hb : (1048576 : Int) < (s.size : Int)
  · go_enter Tryd.func4, Tryd.ntmps4
    go_wp2
    go_ret
    exact ⟨rfl, Below.refl _ _⟩
  have hs' : s.size ≤ 1048576 := by omega
  have hnot := ex_not
  have HS := (show Hid (_ ∧ _ ∧ _) from ⟨fun wx => specGetPack_any s wx hs', fun wx hx => implGetPack_any s wx hs' hx, hg⟩)
  clear hg
  generalize packRes s.data.toList = p at HS
  generalize packFit s.data.toList = f at HS
  have hff : (f != f) = false := by simp
  go_enter Tryd.func4, Tryd.ntmps4
  go_wp2_with fail
  refine (HS.out.1 _).mono ?_
  rintro e w1 ⟨rfl, b1⟩
  obtain ⟨W1, hW1⟩ : ∃ W1, W1 = w1.alloc (.cells p.row 26) := ⟨_, rfl⟩
  have bW1 : Below w1.heap.size w1 W1 := by rw [hW1]; exact (Below.refl _ w1).alloc (Nat.le_refl _) _
  have M1 : W1.heap[w1.heap.size]? = some (.cells p.row 26) := by rw [hW1]; exact (MapKept.heap_alloc w1 _).1
  have hs1 : w.heap.size ≤ w1.heap.size := b1.size
  have hs1' : w1.heap.size + 1 ≤ W1.heap.size := lt_heap M1
  have H1 := (show Hid (_ ∧ _ ∧ _ ∧ _) from ⟨b1.trans (bW1.mono b1.size), M1, (HS.out.2.2.below b1).below bW1, hW1⟩)
  clear b1 bW1 M1 hW1
  go_wp2_with fail
  rw [← (show W1 = w1.alloc (.cells #[.int .i64 p.kind, .int .i64 p.frm, .int .i64 p.dst, .int .i64 p.seq, .int .i64 p.low, .string p.body] 26) from H1.out.2.2.2)]
  refine (HS.out.2.1 W1 H1.out.2.2.1).mono ?_
  rintro e w2 ⟨rfl, b2⟩
  obtain ⟨y0, y1, y2, y3, y4, y5⟩ := pbox6 ((b2.block _ (lt_heap H1.out.2.1)).trans H1.out.2.1)
  have hlt12 : w1.heap.size < w2.heap.size := by have := b2.size; omega
  have hs2 : W1.heap.size ≤ w2.heap.size := b2.size
  have bW2 : Below w2.heap.size w2 (w2.alloc (.cells p.row 26)) := (Below.refl _ w2).alloc (Nat.le_refl _) _
  have H2 := (show Hid (_ ∧ True) from ⟨H1.out.1.trans ((b2.trans (bW2.mono b2.size)).mono (by omega)), trivial⟩)
  have hs2' : w2.heap.size ≤ (w2.alloc (.cells p.row 26)).heap.size := bW2.size
  clear b2 bW2 H1
  go_wp2_with fail
  refine (eqPack_any p _).mono ?_
  rintro e w3 ⟨rfl, b3⟩
  have H3 := (show Hid (_ ∧ True) from ⟨H2.out.1.trans (b3.mono (by simp; omega)), trivial⟩)
  clear b3 H2
  go_wp2
  go_ret
  exact ⟨rfl, H3.out.1⟩
end Go.Proofs.YtfcgpfjmabhmeabDoor
