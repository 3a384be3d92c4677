/-
  The law of GetMsg, walked.
-/
import Derived.Test.YtfcgpfjmabhmeaaDoorSpecGetMsg
import Derived.Test.YtfcgpfjmabhmeaaDoorMarkMsg
import Derived.Test.YtfcgpfjmabhmeaaDoorMsgEq
namespace Go.Proofs.YtfcgpfjmabhmeaaDoor
open Go.RowKit Go.Joins

set_option maxRecDepth 100000

theorem res_len (l : List UInt8) : (msgRes l).cell.kids.length ≤ 100 := by
  cases h : msgFit l with
  | false => rw [res_no h]; decide
  | true =>
    rw [res_yes h]
    refine ok_len ?_
    unfold msgFit at h
    simp only [Bool.and_eq_true] at h
    exact h.2
theorem OwnMs.form {w : World} {B : Nat} {v : Value} {m : Ms} (h : OwnMs w B v m) : ∃ a c, v = .agg (m.row (.slice a m.cell.kids.length c)) ∧ w.ownsRow B 3 1 (.slice a m.cell.kids.length c) m.cell.kids.length (m.cell.kids.map (fun z => Value.int .i64 z)) := by
  obtain ⟨kv, rfl, h1, -⟩ := h
  obtain ⟨a, c, rfl⟩ := own_form h1
  exact ⟨a, c, rfl, h1⟩
theorem MsAt.keptX {X : Nat → Prop} {w w' : World} {S : Nat → Prop} {v : Value} {m : Ms} (h : MsAt w S v m) (hk : KB X w w') (hX : ∀ k, S k → ¬ X k) : MsAt w' S v m := by
  obtain ⟨kv, hv, h1, h2, h3, h4, hr⟩ := h
  exact ⟨kv, hv, h1, h2, h3, h4, hr.kept (fun b hb hl => hk.block b hl (hX b hb)) hk.size (fun b hb _ => hb)⟩
theorem MsAt.lts {w : World} {S : Nat → Prop} {v : Value} {m : Ms} (h : MsAt w S v m) : MsAt w (fun k => S k ∧ k < w.heap.size) v m := by
  obtain ⟨kv, hv, h1, h2, h3, h4, a, c, hr, hm, hc⟩ := h
  exact ⟨kv, hv, h1, h2, h3, h4, a, c, hr, hm, fun i z hi => by
    obtain ⟨b, o, e1, e2, e3, e4, e5⟩ := hc i z hi
    exact ⟨b, o, e1, ⟨e2, e3⟩, e3, e4, e5⟩⟩

theorem ET.keptX {X : Nat → Prop} {w w' : World} (h : ET w) (hk : KB X w w') (hx : ¬ X 0) : ET w' := by
  have hb := hk.block _ h.lt hx
  unfold ET at h ⊢
  rw [← h]
  simp only [World.cell?, hb]

set_option maxHeartbeats 1600000 in
theorem getMsg_walk (s : ByteArray) (hs : s.size ≤ maxLen) (w : World) (hg : ET w) :
    Calls Tryd.prog 3 #[.string s] w fun e w' => e = .returned (.bool true) ∧ Below w.heap.size w w' := by
  unfold maxLen at hs
  by_cases hb : (1048576 : Int) < (s.size : Int)
  · go_enter Tryd.func3, Tryd.ntmps3
    go_wp2
    go_ret
    exact ⟨rfl, Below.refl _ _⟩
  have hs' : s.size ≤ 1048576 := by omega
  have hnot := ex_not
  have HS := (show Hid (_ ∧ _ ∧ _ ∧ _) from ⟨fun wx => specGetMsg_any s wx hs', fun wx hx => implGetMsg_any s wx hs' hx, hg, res_len s.data.toList⟩)
  clear hg
  generalize msgRes s.data.toList = m at HS
  generalize msgFit s.data.toList = f at HS
  have hff : (f != f) = false := by simp
  have hn := HS.out.2.2.2
  go_enter Tryd.func3, Tryd.ntmps3
  go_wp2_with fail
  refine (HS.out.1 _).mono ?_
  rintro e w1 ⟨v1, rfl, A1, b1⟩
  obtain ⟨a1, c1, rfl, -⟩ := A1.form
  obtain ⟨W1, hW1⟩ : ∃ W1, W1 = w1.alloc (.cells (m.row (.slice a1 m.cell.kids.length c1)) 26) := ⟨_, rfl⟩
  have bW1 : Below w1.heap.size w1 W1 := by rw [hW1]; exact (Below.refl _ w1).alloc (Nat.le_refl _) _
  have M1 : W1.heap[w1.heap.size]? = some (.cells (m.row (.slice a1 m.cell.kids.length c1)) 26) := by rw [hW1]; exact (MapKept.heap_alloc w1 _).1
  have B1 : Below w.heap.size w W1 := b1.trans (bW1.mono b1.size)
  have E1 : ET W1 := (HS.out.2.2.1.below b1).below bW1
  have hs1 : w.heap.size ≤ w1.heap.size := b1.size
  have hs1' : w1.heap.size + 1 ≤ W1.heap.size := lt_heap M1
  have H1 := (show Hid (_ ∧ _ ∧ _ ∧ _ ∧ _) from ⟨A1.at_.choose_spec.lts.below bW1, M1, B1, E1, hW1⟩)
  generalize A1.at_.choose = S1 at H1
  clear A1 b1 bW1 M1 B1 E1 hW1
  go_wp2_with fail
  rw [← (show W1 = w1.alloc (.cells #[.int .i64 m.kind, .int .i64 m.frm, .int .i64 m.dst, .int .i64 m.id, .int .i64 m.want, .int .i64 m.cell.kind, .int .i64 m.cell.n, .int .i64 m.cell.pos, .slice a1 m.cell.kids.length c1] 26) from H1.out.2.2.2.2)]
  refine (HS.out.2.1 W1 H1.out.2.2.2.1).mono ?_
  rintro e w2 ⟨v2, rfl, A2, b2⟩
  obtain ⟨a2, c2, rfl, O2⟩ := A2.form
  obtain ⟨W2, hW2⟩ : ∃ W2, W2 = w2.alloc (.cells (m.row (.slice a2 m.cell.kids.length c2)) 26) := ⟨_, rfl⟩
  have bW2 : Below w2.heap.size w2 W2 := by rw [hW2]; exact (Below.refl _ w2).alloc (Nat.le_refl _) _
  have M2 : W2.heap[w2.heap.size]? = some (.cells (m.row (.slice a2 m.cell.kids.length c2)) 26) := by rw [hW2]; exact (MapKept.heap_alloc w2 _).1
  have b2' : Below W1.heap.size W1 W2 := b2.trans (bW2.mono b2.size)
  have hs2 : W1.heap.size ≤ w2.heap.size := b2.size
  have hs2' : w2.heap.size + 1 ≤ W2.heap.size := lt_heap M2
  have H2 := (show Hid (_ ∧ _ ∧ _ ∧ _ ∧ _ ∧ _ ∧ _ ∧ _) from ⟨H1.out.1.below b2', (b2'.block _ (lt_heap H1.out.2.1)).trans H1.out.2.1, H1.out.2.2.1.trans (b2'.mono (by omega)), H1.out.2.2.2.1.below b2', A2.below bW2, M2, own_moved O2 (fun g hg => bW2.block g (own_lt O2 g hg)), hW2⟩)
  obtain ⟨y0, y1, y2, y3, y4, y5, y6, y7, y8⟩ := boxM ((b2.block _ (lt_heap H1.out.2.1)).trans H1.out.2.1)
  have hlt12 : w1.heap.size < w2.heap.size := by omega
  clear A2 O2 b2 bW2 M2 b2' hW2 H1
  go_wp2_with fail
  clear y0 y1 y2 y3 y4 y5 y6 y7 y8
  rw [← (show W2 = w2.alloc (.cells #[.int .i64 m.kind, .int .i64 m.frm, .int .i64 m.dst, .int .i64 m.id, .int .i64 m.want, .int .i64 m.cell.kind, .int .i64 m.cell.n, .int .i64 m.cell.pos, .slice a2 m.cell.kids.length c2] 26) from H2.out.2.2.2.2.2.2.2)]
  refine (eqMsg_any _ _ m _ _ W2 H2.out.2.2.2.2.1.at_.choose_spec H2.out.1 (by unfold Ce.bulk; omega)).mono ?_
  rintro e w3 ⟨rfl, b3⟩
  have hs3 : W2.heap.size ≤ w3.heap.size := b3.size
  have H3 := (show Hid (_ ∧ _ ∧ _ ∧ _ ∧ _ ∧ _ ∧ _) from ⟨H2.out.1.below b3, (b3.block _ (lt_heap H2.out.2.1)).trans H2.out.2.1, H2.out.2.2.1.trans (b3.mono (by omega)), H2.out.2.2.2.1.below b3, H2.out.2.2.2.2.1.below b3, (b3.block _ (lt_heap H2.out.2.2.2.2.2.1)).trans H2.out.2.2.2.2.2.1, own_moved H2.out.2.2.2.2.2.2.1 (fun g hg => b3.block g (own_lt H2.out.2.2.2.2.2.2.1 g hg))⟩)
  clear b3 H2
  obtain ⟨x0, x1, x2, x3, x4, x5, x6, x7, x8⟩ := boxM H3.out.2.2.2.2.2.1
  go_wp2_with fail
  clear x0 x1 x2 x3 x4 x5 x6 x7 x8
  refine (markMsg_any _ m a2 c2 m.cell.kids.length _ 1 w3 (by decide) (by decide) (by omega) H3.out.2.2.2.2.2.2).mono ?_
  rintro e w4 ⟨rfl, O4, k4⟩
  have hX : ∀ k, (Value.slice a2 m.cell.kids.length c2).ownBlock = some k → W1.heap.size ≤ k := fun k hk => (own_type H3.out.2.2.2.2.2.2 k hk).1
  have hX2 : ¬ (Value.slice a2 m.cell.kids.length c2).ownBlock = some w2.heap.size := fun hk => by
    obtain ⟨cs, hc⟩ := (own_type H3.out.2.2.2.2.2.2 _ hk).2
    rw [H3.out.2.2.2.2.2.1] at hc
    simp at hc
  have H4 := (show Hid (_ ∧ _ ∧ _ ∧ _ ∧ _ ∧ _) from ⟨H3.out.1.keptX k4 (fun k hk hx => by have := hX k hx; have := hk.2; omega), k4.heap H3.out.2.1 (fun hx => by have := hX _ hx; omega), H3.out.2.2.1.trans (k4.below (B := w.heap.size) (fun k hk => by have := hX k hk; omega) (by omega)), k4.heap H3.out.2.2.2.2.2.1 hX2, O4, ET.keptX H3.out.2.2.2.1 k4 (fun hx => by have := hX _ hx; have := HS.out.2.2.1.lt; omega)⟩)
  have hs4 : w3.heap.size ≤ w4.heap.size := k4.size
  clear O4 k4 H3 hX hX2
  obtain ⟨x0, x1, x2, x3, x4, x5, x6, x7, x8⟩ := boxM H4.out.2.2.2.1
  have hq0 : ¬ (1 : Int) + (m.cell.kids.length : Int) < 0 := by omega
  have hqq : ((1 : Int) + (m.cell.kids.length : Int) != 1 + (m.cell.kids.length : Int)) = false := by simp
  go_wp2_with fail
  clear x0 x1 x2 x3 x4 x5 x6 x7 x8
  refine (heldMsg_any _ m a2 c2 m.cell.kids.length 1 w4 (by decide) (by decide) (by omega) H4.out.2.2.2.2.1).mono ?_
  rintro e w5 ⟨rfl, b5⟩
  have hs5 : w4.heap.size ≤ w5.heap.size := b5.size
  have H5 := (show Hid (_ ∧ _ ∧ _ ∧ _ ∧ _ ∧ _) from ⟨H4.out.1.below b5, (b5.block _ (lt_heap H4.out.2.1)).trans H4.out.2.1, H4.out.2.2.1.trans (b5.mono (by omega)), (b5.block _ (lt_heap H4.out.2.2.2.1)).trans H4.out.2.2.2.1, own_moved H4.out.2.2.2.2.1 (fun g hg => b5.block g (own_lt H4.out.2.2.2.2.1 g hg)), H4.out.2.2.2.2.2.below b5⟩)
  clear b5 H4
  go_wp2_with fail
  refine (HS.out.2.1 w5 H5.out.2.2.2.2.2).mono ?_
  rintro e w6 ⟨v6, rfl, A6, b6⟩
  obtain ⟨a6, c6, rfl, -⟩ := A6.form
  obtain ⟨W6, hW6⟩ : ∃ W6, W6 = w6.alloc (.cells (m.row (.slice a6 m.cell.kids.length c6)) 26) := ⟨_, rfl⟩
  have bW6 : Below w6.heap.size w6 W6 := by rw [hW6]; exact (Below.refl _ w6).alloc (Nat.le_refl _) _
  have b6' : Below w5.heap.size w5 W6 := b6.trans (bW6.mono b6.size)
  have hs6 : w5.heap.size ≤ w6.heap.size := b6.size
  have hs6' : w6.heap.size ≤ W6.heap.size := bW6.size
  have H6 := (show Hid (_ ∧ _ ∧ _ ∧ _ ∧ _ ∧ _) from ⟨H5.out.1.below b6', H5.out.2.2.1.trans (b6'.mono (by omega)), (b6'.block _ (lt_heap H5.out.2.2.2.1)).trans H5.out.2.2.2.1, own_moved H5.out.2.2.2.2.1 (fun g hg => b6'.block g (own_lt H5.out.2.2.2.2.1 g hg)), A6.below bW6, hW6⟩)
  obtain ⟨y0, y1, y2, y3, y4, y5, y6, y7, y8⟩ := boxM ((b6.block _ (lt_heap H5.out.2.1)).trans H5.out.2.1)
  have hlt16 : w1.heap.size < w6.heap.size := by omega
  clear A6 b6 bW6 b6' hW6 H5
  go_wp2_with fail
  clear y0 y1 y2 y3 y4 y5 y6 y7 y8
  rw [← (show W6 = w6.alloc (.cells #[.int .i64 m.kind, .int .i64 m.frm, .int .i64 m.dst, .int .i64 m.id, .int .i64 m.want, .int .i64 m.cell.kind, .int .i64 m.cell.n, .int .i64 m.cell.pos, .slice a6 m.cell.kids.length c6] 26) from H6.out.2.2.2.2.2)]
  refine (eqMsg_any _ _ m _ _ W6 H6.out.2.2.2.2.1.at_.choose_spec H6.out.1 (by unfold Ce.bulk; omega)).mono ?_
  rintro e w7 ⟨rfl, b7⟩
  have hs7 : W6.heap.size ≤ w7.heap.size := b7.size
  have H7 := (show Hid (_ ∧ _ ∧ _) from ⟨H6.out.2.1.trans (b7.mono (by omega)), (b7.block _ (lt_heap H6.out.2.2.1)).trans H6.out.2.2.1, own_moved H6.out.2.2.2.1 (fun g hg => b7.block g (own_lt H6.out.2.2.2.1 g hg))⟩)
  clear b7 H6
  obtain ⟨x0, x1, x2, x3, x4, x5, x6, x7, x8⟩ := boxM H7.out.2.1
  go_wp2_with fail
  clear x0 x1 x2 x3 x4 x5 x6 x7 x8
  refine (heldMsg_any _ m a2 c2 m.cell.kids.length 1 w7 (by decide) (by decide) (by omega) H7.out.2.2).mono ?_
  rintro e w8 ⟨rfl, b8⟩
  have H8 := (show Hid (_ ∧ True) from ⟨H7.out.1.trans (b8.mono (by omega)), trivial⟩)
  clear b8 H7
  go_wp2
  go_ret
  exact ⟨rfl, H8.out.1⟩
end Go.Proofs.YtfcgpfjmabhmeaaDoor
