/-
  The law of CellText walked, for any program whose CellText answers as the plain words say.
-/
import Derived.Test.YtckjicgdcjjkhaaDoorCellOne
import Derived.Test.YtckjicgdcjjkhaaDoorSpecCellText
namespace Go.Proofs.YtckjicgdcjjkhaaDoor.fnExactCellText
open Go.RowKit Go.Joins

set_option maxRecDepth 100000

/-- What the program's function must fulfil; T: what it wants of the world (the library's tables), which no call of the law's changes. -/
def Impl (T : World → Prop) : Prop := ∀ (v : Value) (c : Ce) (n0 : Nat) (w : World), T w → CeAt w (fun b => n0 ≤ b ∧ Pl w b) v c → c.bulk ≤ 1048576 →
  Calls Tryd.prog 7 #[v] w fun e w' => e = .returned (.string ⟨c.textOf.toArray⟩) ∧ Below w.heap.size w w'

theorem ce_below {w w' : World} {S : Nat → Prop} {v : Value} {c : Ce} (h : CeAt w S v c) (hb : Below w.heap.size w w') : CeAt w' S v c := by
  obtain ⟨kv, rfl, r1, r2, r3, hk⟩ := h
  exact ⟨kv, rfl, r1, r2, r3, hk.below hb⟩
theorem ce_belowP {w w' : World} {n : Nat} {v : Value} {c : Ce} (h : CeAt w (fun b => n ≤ b ∧ Pl w b) v c) (hb : Below w.heap.size w w') : CeAt w' (fun b => n ≤ b ∧ Pl w' b) v c := by
  obtain ⟨kv, rfl, r1, r2, r3, hk⟩ := h
  exact ⟨kv, rfl, r1, r2, r3, hk.belowP hb⟩

set_option maxHeartbeats 6400000 in
theorem walk (T : World → Prop) (hT : ∀ w w', T w → Below w.heap.size w w' → T w') (himpl : Impl T) (v : Value) (c : Ce) (w : World) (hw : T w) (h : CeAt w (fun _ => True) v c) :
    Calls Tryd.prog 3 #[v] w fun e w' => e = .returned (.bool true) ∧ Below w.heap.size w w' := by
  have H1 := (show Hid (_ ∧ _ ∧ _ ∧ _) from ⟨h, himpl, hT, hw⟩)
  obtain ⟨kv, rfl, -, -, -, hk⟩ := h
  obtain ⟨a1, c1, rfl⟩ := hk.form
  clear hk himpl hT hw
  have hbu : c.bulk = c.kids.length := rfl
  have B0 : Below w.heap.size w (w.alloc (.cells #[.int .i64 c.kind, .int .i64 c.n, .int .i64 c.pos, .slice a1 c.kids.length c1] 24)) := (Below.refl _ w).alloc (Nat.le_refl _) _
  have O1 : (w.alloc (.cells #[.int .i64 c.kind, .int .i64 c.n, .int .i64 c.pos, .slice a1 c.kids.length c1] 24)).heap[w.heap.size]? = some (.cells #[.int .i64 c.kind, .int .i64 c.n, .int .i64 c.pos, .slice a1 c.kids.length c1] 24) := (MapKept.heap_alloc w _).1
  have P3 : (w.alloc (.cells #[.int .i64 c.kind, .int .i64 c.n, .int .i64 c.pos, .slice a1 c.kids.length c1] 24)).heap.size = w.heap.size + 1 := by simp
  have L1 : Hid (∀ wk : World, Below (w.alloc (.cells #[.int .i64 c.kind, .int .i64 c.n, .int .i64 c.pos, .slice a1 c.kids.length c1] 24)).heap.size (w.alloc (.cells #[.int .i64 c.kind, .int .i64 c.n, .int .i64 c.pos, .slice a1 c.kids.length c1] 24)) wk → wk.heap[w.heap.size]? = some (.cells #[.int .i64 c.kind, .int .i64 c.n, .int .i64 c.pos, .slice a1 c.kids.length c1] 24)) := fun wk hb => (hb.block _ (by rw [P3]; omega)).trans O1
  have HB0 : Hid (∀ wk : World, Below (w.alloc (.cells #[.int .i64 c.kind, .int .i64 c.n, .int .i64 c.pos, .slice a1 c.kids.length c1] 24)).heap.size (w.alloc (.cells #[.int .i64 c.kind, .int .i64 c.n, .int .i64 c.pos, .slice a1 c.kids.length c1] 24)) wk → Below w.heap.size w wk) := fun wk hb => B0.trans (hb.mono B0.size)
  clear O1
  go_enter Tryd.func3, Tryd.ntmps3
  go_wp2_with fail
  generalize (w.alloc (.cells #[.int .i64 c.kind, .int .i64 c.n, .int .i64 c.pos, .slice a1 c.kids.length c1] 24)) = w2 at *
  refine (szCell_any _ c _ _ _ (ce_below H1.out.1 B0) (by omega) (by omega)).mono ?_
  rintro e w3 ⟨rfl, b3⟩
  by_cases hx : c.bulk ≤ 1048576
  · have hr : szR 1048576 c.bulk = 1048576 - c.bulk := by unfold szR; rw [if_pos (by omega)]
    rw [hr]
    have hr0 : ¬ (1048576 : Int) - c.bulk < 0 := by omega
    have M3 := L1.out _ b3
    have y0 : w3.cell? ⟨w.heap.size, 0, none⟩ = some (.int .i64 c.kind) := by rw [cell_of_block M3]; rfl
    have y1 : w3.cell? ⟨w.heap.size, 1, none⟩ = some (.int .i64 c.n) := by rw [cell_of_block M3]; rfl
    have y2 : w3.cell? ⟨w.heap.size, 2, none⟩ = some (.int .i64 c.pos) := by rw [cell_of_block M3]; rfl
    have y3 : w3.cell? ⟨w.heap.size, 3, none⟩ = some (.slice a1 c.kids.length c1) := by rw [cell_of_block M3]; rfl
    clear hr M3
    go_wp2_with fail
    refine (toCell_any _ c _ _ (ce_below H1.out.1 (HB0.out _ b3)) hx).mono ?_
    rintro e w4 ⟨v4, rfl, p4, d4⟩
    have b4 : Below w2.heap.size w2 w4 := b3.trans (d4.mono b3.size)
    clear d4 y0 y1 y2 y3
    have HP4 := (show Hid (_ ∧ True) from ⟨p4, trivial⟩)
    obtain ⟨kv4, rfl, -, -, -, hk4⟩ := p4
    obtain ⟨a4, c4, rfl⟩ := hk4.form
    clear hk4
    go_wp2_with fail
    refine (specCellText_any _ c _ _ HP4.out.1 (by omega)).mono ?_
    rintro e w5 ⟨rfl, d5⟩
    have b5 : Below w2.heap.size w2 w5 := b4.trans (d5.mono b4.size)
    clear d5 HP4 b3 b4
    have M5 := L1.out _ b5
    have y0 : w5.cell? ⟨w.heap.size, 0, none⟩ = some (.int .i64 c.kind) := by rw [cell_of_block M5]; rfl
    have y1 : w5.cell? ⟨w.heap.size, 1, none⟩ = some (.int .i64 c.n) := by rw [cell_of_block M5]; rfl
    have y2 : w5.cell? ⟨w.heap.size, 2, none⟩ = some (.int .i64 c.pos) := by rw [cell_of_block M5]; rfl
    have y3 : w5.cell? ⟨w.heap.size, 3, none⟩ = some (.slice a1 c.kids.length c1) := by rw [cell_of_block M5]; rfl
    clear M5
    go_wp2_with fail
    refine (toCell_any _ c _ _ (ce_below H1.out.1 (HB0.out _ b5)) hx).mono ?_
    rintro e w6 ⟨v6, rfl, p6, d6⟩
    have b6 : Below w2.heap.size w2 w6 := b5.trans (d6.mono b5.size)
    clear d6 y0 y1 y2 y3
    have HP6 := (show Hid (_ ∧ True) from ⟨p6, trivial⟩)
    obtain ⟨kv6, rfl, -, -, -, hk6⟩ := p6
    obtain ⟨a6, c6, rfl⟩ := hk6.form
    clear hk6
    have e6 := ce_belowP HP6.out.1 ((Below.refl _ w6).alloc (Nat.le_refl _) (.cells #[.int .i64 c.kind, .int .i64 c.n, .int .i64 c.pos, .slice a6 c.kids.length c6] 27))
    have b6a : Below w2.heap.size w2 (w6.alloc (.cells #[.int .i64 c.kind, .int .i64 c.n, .int .i64 c.pos, .slice a6 c.kids.length c6] 27)) := b6.alloc b6.size _
    have O6 : (w6.alloc (.cells #[.int .i64 c.kind, .int .i64 c.n, .int .i64 c.pos, .slice a6 c.kids.length c6] 27)).heap[w6.heap.size]? = some (.cells #[.int .i64 c.kind, .int .i64 c.n, .int .i64 c.pos, .slice a6 c.kids.length c6] 27) := (MapKept.heap_alloc w6 _).1
    have s6 : (w6.alloc (.cells #[.int .i64 c.kind, .int .i64 c.n, .int .i64 c.pos, .slice a6 c.kids.length c6] 27)).heap.size = w6.heap.size + 1 := by simp
    have t6 := H1.out.2.2.1 _ _ H1.out.2.2.2 (HB0.out _ b6a)
    have HE6 := (show Hid (_ ∧ _ ∧ _ ∧ _) from ⟨e6, b6a, O6, t6⟩)
    clear e6 b6a O6 t6
    go_wp2_with fail
    refine (H1.out.2.1 _ c _ _ HE6.out.2.2.2 HE6.out.1 hx).mono ?_
    rintro e w7 ⟨rfl, d7⟩
    have b7 : Below w2.heap.size w2 w7 := HE6.out.2.1.trans (d7.mono HE6.out.2.1.size)
    have e7 := ce_belowP HE6.out.1 d7
    have O7 : w7.heap[w6.heap.size]? = some (.cells #[.int .i64 c.kind, .int .i64 c.n, .int .i64 c.pos, .slice a6 c.kids.length c6] 27) := (d7.block _ (by rw [s6]; omega)).trans HE6.out.2.2.1
    have HE7 := (show Hid (_ ∧ _ ∧ _) from ⟨e7, b7, O7⟩)
    have x0 : w7.cell? ⟨w6.heap.size, 0, none⟩ = some (.int .i64 c.kind) := by rw [cell_of_block O7]; rfl
    have x1 : w7.cell? ⟨w6.heap.size, 1, none⟩ = some (.int .i64 c.n) := by rw [cell_of_block O7]; rfl
    have x2 : w7.cell? ⟨w6.heap.size, 2, none⟩ = some (.int .i64 c.pos) := by rw [cell_of_block O7]; rfl
    have x3 : w7.cell? ⟨w6.heap.size, 3, none⟩ = some (.slice a6 c.kids.length c6) := by rw [cell_of_block O7]; rfl
    have M7 := L1.out _ b7
    have y0 : w7.cell? ⟨w.heap.size, 0, none⟩ = some (.int .i64 c.kind) := by rw [cell_of_block M7]; rfl
    have y1 : w7.cell? ⟨w.heap.size, 1, none⟩ = some (.int .i64 c.n) := by rw [cell_of_block M7]; rfl
    have y2 : w7.cell? ⟨w.heap.size, 2, none⟩ = some (.int .i64 c.pos) := by rw [cell_of_block M7]; rfl
    have y3 : w7.cell? ⟨w.heap.size, 3, none⟩ = some (.slice a1 c.kids.length c1) := by rw [cell_of_block M7]; rfl
    have hlt7 : w6.heap.size < w7.heap.size := (Array.getElem?_eq_some_iff.1 O7).1
    clear e7 b7 O7 M7 d7 HE6 HP6 s6
    have hnot := ex_not
    generalize (⟨c.textOf.toArray⟩ : ByteArray) = q at *
    have hss : (q.toList != q.toList) = false := by simp
    have hse : (q.toList == q.toList) = true := by simp
    go_wp2_with fail
    go_region_with (first
      | (go_at_call 6; refine (toCell_any _ c _ _ (ce_below H1.out.1 (HB0.out _ HE7.out.2.1.drew)) hx).mono ?_; rintro e w8 ⟨v8, rfl, p8, d8⟩; have D8 : Below w7.heap.size w7 w8 := (Below.refl _ w7).drew.trans d8; have HP8 := (show Hid (_ ∧ _) from ⟨p8, D8⟩); obtain ⟨kv8, rfl, -, -, -, hk8⟩ := p8; obtain ⟨a8, c8, rfl⟩ := hk8.form; have O8 := (D8.block _ hlt7).trans HE7.out.2.2; have z0 : w8.cell? ⟨w6.heap.size, 0, none⟩ = some (.int .i64 c.kind) := (by rw [cell_of_block O8]; rfl); have z1 : w8.cell? ⟨w6.heap.size, 1, none⟩ = some (.int .i64 c.n) := (by rw [cell_of_block O8]; rfl); have z2 : w8.cell? ⟨w6.heap.size, 2, none⟩ = some (.int .i64 c.pos) := (by rw [cell_of_block O8]; rfl); have z3 : w8.cell? ⟨w6.heap.size, 3, none⟩ = some (.slice a6 c.kids.length c6) := (by rw [cell_of_block O8]; rfl); clear hk8 O8 d8 D8)
      | (go_at_call 8; refine (eqCell_any _ _ c _ _ _ (ce_below HE7.out.1 HP8.out.2) HP8.out.1 (by omega)).mono ?_; rintro e w9 ⟨rfl, d9⟩; have b9 : Below w2.heap.size w2 w9 := (HE7.out.2.1.trans (HP8.out.2.mono HE7.out.2.1.size)).trans (d9.mono (HE7.out.2.1.trans (HP8.out.2.mono HE7.out.2.1.size)).size); clear d9))
    all_goals
      go_wp2
      go_ret
      exact ⟨rfl, HB0.out _ b9⟩
  · have hr : szR 1048576 c.bulk = -1 := by unfold szR; rw [if_neg (by omega)]
    rw [hr]
    go_wp2
    go_ret
    exact ⟨rfl, HB0.out _ b3⟩
end Go.Proofs.YtckjicgdcjjkhaaDoor.fnExactCellText
