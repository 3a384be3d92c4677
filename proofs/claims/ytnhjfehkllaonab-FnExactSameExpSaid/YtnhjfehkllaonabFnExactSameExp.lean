/-
  At every two expressions the program's SameExp answers as the specification's, writes into neither, and the law's call changes nothing that was there; no condition.
-/
import Derived.Test.YtnhjfehkllaonabExOpen
import Derived.Test.YtnhjfehkllaonabExTo
import Derived.Test.YtnhjfehkllaonabExSame
namespace Go.Proofs.Ytnhjfehkllaonab
open Go.ChangeShapes Go.WideShapes Go.ChangeAt Go.RowKit Go.Joins

set_option maxRecDepth 100000

namespace fnExactSameExp
/-- What the program's SameExp is to do. -/
def ImplSame : Prop := ∀ (d : Nat) (v1 v2 : Value) (x y : Ex) (w : World), ExAt w (Pl w) d v1 x → ExAt w (Pl w) d v2 y → x.bulk ≤ 1048576 → y.bulk ≤ 1048576 →
  Calls Try.prog 8 #[v1, v2] w fun e w' => e = .returned (.bool (x.same y)) ∧ Below w.heap.size w w'

set_option maxHeartbeats 6400000 in
theorem walk (hI : ImplSame) (d : Nat) (v1 v2 : Value) (x y : Ex) (w : World) (h1 : ExAt w (fun _ => True) d v1 x) (h2 : ExAt w (fun _ => True) d v2 y) :
    Calls Try.prog 3 #[v1, v2] w fun e w' => e = .returned (.bool true) ∧ Below w.heap.size w w' := by
  have HI : Hid ImplSame := hI
  clear hI
  have H1 : Hid (ExAt w (fun _ => True) d v1 x) := h1
  have H2 : Hid (ExAt w (fun _ => True) d v2 y) := h2
  obtain ⟨kv1, rfl, -, -, -, k1⟩ := h1
  obtain ⟨kv2, rfl, -, -, -, k2⟩ := h2
  obtain ⟨a1, c1, rfl⟩ := k1.form
  obtain ⟨a2, c2, rfl⟩ := k2.form
  clear k1 k2
  have B0 : Below w.heap.size w ((w.alloc (.cells #[.int .i64 x.kind, .int .i64 x.n, .string x.text, .slice a1 x.kids.length c1] 24)).alloc (.cells #[.int .i64 y.kind, .int .i64 y.n, .string y.text, .slice a2 y.kids.length c2] 24)) := ((Below.refl _ w).alloc (Nat.le_refl _) _).alloc (by simp) _
  have O1 : ((w.alloc (.cells #[.int .i64 x.kind, .int .i64 x.n, .string x.text, .slice a1 x.kids.length c1] 24)).alloc (.cells #[.int .i64 y.kind, .int .i64 y.n, .string y.text, .slice a2 y.kids.length c2] 24)).heap[w.heap.size]? = some (.cells #[.int .i64 x.kind, .int .i64 x.n, .string x.text, .slice a1 x.kids.length c1] 24) := (Below.heap_alloc _ _ _ (by simp)).trans (MapKept.heap_alloc w _).1
  have O2 : ((w.alloc (.cells #[.int .i64 x.kind, .int .i64 x.n, .string x.text, .slice a1 x.kids.length c1] 24)).alloc (.cells #[.int .i64 y.kind, .int .i64 y.n, .string y.text, .slice a2 y.kids.length c2] 24)).heap[w.heap.size + 1]? = some (.cells #[.int .i64 y.kind, .int .i64 y.n, .string y.text, .slice a2 y.kids.length c2] 24) := by
    have := (MapKept.heap_alloc (w.alloc (.cells #[.int .i64 x.kind, .int .i64 x.n, .string x.text, .slice a1 x.kids.length c1] 24)) (.cells #[.int .i64 y.kind, .int .i64 y.n, .string y.text, .slice a2 y.kids.length c2] 24)).1
    simpa using this
  have P3 : ((w.alloc (.cells #[.int .i64 x.kind, .int .i64 x.n, .string x.text, .slice a1 x.kids.length c1] 24)).alloc (.cells #[.int .i64 y.kind, .int .i64 y.n, .string y.text, .slice a2 y.kids.length c2] 24)).heap.size = w.heap.size + 2 := by simp
  have L1 : Hid (∀ wk : World, Below ((w.alloc (.cells #[.int .i64 x.kind, .int .i64 x.n, .string x.text, .slice a1 x.kids.length c1] 24)).alloc (.cells #[.int .i64 y.kind, .int .i64 y.n, .string y.text, .slice a2 y.kids.length c2] 24)).heap.size ((w.alloc (.cells #[.int .i64 x.kind, .int .i64 x.n, .string x.text, .slice a1 x.kids.length c1] 24)).alloc (.cells #[.int .i64 y.kind, .int .i64 y.n, .string y.text, .slice a2 y.kids.length c2] 24)) wk → wk.heap[w.heap.size]? = some (.cells #[.int .i64 x.kind, .int .i64 x.n, .string x.text, .slice a1 x.kids.length c1] 24)) := fun wk hb => (hb.block _ (by rw [P3]; omega)).trans O1
  have L2 : Hid (∀ wk : World, Below ((w.alloc (.cells #[.int .i64 x.kind, .int .i64 x.n, .string x.text, .slice a1 x.kids.length c1] 24)).alloc (.cells #[.int .i64 y.kind, .int .i64 y.n, .string y.text, .slice a2 y.kids.length c2] 24)).heap.size ((w.alloc (.cells #[.int .i64 x.kind, .int .i64 x.n, .string x.text, .slice a1 x.kids.length c1] 24)).alloc (.cells #[.int .i64 y.kind, .int .i64 y.n, .string y.text, .slice a2 y.kids.length c2] 24)) wk → wk.heap[w.heap.size + 1]? = some (.cells #[.int .i64 y.kind, .int .i64 y.n, .string y.text, .slice a2 y.kids.length c2] 24)) := fun wk hb => (hb.block _ (by rw [P3]; omega)).trans O2
  have HB0 : Hid (∀ wk : World, Below ((w.alloc (.cells #[.int .i64 x.kind, .int .i64 x.n, .string x.text, .slice a1 x.kids.length c1] 24)).alloc (.cells #[.int .i64 y.kind, .int .i64 y.n, .string y.text, .slice a2 y.kids.length c2] 24)).heap.size ((w.alloc (.cells #[.int .i64 x.kind, .int .i64 x.n, .string x.text, .slice a1 x.kids.length c1] 24)).alloc (.cells #[.int .i64 y.kind, .int .i64 y.n, .string y.text, .slice a2 y.kids.length c2] 24)) wk → Below w.heap.size w wk) := fun wk hb => B0.trans (hb.mono B0.size)
  clear O1 O2
  have hdat := Go.Proofs.Ytnhjfehkllaonab.szExp_any d
  have HSZ := (show Hid (_ ∧ True) from ⟨hdat, trivial⟩)
  clear hdat
  go_enter Try.func3, Try.ntmps3
  go_wp2_with fail
  generalize ((w.alloc (.cells #[.int .i64 x.kind, .int .i64 x.n, .string x.text, .slice a1 x.kids.length c1] 24)).alloc (.cells #[.int .i64 y.kind, .int .i64 y.n, .string y.text, .slice a2 y.kids.length c2] 24)) = w2 at *
  refine (HSZ.out.1 _ x _ _ _ (H1.out.below B0) (by omega) (by omega)).mono ?_
  rintro e w3 ⟨rfl, b3⟩
  have M3 := L2.out _ b3
  have y0 : w3.cell? ⟨w.heap.size + 1, 0, none⟩ = some (.int .i64 y.kind) := by rw [cell_of_block M3]; rfl
  have y1 : w3.cell? ⟨w.heap.size + 1, 1, none⟩ = some (.int .i64 y.n) := by rw [cell_of_block M3]; rfl
  have y2 : w3.cell? ⟨w.heap.size + 1, 2, none⟩ = some (.string y.text) := by rw [cell_of_block M3]; rfl
  have y3 : w3.cell? ⟨w.heap.size + 1, 3, none⟩ = some (.slice a2 y.kids.length c2) := by rw [cell_of_block M3]; rfl
  clear M3
  by_cases hx : x.bulk ≤ 1048576
  · have hr : szR 1048576 x.bulk = 1048576 - x.bulk := by unfold szR; rw [if_pos (by omega)]
    rw [hr]
    have hr0 : ¬ (1048576 : Int) - x.bulk < 0 := by omega
    clear hr
    go_wp2_with fail
    refine (HSZ.out.1 _ y _ _ _ (H2.out.below (HB0.out _ b3)) (by omega) (by omega)).mono ?_
    rintro e w4 ⟨rfl, d4⟩
    have b4 : Below w2.heap.size w2 w4 := b3.trans (d4.mono b3.size)
    clear d4 b3 y0 y1 y2 y3
    by_cases hy : (y.bulk : Int) ≤ 1048576 - x.bulk
    · have hr : szR (1048576 - (x.bulk : Int)) y.bulk = 1048576 - x.bulk - y.bulk := by unfold szR; rw [if_pos (by omega)]
      rw [hr]
      have hr1 : ¬ (1048576 : Int) - x.bulk - y.bulk < 0 := by omega
      clear hr
      have M4 := L1.out _ b4
      have N4 := L2.out _ b4
      have x0 : w4.cell? ⟨w.heap.size, 0, none⟩ = some (.int .i64 x.kind) := by rw [cell_of_block M4]; rfl
      have x1 : w4.cell? ⟨w.heap.size, 1, none⟩ = some (.int .i64 x.n) := by rw [cell_of_block M4]; rfl
      have x2 : w4.cell? ⟨w.heap.size, 2, none⟩ = some (.string x.text) := by rw [cell_of_block M4]; rfl
      have x3 : w4.cell? ⟨w.heap.size, 3, none⟩ = some (.slice a1 x.kids.length c1) := by rw [cell_of_block M4]; rfl
      have y0 : w4.cell? ⟨w.heap.size + 1, 0, none⟩ = some (.int .i64 y.kind) := by rw [cell_of_block N4]; rfl
      have y1 : w4.cell? ⟨w.heap.size + 1, 1, none⟩ = some (.int .i64 y.n) := by rw [cell_of_block N4]; rfl
      have y2 : w4.cell? ⟨w.heap.size + 1, 2, none⟩ = some (.string y.text) := by rw [cell_of_block N4]; rfl
      have y3 : w4.cell? ⟨w.heap.size + 1, 3, none⟩ = some (.slice a2 y.kids.length c2) := by rw [cell_of_block N4]; rfl
      clear M4 N4
      have HTO : Hid (ToExp d) := toExp_any d
      have HSS : Hid (SameExp d) := specSame_any d
      go_wp2_with fail
      go_region_with (first
        | (go_at_call_of 7 (Value.string x.text); refine (HTO.out _ x (fun _ => True) _ (H1.out.below (HB0.out _ b4.drew)) (by omega)).mono ?_; rintro e w5 ⟨v5, rfl, ⟨kv5, rfl, i1, i2, i3, k5⟩, d5⟩; obtain ⟨a5, c5, rfl⟩ := k5.form; have b5 : Below w2.heap.size w2 w5 := b4.drew.trans (d5.mono b4.size); have M5 := L2.out _ b5; have z0 : w5.cell? ⟨w.heap.size + 1, 0, none⟩ = some (.int .i64 y.kind) := (by rw [cell_of_block M5]; rfl); have z1 : w5.cell? ⟨w.heap.size + 1, 1, none⟩ = some (.int .i64 y.n) := (by rw [cell_of_block M5]; rfl); have z2 : w5.cell? ⟨w.heap.size + 1, 2, none⟩ = some (.string y.text) := (by rw [cell_of_block M5]; rfl); have z3 : w5.cell? ⟨w.heap.size + 1, 3, none⟩ = some (.slice a2 y.kids.length c2) := (by rw [cell_of_block M5]; rfl); clear M5)
        | (go_at_call_of 7 (Value.string y.text); refine (HTO.out _ y (fun _ => True) _ (H2.out.below (HB0.out _ b5)) (by omega)).mono ?_; rintro e w6 ⟨v6, rfl, ⟨kv6, rfl, j1, j2, j3, k6⟩, d6⟩; obtain ⟨a6, c6, rfl⟩ := k6.form; have b6 : Below w2.heap.size w2 w6 := b5.trans (d6.mono b5.size); have k5b := k5.below d6; clear d6)
        | (go_at_call 6; refine (HSS.out _ _ x y _ _ _ ⟨_, rfl, i1, i2, i3, k5b⟩ ⟨_, rfl, j1, j2, j3, k6⟩ (by omega) (by omega)).mono ?_; rintro e w7 ⟨rfl, d7⟩; have b7 : Below w2.heap.size w2 w7 := b6.trans (d7.mono b6.size); clear d7))
      all_goals
        clear x0 x1 x2 x3 y0 y1 y2 y3 z0 z1 z2 z3 k5 k5b k6 i1 i2 i3 j1 j2 j3 d5 b4 b5 b6
        have M7 := L1.out _ b7
        have x0 : w7.cell? ⟨w.heap.size, 0, none⟩ = some (.int .i64 x.kind) := by rw [cell_of_block M7]; rfl
        have x1 : w7.cell? ⟨w.heap.size, 1, none⟩ = some (.int .i64 x.n) := by rw [cell_of_block M7]; rfl
        have x2 : w7.cell? ⟨w.heap.size, 2, none⟩ = some (.string x.text) := by rw [cell_of_block M7]; rfl
        have x3 : w7.cell? ⟨w.heap.size, 3, none⟩ = some (.slice a1 x.kids.length c1) := by rw [cell_of_block M7]; rfl
        clear M7
        have hss : (x.same y == x.same y) = true := by simp
        have HIxy := (show Hid (_ ∧ True) from ⟨fun v1 v2 w h1 h2 => HI.out d v1 v2 x y w h1 h2 (by omega) (by omega), trivial⟩)
        clear HSS HI
        generalize x.same y = q at *
        go_wp2_with fail
        refine (HTO.out _ x (fun _ => True) _ (H1.out.below (HB0.out _ b7)) (by omega)).mono ?_
        rintro e w8 ⟨v8, rfl, ⟨kv8, rfl, i1, i2, i3, k8⟩, d8⟩
        obtain ⟨a8, c8, rfl⟩ := k8.form
        have b8 : Below w2.heap.size w2 w8 := b7.trans (d8.mono b7.size)
        have b8a : Below w2.heap.size w2 (w8.alloc (.cells #[.int .i64 x.kind, .int .i64 x.n, .string x.text, .slice a8 x.kids.length c8] 29)) := b8.alloc b8.size _
        have M8 := L2.out _ b8a
        have k8a := k8.belowP ((Below.refl _ w8).alloc (Nat.le_refl _) (.cells #[.int .i64 x.kind, .int .i64 x.n, .string x.text, .slice a8 x.kids.length c8] 29))
        have s8 : (w8.alloc (.cells #[.int .i64 x.kind, .int .i64 x.n, .string x.text, .slice a8 x.kids.length c8] 29)).heap.size = w8.heap.size + 1 := by simp
        have O8 : (w8.alloc (.cells #[.int .i64 x.kind, .int .i64 x.n, .string x.text, .slice a8 x.kids.length c8] 29)).heap[w8.heap.size]? = some (.cells #[.int .i64 x.kind, .int .i64 x.n, .string x.text, .slice a8 x.kids.length c8] 29) := (MapKept.heap_alloc w8 _).1
        have HO8 := (show Hid (_ ∧ True) from ⟨O8, trivial⟩)
        have HK8 := (show Hid (_ ∧ True) from ⟨k8a, trivial⟩)
        have HB8 := (show Hid (_ ∧ True) from ⟨b8a, trivial⟩)
        have y0 : (w8.alloc (.cells #[.int .i64 x.kind, .int .i64 x.n, .string x.text, .slice a8 x.kids.length c8] 29)).cell? ⟨w.heap.size + 1, 0, none⟩ = some (.int .i64 y.kind) := by rw [cell_of_block M8]; rfl
        have y1 : (w8.alloc (.cells #[.int .i64 x.kind, .int .i64 x.n, .string x.text, .slice a8 x.kids.length c8] 29)).cell? ⟨w.heap.size + 1, 1, none⟩ = some (.int .i64 y.n) := by rw [cell_of_block M8]; rfl
        have y2 : (w8.alloc (.cells #[.int .i64 x.kind, .int .i64 x.n, .string x.text, .slice a8 x.kids.length c8] 29)).cell? ⟨w.heap.size + 1, 2, none⟩ = some (.string y.text) := by rw [cell_of_block M8]; rfl
        have y3 : (w8.alloc (.cells #[.int .i64 x.kind, .int .i64 x.n, .string x.text, .slice a8 x.kids.length c8] 29)).cell? ⟨w.heap.size + 1, 3, none⟩ = some (.slice a2 y.kids.length c2) := by rw [cell_of_block M8]; rfl
        clear M8 x0 x1 x2 x3 d8 b7 k8 k8a O8 b8a
        go_wp2_with fail
        refine (HTO.out _ y (fun _ => True) _ (H2.out.below (HB0.out _ HB8.out.1)) (by omega)).mono ?_
        rintro e w9 ⟨v9, rfl, ⟨kv9, rfl, j1, j2, j3, k9⟩, d9⟩
        obtain ⟨a9, c9, rfl⟩ := k9.form
        have b9 : Below w2.heap.size w2 w9 := HB8.out.1.trans (d9.mono HB8.out.1.size)
        have b9a : Below w2.heap.size w2 (w9.alloc (.cells #[.int .i64 y.kind, .int .i64 y.n, .string y.text, .slice a9 y.kids.length c9] 29)) := b9.alloc b9.size _
        have k8b := HK8.out.1.belowP d9
        have O8 : w9.heap[w8.heap.size]? = some (.cells #[.int .i64 x.kind, .int .i64 x.n, .string x.text, .slice a8 x.kids.length c8] 29) := (d9.block _ (by rw [s8]; omega)).trans HO8.out.1
        have s9 : w8.heap.size + 1 ≤ w9.heap.size := by have := d9.size; rw [s8] at this; exact this
        have e8 := k8b.belowP ((Below.refl _ w9).alloc (Nat.le_refl _) (.cells #[.int .i64 y.kind, .int .i64 y.n, .string y.text, .slice a9 y.kids.length c9] 29))
        have e9 := k9.belowP ((Below.refl _ w9).alloc (Nat.le_refl _) (.cells #[.int .i64 y.kind, .int .i64 y.n, .string y.text, .slice a9 y.kids.length c9] 29))
        have O8a : (w9.alloc (.cells #[.int .i64 y.kind, .int .i64 y.n, .string y.text, .slice a9 y.kids.length c9] 29)).heap[w8.heap.size]? = some (.cells #[.int .i64 x.kind, .int .i64 x.n, .string x.text, .slice a8 x.kids.length c8] 29) := (Below.heap_alloc _ _ _ (by omega)).trans O8
        have O9a : (w9.alloc (.cells #[.int .i64 y.kind, .int .i64 y.n, .string y.text, .slice a9 y.kids.length c9] 29)).heap[w9.heap.size]? = some (.cells #[.int .i64 y.kind, .int .i64 y.n, .string y.text, .slice a9 y.kids.length c9] 29) := (MapKept.heap_alloc w9 _).1
        have x0 : (w9.alloc (.cells #[.int .i64 y.kind, .int .i64 y.n, .string y.text, .slice a9 y.kids.length c9] 29)).cell? ⟨w8.heap.size, 0, none⟩ = some (.int .i64 x.kind) := by rw [cell_of_block O8a]; rfl
        have x1 : (w9.alloc (.cells #[.int .i64 y.kind, .int .i64 y.n, .string y.text, .slice a9 y.kids.length c9] 29)).cell? ⟨w8.heap.size, 1, none⟩ = some (.int .i64 x.n) := by rw [cell_of_block O8a]; rfl
        have x2 : (w9.alloc (.cells #[.int .i64 y.kind, .int .i64 y.n, .string y.text, .slice a9 y.kids.length c9] 29)).cell? ⟨w8.heap.size, 2, none⟩ = some (.string x.text) := by rw [cell_of_block O8a]; rfl
        have x3 : (w9.alloc (.cells #[.int .i64 y.kind, .int .i64 y.n, .string y.text, .slice a9 y.kids.length c9] 29)).cell? ⟨w8.heap.size, 3, none⟩ = some (.slice a8 x.kids.length c8) := by rw [cell_of_block O8a]; rfl
        have HE8 := (show Hid (_ ∧ True) from ⟨e8, trivial⟩)
        have HE9 := (show Hid (_ ∧ True) from ⟨e9, trivial⟩)
        have HO8a := (show Hid (_ ∧ True) from ⟨O8a, trivial⟩)
        have HO9a := (show Hid (_ ∧ True) from ⟨O9a, trivial⟩)
        have HB9 := (show Hid (_ ∧ True) from ⟨b9a, trivial⟩)
        have s9a : (w9.alloc (.cells #[.int .i64 y.kind, .int .i64 y.n, .string y.text, .slice a9 y.kids.length c9] 29)).heap.size = w9.heap.size + 1 := by simp
        clear y0 y1 y2 y3 d9 b8 b9 k9 k8b e8 e9 O8 O8a O9a b9a HK8 HO8 HB8 s8
        go_wp2_with fail
        refine (HIxy.out.1 _ _ _ ⟨_, rfl, i1, i2, i3, HE8.out.1.plain⟩ ⟨_, rfl, j1, j2, j3, HE9.out.1.plain⟩).mono ?_
        rintro e w10 ⟨rfl, d10⟩
        have b10 : Below w2.heap.size w2 w10 := HB9.out.1.trans (d10.mono HB9.out.1.size)
        have f8 := HE8.out.1.below d10
        have f9 := HE9.out.1.below d10
        have O8 : w10.heap[w8.heap.size]? = some (.cells #[.int .i64 x.kind, .int .i64 x.n, .string x.text, .slice a8 x.kids.length c8] 29) := (d10.block _ (by rw [s9a]; omega)).trans HO8a.out.1
        have O9 : w10.heap[w9.heap.size]? = some (.cells #[.int .i64 y.kind, .int .i64 y.n, .string y.text, .slice a9 y.kids.length c9] 29) := (d10.block _ (by rw [s9a]; omega)).trans HO9a.out.1
        have s10 : w9.heap.size + 1 ≤ w10.heap.size := by have := d10.size; rw [s9a] at this; exact this
        clear HE8 HE9 HO8a HO9a HB9 s9a HIxy d10 x0 x1 x2 x3
        have M10 := L1.out _ b10
        have y0 : w10.cell? ⟨w.heap.size, 0, none⟩ = some (.int .i64 x.kind) := by rw [cell_of_block M10]; rfl
        have y1 : w10.cell? ⟨w.heap.size, 1, none⟩ = some (.int .i64 x.n) := by rw [cell_of_block M10]; rfl
        have y2 : w10.cell? ⟨w.heap.size, 2, none⟩ = some (.string x.text) := by rw [cell_of_block M10]; rfl
        have y3 : w10.cell? ⟨w.heap.size, 3, none⟩ = some (.slice a1 x.kids.length c1) := by rw [cell_of_block M10]; rfl
        have x0 : w10.cell? ⟨w8.heap.size, 0, none⟩ = some (.int .i64 x.kind) := by rw [cell_of_block O8]; rfl
        have x1 : w10.cell? ⟨w8.heap.size, 1, none⟩ = some (.int .i64 x.n) := by rw [cell_of_block O8]; rfl
        have x2 : w10.cell? ⟨w8.heap.size, 2, none⟩ = some (.string x.text) := by rw [cell_of_block O8]; rfl
        have x3 : w10.cell? ⟨w8.heap.size, 3, none⟩ = some (.slice a8 x.kids.length c8) := by rw [cell_of_block O8]; rfl
        have HEQ : Hid (EqExp d) := eqExp_any d
        have HF8 := (show Hid (_ ∧ True) from ⟨f8, trivial⟩)
        have HF9 := (show Hid (_ ∧ True) from ⟨f9, trivial⟩)
        have HP8 := (show Hid (_ ∧ True) from ⟨O8, trivial⟩)
        have HP9 := (show Hid (_ ∧ True) from ⟨O9, trivial⟩)
        have hnot := ex_not
        clear f8 f9 O8 O9 M10
        go_wp2_with fail
        go_region_with (first
          | (go_at_call 7; refine (HTO.out _ x (fun _ => True) _ (H1.out.below (HB0.out _ b10.drew)) (by omega)).mono ?_; rintro e w11 ⟨v11, rfl, ⟨kv11, rfl, p1, p2, p3, k11⟩, d11⟩; obtain ⟨a11, c11, rfl⟩ := k11.form; have D11 : Below w10.heap.size w10 w11 := ((Below.refl _ w10).drew).trans d11; have O11 := (D11.block _ (by omega)).trans HP8.out.1; have z0 : w11.cell? ⟨w8.heap.size, 0, none⟩ = some (.int .i64 x.kind) := (by rw [cell_of_block O11]; rfl); have z1 : w11.cell? ⟨w8.heap.size, 1, none⟩ = some (.int .i64 x.n) := (by rw [cell_of_block O11]; rfl); have z2 : w11.cell? ⟨w8.heap.size, 2, none⟩ = some (.string x.text) := (by rw [cell_of_block O11]; rfl); have z3 : w11.cell? ⟨w8.heap.size, 3, none⟩ = some (.slice a8 x.kids.length c8) := (by rw [cell_of_block O11]; rfl); clear O11 d11)
          | (go_at_call 9; refine (HEQ.out _ _ x _ _ _ ⟨_, rfl, i1, i2, i3, HF8.out.1.below D11⟩ ⟨_, rfl, p1, p2, p3, k11⟩ (by omega)).mono ?_; rintro e w12 ⟨rfl, d12⟩; have D12 : Below w10.heap.size w10 w12 := D11.trans (d12.mono D11.size); clear d12))
        all_goals
          have b12 : Below w2.heap.size w2 w12 := b10.trans (D12.mono b10.size)
          have N12 := L2.out _ b12
          have O12 := (D12.block _ (by omega)).trans HP9.out.1
          have f12 := HF9.out.1.below D12
          have HF12 := (show Hid (_ ∧ True) from ⟨f12, trivial⟩)
          have HP12 := (show Hid (_ ∧ True) from ⟨O12, trivial⟩)
          have s12 : w9.heap.size + 1 ≤ w12.heap.size := Nat.le_trans s10 D12.size
          clear x0 x1 x2 x3 y0 y1 y2 y3 z0 z1 z2 z3 k11 D11 D12 f12 HF8 HF9 HP8 HP9
          have x0 : w12.cell? ⟨w9.heap.size, 0, none⟩ = some (.int .i64 y.kind) := (by rw [cell_of_block O12]; rfl)
          have x1 : w12.cell? ⟨w9.heap.size, 1, none⟩ = some (.int .i64 y.n) := (by rw [cell_of_block O12]; rfl)
          have x2 : w12.cell? ⟨w9.heap.size, 2, none⟩ = some (.string y.text) := (by rw [cell_of_block O12]; rfl)
          have x3 : w12.cell? ⟨w9.heap.size, 3, none⟩ = some (.slice a9 y.kids.length c9) := (by rw [cell_of_block O12]; rfl)
          have y0 : w12.cell? ⟨w.heap.size + 1, 0, none⟩ = some (.int .i64 y.kind) := (by rw [cell_of_block N12]; rfl)
          have y1 : w12.cell? ⟨w.heap.size + 1, 1, none⟩ = some (.int .i64 y.n) := (by rw [cell_of_block N12]; rfl)
          have y2 : w12.cell? ⟨w.heap.size + 1, 2, none⟩ = some (.string y.text) := (by rw [cell_of_block N12]; rfl)
          have y3 : w12.cell? ⟨w.heap.size + 1, 3, none⟩ = some (.slice a2 y.kids.length c2) := (by rw [cell_of_block N12]; rfl)
          clear O12 N12
          go_wp2_with fail
          go_region_with (first
            | (go_at_call 7; refine (HTO.out _ y (fun _ => True) _ (H2.out.below (HB0.out _ b12.drew)) (by omega)).mono ?_; rintro e w13 ⟨v13, rfl, ⟨kv13, rfl, r1, r2, r3, k13⟩, d13⟩; obtain ⟨a13, c13, rfl⟩ := k13.form; have D13 : Below w12.heap.size w12 w13 := ((Below.refl _ w12).drew).trans d13; have O13 := (D13.block _ (by omega)).trans HP12.out.1; have z0 : w13.cell? ⟨w9.heap.size, 0, none⟩ = some (.int .i64 y.kind) := (by rw [cell_of_block O13]; rfl); have z1 : w13.cell? ⟨w9.heap.size, 1, none⟩ = some (.int .i64 y.n) := (by rw [cell_of_block O13]; rfl); have z2 : w13.cell? ⟨w9.heap.size, 2, none⟩ = some (.string y.text) := (by rw [cell_of_block O13]; rfl); have z3 : w13.cell? ⟨w9.heap.size, 3, none⟩ = some (.slice a9 y.kids.length c9) := (by rw [cell_of_block O13]; rfl); clear O13 d13)
            | (go_at_call 9; refine (HEQ.out _ _ y _ _ _ ⟨_, rfl, j1, j2, j3, HF12.out.1.below D13⟩ ⟨_, rfl, r1, r2, r3, k13⟩ (by omega)).mono ?_; rintro e w14 ⟨rfl, d14⟩; have D14 : Below w12.heap.size w12 w14 := D13.trans (d14.mono D13.size); clear d14))
          all_goals
            have b14 : Below w2.heap.size w2 w14 := b12.trans (D14.mono b12.size)
            clear x0 x1 x2 x3 y0 y1 y2 y3 z0 z1 z2 z3 k13 D13 D14
            go_wp2
            go_ret
            exact ⟨rfl, HB0.out _ b14⟩
    · have hr : szR (1048576 - (x.bulk : Int)) y.bulk = -1 := by unfold szR; rw [if_neg (by omega)]
      rw [hr]
      go_wp2
      go_ret
      exact ⟨rfl, HB0.out _ b4⟩
  · have hr : szR 1048576 x.bulk = -1 := by unfold szR; rw [if_neg (by omega)]
    rw [hr]
    go_wp2
    go_ret
    exact ⟨rfl, HB0.out _ b3⟩
end fnExactSameExp
end Go.Proofs.Ytnhjfehkllaonab
