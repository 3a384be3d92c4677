/-
  The law of Show walks, for any specification's Show that answers in plain words.
-/
import Derived.Test.YtlgnklpaebgnlaaShowP
import Derived.Test.YtlgnklpaebgnlaaMS
import Derived.Test.YtlgnklpaebgnlaaMT
import Derived.Test.YtlgnklpaebgnlaaME
import Derived.Test.YtlgnklpaebgnlaaMM
import Derived.Test.YtlgnklpaebgnlaaMHl
namespace Go.Proofs.Ytlgnklpaebgnlaa
open Go.RowKit Go.Joins

set_option maxRecDepth 100000

/-- The rows of what Show answers. -/
theorem show_rows {x2 x3 : List (List Dt)} {at_ : Int} (h : AllR ThreadR x3) : AllR ThreadR (showOf x2 x3 at_) := by
  unfold showOf
  split
  · intro i r hr
    by_cases hi : i < x3.length
    · rw [List.getElem?_append_left hi] at hr
      exact h i r hr
    · rw [List.getElem?_append_right (by omega)] at hr
      have h0 : i - x3.length = 0 := by
        have := (List.getElem?_eq_some_iff.1 hr).1
        simp at this
        omega
      rw [h0] at hr
      obtain rfl : showT at_ = r := by simpa using hr
      refine ⟨1, at_, [], [[.int 6, .int 0, .int 0, .row []]], ⟨#[]⟩, rfl, fun i r h => by simp at h, fun i r hr => ?_⟩
      match i, hr with
      | 0, hr => simp at hr; subst hr; exact ⟨6, 0, 0, [], rfl, fun i r h => by simp at h⟩
  · exact h
theorem cnt_rows {P : List Dt → Prop} (hP : ∀ r, P r → Dt.cntR r ≤ 16 + 16 * Dt.bulkR r) : ∀ xs : List (List Dt), AllR P xs → Dt.cntS xs ≤ 16 * Dt.bulkS xs
  | [], _ => by rw [Dt.cntS]; omega
  | r :: t, h => by
    have h1 := hP r (h 0 r rfl)
    have h2 := cnt_rows hP t (fun i r' hr => h (i + 1) r' (by simpa using hr))
    rw [Dt.cntS, Dt.bulkS]
    omega
theorem cntInt (xs : List (List Dt)) (h : AllR IntR xs) : Dt.cntS xs ≤ 16 * Dt.bulkS xs := cnt_rows (fun r hr => by obtain ⟨z, rfl⟩ := hr; simp [Dt.cntR, Dt.cnt, Dt.bulkR, Dt.bulk]) xs h
theorem cntCode (xs : List (List Dt)) (h : AllR CodeR xs) : Dt.cntS xs ≤ 16 * Dt.bulkS xs := cnt_rows (fun r hr => by obtain ⟨z0, z1, b2, x3, rfl, q3⟩ := hr; have := cntInt x3 q3; simp [Dt.cntR, Dt.cnt, Dt.bulkR, Dt.bulk]; omega) xs h
theorem cntCell (xs : List (List Dt)) (h : AllR CellR xs) : Dt.cntS xs ≤ 16 * Dt.bulkS xs := cnt_rows (fun r hr => by obtain ⟨z0, z1, z2, x3, rfl, q3⟩ := hr; have := cntInt x3 q3; simp [Dt.cntR, Dt.cnt, Dt.bulkR, Dt.bulk]; omega) xs h
theorem cntFrame (xs : List (List Dt)) (h : AllR FrameR xs) : Dt.cntS xs ≤ 16 * Dt.bulkS xs := cnt_rows (fun r hr => by obtain ⟨z0, z1, z2, x3, rfl, q3⟩ := hr; have := cntInt x3 q3; simp [Dt.cntR, Dt.cnt, Dt.bulkR, Dt.bulk]; omega) xs h
theorem cntThread (xs : List (List Dt)) (h : AllR ThreadR xs) : Dt.cntS xs ≤ 16 * Dt.bulkS xs := cnt_rows (fun r hr => by obtain ⟨z0, z1, x2, x3, b4, rfl, q2, q3⟩ := hr; have := cntInt x2 q2; have := cntFrame x3 q3; simp [Dt.cntR, Dt.cnt, Dt.bulkR, Dt.bulk]; omega) xs h
theorem cntMsg (xs : List (List Dt)) (h : AllR MsgR xs) : Dt.cntS xs ≤ 16 * Dt.bulkS xs := cnt_rows (fun r hr => by obtain ⟨z0, z1, z2, z3, z4, z5, z6, z7, x8, rfl, q8⟩ := hr; have := cntInt x8 q8; simp [Dt.cntR, Dt.cnt, Dt.bulkR, Dt.bulk]; omega) xs h
theorem cntMachine {x0 x1 x2 x3 x4 x5 x6 : List (List Dt)} (h : MachineR [.row x0, .row x1, .row x2, .row x3, .row x4, .row x5, .row x6]) : tcnt [.row x0, .row x1, .row x2, .row x3, .row x4, .row x5, .row x6] ≤ 16 * Dt.bulkR [.row x0, .row x1, .row x2, .row x3, .row x4, .row x5, .row x6] := by
  obtain ⟨y0, y1, y2, y3, y4, y5, y6, hy, q0, q1, q2, q3, q4, q5, q6⟩ := h
  simp only [List.cons.injEq, Dt.row.injEq, and_true] at hy
  obtain ⟨rfl, rfl, rfl, rfl, rfl, rfl, rfl⟩ := hy
  have h0 := cntCode _ q0
  have h1 := cntInt _ q1
  have h2 := cntCell _ q2
  have h3 := cntThread _ q3
  have h4 := cntInt _ q4
  have h5 := cntInt _ q5
  have h6 := cntMsg _ q6
  simp [tcnt, Dt.bulkR, Dt.bulk]
  omega
theorem bulk_show (x2 x3 : List (List Dt)) (at_ : Int) : Dt.bulkS (showOf x2 x3 at_) ≤ Dt.bulkS x3 + 10 := by
  unfold showOf
  split
  · have : ∀ (a b : List (List Dt)), Dt.bulkS (a ++ b) = Dt.bulkS a + Dt.bulkS b := by
      intro a b
      induction a with
      | nil => simp [Dt.bulkS]
      | cons r t ih => rw [List.cons_append, Dt.bulkS, ih, Dt.bulkS]; omega
    rw [this]
    simp [showT, Dt.bulkS, Dt.bulkR, Dt.bulk]
    decide
  · omega
theorem show_bounds {x0 x1 x2 x3 x4 x5 x6 : List (List Dt)} {at_ : Int} (hP : MachineR [.row x0, .row x1, .row x2, .row x3, .row x4, .row x5, .row x6]) (hD : MachineR [.row x0, .row x1, .row x2, .row (showOf x2 x3 at_), .row x4, .row x5, .row x6]) (hb : Dt.bulkR [.row x0, .row x1, .row x2, .row x3, .row x4, .row x5, .row x6] ≤ 1048576) : Dt.bulkR [.row x0, .row x1, .row x2, .row (showOf x2 x3 at_), .row x4, .row x5, .row x6] ≤ 4194304 ∧ (tcnt [.row x0, .row x1, .row x2, .row x3, .row x4, .row x5, .row x6] : Int) ≤ 90000000 ∧ (tcnt [.row x0, .row x1, .row x2, .row (showOf x2 x3 at_), .row x4, .row x5, .row x6] : Int) ≤ 90000000 := by
  have h1 := cntMachine hP
  have h2 := cntMachine hD
  have h3 := bulk_show x2 x3 at_
  have h4 : Dt.bulkR [.row x0, .row x1, .row x2, .row (showOf x2 x3 at_), .row x4, .row x5, .row x6] ≤ Dt.bulkR [.row x0, .row x1, .row x2, .row x3, .row x4, .row x5, .row x6] + 10 := by simp [Dt.bulkR, Dt.bulk]; omega
  omega

set_option maxHeartbeats 25600000 in
theorem lawShow_walk (hspec : ShC 6) (vs : List Value) (r : List Dt) (w : World) (at_ : Int) (hP : MachineR r) (h : FsAt w (fun _ => True) vs r) (hat : inI64 at_) :
    Calls Try.prog 3 #[.agg vs.toArray, .int .i64 at_] w fun e w' => e = .returned (.bool true) ∧ Below w.heap.size w w' := by
  have HP : Hid (MachineR r ∧ inI64 at_) := ⟨hP, hat⟩
  obtain ⟨x0, x1, x2, x3, x4, x5, x6, rfl, Q0, Q1, Q2, Q3, Q4, Q5, Q6⟩ := hP
  have HD : Hid (MachineR [.row x0, .row x1, .row x2, .row (showOf x2 x3 at_), .row x4, .row x5, .row x6]) := ⟨_, _, _, _, _, _, _, rfl, Q0, Q1, Q2, show_rows Q3, Q4, Q5, Q6⟩
  have HA := (show Hid (_ ∧ _) from ⟨h, hspec⟩)
  obtain ⟨v0, v1, v2, v3, v4, v5, v6, rfl, a0, a1, a2, a3, a4, a5, a6⟩ := fs7 h
  obtain ⟨p0, c0, rfl⟩ := a0.form
  obtain ⟨p1, c1, rfl⟩ := a1.form
  obtain ⟨p2, c2, rfl⟩ := a2.form
  obtain ⟨p3, c3, rfl⟩ := a3.form
  obtain ⟨p4, c4, rfl⟩ := a4.form
  obtain ⟨p5, c5, rfl⟩ := a5.form
  obtain ⟨p6, c6, rfl⟩ := a6.form
  clear h hat hspec Q0 Q1 Q2 Q3 Q4 Q5 Q6 a0 a1 a2 a3 a4 a5 a6
  obtain ⟨W0, hW⟩ : ∃ W, W = w.alloc (.cells #[.slice p0 x0.length c0, .slice p1 x1.length c1, .slice p2 x2.length c2, .slice p3 x3.length c3, .slice p4 x4.length c4, .slice p5 x5.length c5, .slice p6 x6.length c6] 30) := ⟨_, rfl⟩
  have bx : Below w.heap.size w W0 := by rw [hW]; exact (Below.refl _ w).alloc (Nat.le_refl _) _
  have AR : W0.heap[w.heap.size]? = some (.cells #[.slice p0 x0.length c0, .slice p1 x1.length c1, .slice p2 x2.length c2, .slice p3 x3.length c3, .slice p4 x4.length c4, .slice p5 x5.length c5, .slice p6 x6.length c6] 30) := by rw [hW]; exact (MapKept.heap_alloc w _).1
  have zW0 : W0.heap.size = w.heap.size + 1 := by rw [hW]; simp
  have HWW0 := (show Hid (_ ∧ _) from ⟨hW, zW0⟩)
  have yW0 : w.heap.size < W0.heap.size := by omega
  clear hW zW0
  have BB := bx
  clear bx
  have H := (show Hid (_ ∧ _ ∧ _) from ⟨AR, BB, trivial⟩)
  clear AR BB
  go_enter Try.func3, Try.ntmps3
  go_wp2_with fail
  rw [← HWW0.out.1]
  refine (szMachine_dt [.slice p0 x0.length c0, .slice p1 x1.length c1, .slice p2 x2.length c2, .slice p3 x3.length c3, .slice p4 x4.length c4, .slice p5 x5.length c5, .slice p6 x6.length c6] [.row x0, .row x1, .row x2, .row x3, .row x4, .row x5, .row x6] _ _ _ HP.out.1 (HA.out.1.up H.out.2.1) (by omega) (by omega)).mono ?_
  rintro e w1 ⟨rfl, b1⟩
  obtain ⟨AR, BB, -⟩ := H.out
  clear H
  have AR := (b1.block _ (lt_heap AR)).trans AR
  have BB := BB.trans (b1.mono BB.size)
  have z1 : w.heap.size < w1.heap.size := by have := b1.size; have := HWW0.out.2; omega
  clear b1
  obtain ⟨nn, hn⟩ : ∃ nn, nn = Dt.bulkR [.row x0, .row x1, .row x2, .row x3, .row x4, .row x5, .row x6] := ⟨_, rfl⟩
  rw [← hn]
  by_cases hx : ¬ nn ≤ 1048576
  · have hr : szR 1048576 nn = -1 := by unfold szR; rw [if_neg (by omega)]
    rw [hr]
    clear AR
    have HBB := (show Hid (_ ∧ True) from ⟨BB, trivial⟩)
    clear BB
    go_wp2
    go_ret
    exact ⟨rfl, HBB.out.1⟩
  have hx : nn ≤ 1048576 := by omega
  have hr : szR 1048576 nn = 1048576 - nn := by unfold szR; rw [if_pos (by omega)]
  rw [hr]
  have hr0 : ¬ (1048576 : Int) - nn < 0 := by omega
  have HN : Hid (Dt.bulkR [.row x0, .row x1, .row x2, .row x3, .row x4, .row x5, .row x6] ≤ 1048576) := by rw [hn] at hx; exact hx
  clear hr hn hx
  have HM : Hid (Dt.bulkR [.row x0, .row x1, .row x2, .row (showOf x2 x3 at_), .row x4, .row x5, .row x6] ≤ 4194304 ∧ (tcnt [.row x0, .row x1, .row x2, .row x3, .row x4, .row x5, .row x6] : Int) ≤ 90000000 ∧ (tcnt [.row x0, .row x1, .row x2, .row (showOf x2 x3 at_), .row x4, .row x5, .row x6] : Int) ≤ 90000000) := show_bounds HP.out.1 HD.out HN.out
  have ar_0 : w1.cell? ⟨w.heap.size, 0, none⟩ = some (.slice p0 x0.length c0) := by rw [cell_of_block AR]; rfl
  have ar_1 : w1.cell? ⟨w.heap.size, 1, none⟩ = some (.slice p1 x1.length c1) := by rw [cell_of_block AR]; rfl
  have ar_2 : w1.cell? ⟨w.heap.size, 2, none⟩ = some (.slice p2 x2.length c2) := by rw [cell_of_block AR]; rfl
  have ar_3 : w1.cell? ⟨w.heap.size, 3, none⟩ = some (.slice p3 x3.length c3) := by rw [cell_of_block AR]; rfl
  have ar_4 : w1.cell? ⟨w.heap.size, 4, none⟩ = some (.slice p4 x4.length c4) := by rw [cell_of_block AR]; rfl
  have ar_5 : w1.cell? ⟨w.heap.size, 5, none⟩ = some (.slice p5 x5.length c5) := by rw [cell_of_block AR]; rfl
  have ar_6 : w1.cell? ⟨w.heap.size, 6, none⟩ = some (.slice p6 x6.length c6) := by rw [cell_of_block AR]; rfl
  have H := (show Hid (_ ∧ _ ∧ _) from ⟨AR, BB, trivial⟩)
  clear AR BB
  go_wp2_with fail
  clear ar_0 ar_1 ar_2 ar_3 ar_4 ar_5 ar_6
  refine (toMachine_dt [.slice p0 x0.length c0, .slice p1 x1.length c1, .slice p2 x2.length c2, .slice p3 x3.length c3, .slice p4 x4.length c4, .slice p5 x5.length c5, .slice p6 x6.length c6] [.row x0, .row x1, .row x2, .row x3, .row x4, .row x5, .row x6] _ _ HP.out.1 (HA.out.1.up H.out.2.1) HN.out).mono ?_
  rintro e w2 ⟨us, rfl, O2, b2⟩
  obtain ⟨AR, BB, -⟩ := H.out
  clear H
  have AR := (b2.block _ (lt_heap AR)).trans AR
  have BB := BB.trans (b2.mono BB.size)
  have z2 : w1.heap.size ≤ w2.heap.size := b2.size
  clear b2
  obtain ⟨v0, v1, v2, v3, v4, v5, v6, rfl, k0, k1, k2, k3, k4, k5, k6⟩ := fs7 (OFs.at O2)
  obtain ⟨g0, h0, rfl⟩ := k0.form
  obtain ⟨g1, h1, rfl⟩ := k1.form
  obtain ⟨g2, h2, rfl⟩ := k2.form
  obtain ⟨g3, h3, rfl⟩ := k3.form
  obtain ⟨g4, h4, rfl⟩ := k4.form
  obtain ⟨g5, h5, rfl⟩ := k5.form
  obtain ⟨g6, h6, rfl⟩ := k6.form
  clear k0 k1 k2 k3 k4 k5 k6
  have H := (show Hid (_ ∧ _ ∧ _ ∧ _) from ⟨AR, BB, O2, trivial⟩)
  clear AR BB O2
  go_wp2_with fail
  refine (HA.out.2 _ x0 x1 x2 x3 x4 x5 x6 _ _ at_ HP.out.1 (OFs.at H.out.2.2.1) HN.out HP.out.2).mono ?_
  rintro e w3 ⟨us, rfl, O3, b3⟩
  obtain ⟨AR, BB, O2, -⟩ := H.out
  clear H
  have AR := (b3.block _ (lt_heap AR)).trans AR
  have BB := BB.trans (b3.mono BB.size)
  have O2 := OFs.up O2 b3
  clear O2
  have z3 : w2.heap.size ≤ w3.heap.size := b3.size
  clear b3
  obtain ⟨v0, v1, v2, v3, v4, v5, v6, rfl, k0, k1, k2, k3, k4, k5, k6⟩ := fs7 (OFs.at O3)
  obtain ⟨s0, t0, rfl⟩ := k0.form
  obtain ⟨s1, t1, rfl⟩ := k1.form
  obtain ⟨s2, t2, rfl⟩ := k2.form
  obtain ⟨s3, t3, rfl⟩ := k3.form
  obtain ⟨s4, t4, rfl⟩ := k4.form
  obtain ⟨s5, t5, rfl⟩ := k5.form
  obtain ⟨s6, t6, rfl⟩ := k6.form
  clear k0 k1 k2 k3 k4 k5 k6
  have ar_0 : w3.cell? ⟨w.heap.size, 0, none⟩ = some (.slice p0 x0.length c0) := by rw [cell_of_block AR]; rfl
  have ar_1 : w3.cell? ⟨w.heap.size, 1, none⟩ = some (.slice p1 x1.length c1) := by rw [cell_of_block AR]; rfl
  have ar_2 : w3.cell? ⟨w.heap.size, 2, none⟩ = some (.slice p2 x2.length c2) := by rw [cell_of_block AR]; rfl
  have ar_3 : w3.cell? ⟨w.heap.size, 3, none⟩ = some (.slice p3 x3.length c3) := by rw [cell_of_block AR]; rfl
  have ar_4 : w3.cell? ⟨w.heap.size, 4, none⟩ = some (.slice p4 x4.length c4) := by rw [cell_of_block AR]; rfl
  have ar_5 : w3.cell? ⟨w.heap.size, 5, none⟩ = some (.slice p5 x5.length c5) := by rw [cell_of_block AR]; rfl
  have ar_6 : w3.cell? ⟨w.heap.size, 6, none⟩ = some (.slice p6 x6.length c6) := by rw [cell_of_block AR]; rfl
  have zz3 : w.heap.size < w3.heap.size := by omega
  obtain ⟨W3, hW⟩ : ∃ W, W = w3.alloc (.cells #[.slice s0 x0.length t0, .slice s1 x1.length t1, .slice s2 x2.length t2, .slice s3 (showOf x2 x3 at_).length t3, .slice s4 x4.length t4, .slice s5 x5.length t5, .slice s6 x6.length t6] 39) := ⟨_, rfl⟩
  have bx : Below w3.heap.size w3 W3 := by rw [hW]; exact (Below.refl _ w3).alloc (Nat.le_refl _) _
  have B6 : W3.heap[w3.heap.size]? = some (.cells #[.slice s0 x0.length t0, .slice s1 x1.length t1, .slice s2 x2.length t2, .slice s3 (showOf x2 x3 at_).length t3, .slice s4 x4.length t4, .slice s5 x5.length t5, .slice s6 x6.length t6] 39) := by rw [hW]; exact (MapKept.heap_alloc w3 _).1
  have zW3 : W3.heap.size = w3.heap.size + 1 := by rw [hW]; simp
  have HWW3 := (show Hid (_ ∧ _) from ⟨hW, zW3⟩)
  have yW3 : w3.heap.size < W3.heap.size := by omega
  clear hW zW3
  have AR := (bx.block _ (lt_heap AR)).trans AR
  have BB := BB.trans (bx.mono BB.size)
  have O3 := OFs.up O3 bx
  clear bx
  have H := (show Hid (_ ∧ _ ∧ _ ∧ _ ∧ _) from ⟨AR, BB, O3, B6, trivial⟩)
  clear AR BB O3 B6
  go_wp2_with fail
  rw [← HWW3.out.1]
  clear ar_0 ar_1 ar_2 ar_3 ar_4 ar_5 ar_6
  refine (toMachine_dt [.slice p0 x0.length c0, .slice p1 x1.length c1, .slice p2 x2.length c2, .slice p3 x3.length c3, .slice p4 x4.length c4, .slice p5 x5.length c5, .slice p6 x6.length c6] [.row x0, .row x1, .row x2, .row x3, .row x4, .row x5, .row x6] _ _ HP.out.1 (HA.out.1.up H.out.2.1) HN.out).mono ?_
  rintro e w4 ⟨us, rfl, O4, b4⟩
  obtain ⟨AR, BB, O3, B6, -⟩ := H.out
  clear H
  have AR := (b4.block _ (lt_heap AR)).trans AR
  have BB := BB.trans (b4.mono BB.size)
  have O3 := OFs.up O3 b4
  have B6 := (b4.block _ (lt_heap B6)).trans B6
  have z4 : W3.heap.size ≤ w4.heap.size := b4.size
  clear b4
  obtain ⟨v0, v1, v2, v3, v4, v5, v6, rfl, k0, k1, k2, k3, k4, k5, k6⟩ := fs7 (OFs.at O4)
  obtain ⟨P0, C0, rfl⟩ := k0.form
  obtain ⟨P1, C1, rfl⟩ := k1.form
  obtain ⟨P2, C2, rfl⟩ := k2.form
  obtain ⟨P3, C3, rfl⟩ := k3.form
  obtain ⟨P4, C4, rfl⟩ := k4.form
  obtain ⟨P5, C5, rfl⟩ := k5.form
  obtain ⟨P6, C6, rfl⟩ := k6.form
  clear k0 k1 k2 k3 k4 k5 k6
  obtain ⟨W4, hW⟩ : ∃ W, W = w4.alloc (.cells #[.slice P0 x0.length C0, .slice P1 x1.length C1, .slice P2 x2.length C2, .slice P3 x3.length C3, .slice P4 x4.length C4, .slice P5 x5.length C5, .slice P6 x6.length C6] 39) := ⟨_, rfl⟩
  have bx : Below w4.heap.size w4 W4 := by rw [hW]; exact (Below.refl _ w4).alloc (Nat.le_refl _) _
  have B7 : W4.heap[w4.heap.size]? = some (.cells #[.slice P0 x0.length C0, .slice P1 x1.length C1, .slice P2 x2.length C2, .slice P3 x3.length C3, .slice P4 x4.length C4, .slice P5 x5.length C5, .slice P6 x6.length C6] 39) := by rw [hW]; exact (MapKept.heap_alloc w4 _).1
  have zW4 : W4.heap.size = w4.heap.size + 1 := by rw [hW]; simp
  have HWW4 := (show Hid (_ ∧ _) from ⟨hW, zW4⟩)
  have yW4 : w4.heap.size < W4.heap.size := by omega
  clear hW zW4
  have AR := (bx.block _ (lt_heap AR)).trans AR
  have BB := BB.trans (bx.mono BB.size)
  have O3 := OFs.up O3 bx
  have B6 := (bx.block _ (lt_heap B6)).trans B6
  have O4 := OFs.up O4 bx
  clear bx
  have H := (show Hid (_ ∧ _ ∧ _ ∧ _ ∧ _ ∧ _ ∧ _) from ⟨AR, BB, O3, B6, O4, B7, trivial⟩)
  clear AR BB O3 B6 O4 B7
  go_wp2_with fail
  rw [← HWW4.out.1]
  refine (implShow_dt _ x0 x1 x2 x3 x4 x5 x6 _ _ at_ HP.out.1 (OFs.at H.out.2.2.2.2.1) HN.out HP.out.2).mono ?_
  rintro e w5 ⟨us, rfl, O5, b5⟩
  obtain ⟨AR, BB, O3, B6, O4, B7, -⟩ := H.out
  clear H
  have AR := (b5.block _ (lt_heap AR)).trans AR
  have BB := BB.trans (b5.mono BB.size)
  have O3 := OFs.up O3 b5
  have B6 := (b5.block _ (lt_heap B6)).trans B6
  have O4 := OFs.up O4 b5
  have B7 := (b5.block _ (lt_heap B7)).trans B7
  have z5 : W4.heap.size ≤ w5.heap.size := b5.size
  clear b5
  obtain ⟨v0, v1, v2, v3, v4, v5, v6, rfl, k0, k1, k2, k3, k4, k5, k6⟩ := fs7 (OFs.at O5)
  obtain ⟨S0, T0, rfl⟩ := k0.form
  obtain ⟨S1, T1, rfl⟩ := k1.form
  obtain ⟨S2, T2, rfl⟩ := k2.form
  obtain ⟨S3, T3, rfl⟩ := k3.form
  obtain ⟨S4, T4, rfl⟩ := k4.form
  obtain ⟨S5, T5, rfl⟩ := k5.form
  obtain ⟨S6, T6, rfl⟩ := k6.form
  clear k0 k1 k2 k3 k4 k5 k6
  have b6_0 : w5.cell? ⟨w3.heap.size, 0, none⟩ = some (.slice s0 x0.length t0) := by rw [cell_of_block B6]; rfl
  have b6_1 : w5.cell? ⟨w3.heap.size, 1, none⟩ = some (.slice s1 x1.length t1) := by rw [cell_of_block B6]; rfl
  have b6_2 : w5.cell? ⟨w3.heap.size, 2, none⟩ = some (.slice s2 x2.length t2) := by rw [cell_of_block B6]; rfl
  have b6_3 : w5.cell? ⟨w3.heap.size, 3, none⟩ = some (.slice s3 (showOf x2 x3 at_).length t3) := by rw [cell_of_block B6]; rfl
  have b6_4 : w5.cell? ⟨w3.heap.size, 4, none⟩ = some (.slice s4 x4.length t4) := by rw [cell_of_block B6]; rfl
  have b6_5 : w5.cell? ⟨w3.heap.size, 5, none⟩ = some (.slice s5 x5.length t5) := by rw [cell_of_block B6]; rfl
  have b6_6 : w5.cell? ⟨w3.heap.size, 6, none⟩ = some (.slice s6 x6.length t6) := by rw [cell_of_block B6]; rfl
  have zz5 : w3.heap.size < w5.heap.size := by omega
  obtain ⟨W5, hW⟩ : ∃ W, W = w5.alloc (.cells #[.slice S0 x0.length T0, .slice S1 x1.length T1, .slice S2 x2.length T2, .slice S3 (showOf x2 x3 at_).length T3, .slice S4 x4.length T4, .slice S5 x5.length T5, .slice S6 x6.length T6] 39) := ⟨_, rfl⟩
  have bx : Below w5.heap.size w5 W5 := by rw [hW]; exact (Below.refl _ w5).alloc (Nat.le_refl _) _
  have B8 : W5.heap[w5.heap.size]? = some (.cells #[.slice S0 x0.length T0, .slice S1 x1.length T1, .slice S2 x2.length T2, .slice S3 (showOf x2 x3 at_).length T3, .slice S4 x4.length T4, .slice S5 x5.length T5, .slice S6 x6.length T6] 39) := by rw [hW]; exact (MapKept.heap_alloc w5 _).1
  have zW5 : W5.heap.size = w5.heap.size + 1 := by rw [hW]; simp
  have HWW5 := (show Hid (_ ∧ _) from ⟨hW, zW5⟩)
  have yW5 : w5.heap.size < W5.heap.size := by omega
  clear hW zW5
  have AR := (bx.block _ (lt_heap AR)).trans AR
  have BB := BB.trans (bx.mono BB.size)
  have O3 := OFs.up O3 bx
  have B6 := (bx.block _ (lt_heap B6)).trans B6
  have O4 := OFs.up O4 bx
  have B7 := (bx.block _ (lt_heap B7)).trans B7
  have O5 := OFs.up O5 bx
  clear bx
  have H := (show Hid (_ ∧ _ ∧ _ ∧ _ ∧ _ ∧ _ ∧ _ ∧ _ ∧ _) from ⟨AR, BB, O3, B6, O4, B7, O5, B8, trivial⟩)
  clear AR BB O3 B6 O4 B7 O5 B8
  have hnot := ex_not
  go_wp2_with fail
  rw [← HWW5.out.1]
  clear b6_0 b6_1 b6_2 b6_3 b6_4 b6_5 b6_6
  refine (eqMachine_dt _ _ [.row x0, .row x1, .row x2, .row (showOf x2 x3 at_), .row x4, .row x5, .row x6] _ _ _ HD.out (OFs.at H.out.2.2.2.2.2.2.1) (OFs.at H.out.2.2.1) HM.out.1).mono ?_
  rintro e w6 ⟨rfl, b6⟩
  obtain ⟨AR, BB, O3, B6, O4, B7, O5, B8, -⟩ := H.out
  clear H
  have AR := (b6.block _ (lt_heap AR)).trans AR
  have BB := BB.trans (b6.mono BB.size)
  have O3 := OFs.up O3 b6
  have B6 := (b6.block _ (lt_heap B6)).trans B6
  have O4 := OFs.up O4 b6
  have B7 := (b6.block _ (lt_heap B7)).trans B7
  have O5 := OFs.up O5 b6
  have B8 := (b6.block _ (lt_heap B8)).trans B8
  have z6 : W5.heap.size ≤ w6.heap.size := b6.size
  clear b6
  have b7_0 : w6.cell? ⟨w4.heap.size, 0, none⟩ = some (.slice P0 x0.length C0) := by rw [cell_of_block B7]; rfl
  have b7_1 : w6.cell? ⟨w4.heap.size, 1, none⟩ = some (.slice P1 x1.length C1) := by rw [cell_of_block B7]; rfl
  have b7_2 : w6.cell? ⟨w4.heap.size, 2, none⟩ = some (.slice P2 x2.length C2) := by rw [cell_of_block B7]; rfl
  have b7_3 : w6.cell? ⟨w4.heap.size, 3, none⟩ = some (.slice P3 x3.length C3) := by rw [cell_of_block B7]; rfl
  have b7_4 : w6.cell? ⟨w4.heap.size, 4, none⟩ = some (.slice P4 x4.length C4) := by rw [cell_of_block B7]; rfl
  have b7_5 : w6.cell? ⟨w4.heap.size, 5, none⟩ = some (.slice P5 x5.length C5) := by rw [cell_of_block B7]; rfl
  have b7_6 : w6.cell? ⟨w4.heap.size, 6, none⟩ = some (.slice P6 x6.length C6) := by rw [cell_of_block B7]; rfl
  have ar_0 : w6.cell? ⟨w.heap.size, 0, none⟩ = some (.slice p0 x0.length c0) := by rw [cell_of_block AR]; rfl
  have ar_1 : w6.cell? ⟨w.heap.size, 1, none⟩ = some (.slice p1 x1.length c1) := by rw [cell_of_block AR]; rfl
  have ar_2 : w6.cell? ⟨w.heap.size, 2, none⟩ = some (.slice p2 x2.length c2) := by rw [cell_of_block AR]; rfl
  have ar_3 : w6.cell? ⟨w.heap.size, 3, none⟩ = some (.slice p3 x3.length c3) := by rw [cell_of_block AR]; rfl
  have ar_4 : w6.cell? ⟨w.heap.size, 4, none⟩ = some (.slice p4 x4.length c4) := by rw [cell_of_block AR]; rfl
  have ar_5 : w6.cell? ⟨w.heap.size, 5, none⟩ = some (.slice p5 x5.length c5) := by rw [cell_of_block AR]; rfl
  have ar_6 : w6.cell? ⟨w.heap.size, 6, none⟩ = some (.slice p6 x6.length c6) := by rw [cell_of_block AR]; rfl
  have H := (show Hid (_ ∧ _ ∧ _ ∧ _ ∧ _ ∧ _ ∧ _ ∧ _ ∧ _) from ⟨AR, BB, O3, B6, O4, B7, O5, B8, trivial⟩)
  clear AR BB O3 B6 O4 B7 O5 B8
  have hl7 : w4.heap.size < w6.heap.size := by omega
  go_wp2_with fail
  go_region_with (first
    | (go_at_call 7; refine (toMachine_dt [.slice p0 x0.length c0, .slice p1 x1.length c1, .slice p2 x2.length c2, .slice p3 x3.length c3, .slice p4 x4.length c4, .slice p5 x5.length c5, .slice p6 x6.length c6] [.row x0, .row x1, .row x2, .row x3, .row x4, .row x5, .row x6] _ _ HP.out.1 (HA.out.1.up H.out.2.1.drew) HN.out).mono ?_; rintro e w7 ⟨us, rfl, O7, d7⟩; have D7 : Below w6.heap.size w6 w7 := (Below.refl _ w6).drew.trans d7; have H7 := (show Hid (_ ∧ _) from ⟨OFs.at O7, D7⟩); obtain ⟨v0, v1, v2, v3, v4, v5, v6, rfl, k0, k1, k2, k3, k4, k5, k6⟩ := fs7 (OFs.at O7); obtain ⟨q0, r0, rfl⟩ := k0.form; obtain ⟨q1, r1, rfl⟩ := k1.form; obtain ⟨q2, r2, rfl⟩ := k2.form; obtain ⟨q3, r3, rfl⟩ := k3.form; obtain ⟨q4, r4, rfl⟩ := k4.form; obtain ⟨q5, r5, rfl⟩ := k5.form; obtain ⟨q6, r6, rfl⟩ := k6.form; have zb0 : w7.cell? ⟨w4.heap.size, 0, none⟩ = some (.slice P0 x0.length C0) := ((D7.cell (p := ⟨w4.heap.size, 0, none⟩) hl7).trans b7_0); have zb1 : w7.cell? ⟨w4.heap.size, 1, none⟩ = some (.slice P1 x1.length C1) := ((D7.cell (p := ⟨w4.heap.size, 1, none⟩) hl7).trans b7_1); have zb2 : w7.cell? ⟨w4.heap.size, 2, none⟩ = some (.slice P2 x2.length C2) := ((D7.cell (p := ⟨w4.heap.size, 2, none⟩) hl7).trans b7_2); have zb3 : w7.cell? ⟨w4.heap.size, 3, none⟩ = some (.slice P3 x3.length C3) := ((D7.cell (p := ⟨w4.heap.size, 3, none⟩) hl7).trans b7_3); have zb4 : w7.cell? ⟨w4.heap.size, 4, none⟩ = some (.slice P4 x4.length C4) := ((D7.cell (p := ⟨w4.heap.size, 4, none⟩) hl7).trans b7_4); have zb5 : w7.cell? ⟨w4.heap.size, 5, none⟩ = some (.slice P5 x5.length C5) := ((D7.cell (p := ⟨w4.heap.size, 5, none⟩) hl7).trans b7_5); have zb6 : w7.cell? ⟨w4.heap.size, 6, none⟩ = some (.slice P6 x6.length C6) := ((D7.cell (p := ⟨w4.heap.size, 6, none⟩) hl7).trans b7_6); clear O7 d7 D7 k0 k1 k2 k3 k4 k5 k6)
    | (go_at_call 9; refine (eqMachine_dt _ _ [.row x0, .row x1, .row x2, .row x3, .row x4, .row x5, .row x6] _ _ _ HP.out.1 (OFs.at (OFs.up H.out.2.2.2.2.1 H7.out.2)) H7.out.1 (by have := HN.out; omega)).mono ?_; rintro e w8 ⟨rfl, d8⟩; have H8 := (show Hid (_ ∧ True) from ⟨H7.out.2.trans (d8.mono H7.out.2.size), trivial⟩); clear d8))
  all_goals
    have b8 := H8.out.1
    clear H8 H7
    obtain ⟨AR, BB, O3, B6, O4, B7, O5, B8, -⟩ := H.out
    clear H
    have AR := (b8.block _ (lt_heap AR)).trans AR
    have BB := BB.trans (b8.mono BB.size)
    have O3 := OFs.up O3 b8
    have B6 := (b8.block _ (lt_heap B6)).trans B6
    have O4 := OFs.up O4 b8
    have B7 := (b8.block _ (lt_heap B7)).trans B7
    have O5 := OFs.up O5 b8
    have B8 := (b8.block _ (lt_heap B8)).trans B8
    have z8 : w6.heap.size ≤ w8.heap.size := b8.size
    clear b8
    have b7_0 : w8.cell? ⟨w4.heap.size, 0, none⟩ = some (.slice P0 x0.length C0) := by rw [cell_of_block B7]; rfl
    have b7_1 : w8.cell? ⟨w4.heap.size, 1, none⟩ = some (.slice P1 x1.length C1) := by rw [cell_of_block B7]; rfl
    have b7_2 : w8.cell? ⟨w4.heap.size, 2, none⟩ = some (.slice P2 x2.length C2) := by rw [cell_of_block B7]; rfl
    have b7_3 : w8.cell? ⟨w4.heap.size, 3, none⟩ = some (.slice P3 x3.length C3) := by rw [cell_of_block B7]; rfl
    have b7_4 : w8.cell? ⟨w4.heap.size, 4, none⟩ = some (.slice P4 x4.length C4) := by rw [cell_of_block B7]; rfl
    have b7_5 : w8.cell? ⟨w4.heap.size, 5, none⟩ = some (.slice P5 x5.length C5) := by rw [cell_of_block B7]; rfl
    have b7_6 : w8.cell? ⟨w4.heap.size, 6, none⟩ = some (.slice P6 x6.length C6) := by rw [cell_of_block B7]; rfl
    have H := (show Hid (_ ∧ _ ∧ _ ∧ _ ∧ _ ∧ _ ∧ _ ∧ _ ∧ _) from ⟨AR, BB, O3, B6, O4, B7, O5, B8, trivial⟩)
    clear AR BB O3 B6 O4 B7 O5 B8
    go_wp2_with fail
    clear b7_0 b7_1 b7_2 b7_3 b7_4 b7_5 b7_6
    refine (markMachine_dt _ [.row x0, .row x1, .row x2, .row x3, .row x4, .row x5, .row x6] _ _ 1 HP.out.1 H.out.2.2.2.2.1 (by omega) (by have := HM.out.2.1; omega)).mono ?_
    rintro e w9 ⟨rfl, O4', kb9⟩
    clear O4'
    obtain ⟨AR, BB, O3, B6, O4, B7, O5, B8, -⟩ := H.out
    clear H
    clear O4
    have zA := HWW3.out.2
    have zB := HWW4.out.2
    have zC := HWW5.out.2
    have zD := HWW0.out.2
    have AR := kb9.heap AR (fun hx => by have h1 := hx.1; have h2 := hx.2; omega)
    have BB := BB.trans (kb9.below (fun b hb => by have := hb.1; omega) BB.size)
    have O3 := OFs.moved O3 (fun b hb hlt => kb9.block b hlt (fun hx => by have h1 := hx.1; have h2 := hx.2; have h3 := hb.1; have h4 := hb.2; omega))
    have B6 := kb9.heap B6 (fun hx => by have h1 := hx.1; have h2 := hx.2; omega)
    have B7 := kb9.heap B7 (fun hx => by have h1 := hx.1; have h2 := hx.2; omega)
    have O5 := OFs.moved O5 (fun b hb hlt => kb9.block b hlt (fun hx => by have h1 := hx.1; have h2 := hx.2; have h3 := hb.1; have h4 := hb.2; omega))
    have B8 := kb9.heap B8 (fun hx => by have h1 := hx.1; have h2 := hx.2; omega)
    have z9 : w8.heap.size ≤ w9.heap.size := kb9.size
    clear kb9 zA zB zC zD
    have hk9 : ¬ 1 + (tcnt [.row x0, .row x1, .row x2, .row x3, .row x4, .row x5, .row x6] : Int) < 0 := by omega
    have hk9' : decide (1 + (tcnt [.row x0, .row x1, .row x2, .row x3, .row x4, .row x5, .row x6] : Int) < 0) = false := by simp; omega
    have b6_0 : w9.cell? ⟨w3.heap.size, 0, none⟩ = some (.slice s0 x0.length t0) := by rw [cell_of_block B6]; rfl
    have b6_1 : w9.cell? ⟨w3.heap.size, 1, none⟩ = some (.slice s1 x1.length t1) := by rw [cell_of_block B6]; rfl
    have b6_2 : w9.cell? ⟨w3.heap.size, 2, none⟩ = some (.slice s2 x2.length t2) := by rw [cell_of_block B6]; rfl
    have b6_3 : w9.cell? ⟨w3.heap.size, 3, none⟩ = some (.slice s3 (showOf x2 x3 at_).length t3) := by rw [cell_of_block B6]; rfl
    have b6_4 : w9.cell? ⟨w3.heap.size, 4, none⟩ = some (.slice s4 x4.length t4) := by rw [cell_of_block B6]; rfl
    have b6_5 : w9.cell? ⟨w3.heap.size, 5, none⟩ = some (.slice s5 x5.length t5) := by rw [cell_of_block B6]; rfl
    have b6_6 : w9.cell? ⟨w3.heap.size, 6, none⟩ = some (.slice s6 x6.length t6) := by rw [cell_of_block B6]; rfl
    have b8_0 : w9.cell? ⟨w5.heap.size, 0, none⟩ = some (.slice S0 x0.length T0) := by rw [cell_of_block B8]; rfl
    have b8_1 : w9.cell? ⟨w5.heap.size, 1, none⟩ = some (.slice S1 x1.length T1) := by rw [cell_of_block B8]; rfl
    have b8_2 : w9.cell? ⟨w5.heap.size, 2, none⟩ = some (.slice S2 x2.length T2) := by rw [cell_of_block B8]; rfl
    have b8_3 : w9.cell? ⟨w5.heap.size, 3, none⟩ = some (.slice S3 (showOf x2 x3 at_).length T3) := by rw [cell_of_block B8]; rfl
    have b8_4 : w9.cell? ⟨w5.heap.size, 4, none⟩ = some (.slice S4 x4.length T4) := by rw [cell_of_block B8]; rfl
    have b8_5 : w9.cell? ⟨w5.heap.size, 5, none⟩ = some (.slice S5 x5.length T5) := by rw [cell_of_block B8]; rfl
    have b8_6 : w9.cell? ⟨w5.heap.size, 6, none⟩ = some (.slice S6 x6.length T6) := by rw [cell_of_block B8]; rfl
    have H := (show Hid (_ ∧ _ ∧ _ ∧ _ ∧ _ ∧ _ ∧ _ ∧ _) from ⟨AR, BB, O3, B6, B7, O5, B8, trivial⟩)
    clear AR BB O3 B6 B7 O5 B8
    go_wp2_with fail
    clear b6_0 b6_1 b6_2 b6_3 b6_4 b6_5 b6_6 b8_0 b8_1 b8_2 b8_3 b8_4 b8_5 b8_6
    refine (eqMachine_dt _ _ [.row x0, .row x1, .row x2, .row (showOf x2 x3 at_), .row x4, .row x5, .row x6] _ _ _ HD.out (OFs.at H.out.2.2.2.2.2.1) (OFs.at H.out.2.2.1) HM.out.1).mono ?_
    rintro e w10 ⟨rfl, b10⟩
    obtain ⟨AR, BB, O3, B6, B7, O5, B8, -⟩ := H.out
    clear H
    have AR := (b10.block _ (lt_heap AR)).trans AR
    have BB := BB.trans (b10.mono BB.size)
    have O3 := OFs.up O3 b10
    have B6 := (b10.block _ (lt_heap B6)).trans B6
    have B7 := (b10.block _ (lt_heap B7)).trans B7
    have O5 := OFs.up O5 b10
    have B8 := (b10.block _ (lt_heap B8)).trans B8
    have z10 : w9.heap.size ≤ w10.heap.size := b10.size
    clear b10
    have b8_0 : w10.cell? ⟨w5.heap.size, 0, none⟩ = some (.slice S0 x0.length T0) := by rw [cell_of_block B8]; rfl
    have b8_1 : w10.cell? ⟨w5.heap.size, 1, none⟩ = some (.slice S1 x1.length T1) := by rw [cell_of_block B8]; rfl
    have b8_2 : w10.cell? ⟨w5.heap.size, 2, none⟩ = some (.slice S2 x2.length T2) := by rw [cell_of_block B8]; rfl
    have b8_3 : w10.cell? ⟨w5.heap.size, 3, none⟩ = some (.slice S3 (showOf x2 x3 at_).length T3) := by rw [cell_of_block B8]; rfl
    have b8_4 : w10.cell? ⟨w5.heap.size, 4, none⟩ = some (.slice S4 x4.length T4) := by rw [cell_of_block B8]; rfl
    have b8_5 : w10.cell? ⟨w5.heap.size, 5, none⟩ = some (.slice S5 x5.length T5) := by rw [cell_of_block B8]; rfl
    have b8_6 : w10.cell? ⟨w5.heap.size, 6, none⟩ = some (.slice S6 x6.length T6) := by rw [cell_of_block B8]; rfl
    have H := (show Hid (_ ∧ _ ∧ _ ∧ _ ∧ _ ∧ _ ∧ _ ∧ _) from ⟨AR, BB, O3, B6, B7, O5, B8, trivial⟩)
    clear AR BB O3 B6 B7 O5 B8
    go_wp2_with fail
    clear b8_0 b8_1 b8_2 b8_3 b8_4 b8_5 b8_6
    refine (markMachine_dt _ [.row x0, .row x1, .row x2, .row (showOf x2 x3 at_), .row x4, .row x5, .row x6] _ _ 1 HD.out H.out.2.2.2.2.2.1 (by omega) (by have := HM.out.2.2; omega)).mono ?_
    rintro e w11 ⟨rfl, N5, kb11⟩
    obtain ⟨AR, BB, O3, B6, B7, O5, B8, -⟩ := H.out
    clear H
    clear O5
    have zA := HWW3.out.2
    have zB := HWW4.out.2
    have zC := HWW5.out.2
    have zD := HWW0.out.2
    have AR := kb11.heap AR (fun hx => by have h1 := hx.1; have h2 := hx.2; omega)
    have BB := BB.trans (kb11.below (fun b hb => by have := hb.1; omega) BB.size)
    have O3 := OFs.moved O3 (fun b hb hlt => kb11.block b hlt (fun hx => by have h1 := hx.1; have h2 := hx.2; have h3 := hb.1; have h4 := hb.2; omega))
    have B6 := kb11.heap B6 (fun hx => by have h1 := hx.1; have h2 := hx.2; omega)
    have B7 := kb11.heap B7 (fun hx => by have h1 := hx.1; have h2 := hx.2; omega)
    have B8 := kb11.heap B8 (fun hx => by have h1 := hx.1; have h2 := hx.2; omega)
    have z11 : w10.heap.size ≤ w11.heap.size := kb11.size
    clear kb11 zA zB zC zD
    have b8_0 : w11.cell? ⟨w5.heap.size, 0, none⟩ = some (.slice S0 x0.length T0) := by rw [cell_of_block B8]; rfl
    have b8_1 : w11.cell? ⟨w5.heap.size, 1, none⟩ = some (.slice S1 x1.length T1) := by rw [cell_of_block B8]; rfl
    have b8_2 : w11.cell? ⟨w5.heap.size, 2, none⟩ = some (.slice S2 x2.length T2) := by rw [cell_of_block B8]; rfl
    have b8_3 : w11.cell? ⟨w5.heap.size, 3, none⟩ = some (.slice S3 (showOf x2 x3 at_).length T3) := by rw [cell_of_block B8]; rfl
    have b8_4 : w11.cell? ⟨w5.heap.size, 4, none⟩ = some (.slice S4 x4.length T4) := by rw [cell_of_block B8]; rfl
    have b8_5 : w11.cell? ⟨w5.heap.size, 5, none⟩ = some (.slice S5 x5.length T5) := by rw [cell_of_block B8]; rfl
    have b8_6 : w11.cell? ⟨w5.heap.size, 6, none⟩ = some (.slice S6 x6.length T6) := by rw [cell_of_block B8]; rfl
    have H := (show Hid (_ ∧ _ ∧ _ ∧ _ ∧ _ ∧ _ ∧ _ ∧ _) from ⟨AR, BB, O3, B6, B7, B8, N5, trivial⟩)
    clear AR BB O3 B6 B7 B8 N5
    obtain ⟨K, hK⟩ : ∃ K : Int, K = 1 + (tcnt [.row x0, .row x1, .row x2, .row (showOf x2 x3 at_), .row x4, .row x5, .row x6] : Int) := ⟨_, rfl⟩
    rw [← hK]
    have hKb : 1 ≤ K ∧ K ≤ 100000000 := by have := HM.out.2.2; omega
    have hKn : ¬ K < 0 := by omega
    have hKe : (K != K) = false := by simp
    have HK : Hid (K = 1 + (tcnt [.row x0, .row x1, .row x2, .row (showOf x2 x3 at_), .row x4, .row x5, .row x6] : Int)) := hK
    clear hK
    go_wp2_with fail
    clear b8_0 b8_1 b8_2 b8_3 b8_4 b8_5 b8_6
    refine (heldMachine_dt _ [.row x0, .row x1, .row x2, .row (showOf x2 x3 at_), .row x4, .row x5, .row x6] _ _ 1 HD.out (OFs.at H.out.2.2.2.2.2.2.1) (by omega) (by have := HK.out; omega)).mono ?_
    rintro e w12 ⟨rfl, b12⟩
    rw [← HK.out]
    obtain ⟨AR, BB, O3, B6, B7, B8, N5, -⟩ := H.out
    clear H
    have AR := (b12.block _ (lt_heap AR)).trans AR
    have BB := BB.trans (b12.mono BB.size)
    have O3 := OFs.up O3 b12
    have B6 := (b12.block _ (lt_heap B6)).trans B6
    have B7 := (b12.block _ (lt_heap B7)).trans B7
    have B8 := (b12.block _ (lt_heap B8)).trans B8
    have N5 := OFs.up N5 b12
    have z12 : w11.heap.size ≤ w12.heap.size := b12.size
    clear b12
    have ar_0 : w12.cell? ⟨w.heap.size, 0, none⟩ = some (.slice p0 x0.length c0) := by rw [cell_of_block AR]; rfl
    have ar_1 : w12.cell? ⟨w.heap.size, 1, none⟩ = some (.slice p1 x1.length c1) := by rw [cell_of_block AR]; rfl
    have ar_2 : w12.cell? ⟨w.heap.size, 2, none⟩ = some (.slice p2 x2.length c2) := by rw [cell_of_block AR]; rfl
    have ar_3 : w12.cell? ⟨w.heap.size, 3, none⟩ = some (.slice p3 x3.length c3) := by rw [cell_of_block AR]; rfl
    have ar_4 : w12.cell? ⟨w.heap.size, 4, none⟩ = some (.slice p4 x4.length c4) := by rw [cell_of_block AR]; rfl
    have ar_5 : w12.cell? ⟨w.heap.size, 5, none⟩ = some (.slice p5 x5.length c5) := by rw [cell_of_block AR]; rfl
    have ar_6 : w12.cell? ⟨w.heap.size, 6, none⟩ = some (.slice p6 x6.length c6) := by rw [cell_of_block AR]; rfl
    have H := (show Hid (_ ∧ _ ∧ _ ∧ _ ∧ _ ∧ _ ∧ _ ∧ _) from ⟨AR, BB, O3, B6, B7, B8, N5, trivial⟩)
    clear AR BB O3 B6 B7 B8 N5
    go_wp2_with fail
    clear ar_0 ar_1 ar_2 ar_3 ar_4 ar_5 ar_6
    refine (toMachine_dt [.slice p0 x0.length c0, .slice p1 x1.length c1, .slice p2 x2.length c2, .slice p3 x3.length c3, .slice p4 x4.length c4, .slice p5 x5.length c5, .slice p6 x6.length c6] [.row x0, .row x1, .row x2, .row x3, .row x4, .row x5, .row x6] _ _ HP.out.1 (HA.out.1.up H.out.2.1) HN.out).mono ?_
    rintro e w13 ⟨us, rfl, O13, b13⟩
    obtain ⟨AR, BB, O3, B6, B7, B8, N5, -⟩ := H.out
    clear H
    have AR := (b13.block _ (lt_heap AR)).trans AR
    have BB := BB.trans (b13.mono BB.size)
    have O3 := OFs.up O3 b13
    have B6 := (b13.block _ (lt_heap B6)).trans B6
    have B7 := (b13.block _ (lt_heap B7)).trans B7
    have B8 := (b13.block _ (lt_heap B8)).trans B8
    have N5 := OFs.up N5 b13
    have z13 : w12.heap.size ≤ w13.heap.size := b13.size
    clear b13
    obtain ⟨v0, v1, v2, v3, v4, v5, v6, rfl, k0, k1, k2, k3, k4, k5, k6⟩ := fs7 (OFs.at O13)
    obtain ⟨g'0, h'0, rfl⟩ := k0.form
    obtain ⟨g'1, h'1, rfl⟩ := k1.form
    obtain ⟨g'2, h'2, rfl⟩ := k2.form
    obtain ⟨g'3, h'3, rfl⟩ := k3.form
    obtain ⟨g'4, h'4, rfl⟩ := k4.form
    obtain ⟨g'5, h'5, rfl⟩ := k5.form
    obtain ⟨g'6, h'6, rfl⟩ := k6.form
    clear k0 k1 k2 k3 k4 k5 k6
    have H := (show Hid (_ ∧ _ ∧ _ ∧ _ ∧ _ ∧ _ ∧ _ ∧ _ ∧ _) from ⟨AR, BB, O3, B6, B7, B8, N5, O13, trivial⟩)
    clear AR BB O3 B6 B7 B8 N5 O13
    go_wp2_with fail
    refine (implShow_dt _ x0 x1 x2 x3 x4 x5 x6 _ _ at_ HP.out.1 (OFs.at H.out.2.2.2.2.2.2.2.1) HN.out HP.out.2).mono ?_
    rintro e w14 ⟨us, rfl, O14, b14⟩
    obtain ⟨AR, BB, O3, B6, B7, B8, N5, O13, -⟩ := H.out
    clear H
    have AR := (b14.block _ (lt_heap AR)).trans AR
    have BB := BB.trans (b14.mono BB.size)
    have O3 := OFs.up O3 b14
    have B6 := (b14.block _ (lt_heap B6)).trans B6
    have B7 := (b14.block _ (lt_heap B7)).trans B7
    have B8 := (b14.block _ (lt_heap B8)).trans B8
    have N5 := OFs.up N5 b14
    have O13 := OFs.up O13 b14
    clear O13
    have z14 : w13.heap.size ≤ w14.heap.size := b14.size
    clear b14
    obtain ⟨v0, v1, v2, v3, v4, v5, v6, rfl, k0, k1, k2, k3, k4, k5, k6⟩ := fs7 (OFs.at O14)
    obtain ⟨e0, f0, rfl⟩ := k0.form
    obtain ⟨e1, f1, rfl⟩ := k1.form
    obtain ⟨e2, f2, rfl⟩ := k2.form
    obtain ⟨e3, f3, rfl⟩ := k3.form
    obtain ⟨e4, f4, rfl⟩ := k4.form
    obtain ⟨e5, f5, rfl⟩ := k5.form
    obtain ⟨e6, f6, rfl⟩ := k6.form
    clear k0 k1 k2 k3 k4 k5 k6
    have b6_0 : w14.cell? ⟨w3.heap.size, 0, none⟩ = some (.slice s0 x0.length t0) := by rw [cell_of_block B6]; rfl
    have b6_1 : w14.cell? ⟨w3.heap.size, 1, none⟩ = some (.slice s1 x1.length t1) := by rw [cell_of_block B6]; rfl
    have b6_2 : w14.cell? ⟨w3.heap.size, 2, none⟩ = some (.slice s2 x2.length t2) := by rw [cell_of_block B6]; rfl
    have b6_3 : w14.cell? ⟨w3.heap.size, 3, none⟩ = some (.slice s3 (showOf x2 x3 at_).length t3) := by rw [cell_of_block B6]; rfl
    have b6_4 : w14.cell? ⟨w3.heap.size, 4, none⟩ = some (.slice s4 x4.length t4) := by rw [cell_of_block B6]; rfl
    have b6_5 : w14.cell? ⟨w3.heap.size, 5, none⟩ = some (.slice s5 x5.length t5) := by rw [cell_of_block B6]; rfl
    have b6_6 : w14.cell? ⟨w3.heap.size, 6, none⟩ = some (.slice s6 x6.length t6) := by rw [cell_of_block B6]; rfl
    have zz14 : w3.heap.size < w14.heap.size := by omega
    obtain ⟨W14, hW⟩ : ∃ W, W = w14.alloc (.cells #[.slice e0 x0.length f0, .slice e1 x1.length f1, .slice e2 x2.length f2, .slice e3 (showOf x2 x3 at_).length f3, .slice e4 x4.length f4, .slice e5 x5.length f5, .slice e6 x6.length f6] 39) := ⟨_, rfl⟩
    have bx : Below w14.heap.size w14 W14 := by rw [hW]; exact (Below.refl _ w14).alloc (Nat.le_refl _) _
    have B9 : W14.heap[w14.heap.size]? = some (.cells #[.slice e0 x0.length f0, .slice e1 x1.length f1, .slice e2 x2.length f2, .slice e3 (showOf x2 x3 at_).length f3, .slice e4 x4.length f4, .slice e5 x5.length f5, .slice e6 x6.length f6] 39) := by rw [hW]; exact (MapKept.heap_alloc w14 _).1
    have zW14 : W14.heap.size = w14.heap.size + 1 := by rw [hW]; simp
    have HWW14 := (show Hid (_ ∧ _) from ⟨hW, zW14⟩)
    have yW14 : w14.heap.size < W14.heap.size := by omega
    clear hW zW14
    have AR := (bx.block _ (lt_heap AR)).trans AR
    have BB := BB.trans (bx.mono BB.size)
    have O3 := OFs.up O3 bx
    have B6 := (bx.block _ (lt_heap B6)).trans B6
    have B7 := (bx.block _ (lt_heap B7)).trans B7
    have B8 := (bx.block _ (lt_heap B8)).trans B8
    have N5 := OFs.up N5 bx
    have O14 := OFs.up O14 bx
    clear bx
    have H := (show Hid (_ ∧ _ ∧ _ ∧ _ ∧ _ ∧ _ ∧ _ ∧ _ ∧ _ ∧ _) from ⟨AR, BB, O3, B6, B7, B8, N5, O14, B9, trivial⟩)
    clear AR BB O3 B6 B7 B8 N5 O14 B9
    go_wp2_with fail
    rw [← HWW14.out.1]
    clear b6_0 b6_1 b6_2 b6_3 b6_4 b6_5 b6_6
    refine (eqMachine_dt _ _ [.row x0, .row x1, .row x2, .row (showOf x2 x3 at_), .row x4, .row x5, .row x6] _ _ _ HD.out (OFs.at H.out.2.2.2.2.2.2.2.1) (OFs.at H.out.2.2.1) HM.out.1).mono ?_
    rintro e w15 ⟨rfl, b15⟩
    obtain ⟨AR, BB, O3, B6, B7, B8, N5, O14, B9, -⟩ := H.out
    clear H
    have AR := (b15.block _ (lt_heap AR)).trans AR
    have BB := BB.trans (b15.mono BB.size)
    have O3 := OFs.up O3 b15
    have B6 := (b15.block _ (lt_heap B6)).trans B6
    have B7 := (b15.block _ (lt_heap B7)).trans B7
    have B8 := (b15.block _ (lt_heap B8)).trans B8
    have N5 := OFs.up N5 b15
    have O14 := OFs.up O14 b15
    have B9 := (b15.block _ (lt_heap B9)).trans B9
    have z15 : W14.heap.size ≤ w15.heap.size := b15.size
    clear b15
    have b8_0 : w15.cell? ⟨w5.heap.size, 0, none⟩ = some (.slice S0 x0.length T0) := by rw [cell_of_block B8]; rfl
    have b8_1 : w15.cell? ⟨w5.heap.size, 1, none⟩ = some (.slice S1 x1.length T1) := by rw [cell_of_block B8]; rfl
    have b8_2 : w15.cell? ⟨w5.heap.size, 2, none⟩ = some (.slice S2 x2.length T2) := by rw [cell_of_block B8]; rfl
    have b8_3 : w15.cell? ⟨w5.heap.size, 3, none⟩ = some (.slice S3 (showOf x2 x3 at_).length T3) := by rw [cell_of_block B8]; rfl
    have b8_4 : w15.cell? ⟨w5.heap.size, 4, none⟩ = some (.slice S4 x4.length T4) := by rw [cell_of_block B8]; rfl
    have b8_5 : w15.cell? ⟨w5.heap.size, 5, none⟩ = some (.slice S5 x5.length T5) := by rw [cell_of_block B8]; rfl
    have b8_6 : w15.cell? ⟨w5.heap.size, 6, none⟩ = some (.slice S6 x6.length T6) := by rw [cell_of_block B8]; rfl
    have H := (show Hid (_ ∧ _ ∧ _ ∧ _ ∧ _ ∧ _ ∧ _ ∧ _ ∧ _ ∧ _) from ⟨AR, BB, O3, B6, B7, B8, N5, O14, B9, trivial⟩)
    clear AR BB O3 B6 B7 B8 N5 O14 B9
    go_wp2_with fail
    clear b8_0 b8_1 b8_2 b8_3 b8_4 b8_5 b8_6
    refine (heldMachine_dt _ [.row x0, .row x1, .row x2, .row (showOf x2 x3 at_), .row x4, .row x5, .row x6] _ _ 1 HD.out (OFs.at H.out.2.2.2.2.2.2.1) (by omega) (by have := HK.out; omega)).mono ?_
    rintro e w16 ⟨rfl, b16⟩
    rw [← HK.out]
    obtain ⟨AR, BB, O3, B6, B7, B8, N5, O14, B9, -⟩ := H.out
    clear H
    have AR := (b16.block _ (lt_heap AR)).trans AR
    have BB := BB.trans (b16.mono BB.size)
    have O3 := OFs.up O3 b16
    have B6 := (b16.block _ (lt_heap B6)).trans B6
    have B7 := (b16.block _ (lt_heap B7)).trans B7
    have B8 := (b16.block _ (lt_heap B8)).trans B8
    have N5 := OFs.up N5 b16
    have O14 := OFs.up O14 b16
    have B9 := (b16.block _ (lt_heap B9)).trans B9
    clear b16
    have H := (show Hid (_ ∧ _ ∧ _ ∧ _ ∧ _ ∧ _ ∧ _ ∧ _ ∧ _ ∧ _) from ⟨AR, BB, O3, B6, B7, B8, N5, O14, B9, trivial⟩)
    clear AR BB O3 B6 B7 B8 N5 O14 B9
    go_wp2
    go_ret
    exact ⟨rfl, H.out.2.1⟩
end Go.Proofs.Ytlgnklpaebgnlaa
