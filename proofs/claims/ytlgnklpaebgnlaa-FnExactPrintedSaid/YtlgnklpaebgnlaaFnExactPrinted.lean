/-
  At every cluster the program's Printed answers as the specification's, writes into no argument, and the law's call changes nothing that was there; no condition.
-/
import Derived.Test.YtlgnklpaebgnlaaPrintedPS
import Derived.Test.YtlgnklpaebgnlaaMS
import Derived.Test.YtlgnklpaebgnlaaMT
import Derived.Test.YtlgnklpaebgnlaaME
import Derived.Test.YtlgnklpaebgnlaaMO
import Derived.ChangeOld
namespace Go.Proofs.Ytlgnklpaebgnlaa
open Go.ChangeShapes Go.WideShapes Go.ChangeAt Go.RowKit Go.Joins

set_option maxRecDepth 100000

namespace fnExactPrinted
set_option maxHeartbeats 6400000 in
theorem walk (vs : List Value) (r : List Dt) (w : World) (hP : ClusterR r) (h : FsAt w (fun _ => True) vs r) :
    Calls Try.prog 4 #[.agg vs.toArray] w fun e w' => e = .returned (.bool true) ∧ Below w.heap.size w w' := by
  have HP : Hid (ClusterR r) := hP
  obtain ⟨x0, x1, rfl, -, -⟩ := hP
  have H1 := (show Hid (_ ∧ True) from ⟨h, trivial⟩)
  obtain ⟨v0, v1, rfl, a0, a1⟩ := fs2 h
  obtain ⟨p0, c0, rfl⟩ := a0.form
  obtain ⟨p1, c1, rfl⟩ := a1.form
  clear a0 a1 h
  obtain ⟨w2, hw2⟩ : ∃ w2, w2 = w.alloc (.cells #[.slice p0 x0.length c0, .slice p1 x1.length c1] 48) := ⟨_, rfl⟩
  have B0 : Below w.heap.size w w2 := by rw [hw2]; exact (Below.refl _ w).alloc (Nat.le_refl _) _
  have O1 : w2.heap[w.heap.size]? = some (.cells #[.slice p0 x0.length c0, .slice p1 x1.length c1] 48) := by rw [hw2]; exact (MapKept.heap_alloc w _).1
  have L1 : Hid (∀ wk : World, Below w2.heap.size w2 wk → wk.heap[w.heap.size]? = some (.cells #[.slice p0 x0.length c0, .slice p1 x1.length c1] 48)) := fun wk hb => (hb.block _ (lt_heap O1)).trans O1
  have HB0 : Hid (∀ wk : World, Below w2.heap.size w2 wk → Below w.heap.size w wk) := fun wk hb => B0.trans (hb.mono B0.size)
  have HW := (show Hid (_ ∧ _) from ⟨hw2, B0⟩)
  clear O1 B0 hw2
  go_enter Try.func4, Try.ntmps4
  go_wp2_with fail
  rw [← HW.out.1]
  refine (szCluster_dt [.slice p0 x0.length c0, .slice p1 x1.length c1] [.row x0, .row x1] _ _ _ HP.out (H1.out.1.up HW.out.2) (by omega) (by omega)).mono ?_
  rintro e w3 ⟨rfl, b3⟩
  obtain ⟨n, hn⟩ : ∃ n, n = Dt.bulkR [.row x0, .row x1] := ⟨_, rfl⟩
  rw [← hn]
  by_cases hx : n ≤ 1048576
  · have hr : szR 1048576 n = 1048576 - n := by unfold szR; rw [if_pos (by omega)]
    rw [hr]
    have hr0 : ¬ (1048576 : Int) - n < 0 := by omega
    have M3 := L1.out _ b3
    have y0 : w3.cell? ⟨w.heap.size, 0, none⟩ = some (.slice p0 x0.length c0) := by rw [cell_of_block M3]; rfl
    have y1 : w3.cell? ⟨w.heap.size, 1, none⟩ = some (.slice p1 x1.length c1) := by rw [cell_of_block M3]; rfl
    have HN := (show Hid (_ ∧ _) from ⟨hn, hx⟩)
    clear hr M3 hn
    go_wp2_with fail
    refine (toCluster_dt [.slice p0 x0.length c0, .slice p1 x1.length c1] [.row x0, .row x1] _ _ HP.out (H1.out.1.up (HB0.out _ b3)) (by rw [← HN.out.1]; exact HN.out.2)).mono ?_
    rintro e w4 ⟨us, rfl, o4, d4⟩
    have b4 : Below w2.heap.size w2 w4 := b3.trans (d4.mono b3.size)
    have HP4 := (show Hid (_ ∧ _) from ⟨o4.at, b4⟩)
    obtain ⟨v0, v1, rfl, k0, k1⟩ := fs2 o4.at
    obtain ⟨s0, t0, rfl⟩ := k0.form
    obtain ⟨s1, t1, rfl⟩ := k1.form
    clear d4 y0 y1 o4 k0 k1 b4 b3
    go_wp2_with fail
    refine (specPrinted_any _ x0 x1 _ _ HP.out HP4.out.1 (by rw [← HN.out.1]; exact HN.out.2)).mono ?_
    rintro e w5 ⟨rfl, d5⟩
    have b5 : Below w2.heap.size w2 w5 := HP4.out.2.trans (d5.mono HP4.out.2.size)
    clear d5 HP4
    have M5 := L1.out _ b5
    have y0 : w5.cell? ⟨w.heap.size, 0, none⟩ = some (.slice p0 x0.length c0) := by rw [cell_of_block M5]; rfl
    have y1 : w5.cell? ⟨w.heap.size, 1, none⟩ = some (.slice p1 x1.length c1) := by rw [cell_of_block M5]; rfl
    clear M5
    go_wp2_with fail
    refine (toCluster_dt [.slice p0 x0.length c0, .slice p1 x1.length c1] [.row x0, .row x1] _ _ HP.out (H1.out.1.up (HB0.out _ b5)) (by rw [← HN.out.1]; exact HN.out.2)).mono ?_
    rintro e w6 ⟨us, rfl, o6, d6⟩
    have b6 : Below w2.heap.size w2 w6 := b5.trans (d6.mono b5.size)
    have HP6 := (show Hid (_ ∧ _) from ⟨o6.at, b6⟩)
    obtain ⟨v0, v1, rfl, k0, k1⟩ := fs2 o6.at
    obtain ⟨a6, c6, rfl⟩ := k0.form
    obtain ⟨a7, c7, rfl⟩ := k1.form
    clear d6 y0 y1 o6 k0 k1 b6 b5
    obtain ⟨W6, hW6⟩ : ∃ W6, W6 = w6.alloc (.cells #[.slice a6 x0.length c6, .slice a7 x1.length c7] 54) := ⟨_, rfl⟩
    have B6 : Below w6.heap.size w6 W6 := by rw [hW6]; exact (Below.refl _ w6).alloc (Nat.le_refl _) _
    have O6 : W6.heap[w6.heap.size]? = some (.cells #[.slice a6 x0.length c6, .slice a7 x1.length c7] 54) := by rw [hW6]; exact (MapKept.heap_alloc w6 _).1
    have HE6 := (show Hid (_ ∧ _ ∧ _) from ⟨HP6.out.1.up B6, HP6.out.2.trans (B6.mono HP6.out.2.size), O6⟩)
    have HW6 := (show Hid (_ ∧ True) from ⟨hW6, trivial⟩)
    clear B6 O6 HP6 hW6
    go_wp2_with fail
    rw [← HW6.out.1]
    refine (implPrinted_any _ x0 x1 _ _ HP.out HE6.out.1 (by rw [← HN.out.1]; exact HN.out.2)).mono ?_
    rintro e w7 ⟨rfl, d7⟩
    have b7 : Below w2.heap.size w2 w7 := HE6.out.2.1.trans (d7.mono HE6.out.2.1.size)
    have O7 := (d7.block _ (lt_heap HE6.out.2.2)).trans HE6.out.2.2
    have HE7 := (show Hid (_ ∧ _ ∧ _) from ⟨HE6.out.1.up d7, b7, O7⟩)
    have x0' : w7.cell? ⟨w6.heap.size, 0, none⟩ = some (.slice a6 x0.length c6) := by rw [cell_of_block O7]; rfl
    have x1' : w7.cell? ⟨w6.heap.size, 1, none⟩ = some (.slice a7 x1.length c7) := by rw [cell_of_block O7]; rfl
    have M7 := L1.out _ b7
    have y0 : w7.cell? ⟨w.heap.size, 0, none⟩ = some (.slice p0 x0.length c0) := by rw [cell_of_block M7]; rfl
    have y1 : w7.cell? ⟨w.heap.size, 1, none⟩ = some (.slice p1 x1.length c1) := by rw [cell_of_block M7]; rfl
    have hlt7 : w6.heap.size < w7.heap.size := lt_heap O7
    clear b7 O7 M7 d7 HE6 HW6
    obtain ⟨sb, hsb⟩ : ∃ sb, sb = (printedOf x0).1 := ⟨_, rfl⟩
    obtain ⟨q, hq⟩ : ∃ q, q = (printedOf x0).2 := ⟨_, rfl⟩
    rw [← hsb, ← hq]
    clear hsb hq
    have hss : (sb.toList == sb.toList) = true := by simp
    have hqq : (q != q) = false := by simp
    have hqe : (q == q) = true := by simp
    have hnot := ex_not
    go_wp2_with fail
    go_region_with (first
      | (go_at_call 14; refine (toCluster_dt [.slice p0 x0.length c0, .slice p1 x1.length c1] [.row x0, .row x1] _ _ HP.out (H1.out.1.up (HB0.out _ HE7.out.2.1.drew)) (by rw [← HN.out.1]; exact HN.out.2)).mono ?_; rintro e w8 ⟨us, rfl, o8, d8⟩; have D8 : Below w7.heap.size w7 w8 := (Below.refl _ w7).drew.trans d8; have HP8 := (show Hid (_ ∧ _) from ⟨o8.at, D8⟩); obtain ⟨v0, v1, rfl, k0, k1⟩ := fs2 o8.at; obtain ⟨a8, c8, rfl⟩ := k0.form; obtain ⟨a9, c9, rfl⟩ := k1.form; have O8 := (D8.block _ hlt7).trans HE7.out.2.2; have z0 : w8.cell? ⟨w6.heap.size, 0, none⟩ = some (.slice a6 x0.length c6) := (by rw [cell_of_block O8]; rfl); have z1 : w8.cell? ⟨w6.heap.size, 1, none⟩ = some (.slice a7 x1.length c7) := (by rw [cell_of_block O8]; rfl); clear k0 k1 O8 d8 D8 o8)
      | (go_at_call 16; refine (eqCluster_dt _ _ [.row x0, .row x1] _ _ _ HP.out (HE7.out.1.up HP8.out.2) HP8.out.1 (by rw [← HN.out.1]; have := HN.out.2; omega)).mono ?_; rintro e w9 ⟨rfl, d9⟩; have b9 : Below w2.heap.size w2 w9 := (HE7.out.2.1.trans (HP8.out.2.mono HE7.out.2.1.size)).trans (d9.mono (HE7.out.2.1.trans (HP8.out.2.mono HE7.out.2.1.size)).size); clear d9))
    all_goals
      go_wp2
      go_ret
      exact ⟨rfl, HB0.out _ b9⟩
  · have hr : szR 1048576 n = -1 := by unfold szR; rw [if_neg (by omega)]
    rw [hr]
    go_wp2
    go_ret
    exact ⟨rfl, HB0.out _ b3⟩

theorem own : ownKnob Try.prog.godebug = none := by kernel_rfl
theorem laidOut : laidOutB Try.prog = true := by kernel_rfl

theorem lifted (os : Os) (started : os.Started) (H : Type) (enc : TypeId × Value → H) :
    ReturnsInHanded {} Try.checked os 4 .any (Rows.fnExactPrintedSpec.pre6 enc Try.prog Try.f4 Rows.fnExactPrintedRow.domain false) (Rows.fnExactPrintedSpec.post enc Try.prog Try.f4 false true false false) := by
  refine returnsInHanded_of_change (C := Try.checked) own started (by kernel_rfl) Try.func4
    (ChangeSpec.witness6 (enc := enc) (C := Try.checked) false ⟨#[], #[.agg #[.slice none 0 0, .slice none 0 0]], []⟩ 8 (by kernel_rfl) (by kernel_rfl) (by kernel_rfl) (by kernel_rfl)) ?_
  intro W base args ds gs before hval0 hW hcnd _
  have hval : ∀ (j : Nat) t v, Try.f4.params[j]? = some t → args[j]? = some v → Value.okWide Try.prog W .any base t v := hval0
  have hW' := hW
  obtain ⟨p, q, hA0, hV, rfl, hfz, hnd⟩ := hW
  have hA : DataW.TrodAll enc Try.prog W 0 (fun _ => true) true Try.f4.params.toList args.toList ds p := hA0
  rw [Try.params4] at hA hval
  obtain ⟨v0, vs0, d0, ds0, p0, q0, hargs, rfl, rfl, h0, r0⟩ := trodAll_cons hA
  obtain ⟨rfl, rfl, rfl⟩ := trodAll_nil r0
  obtain rfl : args = #[v0] := by cases args; simp_all
  obtain ⟨rfl, rfl⟩ := trodVars_none hV
  have k0 := h0
  have lt0 : ∀ x ∈ p0, x.block < W.heap.size := by obtain ⟨m, hm⟩ := k0; exact DataW.trod_lt m _ _ _ hm
  obtain ⟨vs, r, rfl, hP, hx⟩ := open_top openCluster (okWide_struct Try.underlying48 (hval 0 48 v0 rfl rfl)) h0
  clear hA0 hval0
  refine (walk vs r W hP hx).mono fun e W' ⟨he, bel⟩ => ?_
  subst he
  exact ⟨_, rfl, _, _, _, [], _, [], hW', trodAll_mk1 (shut_bool Try.underlying4 _), (trodAll_cons_mk (Below.trod laidOut (by kernel_rfl) (of_decide_eq_true (by kernel_rfl)) k0 bel lt0) trodAll_mk0), rfl, bel.frame _, fun h => by cases h⟩

theorem over : Rows.fnExactPrintedRow.holds Try.pinned (OpenSpec.ofChange Rows.fnExactPrintedSpec) :=
  OpenClaim.holds_of_wide 4 Try.f4 rfl rfl rfl rfl rfl rfl rfl ⟨rfl, rfl, rfl, rfl, rfl⟩ rfl rfl rfl rfl rfl (by kernel_rfl) Try.func4 (by kernel_rfl)
    (of_decide_eq_true (by kernel_rfl)) (by unfold Func.isWrapper; first | (rw [if_pos (by decide +kernel)]; kernel_rfl) | (rw [if_neg (by decide +kernel)]; exact ⟨rfl, rfl⟩))
    (fun os started H enc _ => lifted os started H enc)

end fnExactPrinted
theorem fnExactPrinted_holds : Rows.FnExactPrintedSaid := fnExactPrinted.over
#print axioms fnExactPrinted_holds
end Go.Proofs.Ytlgnklpaebgnlaa
