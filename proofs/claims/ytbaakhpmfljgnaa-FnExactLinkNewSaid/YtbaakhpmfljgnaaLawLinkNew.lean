/-
  The law of LinkNew, walked; its frame.
-/
import Derived.Test.YtbaakhpmfljgnaaLinkNewS
import Derived.Test.YtbaakhpmfljgnaaLinkMark
import Derived.Deep.RegionHeld3
import Derived.ChangeOld
import Derived.ProofKit
import Derived.OpenShut
namespace Go.Proofs.Ytbaakhpmfljgnaa.fnExactLinkNew
open Go.ChangeShapes Go.WideShapes Go.ChangeAt Go.RowKit Go.Joins

set_option maxRecDepth 100000

theorem lboxTwoN {W : World} {b b' : Nat} {l : Lk} {ov sv ov' sv' : Value} {t t' : TypeId} {fz fz' : Nat × Nat} (h : W.heap[b]? = some (.cells (l.row ov sv) t fz)) (h' : W.heap[b']? = some (.cells (l.row ov' sv') t' fz')) : W.cell? ⟨b, 0, none⟩ = some (.int .i64 l.id) ∧ W.cell? ⟨b, 1, none⟩ = some (.int .i64 l.next) ∧ W.cell? ⟨b, 2, none⟩ = some ov ∧ W.cell? ⟨b, 3, none⟩ = some sv ∧ W.cell? ⟨b', 0, none⟩ = some (.int .i64 l.id) ∧ W.cell? ⟨b', 1, none⟩ = some (.int .i64 l.next) ∧ W.cell? ⟨b', 2, none⟩ = some ov' ∧ W.cell? ⟨b', 3, none⟩ = some sv' :=
  ⟨(lbox h).1, (lbox h).2.1, (lbox h).2.2.1, (lbox h).2.2.2, (lbox h').1, (lbox h').2.1, (lbox h').2.2.1, (lbox h').2.2.2⟩
theorem new_bulk (id nodes : Int) : (newOf id nodes).bulk ≤ 31 ∧ (newOf id nodes).out = [] := by
  unfold newOf
  cases h : amongB id nodes with
  | false => simp [Lk.bulk, zeroLk, bulkO, bulkN, preO, preN]
  | true =>
    unfold amongB at h
    simp only [Bool.and_eq_true, decide_eq_true_eq] at h
    refine ⟨?_, rfl⟩
    have : ∀ n : Nat, bulkN (List.replicate n ⟨1, []⟩) = n := fun n => by
      unfold bulkN preN
      rw [List.take_length, List.map_replicate]
      simp [Se.bulk]
    simp only [if_true, newL, Lk.bulk, bulkO, preO, this]
    simp
    omega

set_option maxHeartbeats 3200000 in
theorem walk (id nodes : Int) (w : World) (hid : inI64 id) :
    Calls Try.prog 3 #[.int .i64 id, .int .i64 nodes] w fun e w' => e = .returned (.bool true) ∧ Below w.heap.size w w' := by
  have hnot := ex_not
  have HS := (show Hid (_ ∧ _ ∧ _) from ⟨fun wx => specLinkNew_any id nodes wx hid, fun wx => implLinkNew_any id nodes wx hid, new_bulk id nodes⟩)
  have hbk := HS.out.2.2.1
  generalize newOf id nodes = l at *
  generalize amongB id nodes = f at *
  have hff : (f != f) = false := by simp
  go_enter Try.func3, Try.ntmps3
  go_wp2_with fail
  refine (HS.out.1 _).mono ?_
  rintro e w1 ⟨v1, ov1, sv1, rs1, rfl, A1, b1⟩
  obtain ⟨oa1, oc1, sa1, sc1, rfl, -, -⟩ := A1.at.form
  obtain ⟨W1, hW1⟩ : ∃ W1, W1 = w1.alloc (.cells (l.row (.slice oa1 l.out.length oc1) (.slice sa1 l.seen.length sc1)) 25) := ⟨_, rfl⟩
  have bW1 : Below w1.heap.size w1 W1 := by rw [hW1]; exact (Below.refl _ w1).alloc (Nat.le_refl _) _
  have M1 : W1.heap[w1.heap.size]? = some (.cells (l.row (.slice oa1 l.out.length oc1) (.slice sa1 l.seen.length sc1)) 25) := by rw [hW1]; exact (MapKept.heap_alloc w1 _).1
  have hs1 : w.heap.size ≤ w1.heap.size := b1.size
  have hs1' : w1.heap.size + 1 ≤ W1.heap.size := lt_heap M1
  have H1 := (show Hid (_ ∧ _ ∧ _ ∧ _ ∧ _) from ⟨A1.below bW1, M1, b1.trans (bW1.mono hs1), (fun (b : Nat) (hb : LkBlk ov1 sv1 rs1 b) => (A1.own hb).2), hW1⟩)
  clear A1 b1 bW1 M1 hW1
  go_wp2_with fail
  rw [← (show W1 = w1.alloc (.cells #[.int .i64 l.id, .int .i64 l.next, .slice oa1 l.out.length oc1, .slice sa1 l.seen.length sc1] 25) from H1.out.2.2.2.2)]
  refine (HS.out.2.1 W1).mono ?_
  rintro e w2 ⟨v2, ov2, sv2, rs2, rfl, A2, b2⟩
  have hv2 := A2.val
  obtain ⟨oa2, oc2, hov2⟩ := own_form A2.out.1
  have hrl2 : rs2.length = l.seen.length := by rw [← A2.is]; simp
  obtain ⟨n2, sa2, sc2, hn2, hsv2⟩ := own_formN A2.seen.cells
  obtain rfl : n2 = l.seen.length := by omega
  subst hov2 hsv2 hv2
  obtain ⟨W2, hW2⟩ : ∃ W2, W2 = w2.alloc (.cells (l.row (.slice oa2 l.out.length oc2) (.slice sa2 l.seen.length sc2)) 25) := ⟨_, rfl⟩
  have bW2 : Below w2.heap.size w2 W2 := by rw [hW2]; exact (Below.refl _ w2).alloc (Nat.le_refl _) _
  have M2 : W2.heap[w2.heap.size]? = some (.cells (l.row (.slice oa2 l.out.length oc2) (.slice sa2 l.seen.length sc2)) 25) := by rw [hW2]; exact (MapKept.heap_alloc w2 _).1
  have b2' : Below W1.heap.size W1 W2 := b2.trans (bW2.mono b2.size)
  have hs2 : W1.heap.size ≤ w2.heap.size := b2.size
  have hs2' : w2.heap.size + 1 ≤ W2.heap.size := lt_heap M2
  have H2 := (show Hid (_ ∧ _ ∧ _ ∧ _ ∧ _ ∧ _ ∧ _ ∧ _) from ⟨H1.out.1.below b2', (b2'.block _ (lt_heap H1.out.2.1)).trans H1.out.2.1, H1.out.2.2.1.trans (b2'.mono (by omega)), H1.out.2.2.2.1, A2.below bW2, M2, (fun (b : Nat) (hb : LkBlk (.slice oa2 l.out.length oc2) (.slice sa2 l.seen.length sc2) rs2 b) => A2.own hb), hW2⟩)
  obtain ⟨y0, y1, y2, y3⟩ := lbox ((b2.block _ (lt_heap H1.out.2.1)).trans H1.out.2.1)
  have hlt12 : w1.heap.size < w2.heap.size := by omega
  clear A2 b2 bW2 M2 b2' hW2 H1 hrl2 hn2
  go_wp2_with fail
  clear y0 y1 y2 y3
  rw [← (show W2 = w2.alloc (.cells #[.int .i64 l.id, .int .i64 l.next, .slice oa2 l.out.length oc2, .slice sa2 l.seen.length sc2] 25) from H2.out.2.2.2.2.2.2.2)]
  refine (eqLink_any _ _ l _ _ W2 H2.out.2.2.2.2.1.at H2.out.1.at (by omega)).mono ?_
  rintro e w3 ⟨rfl, b3⟩
  have hs3 : W2.heap.size ≤ w3.heap.size := b3.size
  have H3 := (show Hid (_ ∧ _ ∧ _ ∧ _ ∧ _ ∧ _ ∧ _) from ⟨H2.out.1.below b3, (b3.block _ (lt_heap H2.out.2.1)).trans H2.out.2.1, H2.out.2.2.1.trans (b3.mono (by omega)), H2.out.2.2.2.1, H2.out.2.2.2.2.1.below b3, (b3.block _ (lt_heap H2.out.2.2.2.2.2.1)).trans H2.out.2.2.2.2.2.1, H2.out.2.2.2.2.2.2.1⟩)
  clear b3 H2
  obtain ⟨x0, x1, x2, x3⟩ := lbox H3.out.2.2.2.2.2.1
  go_wp2_with fail
  clear x0 x1 x2 x3
  refine (markLink_any _ _ l _ _ rs2 1 w3 (by decide) (by decide) (by omega) H3.out.2.2.2.2.1).mono ?_
  rintro e w4 ⟨rfl, m4, k4⟩
  have hs4 : w3.heap.size ≤ w4.heap.size := k4.size
  have hX := H3.out.2.2.2.2.2.2
  have H4 := (show Hid (_ ∧ _ ∧ _ ∧ _ ∧ _ ∧ _ ∧ _) from ⟨H3.out.1.kept k4 (fun b hb hx => by have := H3.out.2.2.2.1 b hb; have := (hX b hx).1; omega), k4.heap H3.out.2.1 (fun hx => by have := (hX _ hx).1; omega), H3.out.2.2.1.trans (k4.below (B := w.heap.size) (fun k hk => by have := (hX k hk).1; omega) (by omega)), k4.heap H3.out.2.2.2.2.2.1 (fun hx => by have := (hX _ hx).2; omega), m4, H3.out.2.2.2.2.1.is, H3.out.2.2.2.2.1.val⟩)
  clear m4 k4 hX H3
  have hbb := (show l.bulk = bulkO l.out + bulkN l.seen from rfl)
  have hbo := (show bulkO l.out = l.out.length + preO l.out l.out.length from rfl)
  have hmk : (0 : Int) ≤ mkE 1 l ∧ mkE 1 l ≤ 90000000 := by unfold mkE; omega
  have hq0 : ¬ mkE 1 l < 0 := by omega
  have hqq : (mkE 1 l != mkE 1 l) = false := by simp
  have HK := (show Hid (_ ∧ True) from ⟨fun (wx : World) (h : MkL wx W1.heap.size l (.slice oa2 l.out.length oc2) (.slice sa2 l.seen.length sc2) rs2 1) => heldLink_any W1.heap.size _ l _ _ rs2 1 wx (by decide) (by decide) (by omega) h H4.out.2.2.2.2.2.1 H4.out.2.2.2.2.2.2, trivial⟩)
  generalize mkE 1 l = km at *
  obtain ⟨x0, x1, x2, x3⟩ := lbox H4.out.2.2.2.1
  go_wp2_with fail
  clear x0 x1 x2 x3
  refine (HK.out.1 w4 H4.out.2.2.2.2.1).mono ?_
  rintro e w5 ⟨rfl, b5⟩
  have hs5 : w4.heap.size ≤ w5.heap.size := b5.size
  have H5 := (show Hid (_ ∧ _ ∧ _ ∧ _ ∧ _) from ⟨H4.out.1.below b5, (b5.block _ (lt_heap H4.out.2.1)).trans H4.out.2.1, H4.out.2.2.1.trans (b5.mono (by omega)), (b5.block _ (lt_heap H4.out.2.2.2.1)).trans H4.out.2.2.2.1, H4.out.2.2.2.2.1.below b5⟩)
  clear b5 H4
  go_wp2_with fail
  refine (HS.out.2.1 w5).mono ?_
  rintro e w6 ⟨v6, ov6, sv6, rs6, rfl, A6, b6⟩
  obtain ⟨oa6, oc6, sa6, sc6, rfl, -, -⟩ := A6.at.form
  obtain ⟨W6, hW6⟩ : ∃ W6, W6 = w6.alloc (.cells (l.row (.slice oa6 l.out.length oc6) (.slice sa6 l.seen.length sc6)) 25) := ⟨_, rfl⟩
  have bW6 : Below w6.heap.size w6 W6 := by rw [hW6]; exact (Below.refl _ w6).alloc (Nat.le_refl _) _
  have b6' : Below w5.heap.size w5 W6 := b6.trans (bW6.mono b6.size)
  have hs6 : w5.heap.size ≤ w6.heap.size := b6.size
  have hs6' : w6.heap.size ≤ W6.heap.size := bW6.size
  have H6 := (show Hid (_ ∧ _ ∧ _ ∧ _ ∧ _ ∧ _) from ⟨H5.out.1.below b6', H5.out.2.2.1.trans (b6'.mono (by omega)), (b6'.block _ (lt_heap H5.out.2.2.2.1)).trans H5.out.2.2.2.1, H5.out.2.2.2.2.below b6', A6.at.below bW6, hW6⟩)
  obtain ⟨y0, y1, y2, y3⟩ := lbox ((b6.block _ (lt_heap H5.out.2.1)).trans H5.out.2.1)
  have hlt16 : w1.heap.size < w6.heap.size := by omega
  clear A6 b6 bW6 b6' hW6 H5
  go_wp2_with fail
  clear y0 y1 y2 y3
  rw [← (show W6 = w6.alloc (.cells #[.int .i64 l.id, .int .i64 l.next, .slice oa6 l.out.length oc6, .slice sa6 l.seen.length sc6] 25) from H6.out.2.2.2.2.2)]
  refine (eqLink_any _ _ l _ _ W6 H6.out.2.2.2.2.1 H6.out.1.at (by omega)).mono ?_
  rintro e w7 ⟨rfl, b7⟩
  have hs7 : W6.heap.size ≤ w7.heap.size := b7.size
  have H7 := (show Hid (_ ∧ _ ∧ _) from ⟨H6.out.2.1.trans (b7.mono (by omega)), (b7.block _ (lt_heap H6.out.2.2.1)).trans H6.out.2.2.1, H6.out.2.2.2.1.below b7⟩)
  clear b7 H6
  obtain ⟨x0, x1, x2, x3⟩ := lbox H7.out.2.1
  go_wp2_with fail
  clear x0 x1 x2 x3
  refine (HK.out.1 w7 H7.out.2.2).mono ?_
  rintro e w8 ⟨rfl, b8⟩
  have H8 := (show Hid (_ ∧ True) from ⟨H7.out.1.trans (b8.mono (by omega)), trivial⟩)
  clear b8 H7
  go_wp2
  go_ret
  exact ⟨rfl, H8.out.1⟩

theorem own : ownKnob Try.prog.godebug = none := by kernel_rfl

theorem lifted (os : Os) (started : os.Started) (H : Type) (enc : TypeId × Value → H) :
    ReturnsInHanded {} Try.checked os 3 .any (Rows.fnExactLinkNewSpec.pre6 enc Try.prog Try.f3 Rows.fnExactLinkNewRow.domain false) (Rows.fnExactLinkNewSpec.post enc Try.prog Try.f3 false true false false) := by
  refine returnsInHanded_of_change (C := Try.checked) own started (by kernel_rfl) Try.func3
    (ChangeSpec.witness6 (enc := enc) (C := Try.checked) false ⟨#[], #[.int .i64 0, .int .i64 0], []⟩ 8 (by kernel_rfl) (by kernel_rfl) (by kernel_rfl) (by kernel_rfl)) ?_
  intro W base args ds gs before hval0 hW hcnd _
  have hval : ∀ (j : Nat) t v, Try.f3.params[j]? = some t → args[j]? = some v → Value.okWide Try.prog W .any base t v := hval0
  have hW' := hW
  obtain ⟨p, q, hA0, hV, rfl, hfz, hnd⟩ := hW
  have hA : DataW.TrodAll enc Try.prog W 0 (fun _ => true) true Try.f3.params.toList args.toList ds p := hA0
  rw [Try.params3] at hA hval
  obtain ⟨v0, vs0, d0, ds0, p0, q0, hargs0, rfl, rfl, h0, r0⟩ := trodAll_cons hA
  obtain ⟨v1, vs1, d1, ds1, p1, q1, hargs1, rfl, rfl, h1, r1⟩ := trodAll_cons r0
  obtain ⟨rfl, rfl, rfl⟩ := trodAll_nil r1
  obtain rfl : args = #[v0, v1] := by cases args; simp_all
  obtain ⟨rfl, rfl⟩ := trodVars_none hV
  obtain ⟨a0, rfl, rfl, rfl, w0⟩ := open_int Try.underlying3 (hval 0 3 v0 rfl rfl) h0
  obtain ⟨a1, rfl, rfl, rfl, w1⟩ := open_int Try.underlying3 (hval 1 3 v1 rfl rfl) h1
  clear hA0 hval0
  refine (walk a0 a1 W (bounds_i64 w0)).mono fun e W' ⟨he, bel⟩ => ?_
  subst he
  exact ⟨_, rfl, _, _, _, [], [], [], hW', trodAll_mk1 (shut_bool Try.underlying4 _), (trodAll_cons_mk (shut_int Try.underlying3 w0) (trodAll_cons_mk (shut_int Try.underlying3 w1) trodAll_mk0)), rfl, bel.frame _, fun h => by cases h⟩
end Go.Proofs.Ytbaakhpmfljgnaa.fnExactLinkNew
