/-
  The law of LinkOk, walked.
-/
import Derived.Test.YtbaakhpmfljgnaaDoorSpecLinkOk
import Derived.Test.YtbaakhpmfljgnaaDoorImplLinkOk
import Derived.Test.YtbaakhpmfljgnaaDoorLinkOpen
import Derived.Deep.RegionHeld3
namespace Go.Proofs.YtbaakhpmfljgnaaDoor
open Go.RowKit Go.Joins

set_option maxRecDepth 100000

theorem lbox2 {W : World} {b b' : Nat} {l : Lk} {ov sv ov' sv' : Value} {t t' : TypeId} {fz fz' : Nat × Nat} (h : W.heap[b]? = some (.cells (l.row ov sv) t fz)) (h' : W.heap[b']? = some (.cells (l.row ov' sv') t' fz')) : W.cell? ⟨b, 0, none⟩ = some (.int .i64 l.id) ∧ W.cell? ⟨b, 1, none⟩ = some (.int .i64 l.next) ∧ W.cell? ⟨b, 2, none⟩ = some ov ∧ W.cell? ⟨b, 3, none⟩ = some sv ∧ W.cell? ⟨b', 0, none⟩ = some (.int .i64 l.id) ∧ W.cell? ⟨b', 1, none⟩ = some (.int .i64 l.next) ∧ W.cell? ⟨b', 2, none⟩ = some ov' ∧ W.cell? ⟨b', 3, none⟩ = some sv' :=
  ⟨(lbox h).1, (lbox h).2.1, (lbox h).2.2.1, (lbox h).2.2.2, (lbox h').1, (lbox h').2.1, (lbox h').2.2.1, (lbox h').2.2.2⟩

set_option maxHeartbeats 1600000 in
theorem linkOk_walk (v : Value) (l : Lk) (S : Nat → Prop) (w : World) (h : LkAt w S v l) (hg : ET w) :
    Calls Tryd.prog 3 #[v] w fun e w' => e = .returned (.bool true) ∧ Below w.heap.size w w' := by
  have hnot := ex_not
  obtain ⟨oa, oc, sa, sc, rfl, -, -⟩ := h.form
  obtain ⟨W0, hW0⟩ : ∃ W0, W0 = w.alloc (.cells (l.row (.slice oa l.out.length oc) (.slice sa l.seen.length sc)) 25) := ⟨_, rfl⟩
  have B0 : Below w.heap.size w W0 := by rw [hW0]; exact (Below.refl _ w).alloc (Nat.le_refl _) _
  have O0 : W0.heap[w.heap.size]? = some (.cells (l.row (.slice oa l.out.length oc) (.slice sa l.seen.length sc)) 25) := by rw [hW0]; exact (MapKept.heap_alloc w _).1
  have hs0 : w.heap.size + 1 ≤ W0.heap.size := lt_heap O0
  have H0 := (show Hid (_ ∧ _ ∧ _ ∧ _ ∧ _) from ⟨szLink_any _ l S W0 (h.below B0), B0, O0, hg, hW0⟩)
  have HL := (show Hid (_ ∧ True) from ⟨h, trivial⟩)
  clear B0 O0 hg hW0 h
  go_enter Tryd.func3, Tryd.ntmps3
  go_wp2_with fail
  rw [← (show W0 = _ from H0.out.2.2.2.2)]
  refine H0.out.1.mono ?_
  rintro e w1 ⟨rfl, b1⟩
  have hs1 : W0.heap.size ≤ w1.heap.size := b1.size
  have H1 := (show Hid (_ ∧ _ ∧ _) from ⟨H0.out.2.1.trans (b1.mono (by omega)), (b1.block _ (lt_heap H0.out.2.2.1)).trans H0.out.2.2.1, H0.out.2.2.2.1⟩)
  clear b1 H0
  by_cases hb : l.bulk ≤ 1048576
  case neg =>
    have hr : szR 1048576 l.bulk = -1 := by unfold szR; rw [if_neg (by omega)]
    rw [hr]
    clear hr
    go_wp2
    all_goals (go_ret; exact ⟨rfl, H1.out.1⟩)
  have hr : szR 1048576 l.bulk = 1048576 - (l.bulk : Int) := by unfold szR; rw [if_pos (by omega)]
  rw [hr]
  have hpos : ¬ (1048576 : Int) - (l.bulk : Int) < 0 := by omega
  clear hr
  obtain ⟨q0, q1, q2, q3⟩ := lbox H1.out.2.1
  go_wp2_with fail
  clear q0 q1 q2 q3
  refine (toLink_any _ l S w1 (HL.out.1.below H1.out.1) hb).mono ?_
  rintro e w2 ⟨v2, ov2, sv2, rs2, rfl, A2, b2⟩
  obtain ⟨oa2, oc2, sa2, sc2, rfl, -, -⟩ := A2.at.form
  have hs2 : w1.heap.size ≤ w2.heap.size := b2.size
  have H2 := (show Hid (_ ∧ _ ∧ _) from ⟨H1.out.1.trans (b2.mono (by omega)), (b2.block _ (lt_heap H1.out.2.1)).trans H1.out.2.1, A2.at⟩)
  have HG := (show Hid (_ ∧ True) from ⟨H1.out.2.2, trivial⟩)
  clear b2 A2 H1
  go_wp2_with fail
  refine (specLinkOk_any _ l _ w2 H2.out.2.2 hb).mono ?_
  rintro e w3 ⟨rfl, b3⟩
  have hs3 : w2.heap.size ≤ w3.heap.size := b3.size
  have H3 := (show Hid (_ ∧ _) from ⟨H2.out.1.trans (b3.mono (by omega)), (b3.block _ (lt_heap H2.out.2.1)).trans H2.out.2.1⟩)
  clear b3 H2
  obtain ⟨q0, q1, q2, q3⟩ := lbox H3.out.2
  go_wp2_with fail
  clear q0 q1 q2 q3
  refine (toLink_any _ l S w3 (HL.out.1.below H3.out.1) hb).mono ?_
  rintro e w4 ⟨v4, ov4, sv4, rs4, rfl, A4, b4⟩
  obtain ⟨oa4, oc4, sa4, sc4, rfl, -, -⟩ := A4.at.form
  have hs4 : w3.heap.size ≤ w4.heap.size := b4.size
  obtain ⟨W4, hW4⟩ : ∃ W4, W4 = w4.alloc (.cells (l.row (.slice oa4 l.out.length oc4) (.slice sa4 l.seen.length sc4)) 31) := ⟨_, rfl⟩
  have bW4 : Below w4.heap.size w4 W4 := by rw [hW4]; exact (Below.refl _ w4).alloc (Nat.le_refl _) _
  have M4 : W4.heap[w4.heap.size]? = some (.cells (l.row (.slice oa4 l.out.length oc4) (.slice sa4 l.seen.length sc4)) 31) := by rw [hW4]; exact (MapKept.heap_alloc w4 _).1
  have hs4' : w4.heap.size + 1 ≤ W4.heap.size := lt_heap M4
  have b4' : Below w3.heap.size w3 W4 := b4.trans (bW4.mono (by omega))
  have H4 := (show Hid (_ ∧ _ ∧ _ ∧ _ ∧ _) from ⟨H3.out.1.trans (b4'.mono (by omega)), (b4'.block _ (lt_heap H3.out.2)).trans H3.out.2, A4.at.below bW4, M4, hW4⟩)
  clear b4 A4 bW4 M4 b4' hW4 H3
  go_wp2_with fail
  rw [← (show W4 = _ from H4.out.2.2.2.2)]
  refine (implLinkOk_any _ l _ W4 H4.out.2.2.1 hb (HG.out.1.below H4.out.1)).mono ?_
  rintro e w5 ⟨rfl, b5⟩
  have hs5 : W4.heap.size ≤ w5.heap.size := b5.size
  have H5 := (show Hid (_ ∧ _ ∧ _ ∧ _) from ⟨H4.out.1.trans (b5.mono (by omega)), (b5.block _ (lt_heap H4.out.2.1)).trans H4.out.2.1, H4.out.2.2.1.below b5, (b5.block _ (lt_heap H4.out.2.2.2.1)).trans H4.out.2.2.2.1⟩)
  clear b5 H4
  have hne : (l.ok != l.ok) = false := by simp
  generalize l.ok = r at *
  obtain ⟨q0, q1, q2, q3⟩ := lbox H5.out.2.1
  obtain ⟨p0, p1, p2, p3⟩ := lbox H5.out.2.2.2
  go_wp2_with fail
  clear q0 q1 q2 q3 p0 p1 p2 p3
  have hd : Below w5.heap.size w5 w5.drew := (Below.refl _ _).drew
  have hs5' : w.heap.size ≤ w5.drew.heap.size := by have := (H5.out.1.trans (hd.mono H5.out.1.size)).size; exact this
  have H7 := (show Hid (_ ∧ _ ∧ _ ∧ _) from ⟨H5.out.1.trans (hd.mono H5.out.1.size), (show w5.drew.heap[w.heap.size]? = _ from H5.out.2.1), H5.out.2.2.1.below hd, (show w5.drew.heap[w4.heap.size]? = _ from H5.out.2.2.2)⟩)
  clear hd H5
  go_region_held3 (fun w' => w'.cell? ⟨w4.heap.size, 0, none⟩ = some (.int .i64 l.id) ∧ w'.cell? ⟨w4.heap.size, 1, none⟩ = some (.int .i64 l.next) ∧ w'.cell? ⟨w4.heap.size, 2, none⟩ = some (.slice oa4 l.out.length oc4) ∧ w'.cell? ⟨w4.heap.size, 3, none⟩ = some (.slice sa4 l.seen.length sc4) ∧ w'.cell? ⟨w.heap.size, 0, none⟩ = some (.int .i64 l.id) ∧ w'.cell? ⟨w.heap.size, 1, none⟩ = some (.int .i64 l.next) ∧ w'.cell? ⟨w.heap.size, 2, none⟩ = some (.slice oa l.out.length oc) ∧ w'.cell? ⟨w.heap.size, 3, none⟩ = some (.slice sa l.seen.length sc)) (first | exact lbox2 H9.out.2.2 H9.out.2.1 | exact lbox2 H8.out.2.2.2.2 H8.out.2.1 | exact lbox2 H7.out.2.2.2 H7.out.2.1) (first
    | (go_at_call 6; refine (toLink_any _ l S _ (HL.out.1.below H7.out.1) hb).mono ?_; rintro e w8 ⟨v8, ov8, sv8, rs8, rfl, A8, b8⟩; have H8 := (show Hid (_ ∧ _ ∧ _ ∧ _ ∧ _) from ⟨H7.out.1.trans (b8.mono hs5'), (b8.block _ (lt_heap H7.out.2.1)).trans H7.out.2.1, H7.out.2.2.1.below b8, A8.at, (b8.block _ (lt_heap H7.out.2.2.2)).trans H7.out.2.2.2⟩); obtain ⟨oa8, oc8, sa8, sc8, rfl, -, -⟩ := A8.at.form; clear A8 b8 H7)
    | (go_at_call 8; refine (eqLink_any _ _ l _ _ _ H8.out.2.2.1 H8.out.2.2.2.1 (by omega)).mono ?_; rintro e w9 ⟨rfl, b9⟩; have H9 := (show Hid (_ ∧ _ ∧ _) from ⟨H8.out.1.trans (b9.mono H8.out.1.size), (b9.block _ (lt_heap H8.out.2.1)).trans H8.out.2.1, (b9.block _ (lt_heap H8.out.2.2.2.2)).trans H8.out.2.2.2.2⟩); clear b9 H8))
  go_wp2
  go_ret
  exact ⟨rfl, H9.out.1⟩
end Go.Proofs.YtbaakhpmfljgnaaDoor
