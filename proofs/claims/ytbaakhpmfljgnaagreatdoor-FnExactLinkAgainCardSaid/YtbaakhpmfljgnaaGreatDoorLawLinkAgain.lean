/-
  The law of LinkAgain, walked.
-/
import Derived.Test.YtbaakhpmfljgnaaGreatDoorLinkAgainS
import Derived.Test.YtbaakhpmfljgnaaGreatDoorLinkMark
import Derived.Test.YtbaakhpmfljgnaaGreatDoorStrRows
import Derived.Test.YtbaakhpmfljgnaaGreatDoorLinkOpen
import Derived.Deep.RegionHeld3
namespace Go.Proofs.YtbaakhpmfljgnaaGreatDoor
open Go.RowKit Go.Joins

set_option maxRecDepth 100000

theorem lboxTwo {W : World} {b b' : Nat} {l : Lk} {ov sv ov' sv' : Value} {t t' : TypeId} {fz fz' : Nat × Nat} (h : W.heap[b]? = some (.cells (l.row ov sv) t fz)) (h' : W.heap[b']? = some (.cells (l.row ov' sv') t' fz')) : W.cell? ⟨b, 0, none⟩ = some (.int .i64 l.id) ∧ W.cell? ⟨b, 1, none⟩ = some (.int .i64 l.next) ∧ W.cell? ⟨b, 2, none⟩ = some ov ∧ W.cell? ⟨b, 3, none⟩ = some sv ∧ W.cell? ⟨b', 0, none⟩ = some (.int .i64 l.id) ∧ W.cell? ⟨b', 1, none⟩ = some (.int .i64 l.next) ∧ W.cell? ⟨b', 2, none⟩ = some ov' ∧ W.cell? ⟨b', 3, none⟩ = some sv' :=
  ⟨(lbox h).1, (lbox h).2.1, (lbox h).2.2.1, (lbox h).2.2.2, (lbox h').1, (lbox h').2.1, (lbox h').2.2.1, (lbox h').2.2.2⟩
theorem again_len (l : Lk) : l.again.length ≤ 60 := by
  unfold Lk.again
  cases hok : l.ok with
  | false => simp
  | true =>
    unfold Lk.ok Lk.outOk at hok
    simp only [Bool.and_eq_true, decide_eq_true_eq] at hok
    simp
    omega
theorem own_belowA {W W' : World} {B n size : Nat} {e : TypeId} {v : Value} {xs : List Value} (h : W.ownsRow B e size v n xs) (hb : Below W.heap.size W W') : W'.ownsRow B e size v n xs := own_moved h (fun g hg => hb.block g (own_lt h g hg))
theorem own_keptX {X : Nat → Prop} {W W' : World} {B n size : Nat} {e : TypeId} {v : Value} {xs : List Value} (h : W.ownsRow B e size v n xs) (hb : KB X W W') (hx : ∀ g, v.ownBlock = some g → ¬ X g) : W'.ownsRow B e size v n xs := own_moved h (fun g hg => hb.block g (own_lt h g hg) (hx g hg))
/-- What the walk holds of a world: its argument's box, the copy and its box, the two answers. -/
structure AgSt (w W : World) (l : Lk) (oa sa : Option Addr) (oc sc B1 B2 bx : Nat) (wv gv ov sv : Value) (ys : List Value) : Prop where
  base : Below w.heap.size w W
  abox : W.heap[w.heap.size]? = some (.cells (l.row (.slice oa l.out.length oc) (.slice sa l.seen.length sc)) 25)
  w0 : W.ownsRow B1 9 1 wv l.again.length (l.again.map Value.string)
  w0lt : ∀ g, wv.ownBlock = some g → g < B2
  g0 : W.ownsRow (bx + 1) 9 1 gv l.again.length ys
  xbox : W.heap[bx]? = some (.cells (l.row ov sv) 36)
  ord : w.heap.size < B1 ∧ B1 ≤ B2 ∧ B2 ≤ bx ∧ bx < W.heap.size
theorem AgSt.below {w W W' : World} {l : Lk} {oa sa : Option Addr} {oc sc B1 B2 bx : Nat} {wv gv ov sv : Value} {ys : List Value} (h : AgSt w W l oa sa oc sc B1 B2 bx wv gv ov sv ys) (hb : Below W.heap.size W W') : AgSt w W' l oa sa oc sc B1 B2 bx wv gv ov sv ys :=
  ⟨h.base.trans (hb.mono h.base.size), (hb.block _ (lt_heap h.abox)).trans h.abox, own_belowA h.w0 hb, h.w0lt, own_belowA h.g0 hb, (hb.block _ (lt_heap h.xbox)).trans h.xbox, ⟨h.ord.1, h.ord.2.1, h.ord.2.2.1, Nat.lt_of_lt_of_le h.ord.2.2.2 hb.size⟩⟩
/-- A change in blocks of the copy alone. -/
theorem AgSt.kept {X : Nat → Prop} {w W W' : World} {l : Lk} {oa sa : Option Addr} {oc sc B1 B2 bx : Nat} {wv gv ov sv : Value} {ys : List Value} (h : AgSt w W l oa sa oc sc B1 B2 bx wv gv ov sv ys) (hb : KB X W W') (hX : ∀ k, X k → B2 ≤ k ∧ k < bx) : AgSt w W' l oa sa oc sc B1 B2 bx wv gv ov sv ys :=
  ⟨h.base.trans (hb.below (fun k hk => by have := hX k hk; have := h.ord; omega) h.base.size), hb.heap h.abox (fun hx => by have := hX _ hx; have := h.ord; omega), own_keptX h.w0 hb (fun g hg hx => by have := hX _ hx; have := h.w0lt g hg; omega), h.w0lt,
   own_keptX h.g0 hb (fun g hg hx => by have := hX _ hx; have := (own_type h.g0 g hg).1; omega), hb.heap h.xbox (fun hx => by have := hX _ hx; omega), ⟨h.ord.1, h.ord.2.1, h.ord.2.2.1, Nat.lt_of_lt_of_le h.ord.2.2.2 hb.size⟩⟩
/-- The answer's row is written over. -/
theorem AgSt.marked {w W W' : World} {l : Lk} {oa sa : Option Addr} {oc sc B1 B2 bx : Nat} {wv gv ov sv : Value} {ys zs : List Value} (h : AgSt w W l oa sa oc sc B1 B2 bx wv gv ov sv ys) (hg : W.grownBy W' gv.ownBlock) (ho : W'.ownsRow (bx + 1) 9 1 gv l.again.length zs) : AgSt w W' l oa sa oc sc B1 B2 bx wv gv ov sv zs := by
  have hge : ∀ g, gv.ownBlock = some g → bx + 1 ≤ g := fun g hg => (own_type h.g0 g hg).1
  have hlow : ∀ k, k ≤ bx → W'.heap[k]? = W.heap[k]? := fun k hk => hg.block k (by have := h.ord; omega) (fun e => by have := hge k e.symm; omega)
  refine ⟨Below.grown h.base hg (hB := h.base.size) (hr := fun g hgg => by have := hge g hgg; have := h.ord; omega), ?_, own_moved h.w0 (fun g hgg => hlow g (by have := h.w0lt g hgg; have := h.ord; omega)), h.w0lt, ho, ?_, ⟨h.ord.1, h.ord.2.1, h.ord.2.2.1, Nat.lt_of_lt_of_le h.ord.2.2.2 hg.size⟩⟩
  · rw [hlow _ (by have := h.ord; omega)]; exact h.abox
  · rw [hlow _ (Nat.le_refl _)]; exact h.xbox

set_option maxHeartbeats 3200000 in
theorem linkAgain_walk (v : Value) (l : Lk) (S : Nat → Prop) (w : World) (h : LkAt w S v l) (hg : ET w) :
    Calls Tryz.prog 4 #[v] w fun e w' => e = .returned (.bool true) ∧ Below w.heap.size w w' := by
  have hnot := ex_not
  obtain ⟨oa, oc, sa, sc, rfl, -, -⟩ := h.form
  obtain ⟨W0, hW0⟩ : ∃ W0, W0 = w.alloc (.cells (l.row (.slice oa l.out.length oc) (.slice sa l.seen.length sc)) 25) := ⟨_, rfl⟩
  have B0 : Below w.heap.size w W0 := by rw [hW0]; exact (Below.refl _ w).alloc (Nat.le_refl _) _
  have O0 : W0.heap[w.heap.size]? = some (.cells (l.row (.slice oa l.out.length oc) (.slice sa l.seen.length sc)) 25) := by rw [hW0]; exact (MapKept.heap_alloc w _).1
  have hs0 : w.heap.size + 1 ≤ W0.heap.size := lt_heap O0
  have H0 := (show Hid (_ ∧ _ ∧ _ ∧ _) from ⟨szLink_any _ l S W0 (h.below B0), B0, O0, hW0⟩)
  have HL := (show Hid (_ ∧ _) from ⟨h, hg⟩)
  have hlen := again_len l
  clear B0 O0 hg hW0 h
  go_enter Tryz.func4, Tryz.ntmps4
  go_wp2_with fail
  rw [← (show W0 = _ from H0.out.2.2.2)]
  refine H0.out.1.mono ?_
  rintro e w1 ⟨rfl, b1⟩
  have hs1 : W0.heap.size ≤ w1.heap.size := b1.size
  have H1 := (show Hid (_ ∧ _) from ⟨H0.out.2.1.trans (b1.mono (by omega)), (b1.block _ (lt_heap H0.out.2.2.1)).trans H0.out.2.2.1⟩)
  clear b1 H0
  by_cases hb : l.bulk ≤ 1048576
  case neg =>
    have hr : szR 1048576 l.bulk = -1 := by unfold szR; rw [if_neg (by omega)]
    rw [hr]
    clear hr
    go_wp2
    all_goals (go_ret; exact ⟨rfl, H1.out.1⟩)
  have hr : szR 1048576 l.bulk = 1048576 - (l.bulk : Int) := by unfold szR; rw [if_pos (by omega)]
  rw [hr]
  have hpos : ¬ (1048576 : Int) - (l.bulk : Int) < 0 := by omega
  clear hr
  obtain ⟨q0, q1, q2, q3⟩ := lbox H1.out.2
  go_wp2_with fail
  clear q0 q1 q2 q3
  refine (toLink_any _ l S w1 (HL.out.1.below H1.out.1) hb).mono ?_
  rintro e w2 ⟨v2, ov2, sv2, rs2, rfl, A2, b2⟩
  obtain ⟨oa2, oc2, sa2, sc2, rfl, -, -⟩ := A2.at.form
  have hs2 : w1.heap.size ≤ w2.heap.size := b2.size
  have H2 := (show Hid (_ ∧ _ ∧ _) from ⟨H1.out.1.trans (b2.mono (by omega)), (b2.block _ (lt_heap H1.out.2)).trans H1.out.2, A2.at⟩)
  clear b2 A2 H1
  go_wp2_with fail
  refine (specLinkAgain_any _ l _ w2 H2.out.2.2 hb).mono ?_
  rintro e w3 ⟨wv, rfl, R3, b3⟩
  have hs3 : w2.heap.size ≤ w3.heap.size := b3.size
  have H3 := (show Hid (_ ∧ _ ∧ _ ∧ _) from ⟨H2.out.1.trans (b3.mono (by omega)), (b3.block _ (lt_heap H2.out.2.1)).trans H2.out.2.1, R3, own_lt R3⟩)
  obtain ⟨wa, wc, rfl⟩ := own_form R3
  clear b3 H2 R3
  obtain ⟨q0, q1, q2, q3⟩ := lbox H3.out.2.1
  go_wp2_with fail
  clear q0 q1 q2 q3
  refine (toLink_any _ l S w3 (HL.out.1.below H3.out.1) hb).mono ?_
  rintro e w4 ⟨v4, ov4, sv4, rs4, rfl, A4, b4⟩
  have hv4 := A4.val
  obtain ⟨oa4, oc4, hov4⟩ := own_form A4.out.1
  have hrl4 : rs4.length = l.seen.length := by rw [← A4.is]; simp
  obtain ⟨n4, sa4, sc4, hn4, hsv4⟩ := own_formN A4.seen.cells
  obtain rfl : n4 = l.seen.length := by omega
  subst hov4 hsv4 hv4
  have hs4 : w3.heap.size ≤ w4.heap.size := b4.size
  obtain ⟨W4, hW4⟩ : ∃ W4, W4 = w4.alloc (.cells (l.row (.slice oa4 l.out.length oc4) (.slice sa4 l.seen.length sc4)) 36) := ⟨_, rfl⟩
  have bW4 : Below w4.heap.size w4 W4 := by rw [hW4]; exact (Below.refl _ w4).alloc (Nat.le_refl _) _
  have M4 : W4.heap[w4.heap.size]? = some (.cells (l.row (.slice oa4 l.out.length oc4) (.slice sa4 l.seen.length sc4)) 36) := by rw [hW4]; exact (MapKept.heap_alloc w4 _).1
  have hs4' : w4.heap.size + 1 = W4.heap.size := by rw [hW4]; simp
  have b4' : Below w3.heap.size w3 W4 := b4.trans (bW4.mono (by omega))
  have H4 := (show Hid (_ ∧ _ ∧ _ ∧ _ ∧ _ ∧ _ ∧ _ ∧ _) from ⟨H3.out.1.trans (b4'.mono (by omega)), (b4'.block _ (lt_heap H3.out.2.1)).trans H3.out.2.1, own_belowA H3.out.2.2.1 b4', H3.out.2.2.2, A4.below bW4, M4, (fun (b : Nat) (hb : LkBlk (.slice oa4 l.out.length oc4) (.slice sa4 l.seen.length sc4) rs4 b) => A4.own hb), hW4⟩)
  clear b4 A4 bW4 M4 b4' hW4 H3 hrl4 hn4
  go_wp2_with fail
  rw [← (show W4 = _ from H4.out.2.2.2.2.2.2.2)]
  refine (implLinkAgain_any _ l _ W4 H4.out.2.2.2.2.1.at hb (HL.out.2.below H4.out.1)).mono ?_
  rintro e w5 ⟨gv, rfl, R5, b5⟩
  obtain ⟨ga, gc, rfl⟩ := own_form R5
  have hs5 : W4.heap.size ≤ w5.heap.size := b5.size
  have st5 : AgSt w w5 l oa sa oc sc w2.heap.size w3.heap.size w4.heap.size (.slice wa l.again.length wc) (.slice ga l.again.length gc) (.slice oa4 l.out.length oc4) (.slice sa4 l.seen.length sc4) (l.again.map Value.string) :=
    ⟨H4.out.1.trans (b5.mono (by omega)), (b5.block _ (lt_heap H4.out.2.1)).trans H4.out.2.1, own_belowA H4.out.2.2.1 b5, H4.out.2.2.2.1, by rw [hs4']; exact R5, (b5.block _ (lt_heap H4.out.2.2.2.2.2.1)).trans H4.out.2.2.2.2.2.1, ⟨by omega, by omega, by omega, by omega⟩⟩
  have H5 := (show Hid (_ ∧ _ ∧ _) from ⟨st5, H4.out.2.2.2.2.1.below b5, H4.out.2.2.2.2.2.2.1⟩)
  clear b5 R5 H4 st5
  go_wp2_with fail
  refine (eqStringS_same _ _ _ _ l.again w5 (by omega) H5.out.1.g0 H5.out.1.w0).mono ?_
  rintro e w6 ⟨rfl, b6⟩
  have H6 := (show Hid (_ ∧ _ ∧ _) from ⟨H5.out.1.below b6, H5.out.2.1.below b6, H5.out.2.2⟩)
  clear b6 H5
  obtain ⟨q0, q1, q2, q3⟩ := lbox H6.out.1.abox
  obtain ⟨p0, p1, p2, p3⟩ := lbox H6.out.1.xbox
  go_wp2_with fail
  clear q0 q1 q2 q3 p0 p1 p2 p3
  have hd : Below w6.heap.size w6 w6.drew := (Below.refl _ _).drew
  have H7 := (show Hid (_ ∧ _ ∧ _) from ⟨H6.out.1.below hd, H6.out.2.1.below hd, H6.out.2.2⟩)
  clear hd H6
  go_region_held3 (fun w' => w'.cell? ⟨w4.heap.size, 0, none⟩ = some (.int .i64 l.id) ∧ w'.cell? ⟨w4.heap.size, 1, none⟩ = some (.int .i64 l.next) ∧ w'.cell? ⟨w4.heap.size, 2, none⟩ = some (.slice oa4 l.out.length oc4) ∧ w'.cell? ⟨w4.heap.size, 3, none⟩ = some (.slice sa4 l.seen.length sc4) ∧ w'.cell? ⟨w.heap.size, 0, none⟩ = some (.int .i64 l.id) ∧ w'.cell? ⟨w.heap.size, 1, none⟩ = some (.int .i64 l.next) ∧ w'.cell? ⟨w.heap.size, 2, none⟩ = some (.slice oa l.out.length oc) ∧ w'.cell? ⟨w.heap.size, 3, none⟩ = some (.slice sa l.seen.length sc)) (first | exact lboxTwo H9.out.1.xbox H9.out.1.abox | exact lboxTwo H8.out.1.xbox H8.out.1.abox | exact lboxTwo H7.out.1.xbox H7.out.1.abox) (first
    | (go_at_call 10; refine (toLink_any _ l S _ (HL.out.1.below H7.out.1.base) hb).mono ?_; rintro e w8 ⟨v8, ov8, sv8, rs8, rfl, A8, b8⟩; have H8 := (show Hid (_ ∧ _ ∧ _ ∧ _) from ⟨H7.out.1.below b8, H7.out.2.1.below b8, H7.out.2.2, A8.at⟩); obtain ⟨oa8, oc8, sa8, sc8, rfl, -, -⟩ := A8.at.form; clear A8 b8 H7)
    | (go_at_call 13; refine (eqLink_any _ _ l _ _ _ H8.out.2.1.at H8.out.2.2.2 (by omega)).mono ?_; rintro e w9 ⟨rfl, b9⟩; have H9 := (show Hid (_ ∧ _ ∧ _) from ⟨H8.out.1.below b9, H8.out.2.1.below b9, H8.out.2.2.1⟩); clear b9 H8))
  obtain ⟨p0, p1, p2, p3⟩ := lbox H9.out.1.xbox
  have hbb := (show l.bulk = bulkO l.out + bulkN l.seen from rfl)
  have hbo := (show bulkO l.out = l.out.length + preO l.out l.out.length from rfl)
  have hmk : (0 : Int) ≤ mkE 1 l ∧ mkE 1 l ≤ 90000000 := by unfold mkE; omega
  go_wp2_with fail
  clear p0 p1 p2 p3
  refine (markLink_any _ _ l _ _ rs4 1 w9 (by omega) (by omega) (by omega) H9.out.2.1).mono ?_
  rintro e w10 ⟨rfl, -, k10⟩
  have H10 := (show Hid (_ ∧ True) from ⟨H9.out.1.kept k10 (fun k hk => H9.out.2.2 k hk), trivial⟩)
  clear k10 H9
  have hmn : ¬ mkE 1 l < 0 := by omega
  generalize mkE 1 l = km at *
  go_wp2_with fail
  refine (eqStringS_same _ _ _ _ l.again w10 (by omega) H10.out.1.g0 H10.out.1.w0).mono ?_
  rintro e w11 ⟨rfl, b11⟩
  have H11 := (show Hid (_ ∧ True) from ⟨H10.out.1.below b11, trivial⟩)
  clear b11 H10
  go_wp2_with fail
  refine (markStringS_any _ _ l.again.length _ 1 w11 (by decide) (by decide) (by omega) H11.out.1.g0).mono ?_
  rintro e w12 ⟨rfl, R12, g12⟩
  have st12 := H11.out.1.marked g12 R12
  have H12 := (show Hid (_ ∧ True) from ⟨st12, trivial⟩)
  have hq0 : ¬ (1 : Int) + (l.again.length : Int) < 0 := by omega
  have hqq : ((1 : Int) + (l.again.length : Int) != 1 + (l.again.length : Int)) = false := by simp
  clear R12 g12 st12 H11
  go_wp2_with fail
  refine (heldStringS_any _ _ l.again.length 1 w12 (by decide) (by decide) (by omega) H12.out.1.g0).mono ?_
  rintro e w13 ⟨rfl, b13⟩
  have H13 := (show Hid (_ ∧ True) from ⟨H12.out.1.below b13, trivial⟩)
  clear b13 H12
  obtain ⟨q0, q1, q2, q3⟩ := lbox H13.out.1.abox
  go_wp2_with fail
  clear q0 q1 q2 q3
  refine (toLink_any _ l S w13 (HL.out.1.below H13.out.1.base) hb).mono ?_
  rintro e w14 ⟨v14, ov14, sv14, rs14, rfl, A14, b14⟩
  obtain ⟨oa14, oc14, sa14, sc14, rfl, -, -⟩ := A14.at.form
  have H14 := (show Hid (_ ∧ _) from ⟨H13.out.1.below b14, A14.at⟩)
  clear b14 A14 H13
  go_wp2_with fail
  refine (implLinkAgain_any _ l _ w14 H14.out.2 hb (HL.out.2.below H14.out.1.base)).mono ?_
  rintro e w15 ⟨hv, rfl, R15, b15⟩
  obtain ⟨ha, hc, rfl⟩ := own_form R15
  have H15 := (show Hid (_ ∧ _) from ⟨H14.out.1.below b15, R15⟩)
  clear b15 R15 H14
  go_wp2_with fail
  refine (eqStringS_same _ _ _ _ l.again w15 (by omega) H15.out.2 H15.out.1.w0).mono ?_
  rintro e w16 ⟨rfl, b16⟩
  have H16 := (show Hid (_ ∧ True) from ⟨H15.out.1.below b16, trivial⟩)
  clear b16 H15
  go_wp2_with fail
  refine (heldStringS_any _ _ l.again.length 1 w16 (by decide) (by decide) (by omega) H16.out.1.g0).mono ?_
  rintro e w17 ⟨rfl, b17⟩
  have H17 := (show Hid (_ ∧ True) from ⟨H16.out.1.below b17, trivial⟩)
  clear b17 H16
  go_wp2
  go_ret
  exact ⟨rfl, H17.out.1.base⟩
end Go.Proofs.YtbaakhpmfljgnaaGreatDoor
