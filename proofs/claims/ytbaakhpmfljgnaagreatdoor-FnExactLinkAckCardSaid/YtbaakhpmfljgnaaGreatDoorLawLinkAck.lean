/-
  The law of LinkAck, walked.
-/
import Derived.Test.YtbaakhpmfljgnaaGreatDoorLinkAckS
import Derived.Test.YtbaakhpmfljgnaaGreatDoorLinkMark
import Derived.Test.YtbaakhpmfljgnaaGreatDoorLinkOpen
import Derived.Deep.RegionHeld3
namespace Go.Proofs.YtbaakhpmfljgnaaGreatDoor
open Go.RowKit Go.Joins

set_option maxRecDepth 100000

theorem lboxTwoA {W : World} {b b' : Nat} {l : Lk} {ov sv ov' sv' : Value} {t t' : TypeId} {fz fz' : Nat × Nat} (h : W.heap[b]? = some (.cells (l.row ov sv) t fz)) (h' : W.heap[b']? = some (.cells (l.row ov' sv') t' fz')) : W.cell? ⟨b, 0, none⟩ = some (.int .i64 l.id) ∧ W.cell? ⟨b, 1, none⟩ = some (.int .i64 l.next) ∧ W.cell? ⟨b, 2, none⟩ = some ov ∧ W.cell? ⟨b, 3, none⟩ = some sv ∧ W.cell? ⟨b', 0, none⟩ = some (.int .i64 l.id) ∧ W.cell? ⟨b', 1, none⟩ = some (.int .i64 l.next) ∧ W.cell? ⟨b', 2, none⟩ = some ov' ∧ W.cell? ⟨b', 3, none⟩ = some sv' :=
  ⟨(lbox h).1, (lbox h).2.1, (lbox h).2.2.1, (lbox h).2.2.2, (lbox h').1, (lbox h').2.1, (lbox h').2.2.1, (lbox h').2.2.2⟩
theorem bulkO_filter (p : Sn → Bool) (es : List Sn) : bulkO (es.filter p) ≤ bulkO es := by
  unfold bulkO preO
  rw [List.take_length, List.take_length]
  induction es with
  | nil => simp
  | cons a r ih =>
    rw [List.filter_cons]
    cases p a <;> simp <;> omega
theorem ack_bulk (l : Lk) (frm seq : Int) : (l.ack frm seq).bulk ≤ l.bulk := by
  unfold Lk.ack
  cases l.ok with
  | false => exact Nat.le_refl _
  | true =>
    have := bulkO_filter (keepA frm seq) l.out
    simp only [if_true, Lk.bulk]
    omega
/-- What the walk holds of a world: its argument's box, the specification's answer and its box, the boxes of the copy and of the program's answer. -/
structure AkSt (w W : World) (l m : Lk) (oa sa : Option Addr) (oc sc B1 wbx bx gbx : Nat) (wov wsv : Value) (wrs : List (Se × Value)) (xov xsv gov gsv : Value) : Prop where
  base : Below w.heap.size w W
  abox : W.heap[w.heap.size]? = some (.cells (l.row (.slice oa l.out.length oc) (.slice sa l.seen.length sc)) 25)
  wown : LkOwn W B1 (.agg #[.int .i64 m.id, .int .i64 m.next, wov, wsv]) m wov wsv wrs
  wlt : ∀ b, LkBlk wov wsv wrs b → b < wbx
  wbox : W.heap[wbx]? = some (.cells (m.row wov wsv) 36)
  xbox : W.heap[bx]? = some (.cells (l.row xov xsv) 36)
  gbox : W.heap[gbx]? = some (.cells (m.row gov gsv) 36)
  ord : w.heap.size < B1 ∧ B1 ≤ wbx ∧ wbx < bx ∧ bx < gbx ∧ gbx < W.heap.size
theorem AkSt.below {w W W' : World} {l m : Lk} {oa sa : Option Addr} {oc sc B1 wbx bx gbx : Nat} {wov wsv : Value} {wrs : List (Se × Value)} {xov xsv gov gsv : Value} (h : AkSt w W l m oa sa oc sc B1 wbx bx gbx wov wsv wrs xov xsv gov gsv) (hb : Below W.heap.size W W') : AkSt w W' l m oa sa oc sc B1 wbx bx gbx wov wsv wrs xov xsv gov gsv :=
  ⟨h.base.trans (hb.mono h.base.size), (hb.block _ (lt_heap h.abox)).trans h.abox, h.wown.below hb, h.wlt, (hb.block _ (lt_heap h.wbox)).trans h.wbox, (hb.block _ (lt_heap h.xbox)).trans h.xbox, (hb.block _ (lt_heap h.gbox)).trans h.gbox, ⟨h.ord.1, h.ord.2.1, h.ord.2.2.1, h.ord.2.2.2.1, Nat.lt_of_lt_of_le h.ord.2.2.2.2 hb.size⟩⟩
/-- A change in blocks of the copy or of the answer alone. -/
theorem AkSt.kept {X : Nat → Prop} {w W W' : World} {l m : Lk} {oa sa : Option Addr} {oc sc B1 wbx bx gbx : Nat} {wov wsv : Value} {wrs : List (Se × Value)} {xov xsv gov gsv : Value} (h : AkSt w W l m oa sa oc sc B1 wbx bx gbx wov wsv wrs xov xsv gov gsv) (hb : KB X W W') (hX : ∀ k, X k → wbx < k ∧ k ≠ bx ∧ k ≠ gbx) : AkSt w W' l m oa sa oc sc B1 wbx bx gbx wov wsv wrs xov xsv gov gsv :=
  ⟨h.base.trans (hb.below (fun k hk => by have := hX k hk; have := h.ord; omega) h.base.size), hb.heap h.abox (fun hx => by have := hX _ hx; have := h.ord; omega), h.wown.kept hb (fun b hb' hx => by have := hX _ hx; have := h.wlt b hb'; omega), h.wlt,
   hb.heap h.wbox (fun hx => by have := hX _ hx; omega), hb.heap h.xbox (fun hx => (hX _ hx).2.1 rfl), hb.heap h.gbox (fun hx => (hX _ hx).2.2 rfl), ⟨h.ord.1, h.ord.2.1, h.ord.2.2.1, h.ord.2.2.2.1, Nat.lt_of_lt_of_le h.ord.2.2.2.2 hb.size⟩⟩

set_option maxHeartbeats 3200000 in
theorem linkAck_walk (v : Value) (l : Lk) (frm seq : Int) (S : Nat → Prop) (w : World) (h : LkAt w S v l) (hg : ET w) :
    Calls Tryz.prog 5 #[v, .int .i64 frm, .int .i64 seq] w fun e w' => e = .returned (.bool true) ∧ Below w.heap.size w w' := by
  have hnot := ex_not
  obtain ⟨oa, oc, sa, sc, rfl, -, -⟩ := h.form
  obtain ⟨W0, hW0⟩ : ∃ W0, W0 = w.alloc (.cells (l.row (.slice oa l.out.length oc) (.slice sa l.seen.length sc)) 25) := ⟨_, rfl⟩
  have B0 : Below w.heap.size w W0 := by rw [hW0]; exact (Below.refl _ w).alloc (Nat.le_refl _) _
  have O0 : W0.heap[w.heap.size]? = some (.cells (l.row (.slice oa l.out.length oc) (.slice sa l.seen.length sc)) 25) := by rw [hW0]; exact (MapKept.heap_alloc w _).1
  have hs0 : w.heap.size + 1 ≤ W0.heap.size := lt_heap O0
  have H0 := (show Hid (_ ∧ _ ∧ _ ∧ _) from ⟨szLink_any _ l S W0 (h.below B0), B0, O0, hW0⟩)
  have HL := (show Hid (_ ∧ _) from ⟨h, hg⟩)
  clear B0 O0 hg hW0 h
  go_enter Tryz.func5, Tryz.ntmps5
  go_wp2_with fail
  rw [← (show W0 = _ from H0.out.2.2.2)]
  refine H0.out.1.mono ?_
  rintro e w1 ⟨rfl, b1⟩
  have hs1 : W0.heap.size ≤ w1.heap.size := b1.size
  have H1 := (show Hid (_ ∧ _) from ⟨H0.out.2.1.trans (b1.mono (by omega)), (b1.block _ (lt_heap H0.out.2.2.1)).trans H0.out.2.2.1⟩)
  clear b1 H0
  by_cases hb : l.bulk ≤ 1048576
  case neg =>
    have hr : szR 1048576 l.bulk = -1 := by unfold szR; rw [if_neg (by omega)]
    rw [hr]
    clear hr
    go_wp2
    all_goals (go_ret; exact ⟨rfl, H1.out.1⟩)
  have hr : szR 1048576 l.bulk = 1048576 - (l.bulk : Int) := by unfold szR; rw [if_pos (by omega)]
  rw [hr]
  have hpos : ¬ (1048576 : Int) - (l.bulk : Int) < 0 := by omega
  clear hr
  have HC := (show Hid (_ ∧ _) from ⟨fun (v : Value) (T : Nat → Prop) (wx : World) (h : LkAt wx T v l) => specLinkAck_any v l frm seq T wx h hb, fun (v : Value) (T : Nat → Prop) (wx : World) (h : LkAt wx T v l) (hg : ET wx) => implLinkAck_any v l frm seq T wx h hb hg⟩)
  have hmb : (l.ack frm seq).bulk ≤ 1048576 := Nat.le_trans (ack_bulk l frm seq) hb
  generalize l.ack frm seq = m at *
  obtain ⟨q0, q1, q2, q3⟩ := lbox H1.out.2
  go_wp2_with fail
  clear q0 q1 q2 q3
  refine (toLink_any _ l S w1 (HL.out.1.below H1.out.1) hb).mono ?_
  rintro e w2 ⟨v2, ov2, sv2, rs2, rfl, A2, b2⟩
  obtain ⟨oa2, oc2, sa2, sc2, rfl, -, -⟩ := A2.at.form
  have hs2 : w1.heap.size ≤ w2.heap.size := b2.size
  have H2 := (show Hid (_ ∧ _ ∧ _) from ⟨H1.out.1.trans (b2.mono (by omega)), (b2.block _ (lt_heap H1.out.2)).trans H1.out.2, A2.at⟩)
  clear b2 A2 H1
  go_wp2_with fail
  refine (HC.out.1 _ _ w2 H2.out.2.2).mono ?_
  rintro e w3 ⟨v3, ov3, sv3, rs3, rfl, A3, b3⟩
  have hv3 := A3.val
  obtain ⟨oa3, oc3, hov3⟩ := own_form A3.out.1
  have hrl3 : rs3.length = m.seen.length := by rw [← A3.is]; simp
  obtain ⟨n3, sa3, sc3, hn3, hsv3⟩ := own_formN A3.seen.cells
  obtain rfl : n3 = m.seen.length := by omega
  subst hov3 hsv3 hv3
  have hs3 : w2.heap.size ≤ w3.heap.size := b3.size
  obtain ⟨W3, hW3⟩ : ∃ W3, W3 = w3.alloc (.cells (m.row (.slice oa3 m.out.length oc3) (.slice sa3 m.seen.length sc3)) 36) := ⟨_, rfl⟩
  have bW3 : Below w3.heap.size w3 W3 := by rw [hW3]; exact (Below.refl _ w3).alloc (Nat.le_refl _) _
  have M3 : W3.heap[w3.heap.size]? = some (.cells (m.row (.slice oa3 m.out.length oc3) (.slice sa3 m.seen.length sc3)) 36) := by rw [hW3]; exact (MapKept.heap_alloc w3 _).1
  have hs3' : w3.heap.size + 1 ≤ W3.heap.size := lt_heap M3
  have b3' : Below w2.heap.size w2 W3 := b3.trans (bW3.mono (by omega))
  have H3 := (show Hid (_ ∧ _ ∧ _ ∧ _ ∧ _ ∧ _) from ⟨H2.out.1.trans (b3'.mono (by omega)), (b3'.block _ (lt_heap H2.out.2.1)).trans H2.out.2.1, A3.below bW3, M3, (fun (b : Nat) (hb : LkBlk (.slice oa3 m.out.length oc3) (.slice sa3 m.seen.length sc3) rs3 b) => (A3.own hb).2), hW3⟩)
  obtain ⟨q0, q1, q2, q3⟩ := lbox ((b3.block _ (lt_heap H2.out.2.1)).trans H2.out.2.1)
  have hlt03 : w.heap.size < w3.heap.size := by omega
  clear b3 A3 bW3 M3 b3' hW3 H2 hrl3 hn3
  go_wp2_with fail
  clear q0 q1 q2 q3
  rw [← (show W3 = _ from H3.out.2.2.2.2.2)]
  refine (toLink_any _ l S W3 (HL.out.1.below H3.out.1) hb).mono ?_
  rintro e w4 ⟨v4, ov4, sv4, rs4, rfl, A4, b4⟩
  have hv4 := A4.val
  obtain ⟨oa4, oc4, hov4⟩ := own_form A4.out.1
  have hrl4 : rs4.length = l.seen.length := by rw [← A4.is]; simp
  obtain ⟨n4, sa4, sc4, hn4, hsv4⟩ := own_formN A4.seen.cells
  obtain rfl : n4 = l.seen.length := by omega
  subst hov4 hsv4 hv4
  have hs4 : W3.heap.size ≤ w4.heap.size := b4.size
  obtain ⟨W4, hW4⟩ : ∃ W4, W4 = w4.alloc (.cells (l.row (.slice oa4 l.out.length oc4) (.slice sa4 l.seen.length sc4)) 36) := ⟨_, rfl⟩
  have bW4 : Below w4.heap.size w4 W4 := by rw [hW4]; exact (Below.refl _ w4).alloc (Nat.le_refl _) _
  have M4 : W4.heap[w4.heap.size]? = some (.cells (l.row (.slice oa4 l.out.length oc4) (.slice sa4 l.seen.length sc4)) 36) := by rw [hW4]; exact (MapKept.heap_alloc w4 _).1
  have hs4' : w4.heap.size + 1 ≤ W4.heap.size := lt_heap M4
  have b4' : Below W3.heap.size W3 W4 := b4.trans (bW4.mono (by omega))
  have H4 := (show Hid (_ ∧ _ ∧ _ ∧ _ ∧ _ ∧ _ ∧ _ ∧ _ ∧ _) from ⟨H3.out.1.trans (b4'.mono (by omega)), (b4'.block _ (lt_heap H3.out.2.1)).trans H3.out.2.1, H3.out.2.2.1.below b4', (b4'.block _ (lt_heap H3.out.2.2.2.1)).trans H3.out.2.2.2.1, H3.out.2.2.2.2.1, A4.below bW4, M4, (fun (b : Nat) (hb : LkBlk (.slice oa4 l.out.length oc4) (.slice sa4 l.seen.length sc4) rs4 b) => A4.own hb), hW4⟩)
  clear b4 A4 bW4 M4 b4' hW4 H3 hrl4 hn4
  go_wp2_with fail
  rw [← (show W4 = _ from H4.out.2.2.2.2.2.2.2.2)]
  refine (HC.out.2 _ _ W4 H4.out.2.2.2.2.2.1.at (HL.out.2.below H4.out.1)).mono ?_
  rintro e w5 ⟨v5, ov5, sv5, rs5, rfl, A5, b5⟩
  have hv5 := A5.val
  obtain ⟨oa5, oc5, hov5⟩ := own_form A5.out.1
  have hrl5 : rs5.length = m.seen.length := by rw [← A5.is]; simp
  obtain ⟨n5, sa5, sc5, hn5, hsv5⟩ := own_formN A5.seen.cells
  obtain rfl : n5 = m.seen.length := by omega
  subst hov5 hsv5 hv5
  have hs5 : W4.heap.size ≤ w5.heap.size := b5.size
  obtain ⟨W5, hW5⟩ : ∃ W5, W5 = w5.alloc (.cells (m.row (.slice oa5 m.out.length oc5) (.slice sa5 m.seen.length sc5)) 36) := ⟨_, rfl⟩
  have bW5 : Below w5.heap.size w5 W5 := by rw [hW5]; exact (Below.refl _ w5).alloc (Nat.le_refl _) _
  have M5 : W5.heap[w5.heap.size]? = some (.cells (m.row (.slice oa5 m.out.length oc5) (.slice sa5 m.seen.length sc5)) 36) := by rw [hW5]; exact (MapKept.heap_alloc w5 _).1
  have hs5' : w5.heap.size + 1 ≤ W5.heap.size := lt_heap M5
  have b5' : Below W4.heap.size W4 W5 := b5.trans (bW5.mono (by omega))
  have st5 : AkSt w W5 l m oa sa oc sc w2.heap.size w3.heap.size w4.heap.size w5.heap.size (.slice oa3 m.out.length oc3) (.slice sa3 m.seen.length sc3) rs3 (.slice oa4 l.out.length oc4) (.slice sa4 l.seen.length sc4) (.slice oa5 m.out.length oc5) (.slice sa5 m.seen.length sc5) :=
    ⟨H4.out.1.trans (b5'.mono (by omega)), (b5'.block _ (lt_heap H4.out.2.1)).trans H4.out.2.1, H4.out.2.2.1.below b5', H4.out.2.2.2.2.1, (b5'.block _ (lt_heap H4.out.2.2.2.1)).trans H4.out.2.2.2.1, (b5'.block _ (lt_heap H4.out.2.2.2.2.2.2.1)).trans H4.out.2.2.2.2.2.2.1, M5, ⟨by omega, by omega, by omega, by omega, by omega⟩⟩
  have hX4 := (fun (b : Nat) (hb : LkBlk (.slice oa4 l.out.length oc4) (.slice sa4 l.seen.length sc4) rs4 b) => H4.out.2.2.2.2.2.2.2.1 b hb)
  have hX5 := (fun (b : Nat) (hb : LkBlk (.slice oa5 m.out.length oc5) (.slice sa5 m.seen.length sc5) rs5 b) => A5.own hb)
  have H5 := (show Hid (_ ∧ _ ∧ _ ∧ _) from ⟨st5, H4.out.2.2.2.2.2.1.below b5', A5.below bW5, hW5⟩)
  have HB := (show Hid (_ ∧ _) from ⟨hX4, hX5⟩)
  obtain ⟨y0, y1, y2, y3⟩ := lbox ((b5.block _ (lt_heap H4.out.2.2.2.1)).trans H4.out.2.2.2.1)
  have hlt35 : w3.heap.size < w5.heap.size := by omega
  clear b5 A5 bW5 M5 b5' hW5 H4 hrl5 hn5 st5 hX4 hX5
  go_wp2_with fail
  clear y0 y1 y2 y3
  rw [← (show W5 = _ from H5.out.2.2.2)]
  refine (eqLink_any _ _ m _ _ W5 H5.out.2.2.1.at H5.out.1.wown.at (by omega)).mono ?_
  rintro e w6 ⟨rfl, b6⟩
  have H6 := (show Hid (_ ∧ _ ∧ _) from ⟨H5.out.1.below b6, H5.out.2.1.below b6, H5.out.2.2.1.below b6⟩)
  clear b6 H5
  obtain ⟨q0, q1, q2, q3⟩ := lbox H6.out.1.abox
  obtain ⟨p0, p1, p2, p3⟩ := lbox H6.out.1.xbox
  go_wp2_with fail
  clear q0 q1 q2 q3 p0 p1 p2 p3
  have hd : Below w6.heap.size w6 w6.drew := (Below.refl _ _).drew
  have H7 := (show Hid (_ ∧ _ ∧ _) from ⟨H6.out.1.below hd, H6.out.2.1.below hd, H6.out.2.2.below hd⟩)
  clear hd H6
  go_region_held3 (fun w' => w'.cell? ⟨w4.heap.size, 0, none⟩ = some (.int .i64 l.id) ∧ w'.cell? ⟨w4.heap.size, 1, none⟩ = some (.int .i64 l.next) ∧ w'.cell? ⟨w4.heap.size, 2, none⟩ = some (.slice oa4 l.out.length oc4) ∧ w'.cell? ⟨w4.heap.size, 3, none⟩ = some (.slice sa4 l.seen.length sc4) ∧ w'.cell? ⟨w.heap.size, 0, none⟩ = some (.int .i64 l.id) ∧ w'.cell? ⟨w.heap.size, 1, none⟩ = some (.int .i64 l.next) ∧ w'.cell? ⟨w.heap.size, 2, none⟩ = some (.slice oa l.out.length oc) ∧ w'.cell? ⟨w.heap.size, 3, none⟩ = some (.slice sa l.seen.length sc)) (first | exact lboxTwoA H9.out.1.xbox H9.out.1.abox | exact lboxTwoA H8.out.1.xbox H8.out.1.abox | exact lboxTwoA H7.out.1.xbox H7.out.1.abox) (first
    | (go_at_call 10; refine (toLink_any _ l S _ (HL.out.1.below H7.out.1.base) hb).mono ?_; rintro e w8 ⟨v8, ov8, sv8, rs8, rfl, A8, b8⟩; have H8 := (show Hid (_ ∧ _ ∧ _ ∧ _) from ⟨H7.out.1.below b8, H7.out.2.1.below b8, H7.out.2.2.below b8, A8.at⟩); obtain ⟨oa8, oc8, sa8, sc8, rfl, -, -⟩ := A8.at.form; clear A8 b8 H7)
    | (go_at_call 13; refine (eqLink_any _ _ l _ _ _ H8.out.2.1.at H8.out.2.2.2 (by omega)).mono ?_; rintro e w9 ⟨rfl, b9⟩; have H9 := (show Hid (_ ∧ _ ∧ _) from ⟨H8.out.1.below b9, H8.out.2.1.below b9, H8.out.2.2.1.below b9⟩); clear b9 H8))
  obtain ⟨p0, p1, p2, p3⟩ := lbox H9.out.1.xbox
  have hbb := (show l.bulk = bulkO l.out + bulkN l.seen from rfl)
  have hbo := (show bulkO l.out = l.out.length + preO l.out l.out.length from rfl)
  have hmk : (0 : Int) ≤ mkE 1 l ∧ mkE 1 l ≤ 90000000 := by unfold mkE; omega
  have hmbb := (show m.bulk = bulkO m.out + bulkN m.seen from rfl)
  have hmbo := (show bulkO m.out = m.out.length + preO m.out m.out.length from rfl)
  have hmm : (0 : Int) ≤ mkE 1 m ∧ mkE 1 m ≤ 90000000 := by unfold mkE; omega
  go_wp2_with fail
  clear p0 p1 p2 p3
  refine (markLink_any _ _ l _ _ rs4 1 w9 (by omega) (by omega) (by omega) H9.out.2.1).mono ?_
  rintro e w10 ⟨rfl, -, k10⟩
  have ord9 := H9.out.1.ord
  have H10 := (show Hid (_ ∧ _) from ⟨H9.out.1.kept k10 (fun k hk => by have := HB.out.1 k hk; omega), H9.out.2.2.kept k10 (fun b hb hx => by have h1 := HB.out.1 b hx; have h2 := HB.out.2 b hb; omega)⟩)
  clear k10 H9 ord9
  have hmn : ¬ mkE 1 l < 0 := by omega
  generalize mkE 1 l = km at *
  obtain ⟨p0, p1, p2, p3⟩ := lbox H10.out.1.wbox
  obtain ⟨q0, q1, q2, q3⟩ := lbox H10.out.1.gbox
  go_wp2_with fail
  clear p0 p1 p2 p3 q0 q1 q2 q3
  refine (eqLink_any _ _ m _ _ w10 H10.out.2.at H10.out.1.wown.at (by omega)).mono ?_
  rintro e w11 ⟨rfl, b11⟩
  have H11 := (show Hid (_ ∧ _) from ⟨H10.out.1.below b11, H10.out.2.below b11⟩)
  clear b11 H10
  obtain ⟨q0, q1, q2, q3⟩ := lbox H11.out.1.gbox
  go_wp2_with fail
  clear q0 q1 q2 q3
  refine (markLink_any _ _ m _ _ rs5 1 w11 (by decide) (by decide) (by omega) H11.out.2).mono ?_
  rintro e w12 ⟨rfl, m12, k12⟩
  have ord11 := H11.out.1.ord
  have H12 := (show Hid (_ ∧ _ ∧ _) from ⟨H11.out.1.kept k12 (fun k hk => by have := HB.out.2 k hk; omega), m12, H11.out.2.is⟩)
  clear m12 k12 H11 ord11
  have hq0 : ¬ mkE 1 m < 0 := by omega
  have hqq : (mkE 1 m != mkE 1 m) = false := by simp
  have HK := (show Hid (_ ∧ True) from ⟨fun (wx : World) (h : MkL wx W4.heap.size m (.slice oa5 m.out.length oc5) (.slice sa5 m.seen.length sc5) rs5 1) => heldLink_any W4.heap.size _ m _ _ rs5 1 wx (by decide) (by decide) (by omega) h H12.out.2.2 rfl, trivial⟩)
  generalize mkE 1 m = kq at *
  obtain ⟨q0, q1, q2, q3⟩ := lbox H12.out.1.gbox
  go_wp2_with fail
  clear q0 q1 q2 q3
  refine (HK.out.1 w12 H12.out.2.1).mono ?_
  rintro e w13 ⟨rfl, b13⟩
  have H13 := (show Hid (_ ∧ _) from ⟨H12.out.1.below b13, H12.out.2.1.below b13⟩)
  clear b13 H12
  obtain ⟨q0, q1, q2, q3⟩ := lbox H13.out.1.abox
  go_wp2_with fail
  clear q0 q1 q2 q3
  refine (toLink_any _ l S w13 (HL.out.1.below H13.out.1.base) hb).mono ?_
  rintro e w14 ⟨v14, ov14, sv14, rs14, rfl, A14, b14⟩
  obtain ⟨oa14, oc14, sa14, sc14, rfl, -, -⟩ := A14.at.form
  have H14 := (show Hid (_ ∧ _ ∧ _) from ⟨H13.out.1.below b14, H13.out.2.below b14, A14.at⟩)
  clear b14 A14 H13
  go_wp2_with fail
  refine (HC.out.2 _ _ w14 H14.out.2.2 (HL.out.2.below H14.out.1.base)).mono ?_
  rintro e w15 ⟨v15, ov15, sv15, rs15, rfl, A15, b15⟩
  obtain ⟨oa15, oc15, sa15, sc15, rfl, -, -⟩ := A15.at.form
  obtain ⟨W15, hW15⟩ : ∃ W15, W15 = w15.alloc (.cells (m.row (.slice oa15 m.out.length oc15) (.slice sa15 m.seen.length sc15)) 36) := ⟨_, rfl⟩
  have bW15 : Below w15.heap.size w15 W15 := by rw [hW15]; exact (Below.refl _ w15).alloc (Nat.le_refl _) _
  have b15' : Below w14.heap.size w14 W15 := b15.trans (bW15.mono b15.size)
  have H15 := (show Hid (_ ∧ _ ∧ _ ∧ _) from ⟨H14.out.1.below b15', H14.out.2.1.below b15', A15.at.below bW15, hW15⟩)
  obtain ⟨y0, y1, y2, y3⟩ := lbox ((b15.block _ (lt_heap H14.out.1.wbox)).trans H14.out.1.wbox)
  have hlt15 : w3.heap.size < w15.heap.size := Nat.lt_of_lt_of_le (lt_heap H14.out.1.wbox) b15.size
  clear A15 b15 bW15 b15' hW15 H14
  go_wp2_with fail
  clear y0 y1 y2 y3
  rw [← (show W15 = _ from H15.out.2.2.2)]
  refine (eqLink_any _ _ m _ _ W15 H15.out.2.2.1 H15.out.1.wown.at (by omega)).mono ?_
  rintro e w16 ⟨rfl, b16⟩
  have H16 := (show Hid (_ ∧ _) from ⟨H15.out.1.below b16, H15.out.2.1.below b16⟩)
  clear b16 H15
  obtain ⟨q0, q1, q2, q3⟩ := lbox H16.out.1.gbox
  go_wp2_with fail
  clear q0 q1 q2 q3
  refine (HK.out.1 w16 H16.out.2).mono ?_
  rintro e w17 ⟨rfl, b17⟩
  have H17 := (show Hid (_ ∧ True) from ⟨H16.out.1.below b17, trivial⟩)
  clear b17 H16
  go_wp2
  go_ret
  exact ⟨rfl, H17.out.1.base⟩
end Go.Proofs.YtbaakhpmfljgnaaGreatDoor
