/-
  The law of LinkTake, walked.
-/
import Derived.Test.YtnehfjnanffjeaaGreatDoorLinkTakeP
import Derived.Test.YtnehfjnanffjeaaGreatDoorLinkTop
import Derived.Test.YtnehfjnanffjeaaGreatDoorNC
import Derived.Test.YtnehfjnanffjeaaGreatDoorLinkMark
import Derived.Deep.RegionHeld3
namespace Go.Proofs.YtnehfjnanffjeaaGreatDoor
open Go.RowKit Go.Joins Go.Shelf

set_option maxRecDepth 100000

theorem ent_toLink : ∀ args w, (callFunc 8 args).run Tryz.prog w = .ok (.enter 8 args) w := enters_of Tryz.func8 (by kernel_rfl) rfl
theorem ent_toPack : ∀ args w, (callFunc 18 args).run Tryz.prog w = .ok (.enter 18 args) w := enters_of Tryz.func18 (by kernel_rfl) rfl
theorem ent_specTake : ∀ args w, (callFunc 17 args).run Tryz.prog w = .ok (.enter 17 args) w := enters_of Tryz.func17 (by kernel_rfl) rfl
theorem ent_implTake : ∀ args w, (callFunc 19 args).run Tryz.prog w = .ok (.enter 19 args) w := enters_of Tryz.func19 (by kernel_rfl) rfl
theorem LkOwn.mono {W : World} {B B' : Nat} {v : Value} {l : Lk} {ov sv : Value} {rs : List (Se × Value)} (hO : LkOwn W B v l ov sv rs) (hB : B' ≤ B) : LkOwn W B' v l ov sv rs :=
  ⟨hO.val, hO.fits, ⟨own_mono hO.out.1 hB, hO.out.2⟩, ⟨own_mono hO.seen.cells hB, fun r hr => ⟨own_mono (hO.seen.kids r hr).1 hB, (hO.seen.kids r hr).2⟩, hO.seen.apart⟩, hO.is⟩
/-- A box is filled: what lies elsewhere is as it was. -/
theorem box_set4 {W : World} {B zb : Nat} {v : Value} {l : Lk} {ov sv : Value} {rs : List (Se × Value)} (hO : LkOwn W B v l ov sv rs) (ha : ∀ b, LkBlk ov sv rs b → b ≠ zb) {o : Obj} (_hz : W.heap[zb]? = some o) {a b c d : Value} :
    LkOwn ((((W.setCell ⟨zb, 0, none⟩ a).setCell ⟨zb, 1, none⟩ b).setCell ⟨zb, 2, none⟩ c).setCell ⟨zb, 3, none⟩ d) B v l ov sv rs := by
  refine hO.moved (fun q hq => ?_)
  have hn := ha q hq
  rw [Below.heap_setCell _ _ _ _ hn, Below.heap_setCell _ _ _ _ hn, Below.heap_setCell _ _ _ _ hn, Below.heap_setCell _ _ _ _ hn]
theorem box_row {W : World} {zb : Nat} {t : TypeId} {a b c d a' b' c' d' : Value} (hz : W.heap[zb]? = some (.cells #[a', b', c', d'] t)) :
    ((((W.setCell ⟨zb, 0, none⟩ a).setCell ⟨zb, 1, none⟩ b).setCell ⟨zb, 2, none⟩ c).setCell ⟨zb, 3, none⟩ d).heap[zb]? = some (.cells #[a, b, c, d] t) :=
  block_setCell (i := 3) (block_setCell (i := 2) (block_setCell (i := 1) (block_setCell (i := 0) hz _) _) _) _
theorem sum_set {es : List Se} {f : Nat} {x : Se} (h : es[f]? = some x) (y : Se) : bulkN (es.set f y) + x.ids.length = bulkN es + y.ids.length := by
  have hf := (List.getElem?_eq_some_iff.1 h).1
  have he : es = es.take f ++ x :: es.drop (f + 1) := by
    conv => lhs; rw [← List.take_append_drop f es, List.drop_eq_getElem_cons hf, (List.getElem?_eq_some_iff.1 h).2]
  have hl : (es.take f).length = f := by rw [List.length_take]; omega
  generalize es.take f = a at he hl
  generalize es.drop (f + 1) = b at he
  subst he
  have hs : (a ++ x :: b).set f y = a ++ y :: b := by rw [← hl, List.set_append_right _ _ (Nat.le_refl _), Nat.sub_self]; rfl
  rw [hs]
  unfold bulkN preN
  rw [List.take_length, List.take_length]
  simp [Se.bulk]
  omega
theorem take_bulk {l : Lk} {p : Pa} (hb : l.bulk ≤ 1048576) : (l.take p).bulk ≤ 1048577 := by
  unfold Lk.take
  cases ht : l.takes p with
  | false => simp; omega
  | true =>
    have hp : p.ok = true := by unfold Lk.takes at ht; simp only [Bool.and_eq_true] at ht; exact ht.1.1.1.2
    have hfl : p.frm < l.seen.length := by unfold Lk.takes at ht; simp only [Bool.and_eq_true, decide_eq_true_eq] at ht; exact ht.2
    have h0 : 0 ≤ p.frm := by
      have h1 := hp
      unfold Pa.ok apartB nodeOk inB at h1
      simp only [Bool.and_eq_true, decide_eq_true_eq] at h1
      omega
    have hlt : p.frm.toNat < l.seen.length := by omega
    have hx := List.getElem?_eq_getElem hlt
    obtain ⟨x, hxx⟩ : ∃ x, x = l.seen[p.frm.toNat] := ⟨_, rfl⟩
    rw [← hxx] at hx
    have hsy : l.seenOf p = x.lift p.low := by unfold Lk.seenOf; rw [List.getD, hx]; rfl
    have hle : (x.lift p.low).ids.length ≤ x.ids.length := List.length_filter_le _ _
    have hb' : bulkO l.out + bulkN l.seen ≤ 1048576 := hb
    have e1 : ∀ y : Se, (l.setSe p.frm.toNat y).bulk + x.ids.length = l.bulk + y.ids.length := fun y => by
      have := sum_set hx y
      show bulkO l.out + bulkN (l.seen.set p.frm.toNat y) + _ = bulkO l.out + bulkN l.seen + _
      omega
    rw [if_pos rfl, hsy]
    split
    · have := e1 (x.lift p.low); omega
    · have h2 : ((x.lift p.low).put p.seq).ids.length = (x.lift p.low).ids.length + 1 := by
        have : placeL (x.lift p.low).ids p.seq ≤ (x.lift p.low).ids.length := by unfold placeL; exact (List.takeWhile_sublist _).length_le
        unfold Se.put
        simp
        omega
      have := e1 ((x.lift p.low).put p.seq); omega
set_option maxHeartbeats 800000 in
theorem szPackL_any (p : Pa) (left : Int) (w : World) (hs : p.body.size ≤ maxLen) (h0 : 0 ≤ left) (h1 : left ≤ 1048576) :
    Calls Tryz.prog 16 #[.agg p.row, .int .i64 left] w fun e w' => e = .returned (.int .i64 (szR left p.body.size)) ∧ Below w.heap.size w w' := by
  unfold maxLen at hs
  have B0 : Hid (∀ o : Obj, Below w.heap.size w (w.alloc o)) := fun o => (Below.refl _ w).alloc (Nat.le_refl _) o
  have hw : IntKind.i64.wrap (left - (p.body.size : Int)) = left - (p.body.size : Int) := by rw [IntKind.wrap_i64]; omega
  unfold szR
  by_cases h : (p.body.size : Int) ≤ left
  · rw [if_pos h]
    have h' : ¬ left - (p.body.size : Int) < 0 := by omega
    go_enter Tryz.func16, Tryz.ntmps16
    go_wp2
    go_ret
    exact ⟨rfl, B0.out _⟩
  · rw [if_neg h]
    have h' : left - (p.body.size : Int) < 0 := by omega
    go_enter Tryz.func16, Tryz.ntmps16
    go_wp2
    all_goals (go_ret; exact ⟨rfl, B0.out _⟩)
theorem lpbox {W : World} {b b' : Nat} {l : Lk} {p : Pa} {ov sv : Value} {t t' : TypeId} (h : W.heap[b]? = some (.cells (l.row ov sv) t)) (h' : W.heap[b']? = some (.cells p.row t')) : W.cell? ⟨b, 0, none⟩ = some (.int .i64 l.id) ∧ W.cell? ⟨b, 1, none⟩ = some (.int .i64 l.next) ∧ W.cell? ⟨b, 2, none⟩ = some ov ∧ W.cell? ⟨b, 3, none⟩ = some sv ∧ W.cell? ⟨b', 0, none⟩ = some (.int .i64 p.kind) ∧ W.cell? ⟨b', 1, none⟩ = some (.int .i64 p.frm) ∧ W.cell? ⟨b', 2, none⟩ = some (.int .i64 p.dst) ∧ W.cell? ⟨b', 3, none⟩ = some (.int .i64 p.seq) ∧ W.cell? ⟨b', 4, none⟩ = some (.int .i64 p.low) ∧ W.cell? ⟨b', 5, none⟩ = some (.string p.body) := by
  obtain ⟨h0, h1, h2, h3⟩ := lbox h
  exact ⟨h0, h1, h2, h3, (cell_of_block h' 0).trans rfl, (cell_of_block h' 1).trans rfl, (cell_of_block h' 2).trans rfl, (cell_of_block h' 3).trans rfl, (cell_of_block h' 4).trans rfl, (cell_of_block h' 5).trans rfl⟩
theorem llbox {W : World} {b b' : Nat} {l : Lk} {ov sv ov' sv' : Value} {t t' : TypeId} (h : W.heap[b]? = some (.cells (l.row ov sv) t)) (h' : W.heap[b']? = some (.cells (l.row ov' sv') t')) : W.cell? ⟨b, 0, none⟩ = some (.int .i64 l.id) ∧ W.cell? ⟨b, 1, none⟩ = some (.int .i64 l.next) ∧ W.cell? ⟨b, 2, none⟩ = some ov ∧ W.cell? ⟨b, 3, none⟩ = some sv ∧ W.cell? ⟨b', 0, none⟩ = some (.int .i64 l.id) ∧ W.cell? ⟨b', 1, none⟩ = some (.int .i64 l.next) ∧ W.cell? ⟨b', 2, none⟩ = some ov' ∧ W.cell? ⟨b', 3, none⟩ = some sv' := by
  obtain ⟨h0, h1, h2, h3⟩ := lbox h
  obtain ⟨y0, y1, y2, y3⟩ := lbox h'
  exact ⟨h0, h1, h2, h3, y0, y1, y2, y3⟩
/-- What the walk holds of a world: its arguments' boxes, the specification's answer and its box, the boxes of the copy and of the program's answer. -/
structure LtSt (w W : World) (l k : Lk) (p : Pa) (lov lsv : Value) (B1 wbx B2 bx gbx : Nat) (wov wsv : Value) (wrs : List (Se × Value)) (xov xsv gov gsv : Value) : Prop where
  base : Below w.heap.size w W
  abox : W.heap[w.heap.size]? = some (.cells (l.row lov lsv) 25)
  apbx : W.heap[w.heap.size + 1]? = some (.cells p.row 50)
  wown : LkOwn W B1 (.agg #[.int .i64 k.id, .int .i64 k.next, wov, wsv]) k wov wsv wrs
  wlt : ∀ b, LkBlk wov wsv wrs b → b < B2
  wbox : W.heap[wbx]? = some (.cells (k.row wov wsv) 36)
  xbox : W.heap[bx]? = some (.cells (l.row xov xsv) 36)
  gbox : W.heap[gbx]? = some (.cells (k.row gov gsv) 36)
  ord : w.heap.size + 1 < B1 ∧ B1 ≤ wbx ∧ wbx < B2 ∧ B2 ≤ bx ∧ bx < gbx ∧ gbx < W.heap.size
theorem LtSt.below {w W W' : World} {l k : Lk} {p : Pa} {lov lsv : Value} {B1 wbx B2 bx gbx : Nat} {wov wsv : Value} {wrs : List (Se × Value)} {xov xsv gov gsv : Value} (h : LtSt w W l k p lov lsv B1 wbx B2 bx gbx wov wsv wrs xov xsv gov gsv) (hb : Below W.heap.size W W') : LtSt w W' l k p lov lsv B1 wbx B2 bx gbx wov wsv wrs xov xsv gov gsv :=
  ⟨h.base.trans (hb.mono h.base.size), (hb.block _ (lt_heap h.abox)).trans h.abox, (hb.block _ (lt_heap h.apbx)).trans h.apbx, h.wown.below hb, h.wlt, (hb.block _ (lt_heap h.wbox)).trans h.wbox, (hb.block _ (lt_heap h.xbox)).trans h.xbox, (hb.block _ (lt_heap h.gbox)).trans h.gbox, by have := h.ord; have := hb.size; omega⟩
/-- A change in blocks of the copy or of the answer alone. -/
theorem LtSt.kept {X : Nat → Prop} {w W W' : World} {l k : Lk} {p : Pa} {lov lsv : Value} {B1 wbx B2 bx gbx : Nat} {wov wsv : Value} {wrs : List (Se × Value)} {xov xsv gov gsv : Value} (h : LtSt w W l k p lov lsv B1 wbx B2 bx gbx wov wsv wrs xov xsv gov gsv) (hb : KB X W W') (hX : ∀ k, X k → B2 ≤ k ∧ k ≠ bx ∧ k ≠ gbx) : LtSt w W' l k p lov lsv B1 wbx B2 bx gbx wov wsv wrs xov xsv gov gsv :=
  ⟨h.base.trans (hb.below (fun k hk => by have := hX k hk; have := h.ord; omega) h.base.size), hb.heap h.abox (fun hx => by have := hX _ hx; have := h.ord; omega), hb.heap h.apbx (fun hx => by have := hX _ hx; have := h.ord; omega), h.wown.kept hb (fun b hb' hx => by have := hX _ hx; have := h.wlt b hb'; omega), h.wlt,
   hb.heap h.wbox (fun hx => by have := hX _ hx; have := h.ord; omega), hb.heap h.xbox (fun hx => (hX _ hx).2.1 rfl), hb.heap h.gbox (fun hx => (hX _ hx).2.2 rfl), by have := h.ord; have := hb.size; omega⟩

set_option maxHeartbeats 3200000 in
theorem linkTake_walk (v : Value) (l : Lk) (p : Pa) (S : Nat → Prop) (a0 a2 a3 a4 : Addr) (w : World) (h : LkAt w S v l) (hps : p.body.size ≤ maxLen) (hpf : inI64 p.kind ∧ inI64 p.frm ∧ inI64 p.dst ∧ inI64 p.seq ∧ inI64 p.low) (hg : ET w) (he : EGT a0 a2 a3 a4 w) :
    Calls Tryz.prog 4 #[v, .agg p.row] w fun e w' => e = .returned (.bool true) ∧ Below w.heap.size w w' := by
  have hnot := ex_not
  obtain ⟨oa, oc, sa, sc, rfl, -, -⟩ := h.form
  obtain ⟨W0, hW0⟩ : ∃ W0, W0 = (w.alloc (.cells (l.row (.slice oa l.out.length oc) (.slice sa l.seen.length sc)) 25)).alloc (.cells p.row 50) := ⟨_, rfl⟩
  have B0 : Below w.heap.size w W0 := by rw [hW0]; exact ((Below.refl _ w).alloc (Nat.le_refl _) _).alloc (by simp) _
  have O0 : W0.heap[w.heap.size]? = some (.cells (l.row (.slice oa l.out.length oc) (.slice sa l.seen.length sc)) 25) := by
    rw [hW0, Below.heap_alloc _ _ _ (by simp)]; exact (MapKept.heap_alloc w _).1
  have O1 : W0.heap[w.heap.size + 1]? = some (.cells p.row 50) := by
    have := (MapKept.heap_alloc (w.alloc (.cells (l.row (.slice oa l.out.length oc) (.slice sa l.seen.length sc)) 25)) (.cells p.row 50)).1
    rw [hW0]
    simpa using this
  have hs0 : w.heap.size + 2 ≤ W0.heap.size := lt_heap O1
  have H0 := (show Hid (_ ∧ _ ∧ _ ∧ _ ∧ _) from ⟨szLink_any _ l S W0 (h.below B0), B0, O0, O1, hW0⟩)
  have HL := (show Hid (_ ∧ _ ∧ _) from ⟨h, hg, he⟩)
  clear B0 O0 O1 hg hW0 h he
  go_enter Tryz.func4, Tryz.ntmps4
  go_wp2_with fail
  rw [← (show W0 = _ from H0.out.2.2.2.2)]
  refine H0.out.1.mono ?_
  rintro e w1 ⟨rfl, b1⟩
  have hs1 : W0.heap.size ≤ w1.heap.size := b1.size
  have H1 := (show Hid (_ ∧ _ ∧ _) from ⟨H0.out.2.1.trans (b1.mono (by omega)), (b1.block _ (lt_heap H0.out.2.2.1)).trans H0.out.2.2.1, (b1.block _ (lt_heap H0.out.2.2.2.1)).trans H0.out.2.2.2.1⟩)
  clear b1 H0
  by_cases hb : l.bulk ≤ 1048576
  case neg =>
    have hr : szR 1048576 l.bulk = -1 := by unfold szR; rw [if_neg (by omega)]
    rw [hr]
    clear hr
    go_wp2
    all_goals (go_ret; exact ⟨rfl, H1.out.1⟩)
  have hr : szR 1048576 l.bulk = 1048576 - (l.bulk : Int) := by unfold szR; rw [if_pos (by omega)]
  rw [hr]
  have hpos : ¬ (1048576 : Int) - (l.bulk : Int) < 0 := by omega
  clear hr
  obtain ⟨y0, y1, y2, y3, y4, y5⟩ := pbox6 H1.out.2.2
  go_wp2_with fail
  clear y0 y1 y2 y3 y4 y5
  refine (szPackL_any p _ w1 hps (by omega) (by omega)).mono ?_
  rintro e w2 ⟨rfl, b2⟩
  have hs2 : w1.heap.size ≤ w2.heap.size := b2.size
  have H2 := (show Hid (_ ∧ _ ∧ _) from ⟨H1.out.1.trans (b2.mono (by omega)), (b2.block _ (lt_heap H1.out.2.1)).trans H1.out.2.1, (b2.block _ (lt_heap H1.out.2.2)).trans H1.out.2.2⟩)
  clear b2 H1
  by_cases hbm : p.body.size ≤ 1048576 - l.bulk
  case neg =>
    have hr : szR (1048576 - (l.bulk : Int)) p.body.size = -1 := by unfold szR; rw [if_neg (by omega)]
    rw [hr]
    clear hr
    go_wp2
    all_goals (go_ret; exact ⟨rfl, H2.out.1⟩)
  have hr : szR (1048576 - (l.bulk : Int)) p.body.size = 1048576 - (l.bulk : Int) - (p.body.size : Int) := by unfold szR; rw [if_pos (by omega)]
  rw [hr]
  have hpos2 : ¬ (1048576 : Int) - (l.bulk : Int) - (p.body.size : Int) < 0 := by omega
  clear hr
  have hbp : p.body.size ≤ 1048576 := by omega
  have HC := (show Hid (_ ∧ _) from ⟨fun (v : Value) (S : Nat → Prop) (wx : World) (h : LkAt wx S v l) => specLinkTake_any v l p S wx h hb hbp hpf, fun (v : Value) (S : Nat → Prop) (wx : World) (h : LkAt wx S v l) (hg : ET wx) (he : EGT a0 a2 a3 a4 wx) => implLinkTake_any v l p S a0 a2 a3 a4 wx h hb hbp hpf hg he⟩)
  have hkb : (l.take p).bulk ≤ 1048577 := take_bulk hb
  generalize l.take p = k at *
  generalize l.fresh p = gf at *
  generalize l.due p = gb at *
  clear hpf hps
  have KPA : Hid (∀ wx : World, Below w2.heap.size w2 wx → wx.cell? ⟨w.heap.size, 0, none⟩ = some (.int .i64 l.id) ∧ wx.cell? ⟨w.heap.size, 1, none⟩ = some (.int .i64 l.next) ∧ wx.cell? ⟨w.heap.size, 2, none⟩ = some (.slice oa l.out.length oc) ∧ wx.cell? ⟨w.heap.size, 3, none⟩ = some (.slice sa l.seen.length sc) ∧ wx.cell? ⟨w.heap.size + 1, 0, none⟩ = some (.int .i64 p.kind) ∧ wx.cell? ⟨w.heap.size + 1, 1, none⟩ = some (.int .i64 p.frm) ∧ wx.cell? ⟨w.heap.size + 1, 2, none⟩ = some (.int .i64 p.dst) ∧ wx.cell? ⟨w.heap.size + 1, 3, none⟩ = some (.int .i64 p.seq) ∧ wx.cell? ⟨w.heap.size + 1, 4, none⟩ = some (.int .i64 p.low) ∧ wx.cell? ⟨w.heap.size + 1, 5, none⟩ = some (.string p.body)) := fun wx hx => lpbox ((hx.block _ (lt_heap H2.out.2.1)).trans H2.out.2.1) ((hx.block _ (lt_heap H2.out.2.2)).trans H2.out.2.2)
  have hzA : w.heap.size ≤ w2.heap.size := H2.out.1.size
  have CAA : Hid (∀ wx : World, Below w2.heap.size w2 wx → Calls Tryz.prog 8 #[.agg #[.int .i64 l.id, .int .i64 l.next, .slice oa l.out.length oc, .slice sa l.seen.length sc]] wx fun e w' => ∃ r, e = .returned r ∧ (∃ ov sv rs, LkOwn w' wx.heap.size r l ov sv rs ∧ Below wx.heap.size wx w')) := fun wx hx => (toLink_any _ l S wx (HL.out.1.below (H2.out.1.trans (hx.mono hzA))) hb).mono (fun e w' ⟨v, ov, sv, rs, h1, h2, h3⟩ => ⟨v, h1, ov, sv, rs, h2, h3⟩)
  have CBA : Hid (∀ wx : World, Calls Tryz.prog 18 #[.agg #[.int .i64 p.kind, .int .i64 p.frm, .int .i64 p.dst, .int .i64 p.seq, .int .i64 p.low, .string p.body]] wx fun e w' => ∃ r, e = .returned r ∧ (r = .agg #[.int .i64 p.kind, .int .i64 p.frm, .int .i64 p.dst, .int .i64 p.seq, .int .i64 p.low, .string p.body] ∧ Below wx.heap.size wx w')) := fun wx => (toPack_any p wx).mono (fun e w' h => ⟨_, h.1, rfl, h.2⟩)
  have CCA : Hid (∀ (v : Value) (S' : Nat → Prop) (wx : World), Below w2.heap.size w2 wx → LkAt wx S' v l → Calls Tryz.prog 17 #[v, .agg #[.int .i64 p.kind, .int .i64 p.frm, .int .i64 p.dst, .int .i64 p.seq, .int .i64 p.low, .string p.body]] wx fun e w' => ∃ r, e = .returned r ∧ (∃ v' ov sv rs, r = .tuple #[v', .bool gf, .bool gb] ∧ LkOwn w' wx.heap.size v' k ov sv rs ∧ Below wx.heap.size wx w')) := fun v S' wx hx h1 => (HC.out.1 v S' wx h1).mono (fun e w' ⟨v', ov, sv, rs, h3, h4, h5⟩ => ⟨_, h3, v', ov, sv, rs, rfl, h4, h5⟩)
  have BDA := (show Hid (_ ∧ True) from ⟨(Below.refl w2.heap.size w2).drew, trivial⟩)
  obtain ⟨t0, t1, t2, t3, t4, t5, t6, t7, t8, t9⟩ := KPA.out w2 (Below.refl _ _)
  go_wp2_with fail
  clear t0 t1 t2 t3 t4 t5 t6 t7 t8 t9
  go_cut [6, 7, 8] from 19 (fun pv tv bv wc => ∃ (zb : Nat) (zov zsv : Value) (zrs : List (Se × Value)), pv = .pointer (some ⟨zb, 0, none⟩) ∧ tv = .bool gf ∧ bv = .bool gb ∧ w2.heap.size ≤ zb ∧ Hid (Below w2.heap.size w2 wc ∧ LkOwn wc w2.heap.size (.agg #[.int .i64 k.id, .int .i64 k.next, zov, zsv]) k zov zsv zrs ∧ (∀ b, LkBlk zov zsv zrs b → b ≠ zb) ∧ wc.heap[zb]? = some (.cells (k.row zov zsv) 36)))
  case first =>
    refine wp_region_held_drew (S := fun w' => w'.cell? ⟨w.heap.size, 0, none⟩ = some (.int .i64 l.id) ∧ w'.cell? ⟨w.heap.size, 1, none⟩ = some (.int .i64 l.next) ∧ w'.cell? ⟨w.heap.size, 2, none⟩ = some (.slice oa l.out.length oc) ∧ w'.cell? ⟨w.heap.size, 3, none⟩ = some (.slice sa l.seen.length sc) ∧ w'.cell? ⟨w.heap.size + 1, 0, none⟩ = some (.int .i64 p.kind) ∧ w'.cell? ⟨w.heap.size + 1, 1, none⟩ = some (.int .i64 p.frm) ∧ w'.cell? ⟨w.heap.size + 1, 2, none⟩ = some (.int .i64 p.dst) ∧ w'.cell? ⟨w.heap.size + 1, 3, none⟩ = some (.int .i64 p.seq) ∧ w'.cell? ⟨w.heap.size + 1, 4, none⟩ = some (.int .i64 p.low) ∧ w'.cell? ⟨w.heap.size + 1, 5, none⟩ = some (.string p.body)) (by kernel_rfl) (KPA.out w2 (Below.refl _ _)) (fun hS => ?_)
    refine wpAnyH_take (i := 0) (v := .agg #[.int .i64 l.id, .int .i64 l.next, .slice oa l.out.length oc, .slice sa l.seen.length sc]) rfl (by kernel_rfl) (by kernel_rfl) (by kernel_rfl) (fun _ _ _ h => h) (Or.inl ⟨by rfl, ?_⟩) hS ?_
    · intro wq hSw
      obtain ⟨q0, q1, q2, q3, y0, y1, y2, y3, y4, y5⟩ := hSw
      go_simp
    simp only [Act.put, List.getElem_toArray, List.getElem_cons_zero, List.setIfInBounds_toArray, List.set_cons_zero, List.set_cons_succ]
    refine wpAnyH_take (i := 2) (v := .agg #[.int .i64 p.kind, .int .i64 p.frm, .int .i64 p.dst, .int .i64 p.seq, .int .i64 p.low, .string p.body]) rfl (by kernel_rfl) (by kernel_rfl) (by kernel_rfl) (fun _ _ _ h => h) (Or.inl ⟨by rfl, ?_⟩) hS ?_
    · intro wq hSw
      obtain ⟨q0, q1, q2, q3, y0, y1, y2, y3, y4, y5⟩ := hSw
      go_simp
    simp only [Act.put, List.getElem_toArray, List.getElem_cons_zero, List.getElem_cons_succ, List.setIfInBounds_toArray, List.set_cons_zero, List.set_cons_succ]
    refine wpAnyH_ready (rs := [1, 9]) (by kernel_rfl) (by simp) ?_
    refine AllReadyH.cons rfl (fun K hK => ?_) (AllReadyH.cons rfl (fun K hK => ?_) AllReadyH.nil)
    · refine step_call1 rfl 8 (.tmp 30) _ rfl ent_toLink (.agg #[.int .i64 l.id, .int .i64 l.next, .slice oa l.out.length oc, .slice sa l.seen.length sc]) (by simp [Act.eval]) _ (CAA.out _ BDA.out.1) ?_
      rintro r w5 ⟨ov5, sv5, rs5, A5, b5⟩
      have G5 := (show Hid (_ ∧ _ ∧ _) from ⟨BDA.out.1.trans (b5.mono BDA.out.1.size), A5.at, b5⟩)
      obtain ⟨oa5, oc5, sa5, sc5, rfl, -, -⟩ := A5.at.form
      clear A5 b5
      refine hK.out _ _ (KPA.out _ G5.out.1) (fun _ => ?_)
      clear hK K
      simp only [Act.put, List.getElem_toArray, List.getElem_cons_zero, List.getElem_cons_succ, List.setIfInBounds_toArray, List.set_cons_zero, List.set_cons_succ]
      refine wpAnyH_ready (rs := [3, 9]) (by kernel_rfl) (by simp) ?_
      refine AllReadyH.cons rfl (fun K hK => ?_) (AllReadyH.cons rfl (fun K hK => ?_) AllReadyH.nil)
      · refine step_call1 rfl 18 (.tmp 32) _ rfl ent_toPack (.agg #[.int .i64 p.kind, .int .i64 p.frm, .int .i64 p.dst, .int .i64 p.seq, .int .i64 p.low, .string p.body]) (by simp [Act.eval]) _ (CBA.out _) ?_
        rintro r w6 ⟨rfl, b6⟩
        have G6 := (show Hid (_ ∧ _ ∧ _) from ⟨G5.out.1.trans (b6.mono G5.out.1.size), G5.out.2.1.below b6, b6⟩)
        clear b6
        refine hK.out _ _ (KPA.out _ G6.out.1) (fun _ => ?_)
        clear hK K
        simp only [Act.put, List.getElem_toArray, List.getElem_cons_zero, List.getElem_cons_succ, List.setIfInBounds_toArray, List.set_cons_zero, List.set_cons_succ]
        refine wpAnyH_ready (rs := [4, 9]) (by kernel_rfl) (by simp) ?_
        refine AllReadyH.cons rfl (fun K hK => ?_) (AllReadyH.cons rfl (fun K hK => ?_) AllReadyH.nil)
        · refine step_callB rfl 17 (.tmp 31) (.tmp 33) _ rfl ent_specTake (.agg #[.int .i64 l.id, .int .i64 l.next, .slice oa5 l.out.length oc5, .slice sa5 l.seen.length sc5]) (.agg #[.int .i64 p.kind, .int .i64 p.frm, .int .i64 p.dst, .int .i64 p.seq, .int .i64 p.low, .string p.body]) (by simp [Act.eval]) (by simp [Act.eval]) _ (CCA.out _ _ _ G6.out.1 G6.out.2.1) ?_
          rintro r w7 ⟨v7, ov7, sv7, rs7, rfl, A7, b7⟩
          have hv7 := A7.val
          obtain ⟨oa7, oc7, hov7⟩ := own_form A7.out.1
          have hrl7 : rs7.length = k.seen.length := by rw [← A7.is]; simp
          obtain ⟨n7, sa7, sc7, hn7, hsv7⟩ := own_formN A7.seen.cells
          obtain rfl : n7 = k.seen.length := by omega
          subst hov7 hsv7 hv7
          have G7 := (show Hid (_ ∧ _ ∧ _) from ⟨G6.out.1.trans (b7.mono G6.out.1.size), A7.mono G6.out.1.size, b7⟩)
          have G7o := (show Hid (_ ∧ True) from ⟨A7, trivial⟩)
          clear A7 b7 hrl7 hn7
          refine hK.out _ _ (KPA.out _ G7.out.1) (fun _ => ?_)
          clear hK K
          simp only [Act.put, List.getElem_toArray, List.getElem_cons_zero, List.getElem_cons_succ, List.setIfInBounds_toArray, List.set_cons_zero, List.set_cons_succ]
          refine wpAnyH_take (i := 5) (v := .tuple #[.agg #[.int .i64 k.id, .int .i64 k.next, .slice oa7 k.out.length oc7, .slice sa7 k.seen.length sc7], .bool gf, .bool gb]) rfl (by kernel_rfl) (by kernel_rfl) (by kernel_rfl) (fun _ _ _ h => h) (Or.inl ⟨by rfl, ?_⟩) (KPA.out _ G7.out.1) ?_
          · intro wq hSw
            go_simp
          simp only [Act.put, List.getElem_toArray, List.getElem_cons_zero, List.getElem_cons_succ, List.setIfInBounds_toArray, List.set_cons_zero, List.set_cons_succ]
          refine wpAnyH_take (i := 6) (v := .agg #[.int .i64 k.id, .int .i64 k.next, .slice oa7 k.out.length oc7, .slice sa7 k.seen.length sc7]) rfl (by kernel_rfl) (by kernel_rfl) (by kernel_rfl) (fun _ _ _ h => h) (Or.inl ⟨by rfl, ?_⟩) (KPA.out _ G7.out.1) ?_
          · intro wq hSw
            go_simp
          simp only [Act.put, List.getElem_toArray, List.getElem_cons_zero, List.getElem_cons_succ, List.setIfInBounds_toArray, List.set_cons_zero, List.set_cons_succ]
          refine wpAnyH_take (i := 7) (v := .bool gf) rfl (by kernel_rfl) (by kernel_rfl) (by kernel_rfl) (fun _ _ _ h => h) (Or.inl ⟨by rfl, ?_⟩) (KPA.out _ G7.out.1) ?_
          · intro wq hSw
            go_simp
          simp only [Act.put, List.getElem_toArray, List.getElem_cons_zero, List.getElem_cons_succ, List.setIfInBounds_toArray, List.set_cons_zero, List.set_cons_succ]
          refine wpAnyH_take (i := 8) (v := .bool gb) rfl (by kernel_rfl) (by kernel_rfl) (by kernel_rfl) (fun _ _ _ h => h) (Or.inl ⟨by rfl, ?_⟩) (KPA.out _ G7.out.1) ?_
          · intro wq hSw
            go_simp
          simp only [Act.put, List.getElem_toArray, List.getElem_cons_zero, List.getElem_cons_succ, List.setIfInBounds_toArray, List.set_cons_zero, List.set_cons_succ]
          refine wpAnyH_ready (rs := [9]) (by kernel_rfl) (by simp) ?_
          refine AllReadyH.cons rfl (fun K hK => ?_) AllReadyH.nil
          go_simp
          refine hK.out _ _ (KPA.out _ (G7.out.1.alloc G7.out.1.size (.cells #[.int .i64 0, .int .i64 0, .slice none 0 0, .slice none 0 0] 36))) (fun _ => ?_)
          clear hK K
          have B8 := G7.out.1.alloc G7.out.1.size (.cells #[.int .i64 0, .int .i64 0, .slice none 0 0, .slice none 0 0] 36)
          have A8 := G7.out.2.1.below ((Below.refl _ w7).alloc (Nat.le_refl _) (.cells #[.int .i64 0, .int .i64 0, .slice none 0 0, .slice none 0 0] 36))
          have Z8 := (MapKept.heap_alloc w7 (.cells #[.int .i64 0, .int .i64 0, .slice none 0 0, .slice none 0 0] 36)).1
          obtain ⟨W8, hW8⟩ : ∃ W8, W8 = w7.alloc (.cells #[.int .i64 0, .int .i64 0, .slice none 0 0, .slice none 0 0] 36) := ⟨_, rfl⟩
          rw [← hW8] at B8 A8 Z8 ⊢
          clear hW8
          refine wpAnyH_ready (rs := [10]) (by kernel_rfl) (by simp) ?_
          refine AllReadyH.cons rfl (fun K hK => ?_) AllReadyH.nil
          have ZZ : W8.heap[w7.heap.size]? = some (.cells #[.int .i64 0, .int .i64 0, .slice none 0 0, .slice none 0 0] 36) := Z8
          have y0 : W8.cell? ⟨w7.heap.size, 0, none⟩ = some (.int .i64 0) := by rw [cell_of_block ZZ]; rfl
          have y1 : W8.cell? ⟨w7.heap.size, 1, none⟩ = some (.int .i64 0) := by rw [cell_of_block ZZ]; rfl
          have y2 : W8.cell? ⟨w7.heap.size, 2, none⟩ = some (.slice none 0 0) := by rw [cell_of_block ZZ]; rfl
          have y3 : W8.cell? ⟨w7.heap.size, 3, none⟩ = some (.slice none 0 0) := by rw [cell_of_block ZZ]; rfl
          have f0 : W8.frozen? ⟨w7.heap.size, 0, none⟩ = false := unfrozen_of_block ZZ 0
          have f1 : W8.frozen? ⟨w7.heap.size, 1, none⟩ = false := unfrozen_of_block ZZ 1
          have f2 : W8.frozen? ⟨w7.heap.size, 2, none⟩ = false := unfrozen_of_block ZZ 2
          have f3 : W8.frozen? ⟨w7.heap.size, 3, none⟩ = false := unfrozen_of_block ZZ 3
          have hzw : w2.heap.size ≤ w7.heap.size := G7.out.1.size
          have hzl : w7.heap.size < W8.heap.size := lt_heap ZZ
          go_simp
          refine hK.out _ _ (KPA.out _ (below_set4 B8 hzw _ _ _ _)) (fun _ => ?_)
          clear hK K y0 y1 y2 y3 f0 f1 f2 f3
          refine wpAnyH_take (i := 11) (v := .bool gf) rfl (by kernel_rfl) (by kernel_rfl) (by kernel_rfl) (fun _ _ _ h => h) (Or.inl ⟨by rfl, ?_⟩) (KPA.out _ (below_set4 B8 hzw _ _ _ _)) ?_
          · intro wq hSw
            go_simp
          simp only [Act.put, List.getElem_toArray, List.getElem_cons_zero, List.getElem_cons_succ, List.setIfInBounds_toArray, List.set_cons_zero, List.set_cons_succ]
          refine wpAnyH_take (i := 12) (v := .bool gb) rfl (by kernel_rfl) (by kernel_rfl) (by kernel_rfl) (fun _ _ _ h => h) (Or.inl ⟨by rfl, ?_⟩) (KPA.out _ (below_set4 B8 hzw _ _ _ _)) ?_
          · intro wq hSw
            go_simp
          simp only [Act.put, List.getElem_toArray, List.getElem_cons_zero, List.getElem_cons_succ, List.setIfInBounds_toArray, List.set_cons_zero, List.set_cons_succ]
          refine wpAnyH_done (by kernel_rfl) ?_ _
          go_wp2_with fail
          go_meet
          exact ⟨w7.heap.size, .slice oa7 k.out.length oc7, .slice sa7 k.seen.length sc7, rs7, rfl, rfl, rfl, hzw, below_set4 B8 hzw _ _ _ _, box_set4 A8 (fun b hb => Nat.ne_of_lt (G7.out.2.1.own hb).2) ZZ, (fun b hb => Nat.ne_of_lt (G7.out.2.1.own hb).2), box_row ZZ⟩
        · go_simp
          refine hK.out _ _ (KPA.out _ (G6.out.1.alloc G6.out.1.size (.cells #[.int .i64 0, .int .i64 0, .slice none 0 0, .slice none 0 0] 36))) (fun _ => ?_)
          clear hK K
          refine wpAnyH_ready (rs := [4]) (by kernel_rfl) (by simp) ?_
          refine AllReadyH.cons rfl (fun K hK => ?_) AllReadyH.nil
          refine step_callB rfl 17 (.tmp 31) (.tmp 33) _ rfl ent_specTake (.agg #[.int .i64 l.id, .int .i64 l.next, .slice oa5 l.out.length oc5, .slice sa5 l.seen.length sc5]) (.agg #[.int .i64 p.kind, .int .i64 p.frm, .int .i64 p.dst, .int .i64 p.seq, .int .i64 p.low, .string p.body]) (by simp [Act.eval]) (by simp [Act.eval]) _ (CCA.out _ _ _ (G6.out.1.alloc G6.out.1.size (.cells #[.int .i64 0, .int .i64 0, .slice none 0 0, .slice none 0 0] 36)) (G6.out.2.1.below ((Below.refl _ _).alloc (Nat.le_refl _) (.cells #[.int .i64 0, .int .i64 0, .slice none 0 0, .slice none 0 0] 36)))) ?_
          rintro r w7 ⟨v7, ov7, sv7, rs7, rfl, A7, b7⟩
          have hv7 := A7.val
          obtain ⟨oa7, oc7, hov7⟩ := own_form A7.out.1
          have hrl7 : rs7.length = k.seen.length := by rw [← A7.is]; simp
          obtain ⟨n7, sa7, sc7, hn7, hsv7⟩ := own_formN A7.seen.cells
          obtain rfl : n7 = k.seen.length := by omega
          subst hov7 hsv7 hv7
          have G7 := (show Hid (_ ∧ _ ∧ _) from ⟨(G6.out.1.alloc G6.out.1.size (.cells #[.int .i64 0, .int .i64 0, .slice none 0 0, .slice none 0 0] 36)).trans (b7.mono (G6.out.1.alloc G6.out.1.size (.cells #[.int .i64 0, .int .i64 0, .slice none 0 0, .slice none 0 0] 36)).size), A7.mono (G6.out.1.alloc G6.out.1.size (.cells #[.int .i64 0, .int .i64 0, .slice none 0 0, .slice none 0 0] 36)).size, b7⟩)
          have G7o := (show Hid (_ ∧ True) from ⟨A7, trivial⟩)
          clear A7 b7 hrl7 hn7
          refine hK.out _ _ (KPA.out _ G7.out.1) (fun _ => ?_)
          clear hK K
          simp only [Act.put, List.getElem_toArray, List.getElem_cons_zero, List.getElem_cons_succ, List.setIfInBounds_toArray, List.set_cons_zero, List.set_cons_succ]
          refine wpAnyH_take (i := 5) (v := .tuple #[.agg #[.int .i64 k.id, .int .i64 k.next, .slice oa7 k.out.length oc7, .slice sa7 k.seen.length sc7], .bool gf, .bool gb]) rfl (by kernel_rfl) (by kernel_rfl) (by kernel_rfl) (fun _ _ _ h => h) (Or.inl ⟨by rfl, ?_⟩) (KPA.out _ G7.out.1) ?_
          · intro wq hSw
            go_simp
          simp only [Act.put, List.getElem_toArray, List.getElem_cons_zero, List.getElem_cons_succ, List.setIfInBounds_toArray, List.set_cons_zero, List.set_cons_succ]
          refine wpAnyH_take (i := 6) (v := .agg #[.int .i64 k.id, .int .i64 k.next, .slice oa7 k.out.length oc7, .slice sa7 k.seen.length sc7]) rfl (by kernel_rfl) (by kernel_rfl) (by kernel_rfl) (fun _ _ _ h => h) (Or.inl ⟨by rfl, ?_⟩) (KPA.out _ G7.out.1) ?_
          · intro wq hSw
            go_simp
          simp only [Act.put, List.getElem_toArray, List.getElem_cons_zero, List.getElem_cons_succ, List.setIfInBounds_toArray, List.set_cons_zero, List.set_cons_succ]
          refine wpAnyH_take (i := 7) (v := .bool gf) rfl (by kernel_rfl) (by kernel_rfl) (by kernel_rfl) (fun _ _ _ h => h) (Or.inl ⟨by rfl, ?_⟩) (KPA.out _ G7.out.1) ?_
          · intro wq hSw
            go_simp
          simp only [Act.put, List.getElem_toArray, List.getElem_cons_zero, List.getElem_cons_succ, List.setIfInBounds_toArray, List.set_cons_zero, List.set_cons_succ]
          refine wpAnyH_take (i := 8) (v := .bool gb) rfl (by kernel_rfl) (by kernel_rfl) (by kernel_rfl) (fun _ _ _ h => h) (Or.inl ⟨by rfl, ?_⟩) (KPA.out _ G7.out.1) ?_
          · intro wq hSw
            go_simp
          simp only [Act.put, List.getElem_toArray, List.getElem_cons_zero, List.getElem_cons_succ, List.setIfInBounds_toArray, List.set_cons_zero, List.set_cons_succ]
          have z0 := (MapKept.heap_alloc w6 (.cells #[.int .i64 0, .int .i64 0, .slice none 0 0, .slice none 0 0] 36)).1
          have z1 := (G7.out.2.2.block _ (lt_heap z0)).trans z0
          have hzo : w6.heap.size < (w6.alloc (.cells #[.int .i64 0, .int .i64 0, .slice none 0 0, .slice none 0 0] 36)).heap.size := lt_heap z0
          refine wpAnyH_ready (rs := [10]) (by kernel_rfl) (by simp) ?_
          refine AllReadyH.cons rfl (fun K hK => ?_) AllReadyH.nil
          have ZZ : w7.heap[w6.heap.size]? = some (.cells #[.int .i64 0, .int .i64 0, .slice none 0 0, .slice none 0 0] 36) := z1
          have y0 : w7.cell? ⟨w6.heap.size, 0, none⟩ = some (.int .i64 0) := by rw [cell_of_block ZZ]; rfl
          have y1 : w7.cell? ⟨w6.heap.size, 1, none⟩ = some (.int .i64 0) := by rw [cell_of_block ZZ]; rfl
          have y2 : w7.cell? ⟨w6.heap.size, 2, none⟩ = some (.slice none 0 0) := by rw [cell_of_block ZZ]; rfl
          have y3 : w7.cell? ⟨w6.heap.size, 3, none⟩ = some (.slice none 0 0) := by rw [cell_of_block ZZ]; rfl
          have f0 : w7.frozen? ⟨w6.heap.size, 0, none⟩ = false := unfrozen_of_block ZZ 0
          have f1 : w7.frozen? ⟨w6.heap.size, 1, none⟩ = false := unfrozen_of_block ZZ 1
          have f2 : w7.frozen? ⟨w6.heap.size, 2, none⟩ = false := unfrozen_of_block ZZ 2
          have f3 : w7.frozen? ⟨w6.heap.size, 3, none⟩ = false := unfrozen_of_block ZZ 3
          have hzw : w2.heap.size ≤ w6.heap.size := G6.out.1.size
          have hzl : w6.heap.size < w7.heap.size := lt_heap ZZ
          go_simp
          refine hK.out _ _ (KPA.out _ (below_set4 G7.out.1 hzw _ _ _ _)) (fun _ => ?_)
          clear hK K y0 y1 y2 y3 f0 f1 f2 f3
          refine wpAnyH_take (i := 11) (v := .bool gf) rfl (by kernel_rfl) (by kernel_rfl) (by kernel_rfl) (fun _ _ _ h => h) (Or.inl ⟨by rfl, ?_⟩) (KPA.out _ (below_set4 G7.out.1 hzw _ _ _ _)) ?_
          · intro wq hSw
            go_simp
          simp only [Act.put, List.getElem_toArray, List.getElem_cons_zero, List.getElem_cons_succ, List.setIfInBounds_toArray, List.set_cons_zero, List.set_cons_succ]
          refine wpAnyH_take (i := 12) (v := .bool gb) rfl (by kernel_rfl) (by kernel_rfl) (by kernel_rfl) (fun _ _ _ h => h) (Or.inl ⟨by rfl, ?_⟩) (KPA.out _ (below_set4 G7.out.1 hzw _ _ _ _)) ?_
          · intro wq hSw
            go_simp
          simp only [Act.put, List.getElem_toArray, List.getElem_cons_zero, List.getElem_cons_succ, List.setIfInBounds_toArray, List.set_cons_zero, List.set_cons_succ]
          refine wpAnyH_done (by kernel_rfl) ?_ _
          go_wp2_with fail
          go_meet
          exact ⟨w6.heap.size, .slice oa7 k.out.length oc7, .slice sa7 k.seen.length sc7, rs7, rfl, rfl, rfl, hzw, below_set4 G7.out.1 hzw _ _ _ _, box_set4 G7.out.2.1 (fun b hb => by have h1 := (G7o.out.1.own hb).1; have h2 := hzo; omega) ZZ, (fun b hb => by have h1 := (G7o.out.1.own hb).1; have h2 := hzo; omega), box_row ZZ⟩
      · go_simp
        refine hK.out _ _ (KPA.out _ (G5.out.1.alloc G5.out.1.size (.cells #[.int .i64 0, .int .i64 0, .slice none 0 0, .slice none 0 0] 36))) (fun _ => ?_)
        clear hK K
        refine wpAnyH_ready (rs := [3]) (by kernel_rfl) (by simp) ?_
        refine AllReadyH.cons rfl (fun K hK => ?_) AllReadyH.nil
        refine step_call1 rfl 18 (.tmp 32) _ rfl ent_toPack (.agg #[.int .i64 p.kind, .int .i64 p.frm, .int .i64 p.dst, .int .i64 p.seq, .int .i64 p.low, .string p.body]) (by simp [Act.eval]) _ (CBA.out _) ?_
        rintro r w6 ⟨rfl, b6⟩
        have G6 := (show Hid (_ ∧ _ ∧ _) from ⟨(G5.out.1.alloc G5.out.1.size (.cells #[.int .i64 0, .int .i64 0, .slice none 0 0, .slice none 0 0] 36)).trans (b6.mono (G5.out.1.alloc G5.out.1.size (.cells #[.int .i64 0, .int .i64 0, .slice none 0 0, .slice none 0 0] 36)).size), (G5.out.2.1.below ((Below.refl _ _).alloc (Nat.le_refl _) (.cells #[.int .i64 0, .int .i64 0, .slice none 0 0, .slice none 0 0] 36))).below b6, b6⟩)
        clear b6
        refine hK.out _ _ (KPA.out _ G6.out.1) (fun _ => ?_)
        clear hK K
        simp only [Act.put, List.getElem_toArray, List.getElem_cons_zero, List.getElem_cons_succ, List.setIfInBounds_toArray, List.set_cons_zero, List.set_cons_succ]
        refine wpAnyH_ready (rs := [4]) (by kernel_rfl) (by simp) ?_
        refine AllReadyH.cons rfl (fun K hK => ?_) AllReadyH.nil
        refine step_callB rfl 17 (.tmp 31) (.tmp 33) _ rfl ent_specTake (.agg #[.int .i64 l.id, .int .i64 l.next, .slice oa5 l.out.length oc5, .slice sa5 l.seen.length sc5]) (.agg #[.int .i64 p.kind, .int .i64 p.frm, .int .i64 p.dst, .int .i64 p.seq, .int .i64 p.low, .string p.body]) (by simp [Act.eval]) (by simp [Act.eval]) _ (CCA.out _ _ _ G6.out.1 G6.out.2.1) ?_
        rintro r w7 ⟨v7, ov7, sv7, rs7, rfl, A7, b7⟩
        have hv7 := A7.val
        obtain ⟨oa7, oc7, hov7⟩ := own_form A7.out.1
        have hrl7 : rs7.length = k.seen.length := by rw [← A7.is]; simp
        obtain ⟨n7, sa7, sc7, hn7, hsv7⟩ := own_formN A7.seen.cells
        obtain rfl : n7 = k.seen.length := by omega
        subst hov7 hsv7 hv7
        have G7 := (show Hid (_ ∧ _ ∧ _) from ⟨G6.out.1.trans (b7.mono G6.out.1.size), A7.mono G6.out.1.size, b7⟩)
        have G7o := (show Hid (_ ∧ True) from ⟨A7, trivial⟩)
        clear A7 b7 hrl7 hn7
        refine hK.out _ _ (KPA.out _ G7.out.1) (fun _ => ?_)
        clear hK K
        simp only [Act.put, List.getElem_toArray, List.getElem_cons_zero, List.getElem_cons_succ, List.setIfInBounds_toArray, List.set_cons_zero, List.set_cons_succ]
        refine wpAnyH_take (i := 5) (v := .tuple #[.agg #[.int .i64 k.id, .int .i64 k.next, .slice oa7 k.out.length oc7, .slice sa7 k.seen.length sc7], .bool gf, .bool gb]) rfl (by kernel_rfl) (by kernel_rfl) (by kernel_rfl) (fun _ _ _ h => h) (Or.inl ⟨by rfl, ?_⟩) (KPA.out _ G7.out.1) ?_
        · intro wq hSw
          go_simp
        simp only [Act.put, List.getElem_toArray, List.getElem_cons_zero, List.getElem_cons_succ, List.setIfInBounds_toArray, List.set_cons_zero, List.set_cons_succ]
        refine wpAnyH_take (i := 6) (v := .agg #[.int .i64 k.id, .int .i64 k.next, .slice oa7 k.out.length oc7, .slice sa7 k.seen.length sc7]) rfl (by kernel_rfl) (by kernel_rfl) (by kernel_rfl) (fun _ _ _ h => h) (Or.inl ⟨by rfl, ?_⟩) (KPA.out _ G7.out.1) ?_
        · intro wq hSw
          go_simp
        simp only [Act.put, List.getElem_toArray, List.getElem_cons_zero, List.getElem_cons_succ, List.setIfInBounds_toArray, List.set_cons_zero, List.set_cons_succ]
        refine wpAnyH_take (i := 7) (v := .bool gf) rfl (by kernel_rfl) (by kernel_rfl) (by kernel_rfl) (fun _ _ _ h => h) (Or.inl ⟨by rfl, ?_⟩) (KPA.out _ G7.out.1) ?_
        · intro wq hSw
          go_simp
        simp only [Act.put, List.getElem_toArray, List.getElem_cons_zero, List.getElem_cons_succ, List.setIfInBounds_toArray, List.set_cons_zero, List.set_cons_succ]
        refine wpAnyH_take (i := 8) (v := .bool gb) rfl (by kernel_rfl) (by kernel_rfl) (by kernel_rfl) (fun _ _ _ h => h) (Or.inl ⟨by rfl, ?_⟩) (KPA.out _ G7.out.1) ?_
        · intro wq hSw
          go_simp
        simp only [Act.put, List.getElem_toArray, List.getElem_cons_zero, List.getElem_cons_succ, List.setIfInBounds_toArray, List.set_cons_zero, List.set_cons_succ]
        have z0 := (MapKept.heap_alloc w5 (.cells #[.int .i64 0, .int .i64 0, .slice none 0 0, .slice none 0 0] 36)).1
        have z1 := (G6.out.2.2.block _ (lt_heap z0)).trans z0
        have z2 := (G7.out.2.2.block _ (lt_heap z1)).trans z1
        have hzo : w5.heap.size < w6.heap.size := lt_heap z1
        refine wpAnyH_ready (rs := [10]) (by kernel_rfl) (by simp) ?_
        refine AllReadyH.cons rfl (fun K hK => ?_) AllReadyH.nil
        have ZZ : w7.heap[w5.heap.size]? = some (.cells #[.int .i64 0, .int .i64 0, .slice none 0 0, .slice none 0 0] 36) := z2
        have y0 : w7.cell? ⟨w5.heap.size, 0, none⟩ = some (.int .i64 0) := by rw [cell_of_block ZZ]; rfl
        have y1 : w7.cell? ⟨w5.heap.size, 1, none⟩ = some (.int .i64 0) := by rw [cell_of_block ZZ]; rfl
        have y2 : w7.cell? ⟨w5.heap.size, 2, none⟩ = some (.slice none 0 0) := by rw [cell_of_block ZZ]; rfl
        have y3 : w7.cell? ⟨w5.heap.size, 3, none⟩ = some (.slice none 0 0) := by rw [cell_of_block ZZ]; rfl
        have f0 : w7.frozen? ⟨w5.heap.size, 0, none⟩ = false := unfrozen_of_block ZZ 0
        have f1 : w7.frozen? ⟨w5.heap.size, 1, none⟩ = false := unfrozen_of_block ZZ 1
        have f2 : w7.frozen? ⟨w5.heap.size, 2, none⟩ = false := unfrozen_of_block ZZ 2
        have f3 : w7.frozen? ⟨w5.heap.size, 3, none⟩ = false := unfrozen_of_block ZZ 3
        have hzw : w2.heap.size ≤ w5.heap.size := G5.out.1.size
        have hzl : w5.heap.size < w7.heap.size := lt_heap ZZ
        go_simp
        refine hK.out _ _ (KPA.out _ (below_set4 G7.out.1 hzw _ _ _ _)) (fun _ => ?_)
        clear hK K y0 y1 y2 y3 f0 f1 f2 f3
        refine wpAnyH_take (i := 11) (v := .bool gf) rfl (by kernel_rfl) (by kernel_rfl) (by kernel_rfl) (fun _ _ _ h => h) (Or.inl ⟨by rfl, ?_⟩) (KPA.out _ (below_set4 G7.out.1 hzw _ _ _ _)) ?_
        · intro wq hSw
          go_simp
        simp only [Act.put, List.getElem_toArray, List.getElem_cons_zero, List.getElem_cons_succ, List.setIfInBounds_toArray, List.set_cons_zero, List.set_cons_succ]
        refine wpAnyH_take (i := 12) (v := .bool gb) rfl (by kernel_rfl) (by kernel_rfl) (by kernel_rfl) (fun _ _ _ h => h) (Or.inl ⟨by rfl, ?_⟩) (KPA.out _ (below_set4 G7.out.1 hzw _ _ _ _)) ?_
        · intro wq hSw
          go_simp
        simp only [Act.put, List.getElem_toArray, List.getElem_cons_zero, List.getElem_cons_succ, List.setIfInBounds_toArray, List.set_cons_zero, List.set_cons_succ]
        refine wpAnyH_done (by kernel_rfl) ?_ _
        go_wp2_with fail
        go_meet
        exact ⟨w5.heap.size, .slice oa7 k.out.length oc7, .slice sa7 k.seen.length sc7, rs7, rfl, rfl, rfl, hzw, below_set4 G7.out.1 hzw _ _ _ _, box_set4 G7.out.2.1 (fun b hb => by have h1 := (G7o.out.1.own hb).1; have h2 := hzo; omega) ZZ, (fun b hb => by have h1 := (G7o.out.1.own hb).1; have h2 := hzo; omega), box_row ZZ⟩
    · go_simp
      refine hK.out _ _ (KPA.out _ (BDA.out.1.alloc BDA.out.1.size (.cells #[.int .i64 0, .int .i64 0, .slice none 0 0, .slice none 0 0] 36))) (fun _ => ?_)
      clear hK K
      refine wpAnyH_ready (rs := [1]) (by kernel_rfl) (by simp) ?_
      refine AllReadyH.cons rfl (fun K hK => ?_) AllReadyH.nil
      refine step_call1 rfl 8 (.tmp 30) _ rfl ent_toLink (.agg #[.int .i64 l.id, .int .i64 l.next, .slice oa l.out.length oc, .slice sa l.seen.length sc]) (by simp [Act.eval]) _ (CAA.out _ (BDA.out.1.alloc BDA.out.1.size (.cells #[.int .i64 0, .int .i64 0, .slice none 0 0, .slice none 0 0] 36))) ?_
      rintro r w5 ⟨ov5, sv5, rs5, A5, b5⟩
      have G5 := (show Hid (_ ∧ _ ∧ _) from ⟨(BDA.out.1.alloc BDA.out.1.size (.cells #[.int .i64 0, .int .i64 0, .slice none 0 0, .slice none 0 0] 36)).trans (b5.mono (BDA.out.1.alloc BDA.out.1.size (.cells #[.int .i64 0, .int .i64 0, .slice none 0 0, .slice none 0 0] 36)).size), A5.at, b5⟩)
      obtain ⟨oa5, oc5, sa5, sc5, rfl, -, -⟩ := A5.at.form
      clear A5 b5
      refine hK.out _ _ (KPA.out _ G5.out.1) (fun _ => ?_)
      clear hK K
      simp only [Act.put, List.getElem_toArray, List.getElem_cons_zero, List.getElem_cons_succ, List.setIfInBounds_toArray, List.set_cons_zero, List.set_cons_succ]
      refine wpAnyH_ready (rs := [3]) (by kernel_rfl) (by simp) ?_
      refine AllReadyH.cons rfl (fun K hK => ?_) AllReadyH.nil
      refine step_call1 rfl 18 (.tmp 32) _ rfl ent_toPack (.agg #[.int .i64 p.kind, .int .i64 p.frm, .int .i64 p.dst, .int .i64 p.seq, .int .i64 p.low, .string p.body]) (by simp [Act.eval]) _ (CBA.out _) ?_
      rintro r w6 ⟨rfl, b6⟩
      have G6 := (show Hid (_ ∧ _ ∧ _) from ⟨G5.out.1.trans (b6.mono G5.out.1.size), G5.out.2.1.below b6, b6⟩)
      clear b6
      refine hK.out _ _ (KPA.out _ G6.out.1) (fun _ => ?_)
      clear hK K
      simp only [Act.put, List.getElem_toArray, List.getElem_cons_zero, List.getElem_cons_succ, List.setIfInBounds_toArray, List.set_cons_zero, List.set_cons_succ]
      refine wpAnyH_ready (rs := [4]) (by kernel_rfl) (by simp) ?_
      refine AllReadyH.cons rfl (fun K hK => ?_) AllReadyH.nil
      refine step_callB rfl 17 (.tmp 31) (.tmp 33) _ rfl ent_specTake (.agg #[.int .i64 l.id, .int .i64 l.next, .slice oa5 l.out.length oc5, .slice sa5 l.seen.length sc5]) (.agg #[.int .i64 p.kind, .int .i64 p.frm, .int .i64 p.dst, .int .i64 p.seq, .int .i64 p.low, .string p.body]) (by simp [Act.eval]) (by simp [Act.eval]) _ (CCA.out _ _ _ G6.out.1 G6.out.2.1) ?_
      rintro r w7 ⟨v7, ov7, sv7, rs7, rfl, A7, b7⟩
      have hv7 := A7.val
      obtain ⟨oa7, oc7, hov7⟩ := own_form A7.out.1
      have hrl7 : rs7.length = k.seen.length := by rw [← A7.is]; simp
      obtain ⟨n7, sa7, sc7, hn7, hsv7⟩ := own_formN A7.seen.cells
      obtain rfl : n7 = k.seen.length := by omega
      subst hov7 hsv7 hv7
      have G7 := (show Hid (_ ∧ _ ∧ _) from ⟨G6.out.1.trans (b7.mono G6.out.1.size), A7.mono G6.out.1.size, b7⟩)
      have G7o := (show Hid (_ ∧ True) from ⟨A7, trivial⟩)
      clear A7 b7 hrl7 hn7
      refine hK.out _ _ (KPA.out _ G7.out.1) (fun _ => ?_)
      clear hK K
      simp only [Act.put, List.getElem_toArray, List.getElem_cons_zero, List.getElem_cons_succ, List.setIfInBounds_toArray, List.set_cons_zero, List.set_cons_succ]
      refine wpAnyH_take (i := 5) (v := .tuple #[.agg #[.int .i64 k.id, .int .i64 k.next, .slice oa7 k.out.length oc7, .slice sa7 k.seen.length sc7], .bool gf, .bool gb]) rfl (by kernel_rfl) (by kernel_rfl) (by kernel_rfl) (fun _ _ _ h => h) (Or.inl ⟨by rfl, ?_⟩) (KPA.out _ G7.out.1) ?_
      · intro wq hSw
        go_simp
      simp only [Act.put, List.getElem_toArray, List.getElem_cons_zero, List.getElem_cons_succ, List.setIfInBounds_toArray, List.set_cons_zero, List.set_cons_succ]
      refine wpAnyH_take (i := 6) (v := .agg #[.int .i64 k.id, .int .i64 k.next, .slice oa7 k.out.length oc7, .slice sa7 k.seen.length sc7]) rfl (by kernel_rfl) (by kernel_rfl) (by kernel_rfl) (fun _ _ _ h => h) (Or.inl ⟨by rfl, ?_⟩) (KPA.out _ G7.out.1) ?_
      · intro wq hSw
        go_simp
      simp only [Act.put, List.getElem_toArray, List.getElem_cons_zero, List.getElem_cons_succ, List.setIfInBounds_toArray, List.set_cons_zero, List.set_cons_succ]
      refine wpAnyH_take (i := 7) (v := .bool gf) rfl (by kernel_rfl) (by kernel_rfl) (by kernel_rfl) (fun _ _ _ h => h) (Or.inl ⟨by rfl, ?_⟩) (KPA.out _ G7.out.1) ?_
      · intro wq hSw
        go_simp
      simp only [Act.put, List.getElem_toArray, List.getElem_cons_zero, List.getElem_cons_succ, List.setIfInBounds_toArray, List.set_cons_zero, List.set_cons_succ]
      refine wpAnyH_take (i := 8) (v := .bool gb) rfl (by kernel_rfl) (by kernel_rfl) (by kernel_rfl) (fun _ _ _ h => h) (Or.inl ⟨by rfl, ?_⟩) (KPA.out _ G7.out.1) ?_
      · intro wq hSw
        go_simp
      simp only [Act.put, List.getElem_toArray, List.getElem_cons_zero, List.getElem_cons_succ, List.setIfInBounds_toArray, List.set_cons_zero, List.set_cons_succ]
      have z0 := (MapKept.heap_alloc w2.drew (.cells #[.int .i64 0, .int .i64 0, .slice none 0 0, .slice none 0 0] 36)).1
      have z1 := (G5.out.2.2.block _ (lt_heap z0)).trans z0
      have z2 := (G6.out.2.2.block _ (lt_heap z1)).trans z1
      have z3 := (G7.out.2.2.block _ (lt_heap z2)).trans z2
      have hzo : w2.heap.size < w6.heap.size := lt_heap z2
      refine wpAnyH_ready (rs := [10]) (by kernel_rfl) (by simp) ?_
      refine AllReadyH.cons rfl (fun K hK => ?_) AllReadyH.nil
      have ZZ : w7.heap[w2.heap.size]? = some (.cells #[.int .i64 0, .int .i64 0, .slice none 0 0, .slice none 0 0] 36) := z3
      have y0 : w7.cell? ⟨w2.heap.size, 0, none⟩ = some (.int .i64 0) := by rw [cell_of_block ZZ]; rfl
      have y1 : w7.cell? ⟨w2.heap.size, 1, none⟩ = some (.int .i64 0) := by rw [cell_of_block ZZ]; rfl
      have y2 : w7.cell? ⟨w2.heap.size, 2, none⟩ = some (.slice none 0 0) := by rw [cell_of_block ZZ]; rfl
      have y3 : w7.cell? ⟨w2.heap.size, 3, none⟩ = some (.slice none 0 0) := by rw [cell_of_block ZZ]; rfl
      have f0 : w7.frozen? ⟨w2.heap.size, 0, none⟩ = false := unfrozen_of_block ZZ 0
      have f1 : w7.frozen? ⟨w2.heap.size, 1, none⟩ = false := unfrozen_of_block ZZ 1
      have f2 : w7.frozen? ⟨w2.heap.size, 2, none⟩ = false := unfrozen_of_block ZZ 2
      have f3 : w7.frozen? ⟨w2.heap.size, 3, none⟩ = false := unfrozen_of_block ZZ 3
      have hzw : w2.heap.size ≤ w2.heap.size := BDA.out.1.size
      have hzl : w2.heap.size < w7.heap.size := lt_heap ZZ
      go_simp
      refine hK.out _ _ (KPA.out _ (below_set4 G7.out.1 hzw _ _ _ _)) (fun _ => ?_)
      clear hK K y0 y1 y2 y3 f0 f1 f2 f3
      refine wpAnyH_take (i := 11) (v := .bool gf) rfl (by kernel_rfl) (by kernel_rfl) (by kernel_rfl) (fun _ _ _ h => h) (Or.inl ⟨by rfl, ?_⟩) (KPA.out _ (below_set4 G7.out.1 hzw _ _ _ _)) ?_
      · intro wq hSw
        go_simp
      simp only [Act.put, List.getElem_toArray, List.getElem_cons_zero, List.getElem_cons_succ, List.setIfInBounds_toArray, List.set_cons_zero, List.set_cons_succ]
      refine wpAnyH_take (i := 12) (v := .bool gb) rfl (by kernel_rfl) (by kernel_rfl) (by kernel_rfl) (fun _ _ _ h => h) (Or.inl ⟨by rfl, ?_⟩) (KPA.out _ (below_set4 G7.out.1 hzw _ _ _ _)) ?_
      · intro wq hSw
        go_simp
      simp only [Act.put, List.getElem_toArray, List.getElem_cons_zero, List.getElem_cons_succ, List.setIfInBounds_toArray, List.set_cons_zero, List.set_cons_succ]
      refine wpAnyH_done (by kernel_rfl) ?_ _
      go_wp2_with fail
      go_meet
      exact ⟨w2.heap.size, .slice oa7 k.out.length oc7, .slice sa7 k.seen.length sc7, rs7, rfl, rfl, rfl, hzw, below_set4 G7.out.1 hzw _ _ _ _, box_set4 G7.out.2.1 (fun b hb => by have h1 := (G7o.out.1.own hb).1; have h2 := hzo; omega) ZZ, (fun b hb => by have h1 := (G7o.out.1.own hb).1; have h2 := hzo; omega), box_row ZZ⟩
  case rest =>
  obtain ⟨wbx, wov, wsv, wrs, rfl, rfl, rfl, hwb, HA⟩ := hcut
  obtain ⟨woa, woc, hwov⟩ := own_form HA.out.2.1.out.1
  have hwrl : wrs.length = k.seen.length := by rw [← HA.out.2.1.is]; simp
  obtain ⟨wn, wsa, wsc, hwn, hwsv⟩ := own_formN HA.out.2.1.seen.cells
  obtain rfl : wn = k.seen.length := by omega
  subst hwov hwsv
  have hs3 : w2.heap.size ≤ wc.heap.size := HA.out.1.size
  have hwl : wbx < wc.heap.size := lt_heap HA.out.2.2.2
  have hww : w.heap.size + 1 < w2.heap.size := lt_heap H2.out.2.2
  have H3 := (show Hid (_ ∧ _ ∧ _ ∧ _ ∧ _) from ⟨H2.out.1.trans (HA.out.1.mono hzA), (HA.out.1.block _ (lt_heap H2.out.2.1)).trans H2.out.2.1, (HA.out.1.block _ (lt_heap H2.out.2.2)).trans H2.out.2.2, HA.out.2.1, HA.out.2.2.2⟩)
  clear KPA CAA CBA CCA BDA HA H2 hwrl hwn
  obtain ⟨q0, q1, q2, q3⟩ := lbox H3.out.2.1
  go_wp2_with fail
  clear q0 q1 q2 q3
  refine (toLink_any _ l S wc (HL.out.1.below H3.out.1) hb).mono ?_
  rintro e w4 ⟨v4, ov4, sv4, rs4, rfl, A4, b4⟩
  have hv4 := A4.val
  obtain ⟨oa4, oc4, hov4⟩ := own_form A4.out.1
  have hrl4 : rs4.length = l.seen.length := by rw [← A4.is]; simp
  obtain ⟨n4, sa4, sc4, hn4, hsv4⟩ := own_formN A4.seen.cells
  obtain rfl : n4 = l.seen.length := by omega
  subst hov4 hsv4 hv4
  have hs4 : wc.heap.size ≤ w4.heap.size := b4.size
  obtain ⟨W4, hW4⟩ : ∃ W4, W4 = w4.alloc (.cells (l.row (.slice oa4 l.out.length oc4) (.slice sa4 l.seen.length sc4)) 36) := ⟨_, rfl⟩
  have bW4 : Below w4.heap.size w4 W4 := by rw [hW4]; exact (Below.refl _ w4).alloc (Nat.le_refl _) _
  have M4 : W4.heap[w4.heap.size]? = some (.cells (l.row (.slice oa4 l.out.length oc4) (.slice sa4 l.seen.length sc4)) 36) := by rw [hW4]; exact (MapKept.heap_alloc w4 _).1
  have hs4' : w4.heap.size + 1 ≤ W4.heap.size := lt_heap M4
  have b4' : Below wc.heap.size wc W4 := b4.trans (bW4.mono (by omega))
  have H4 := (show Hid (_ ∧ _ ∧ _ ∧ _ ∧ _ ∧ _ ∧ _ ∧ _ ∧ _) from ⟨H3.out.1.trans (b4'.mono (by omega)), (b4'.block _ (lt_heap H3.out.2.1)).trans H3.out.2.1, (b4'.block _ (lt_heap H3.out.2.2.1)).trans H3.out.2.2.1, H3.out.2.2.2.1.below b4', (b4'.block _ (lt_heap H3.out.2.2.2.2)).trans H3.out.2.2.2.2, A4.below bW4, M4, (fun (b : Nat) (hb : LkBlk (.slice oa4 l.out.length oc4) (.slice sa4 l.seen.length sc4) rs4 b) => A4.own hb), hW4⟩)
  have HW := (show Hid (∀ b, LkBlk (.slice woa k.out.length woc) (.slice wsa k.seen.length wsc) wrs b → b < wc.heap.size) from fun b hb => (H3.out.2.2.2.1.own hb).2)
  have LK4 : Hid (∀ wx : World, Below W4.heap.size W4 wx → LkAt wx (fun b => wc.heap.size ≤ b ∧ Pl wx b) (.agg #[.int .i64 l.id, .int .i64 l.next, .slice oa4 l.out.length oc4, .slice sa4 l.seen.length sc4]) l) := fun wx hx => (H4.out.2.2.2.2.2.1.below hx).at
  have hlt14 : w.heap.size + 1 < w4.heap.size := by omega
  clear b4 A4 bW4 M4 b4' hW4 H3 hrl4 hn4
  go_wp2_with fail
  rw [← (show W4 = _ from H4.out.2.2.2.2.2.2.2.2)]
  obtain ⟨B2, hB2⟩ : ∃ B2, B2 = wc.heap.size := ⟨_, rfl⟩
  rw [← hB2] at H4 HW LK4 hs4 hwl hs3
  clear hB2
  have KPC : Hid (∀ wx : World, Below W4.heap.size W4 wx → wx.cell? ⟨w4.heap.size, 0, none⟩ = some (.int .i64 l.id) ∧ wx.cell? ⟨w4.heap.size, 1, none⟩ = some (.int .i64 l.next) ∧ wx.cell? ⟨w4.heap.size, 2, none⟩ = some (.slice oa4 l.out.length oc4) ∧ wx.cell? ⟨w4.heap.size, 3, none⟩ = some (.slice sa4 l.seen.length sc4) ∧ wx.cell? ⟨w.heap.size + 1, 0, none⟩ = some (.int .i64 p.kind) ∧ wx.cell? ⟨w.heap.size + 1, 1, none⟩ = some (.int .i64 p.frm) ∧ wx.cell? ⟨w.heap.size + 1, 2, none⟩ = some (.int .i64 p.dst) ∧ wx.cell? ⟨w.heap.size + 1, 3, none⟩ = some (.int .i64 p.seq) ∧ wx.cell? ⟨w.heap.size + 1, 4, none⟩ = some (.int .i64 p.low) ∧ wx.cell? ⟨w.heap.size + 1, 5, none⟩ = some (.string p.body)) := fun wx hx => lpbox ((hx.block _ (lt_heap H4.out.2.2.2.2.2.2.1)).trans H4.out.2.2.2.2.2.2.1) ((hx.block _ (lt_heap H4.out.2.2.1)).trans H4.out.2.2.1)
  have hzC : w.heap.size ≤ W4.heap.size := H4.out.1.size
  have CBC : Hid (∀ wx : World, Calls Tryz.prog 18 #[.agg #[.int .i64 p.kind, .int .i64 p.frm, .int .i64 p.dst, .int .i64 p.seq, .int .i64 p.low, .string p.body]] wx fun e w' => ∃ r, e = .returned r ∧ (r = .agg #[.int .i64 p.kind, .int .i64 p.frm, .int .i64 p.dst, .int .i64 p.seq, .int .i64 p.low, .string p.body] ∧ Below wx.heap.size wx w')) := fun wx => (toPack_any p wx).mono (fun e w' h => ⟨_, h.1, rfl, h.2⟩)
  have CCC : Hid (∀ (v : Value) (S' : Nat → Prop) (wx : World), Below W4.heap.size W4 wx → LkAt wx S' v l → Calls Tryz.prog 19 #[v, .agg #[.int .i64 p.kind, .int .i64 p.frm, .int .i64 p.dst, .int .i64 p.seq, .int .i64 p.low, .string p.body]] wx fun e w' => ∃ r, e = .returned r ∧ (∃ v' ov sv rs, r = .tuple #[v', .bool gf, .bool gb] ∧ LkOwn w' wx.heap.size v' k ov sv rs ∧ Below wx.heap.size wx w')) := fun v S' wx hx h1 => (HC.out.2 v S' wx h1 (HL.out.2.1.below (H4.out.1.trans (hx.mono hzC))) (HL.out.2.2.below (H4.out.1.trans (hx.mono hzC)))).mono (fun e w' ⟨v', ov, sv, rs, h3, h4, h5⟩ => ⟨_, h3, v', ov, sv, rs, rfl, h4, h5⟩)
  have BDC := (show Hid (_ ∧ True) from ⟨(Below.refl W4.heap.size W4).drew, trivial⟩)
  obtain ⟨t0, t1, t2, t3, t4, t5, t6, t7, t8, t9⟩ := KPC.out W4 (Below.refl _ _)
  clear t0 t1 t2 t3 t4 t5 t6 t7 t8 t9
  go_cut [10, 11, 12] from 19 (fun pv tv bv wc => ∃ (zb : Nat) (zov zsv : Value) (zrs : List (Se × Value)), pv = .pointer (some ⟨zb, 0, none⟩) ∧ tv = .bool gf ∧ bv = .bool gb ∧ W4.heap.size ≤ zb ∧ Hid (Below W4.heap.size W4 wc ∧ LkOwn wc W4.heap.size (.agg #[.int .i64 k.id, .int .i64 k.next, zov, zsv]) k zov zsv zrs ∧ (∀ b, LkBlk zov zsv zrs b → b ≠ zb) ∧ wc.heap[zb]? = some (.cells (k.row zov zsv) 36)))
  case first =>
    refine wp_region_held_drew (S := fun w' => w'.cell? ⟨w4.heap.size, 0, none⟩ = some (.int .i64 l.id) ∧ w'.cell? ⟨w4.heap.size, 1, none⟩ = some (.int .i64 l.next) ∧ w'.cell? ⟨w4.heap.size, 2, none⟩ = some (.slice oa4 l.out.length oc4) ∧ w'.cell? ⟨w4.heap.size, 3, none⟩ = some (.slice sa4 l.seen.length sc4) ∧ w'.cell? ⟨w.heap.size + 1, 0, none⟩ = some (.int .i64 p.kind) ∧ w'.cell? ⟨w.heap.size + 1, 1, none⟩ = some (.int .i64 p.frm) ∧ w'.cell? ⟨w.heap.size + 1, 2, none⟩ = some (.int .i64 p.dst) ∧ w'.cell? ⟨w.heap.size + 1, 3, none⟩ = some (.int .i64 p.seq) ∧ w'.cell? ⟨w.heap.size + 1, 4, none⟩ = some (.int .i64 p.low) ∧ w'.cell? ⟨w.heap.size + 1, 5, none⟩ = some (.string p.body)) (by kernel_rfl) (KPC.out W4 (Below.refl _ _)) (fun hS => ?_)
    refine wpAnyH_take (i := 0) (v := .agg #[.int .i64 l.id, .int .i64 l.next, .slice oa4 l.out.length oc4, .slice sa4 l.seen.length sc4]) rfl (by kernel_rfl) (by kernel_rfl) (by kernel_rfl) (fun _ _ _ h => h) (Or.inl ⟨by rfl, ?_⟩) hS ?_
    · intro wq hSw
      obtain ⟨q0, q1, q2, q3, y0, y1, y2, y3, y4, y5⟩ := hSw
      go_simp
    simp only [Act.put, List.getElem_toArray, List.getElem_cons_zero, List.setIfInBounds_toArray, List.set_cons_zero, List.set_cons_succ]
    refine wpAnyH_take (i := 1) (v := .agg #[.int .i64 p.kind, .int .i64 p.frm, .int .i64 p.dst, .int .i64 p.seq, .int .i64 p.low, .string p.body]) rfl (by kernel_rfl) (by kernel_rfl) (by kernel_rfl) (fun _ _ _ h => h) (Or.inl ⟨by rfl, ?_⟩) hS ?_
    · intro wq hSw
      obtain ⟨q0, q1, q2, q3, y0, y1, y2, y3, y4, y5⟩ := hSw
      go_simp
    simp only [Act.put, List.getElem_toArray, List.getElem_cons_zero, List.getElem_cons_succ, List.setIfInBounds_toArray, List.set_cons_zero, List.set_cons_succ]
    refine wpAnyH_ready (rs := [2, 8]) (by kernel_rfl) (by simp) ?_
    refine AllReadyH.cons rfl (fun K hK => ?_) (AllReadyH.cons rfl (fun K hK => ?_) AllReadyH.nil)
    · refine step_call1 rfl 18 (.tmp 42) _ rfl ent_toPack (.agg #[.int .i64 p.kind, .int .i64 p.frm, .int .i64 p.dst, .int .i64 p.seq, .int .i64 p.low, .string p.body]) (by simp [Act.eval]) _ (CBC.out _) ?_
      rintro r w6 ⟨rfl, b6⟩
      have G6 := (show Hid (_ ∧ _ ∧ _) from ⟨BDC.out.1.trans (b6.mono BDC.out.1.size), (LK4.out _ BDC.out.1).below b6, b6⟩)
      clear b6
      refine hK.out _ _ (KPC.out _ G6.out.1) (fun _ => ?_)
      clear hK K
      simp only [Act.put, List.getElem_toArray, List.getElem_cons_zero, List.getElem_cons_succ, List.setIfInBounds_toArray, List.set_cons_zero, List.set_cons_succ]
      refine wpAnyH_ready (rs := [3, 8]) (by kernel_rfl) (by simp) ?_
      refine AllReadyH.cons rfl (fun K hK => ?_) (AllReadyH.cons rfl (fun K hK => ?_) AllReadyH.nil)
      · refine step_callB rfl 19 (.tmp 41) (.tmp 43) _ rfl ent_implTake (.agg #[.int .i64 l.id, .int .i64 l.next, .slice oa4 l.out.length oc4, .slice sa4 l.seen.length sc4]) (.agg #[.int .i64 p.kind, .int .i64 p.frm, .int .i64 p.dst, .int .i64 p.seq, .int .i64 p.low, .string p.body]) (by simp [Act.eval]) (by simp [Act.eval]) _ (CCC.out _ _ _ G6.out.1 G6.out.2.1) ?_
        rintro r w7 ⟨v7, ov7, sv7, rs7, rfl, A7, b7⟩
        have hv7 := A7.val
        obtain ⟨oa7, oc7, hov7⟩ := own_form A7.out.1
        have hrl7 : rs7.length = k.seen.length := by rw [← A7.is]; simp
        obtain ⟨n7, sa7, sc7, hn7, hsv7⟩ := own_formN A7.seen.cells
        obtain rfl : n7 = k.seen.length := by omega
        subst hov7 hsv7 hv7
        have G7 := (show Hid (_ ∧ _ ∧ _) from ⟨G6.out.1.trans (b7.mono G6.out.1.size), A7.mono G6.out.1.size, b7⟩)
        have G7o := (show Hid (_ ∧ True) from ⟨A7, trivial⟩)
        clear A7 b7 hrl7 hn7
        refine hK.out _ _ (KPC.out _ G7.out.1) (fun _ => ?_)
        clear hK K
        simp only [Act.put, List.getElem_toArray, List.getElem_cons_zero, List.getElem_cons_succ, List.setIfInBounds_toArray, List.set_cons_zero, List.set_cons_succ]
        refine wpAnyH_take (i := 4) (v := .tuple #[.agg #[.int .i64 k.id, .int .i64 k.next, .slice oa7 k.out.length oc7, .slice sa7 k.seen.length sc7], .bool gf, .bool gb]) rfl (by kernel_rfl) (by kernel_rfl) (by kernel_rfl) (fun _ _ _ h => h) (Or.inl ⟨by rfl, ?_⟩) (KPC.out _ G7.out.1) ?_
        · intro wq hSw
          go_simp
        simp only [Act.put, List.getElem_toArray, List.getElem_cons_zero, List.getElem_cons_succ, List.setIfInBounds_toArray, List.set_cons_zero, List.set_cons_succ]
        refine wpAnyH_take (i := 5) (v := .agg #[.int .i64 k.id, .int .i64 k.next, .slice oa7 k.out.length oc7, .slice sa7 k.seen.length sc7]) rfl (by kernel_rfl) (by kernel_rfl) (by kernel_rfl) (fun _ _ _ h => h) (Or.inl ⟨by rfl, ?_⟩) (KPC.out _ G7.out.1) ?_
        · intro wq hSw
          go_simp
        simp only [Act.put, List.getElem_toArray, List.getElem_cons_zero, List.getElem_cons_succ, List.setIfInBounds_toArray, List.set_cons_zero, List.set_cons_succ]
        refine wpAnyH_take (i := 6) (v := .bool gf) rfl (by kernel_rfl) (by kernel_rfl) (by kernel_rfl) (fun _ _ _ h => h) (Or.inl ⟨by rfl, ?_⟩) (KPC.out _ G7.out.1) ?_
        · intro wq hSw
          go_simp
        simp only [Act.put, List.getElem_toArray, List.getElem_cons_zero, List.getElem_cons_succ, List.setIfInBounds_toArray, List.set_cons_zero, List.set_cons_succ]
        refine wpAnyH_take (i := 7) (v := .bool gb) rfl (by kernel_rfl) (by kernel_rfl) (by kernel_rfl) (fun _ _ _ h => h) (Or.inl ⟨by rfl, ?_⟩) (KPC.out _ G7.out.1) ?_
        · intro wq hSw
          go_simp
        simp only [Act.put, List.getElem_toArray, List.getElem_cons_zero, List.getElem_cons_succ, List.setIfInBounds_toArray, List.set_cons_zero, List.set_cons_succ]
        refine wpAnyH_ready (rs := [8]) (by kernel_rfl) (by simp) ?_
        refine AllReadyH.cons rfl (fun K hK => ?_) AllReadyH.nil
        go_simp
        refine hK.out _ _ (KPC.out _ (G7.out.1.alloc G7.out.1.size (.cells #[.int .i64 0, .int .i64 0, .slice none 0 0, .slice none 0 0] 36))) (fun _ => ?_)
        clear hK K
        have B8 := G7.out.1.alloc G7.out.1.size (.cells #[.int .i64 0, .int .i64 0, .slice none 0 0, .slice none 0 0] 36)
        have A8 := G7.out.2.1.below ((Below.refl _ w7).alloc (Nat.le_refl _) (.cells #[.int .i64 0, .int .i64 0, .slice none 0 0, .slice none 0 0] 36))
        have Z8 := (MapKept.heap_alloc w7 (.cells #[.int .i64 0, .int .i64 0, .slice none 0 0, .slice none 0 0] 36)).1
        obtain ⟨W8, hW8⟩ : ∃ W8, W8 = w7.alloc (.cells #[.int .i64 0, .int .i64 0, .slice none 0 0, .slice none 0 0] 36) := ⟨_, rfl⟩
        rw [← hW8] at B8 A8 Z8 ⊢
        clear hW8
        refine wpAnyH_ready (rs := [9]) (by kernel_rfl) (by simp) ?_
        refine AllReadyH.cons rfl (fun K hK => ?_) AllReadyH.nil
        have ZZ : W8.heap[w7.heap.size]? = some (.cells #[.int .i64 0, .int .i64 0, .slice none 0 0, .slice none 0 0] 36) := Z8
        have y0 : W8.cell? ⟨w7.heap.size, 0, none⟩ = some (.int .i64 0) := by rw [cell_of_block ZZ]; rfl
        have y1 : W8.cell? ⟨w7.heap.size, 1, none⟩ = some (.int .i64 0) := by rw [cell_of_block ZZ]; rfl
        have y2 : W8.cell? ⟨w7.heap.size, 2, none⟩ = some (.slice none 0 0) := by rw [cell_of_block ZZ]; rfl
        have y3 : W8.cell? ⟨w7.heap.size, 3, none⟩ = some (.slice none 0 0) := by rw [cell_of_block ZZ]; rfl
        have f0 : W8.frozen? ⟨w7.heap.size, 0, none⟩ = false := unfrozen_of_block ZZ 0
        have f1 : W8.frozen? ⟨w7.heap.size, 1, none⟩ = false := unfrozen_of_block ZZ 1
        have f2 : W8.frozen? ⟨w7.heap.size, 2, none⟩ = false := unfrozen_of_block ZZ 2
        have f3 : W8.frozen? ⟨w7.heap.size, 3, none⟩ = false := unfrozen_of_block ZZ 3
        have hzw : W4.heap.size ≤ w7.heap.size := G7.out.1.size
        have hzl : w7.heap.size < W8.heap.size := lt_heap ZZ
        go_simp
        refine hK.out _ _ (KPC.out _ (below_set4 B8 hzw _ _ _ _)) (fun _ => ?_)
        clear hK K y0 y1 y2 y3 f0 f1 f2 f3
        refine wpAnyH_take (i := 10) (v := .bool gf) rfl (by kernel_rfl) (by kernel_rfl) (by kernel_rfl) (fun _ _ _ h => h) (Or.inl ⟨by rfl, ?_⟩) (KPC.out _ (below_set4 B8 hzw _ _ _ _)) ?_
        · intro wq hSw
          go_simp
        simp only [Act.put, List.getElem_toArray, List.getElem_cons_zero, List.getElem_cons_succ, List.setIfInBounds_toArray, List.set_cons_zero, List.set_cons_succ]
        refine wpAnyH_take (i := 11) (v := .bool gb) rfl (by kernel_rfl) (by kernel_rfl) (by kernel_rfl) (fun _ _ _ h => h) (Or.inl ⟨by rfl, ?_⟩) (KPC.out _ (below_set4 B8 hzw _ _ _ _)) ?_
        · intro wq hSw
          go_simp
        simp only [Act.put, List.getElem_toArray, List.getElem_cons_zero, List.getElem_cons_succ, List.setIfInBounds_toArray, List.set_cons_zero, List.set_cons_succ]
        refine wpAnyH_done (by kernel_rfl) ?_ _
        go_wp2_with fail
        go_meet
        exact ⟨w7.heap.size, .slice oa7 k.out.length oc7, .slice sa7 k.seen.length sc7, rs7, rfl, rfl, rfl, hzw, below_set4 B8 hzw _ _ _ _, box_set4 A8 (fun b hb => Nat.ne_of_lt (G7.out.2.1.own hb).2) ZZ, (fun b hb => Nat.ne_of_lt (G7.out.2.1.own hb).2), box_row ZZ⟩
      · go_simp
        refine hK.out _ _ (KPC.out _ (G6.out.1.alloc G6.out.1.size (.cells #[.int .i64 0, .int .i64 0, .slice none 0 0, .slice none 0 0] 36))) (fun _ => ?_)
        clear hK K
        refine wpAnyH_ready (rs := [3]) (by kernel_rfl) (by simp) ?_
        refine AllReadyH.cons rfl (fun K hK => ?_) AllReadyH.nil
        refine step_callB rfl 19 (.tmp 41) (.tmp 43) _ rfl ent_implTake (.agg #[.int .i64 l.id, .int .i64 l.next, .slice oa4 l.out.length oc4, .slice sa4 l.seen.length sc4]) (.agg #[.int .i64 p.kind, .int .i64 p.frm, .int .i64 p.dst, .int .i64 p.seq, .int .i64 p.low, .string p.body]) (by simp [Act.eval]) (by simp [Act.eval]) _ (CCC.out _ _ _ (G6.out.1.alloc G6.out.1.size (.cells #[.int .i64 0, .int .i64 0, .slice none 0 0, .slice none 0 0] 36)) (G6.out.2.1.below ((Below.refl _ _).alloc (Nat.le_refl _) (.cells #[.int .i64 0, .int .i64 0, .slice none 0 0, .slice none 0 0] 36)))) ?_
        rintro r w7 ⟨v7, ov7, sv7, rs7, rfl, A7, b7⟩
        have hv7 := A7.val
        obtain ⟨oa7, oc7, hov7⟩ := own_form A7.out.1
        have hrl7 : rs7.length = k.seen.length := by rw [← A7.is]; simp
        obtain ⟨n7, sa7, sc7, hn7, hsv7⟩ := own_formN A7.seen.cells
        obtain rfl : n7 = k.seen.length := by omega
        subst hov7 hsv7 hv7
        have G7 := (show Hid (_ ∧ _ ∧ _) from ⟨(G6.out.1.alloc G6.out.1.size (.cells #[.int .i64 0, .int .i64 0, .slice none 0 0, .slice none 0 0] 36)).trans (b7.mono (G6.out.1.alloc G6.out.1.size (.cells #[.int .i64 0, .int .i64 0, .slice none 0 0, .slice none 0 0] 36)).size), A7.mono (G6.out.1.alloc G6.out.1.size (.cells #[.int .i64 0, .int .i64 0, .slice none 0 0, .slice none 0 0] 36)).size, b7⟩)
        have G7o := (show Hid (_ ∧ True) from ⟨A7, trivial⟩)
        clear A7 b7 hrl7 hn7
        refine hK.out _ _ (KPC.out _ G7.out.1) (fun _ => ?_)
        clear hK K
        simp only [Act.put, List.getElem_toArray, List.getElem_cons_zero, List.getElem_cons_succ, List.setIfInBounds_toArray, List.set_cons_zero, List.set_cons_succ]
        refine wpAnyH_take (i := 4) (v := .tuple #[.agg #[.int .i64 k.id, .int .i64 k.next, .slice oa7 k.out.length oc7, .slice sa7 k.seen.length sc7], .bool gf, .bool gb]) rfl (by kernel_rfl) (by kernel_rfl) (by kernel_rfl) (fun _ _ _ h => h) (Or.inl ⟨by rfl, ?_⟩) (KPC.out _ G7.out.1) ?_
        · intro wq hSw
          go_simp
        simp only [Act.put, List.getElem_toArray, List.getElem_cons_zero, List.getElem_cons_succ, List.setIfInBounds_toArray, List.set_cons_zero, List.set_cons_succ]
        refine wpAnyH_take (i := 5) (v := .agg #[.int .i64 k.id, .int .i64 k.next, .slice oa7 k.out.length oc7, .slice sa7 k.seen.length sc7]) rfl (by kernel_rfl) (by kernel_rfl) (by kernel_rfl) (fun _ _ _ h => h) (Or.inl ⟨by rfl, ?_⟩) (KPC.out _ G7.out.1) ?_
        · intro wq hSw
          go_simp
        simp only [Act.put, List.getElem_toArray, List.getElem_cons_zero, List.getElem_cons_succ, List.setIfInBounds_toArray, List.set_cons_zero, List.set_cons_succ]
        refine wpAnyH_take (i := 6) (v := .bool gf) rfl (by kernel_rfl) (by kernel_rfl) (by kernel_rfl) (fun _ _ _ h => h) (Or.inl ⟨by rfl, ?_⟩) (KPC.out _ G7.out.1) ?_
        · intro wq hSw
          go_simp
        simp only [Act.put, List.getElem_toArray, List.getElem_cons_zero, List.getElem_cons_succ, List.setIfInBounds_toArray, List.set_cons_zero, List.set_cons_succ]
        refine wpAnyH_take (i := 7) (v := .bool gb) rfl (by kernel_rfl) (by kernel_rfl) (by kernel_rfl) (fun _ _ _ h => h) (Or.inl ⟨by rfl, ?_⟩) (KPC.out _ G7.out.1) ?_
        · intro wq hSw
          go_simp
        simp only [Act.put, List.getElem_toArray, List.getElem_cons_zero, List.getElem_cons_succ, List.setIfInBounds_toArray, List.set_cons_zero, List.set_cons_succ]
        have z0 := (MapKept.heap_alloc w6 (.cells #[.int .i64 0, .int .i64 0, .slice none 0 0, .slice none 0 0] 36)).1
        have z1 := (G7.out.2.2.block _ (lt_heap z0)).trans z0
        have hzo : w6.heap.size < (w6.alloc (.cells #[.int .i64 0, .int .i64 0, .slice none 0 0, .slice none 0 0] 36)).heap.size := lt_heap z0
        refine wpAnyH_ready (rs := [9]) (by kernel_rfl) (by simp) ?_
        refine AllReadyH.cons rfl (fun K hK => ?_) AllReadyH.nil
        have ZZ : w7.heap[w6.heap.size]? = some (.cells #[.int .i64 0, .int .i64 0, .slice none 0 0, .slice none 0 0] 36) := z1
        have y0 : w7.cell? ⟨w6.heap.size, 0, none⟩ = some (.int .i64 0) := by rw [cell_of_block ZZ]; rfl
        have y1 : w7.cell? ⟨w6.heap.size, 1, none⟩ = some (.int .i64 0) := by rw [cell_of_block ZZ]; rfl
        have y2 : w7.cell? ⟨w6.heap.size, 2, none⟩ = some (.slice none 0 0) := by rw [cell_of_block ZZ]; rfl
        have y3 : w7.cell? ⟨w6.heap.size, 3, none⟩ = some (.slice none 0 0) := by rw [cell_of_block ZZ]; rfl
        have f0 : w7.frozen? ⟨w6.heap.size, 0, none⟩ = false := unfrozen_of_block ZZ 0
        have f1 : w7.frozen? ⟨w6.heap.size, 1, none⟩ = false := unfrozen_of_block ZZ 1
        have f2 : w7.frozen? ⟨w6.heap.size, 2, none⟩ = false := unfrozen_of_block ZZ 2
        have f3 : w7.frozen? ⟨w6.heap.size, 3, none⟩ = false := unfrozen_of_block ZZ 3
        have hzw : W4.heap.size ≤ w6.heap.size := G6.out.1.size
        have hzl : w6.heap.size < w7.heap.size := lt_heap ZZ
        go_simp
        refine hK.out _ _ (KPC.out _ (below_set4 G7.out.1 hzw _ _ _ _)) (fun _ => ?_)
        clear hK K y0 y1 y2 y3 f0 f1 f2 f3
        refine wpAnyH_take (i := 10) (v := .bool gf) rfl (by kernel_rfl) (by kernel_rfl) (by kernel_rfl) (fun _ _ _ h => h) (Or.inl ⟨by rfl, ?_⟩) (KPC.out _ (below_set4 G7.out.1 hzw _ _ _ _)) ?_
        · intro wq hSw
          go_simp
        simp only [Act.put, List.getElem_toArray, List.getElem_cons_zero, List.getElem_cons_succ, List.setIfInBounds_toArray, List.set_cons_zero, List.set_cons_succ]
        refine wpAnyH_take (i := 11) (v := .bool gb) rfl (by kernel_rfl) (by kernel_rfl) (by kernel_rfl) (fun _ _ _ h => h) (Or.inl ⟨by rfl, ?_⟩) (KPC.out _ (below_set4 G7.out.1 hzw _ _ _ _)) ?_
        · intro wq hSw
          go_simp
        simp only [Act.put, List.getElem_toArray, List.getElem_cons_zero, List.getElem_cons_succ, List.setIfInBounds_toArray, List.set_cons_zero, List.set_cons_succ]
        refine wpAnyH_done (by kernel_rfl) ?_ _
        go_wp2_with fail
        go_meet
        exact ⟨w6.heap.size, .slice oa7 k.out.length oc7, .slice sa7 k.seen.length sc7, rs7, rfl, rfl, rfl, hzw, below_set4 G7.out.1 hzw _ _ _ _, box_set4 G7.out.2.1 (fun b hb => by have h1 := (G7o.out.1.own hb).1; have h2 := hzo; omega) ZZ, (fun b hb => by have h1 := (G7o.out.1.own hb).1; have h2 := hzo; omega), box_row ZZ⟩
    · go_simp
      refine hK.out _ _ (KPC.out _ (BDC.out.1.alloc BDC.out.1.size (.cells #[.int .i64 0, .int .i64 0, .slice none 0 0, .slice none 0 0] 36))) (fun _ => ?_)
      clear hK K
      refine wpAnyH_ready (rs := [2]) (by kernel_rfl) (by simp) ?_
      refine AllReadyH.cons rfl (fun K hK => ?_) AllReadyH.nil
      refine step_call1 rfl 18 (.tmp 42) _ rfl ent_toPack (.agg #[.int .i64 p.kind, .int .i64 p.frm, .int .i64 p.dst, .int .i64 p.seq, .int .i64 p.low, .string p.body]) (by simp [Act.eval]) _ (CBC.out _) ?_
      rintro r w6 ⟨rfl, b6⟩
      have G6 := (show Hid (_ ∧ _ ∧ _) from ⟨(BDC.out.1.alloc BDC.out.1.size (.cells #[.int .i64 0, .int .i64 0, .slice none 0 0, .slice none 0 0] 36)).trans (b6.mono (BDC.out.1.alloc BDC.out.1.size (.cells #[.int .i64 0, .int .i64 0, .slice none 0 0, .slice none 0 0] 36)).size), (LK4.out _ (BDC.out.1.alloc BDC.out.1.size (.cells #[.int .i64 0, .int .i64 0, .slice none 0 0, .slice none 0 0] 36))).below b6, b6⟩)
      clear b6
      refine hK.out _ _ (KPC.out _ G6.out.1) (fun _ => ?_)
      clear hK K
      simp only [Act.put, List.getElem_toArray, List.getElem_cons_zero, List.getElem_cons_succ, List.setIfInBounds_toArray, List.set_cons_zero, List.set_cons_succ]
      refine wpAnyH_ready (rs := [3]) (by kernel_rfl) (by simp) ?_
      refine AllReadyH.cons rfl (fun K hK => ?_) AllReadyH.nil
      refine step_callB rfl 19 (.tmp 41) (.tmp 43) _ rfl ent_implTake (.agg #[.int .i64 l.id, .int .i64 l.next, .slice oa4 l.out.length oc4, .slice sa4 l.seen.length sc4]) (.agg #[.int .i64 p.kind, .int .i64 p.frm, .int .i64 p.dst, .int .i64 p.seq, .int .i64 p.low, .string p.body]) (by simp [Act.eval]) (by simp [Act.eval]) _ (CCC.out _ _ _ G6.out.1 G6.out.2.1) ?_
      rintro r w7 ⟨v7, ov7, sv7, rs7, rfl, A7, b7⟩
      have hv7 := A7.val
      obtain ⟨oa7, oc7, hov7⟩ := own_form A7.out.1
      have hrl7 : rs7.length = k.seen.length := by rw [← A7.is]; simp
      obtain ⟨n7, sa7, sc7, hn7, hsv7⟩ := own_formN A7.seen.cells
      obtain rfl : n7 = k.seen.length := by omega
      subst hov7 hsv7 hv7
      have G7 := (show Hid (_ ∧ _ ∧ _) from ⟨G6.out.1.trans (b7.mono G6.out.1.size), A7.mono G6.out.1.size, b7⟩)
      have G7o := (show Hid (_ ∧ True) from ⟨A7, trivial⟩)
      clear A7 b7 hrl7 hn7
      refine hK.out _ _ (KPC.out _ G7.out.1) (fun _ => ?_)
      clear hK K
      simp only [Act.put, List.getElem_toArray, List.getElem_cons_zero, List.getElem_cons_succ, List.setIfInBounds_toArray, List.set_cons_zero, List.set_cons_succ]
      refine wpAnyH_take (i := 4) (v := .tuple #[.agg #[.int .i64 k.id, .int .i64 k.next, .slice oa7 k.out.length oc7, .slice sa7 k.seen.length sc7], .bool gf, .bool gb]) rfl (by kernel_rfl) (by kernel_rfl) (by kernel_rfl) (fun _ _ _ h => h) (Or.inl ⟨by rfl, ?_⟩) (KPC.out _ G7.out.1) ?_
      · intro wq hSw
        go_simp
      simp only [Act.put, List.getElem_toArray, List.getElem_cons_zero, List.getElem_cons_succ, List.setIfInBounds_toArray, List.set_cons_zero, List.set_cons_succ]
      refine wpAnyH_take (i := 5) (v := .agg #[.int .i64 k.id, .int .i64 k.next, .slice oa7 k.out.length oc7, .slice sa7 k.seen.length sc7]) rfl (by kernel_rfl) (by kernel_rfl) (by kernel_rfl) (fun _ _ _ h => h) (Or.inl ⟨by rfl, ?_⟩) (KPC.out _ G7.out.1) ?_
      · intro wq hSw
        go_simp
      simp only [Act.put, List.getElem_toArray, List.getElem_cons_zero, List.getElem_cons_succ, List.setIfInBounds_toArray, List.set_cons_zero, List.set_cons_succ]
      refine wpAnyH_take (i := 6) (v := .bool gf) rfl (by kernel_rfl) (by kernel_rfl) (by kernel_rfl) (fun _ _ _ h => h) (Or.inl ⟨by rfl, ?_⟩) (KPC.out _ G7.out.1) ?_
      · intro wq hSw
        go_simp
      simp only [Act.put, List.getElem_toArray, List.getElem_cons_zero, List.getElem_cons_succ, List.setIfInBounds_toArray, List.set_cons_zero, List.set_cons_succ]
      refine wpAnyH_take (i := 7) (v := .bool gb) rfl (by kernel_rfl) (by kernel_rfl) (by kernel_rfl) (fun _ _ _ h => h) (Or.inl ⟨by rfl, ?_⟩) (KPC.out _ G7.out.1) ?_
      · intro wq hSw
        go_simp
      simp only [Act.put, List.getElem_toArray, List.getElem_cons_zero, List.getElem_cons_succ, List.setIfInBounds_toArray, List.set_cons_zero, List.set_cons_succ]
      have z0 := (MapKept.heap_alloc W4.drew (.cells #[.int .i64 0, .int .i64 0, .slice none 0 0, .slice none 0 0] 36)).1
      have z1 := (G6.out.2.2.block _ (lt_heap z0)).trans z0
      have z2 := (G7.out.2.2.block _ (lt_heap z1)).trans z1
      have hzo : W4.heap.size < w6.heap.size := lt_heap z1
      refine wpAnyH_ready (rs := [9]) (by kernel_rfl) (by simp) ?_
      refine AllReadyH.cons rfl (fun K hK => ?_) AllReadyH.nil
      have ZZ : w7.heap[W4.heap.size]? = some (.cells #[.int .i64 0, .int .i64 0, .slice none 0 0, .slice none 0 0] 36) := z2
      have y0 : w7.cell? ⟨W4.heap.size, 0, none⟩ = some (.int .i64 0) := by rw [cell_of_block ZZ]; rfl
      have y1 : w7.cell? ⟨W4.heap.size, 1, none⟩ = some (.int .i64 0) := by rw [cell_of_block ZZ]; rfl
      have y2 : w7.cell? ⟨W4.heap.size, 2, none⟩ = some (.slice none 0 0) := by rw [cell_of_block ZZ]; rfl
      have y3 : w7.cell? ⟨W4.heap.size, 3, none⟩ = some (.slice none 0 0) := by rw [cell_of_block ZZ]; rfl
      have f0 : w7.frozen? ⟨W4.heap.size, 0, none⟩ = false := unfrozen_of_block ZZ 0
      have f1 : w7.frozen? ⟨W4.heap.size, 1, none⟩ = false := unfrozen_of_block ZZ 1
      have f2 : w7.frozen? ⟨W4.heap.size, 2, none⟩ = false := unfrozen_of_block ZZ 2
      have f3 : w7.frozen? ⟨W4.heap.size, 3, none⟩ = false := unfrozen_of_block ZZ 3
      have hzw : W4.heap.size ≤ W4.heap.size := BDC.out.1.size
      have hzl : W4.heap.size < w7.heap.size := lt_heap ZZ
      go_simp
      refine hK.out _ _ (KPC.out _ (below_set4 G7.out.1 hzw _ _ _ _)) (fun _ => ?_)
      clear hK K y0 y1 y2 y3 f0 f1 f2 f3
      refine wpAnyH_take (i := 10) (v := .bool gf) rfl (by kernel_rfl) (by kernel_rfl) (by kernel_rfl) (fun _ _ _ h => h) (Or.inl ⟨by rfl, ?_⟩) (KPC.out _ (below_set4 G7.out.1 hzw _ _ _ _)) ?_
      · intro wq hSw
        go_simp
      simp only [Act.put, List.getElem_toArray, List.getElem_cons_zero, List.getElem_cons_succ, List.setIfInBounds_toArray, List.set_cons_zero, List.set_cons_succ]
      refine wpAnyH_take (i := 11) (v := .bool gb) rfl (by kernel_rfl) (by kernel_rfl) (by kernel_rfl) (fun _ _ _ h => h) (Or.inl ⟨by rfl, ?_⟩) (KPC.out _ (below_set4 G7.out.1 hzw _ _ _ _)) ?_
      · intro wq hSw
        go_simp
      simp only [Act.put, List.getElem_toArray, List.getElem_cons_zero, List.getElem_cons_succ, List.setIfInBounds_toArray, List.set_cons_zero, List.set_cons_succ]
      refine wpAnyH_done (by kernel_rfl) ?_ _
      go_wp2_with fail
      go_meet
      exact ⟨W4.heap.size, .slice oa7 k.out.length oc7, .slice sa7 k.seen.length sc7, rs7, rfl, rfl, rfl, hzw, below_set4 G7.out.1 hzw _ _ _ _, box_set4 G7.out.2.1 (fun b hb => by have h1 := (G7o.out.1.own hb).1; have h2 := hzo; omega) ZZ, (fun b hb => by have h1 := (G7o.out.1.own hb).1; have h2 := hzo; omega), box_row ZZ⟩
  case rest =>
  obtain ⟨gbx, gov, gsv, rs6, rfl, rfl, rfl, hgb, HG⟩ := hcut
  obtain ⟨oa6, oc6, hgov⟩ := own_form HG.out.2.1.out.1
  have hgrl : rs6.length = k.seen.length := by rw [← HG.out.2.1.is]; simp
  obtain ⟨n6, sa6, sc6, hn6, hgsv⟩ := own_formN HG.out.2.1.seen.cells
  obtain rfl : n6 = k.seen.length := by omega
  subst hgov hgsv
  have hs6 : W4.heap.size ≤ wc.heap.size := HG.out.1.size
  have hgl : gbx < wc.heap.size := lt_heap HG.out.2.2.2
  have hx4 : w4.heap.size < W4.heap.size := lt_heap H4.out.2.2.2.2.2.2.1
  have st6 : LtSt w wc l k p (.slice oa l.out.length oc) (.slice sa l.seen.length sc) w2.heap.size wbx B2 w4.heap.size gbx (.slice woa k.out.length woc) (.slice wsa k.seen.length wsc) wrs (.slice oa4 l.out.length oc4) (.slice sa4 l.seen.length sc4) (.slice oa6 k.out.length oc6) (.slice sa6 k.seen.length sc6) :=
    ⟨H4.out.1.trans (HG.out.1.mono hzC), (HG.out.1.block _ (lt_heap H4.out.2.1)).trans H4.out.2.1, (HG.out.1.block _ (lt_heap H4.out.2.2.1)).trans H4.out.2.2.1, H4.out.2.2.2.1.below HG.out.1, HW.out, (HG.out.1.block _ (lt_heap H4.out.2.2.2.2.1)).trans H4.out.2.2.2.2.1, (HG.out.1.block _ (lt_heap H4.out.2.2.2.2.2.2.1)).trans H4.out.2.2.2.2.2.2.1, HG.out.2.2.2, ⟨by omega, by omega, by omega, by omega, by omega, by omega⟩⟩
  have hX6 := (fun (b : Nat) (hb : LkBlk (.slice oa6 k.out.length oc6) (.slice sa6 k.seen.length sc6) rs6 b) => And.intro (HG.out.2.1.own hb) (HG.out.2.2.1 b hb))
  have H6 := (show Hid (_ ∧ _ ∧ _) from ⟨st6, H4.out.2.2.2.2.2.1.below HG.out.1, HG.out.2.1⟩)
  have HB := (show Hid (_ ∧ _) from ⟨H4.out.2.2.2.2.2.2.2.1, hX6⟩)
  obtain ⟨p0, p1, p2, p3⟩ := lbox st6.wbox
  obtain ⟨q0, q1, q2, q3⟩ := lbox st6.gbox
  clear st6 hX6 HG H4 hgrl hn6 HW LK4 KPC CBC CCC BDC
  go_wp2_with fail
  clear p0 p1 p2 p3 q0 q1 q2 q3
  refine (eqLink_any _ _ k _ _ wc H6.out.2.2.at H6.out.1.wown.at (by omega)).mono ?_
  rintro e w7 ⟨rfl, b7⟩
  have H7 := (show Hid (_ ∧ _ ∧ _) from ⟨H6.out.1.below b7, H6.out.2.1.below b7, H6.out.2.2.below b7⟩)
  clear b7 H6
  obtain ⟨q0, q1, q2, q3⟩ := lbox H7.out.1.abox
  obtain ⟨p0, p1, p2, p3⟩ := lbox H7.out.1.xbox
  go_wp2_with fail
  clear q0 q1 q2 q3 p0 p1 p2 p3
  have hd : Below w7.heap.size w7 w7.drew := (Below.refl _ _).drew
  have H8 := (show Hid (_ ∧ _ ∧ _) from ⟨H7.out.1.below hd, H7.out.2.1.below hd, H7.out.2.2.below hd⟩)
  clear hd H7
  go_region_held3 (fun w' => w'.cell? ⟨w4.heap.size, 0, none⟩ = some (.int .i64 l.id) ∧ w'.cell? ⟨w4.heap.size, 1, none⟩ = some (.int .i64 l.next) ∧ w'.cell? ⟨w4.heap.size, 2, none⟩ = some (.slice oa4 l.out.length oc4) ∧ w'.cell? ⟨w4.heap.size, 3, none⟩ = some (.slice sa4 l.seen.length sc4) ∧ w'.cell? ⟨w.heap.size, 0, none⟩ = some (.int .i64 l.id) ∧ w'.cell? ⟨w.heap.size, 1, none⟩ = some (.int .i64 l.next) ∧ w'.cell? ⟨w.heap.size, 2, none⟩ = some (.slice oa l.out.length oc) ∧ w'.cell? ⟨w.heap.size, 3, none⟩ = some (.slice sa l.seen.length sc)) (first | exact llbox H10.out.1.xbox H10.out.1.abox | exact llbox H9.out.1.xbox H9.out.1.abox | exact llbox H8.out.1.xbox H8.out.1.abox) (first
    | (go_at_call 8; refine (toLink_any _ l S _ (HL.out.1.below H8.out.1.base) hb).mono ?_; rintro e w9 ⟨v9, ov9, sv9, rs9, rfl, A9, b9⟩; have H9 := (show Hid (_ ∧ _ ∧ _ ∧ _) from ⟨H8.out.1.below b9, H8.out.2.1.below b9, H8.out.2.2.below b9, A9.at⟩); obtain ⟨oa9, oc9, sa9, sc9, rfl, -, -⟩ := A9.at.form; clear A9 b9 H8)
    | (go_at_call 11; refine (eqLink_any _ _ l _ _ _ H9.out.2.1.at H9.out.2.2.2 (by omega)).mono ?_; rintro e w10 ⟨rfl, b10⟩; have H10 := (show Hid (_ ∧ _ ∧ _) from ⟨H9.out.1.below b10, H9.out.2.1.below b10, H9.out.2.2.1.below b10⟩); clear b10 H9))
  obtain ⟨p0, p1, p2, p3⟩ := lbox H10.out.1.xbox
  have hbb := (show l.bulk = bulkO l.out + bulkN l.seen from rfl)
  have hbo := (show bulkO l.out = l.out.length + preO l.out l.out.length from rfl)
  have hmk : (0 : Int) ≤ mkE 1 l ∧ mkE 1 l ≤ 90000000 := by unfold mkE; omega
  have hmbb := (show k.bulk = bulkO k.out + bulkN k.seen from rfl)
  have hmbo := (show bulkO k.out = k.out.length + preO k.out k.out.length from rfl)
  have hmm : (0 : Int) ≤ mkE 1 k ∧ mkE 1 k ≤ 90000000 := by unfold mkE; omega
  go_wp2_with fail
  clear p0 p1 p2 p3
  refine (markLink_any _ _ l _ _ rs4 1 w10 (by omega) (by omega) (by omega) H10.out.2.1).mono ?_
  rintro e w14 ⟨rfl, -, k14⟩
  have ord13 := H10.out.1.ord
  have H15 := (show Hid (_ ∧ _) from ⟨H10.out.1.kept k14 (fun k hk => by have := HB.out.1 k hk; omega), H10.out.2.2.kept k14 (fun b hb hx => by have h1 := HB.out.1 b hx; have h2 := (HB.out.2 b hb).1; omega)⟩)
  clear k14 H10 ord13
  generalize mkE 1 l = km at *
  have hmn : ¬ km < 0 := by omega
  obtain ⟨p0, p1, p2, p3⟩ := lbox H15.out.1.wbox
  obtain ⟨q0, q1, q2, q3⟩ := lbox H15.out.1.gbox
  go_wp2_with fail
  clear p0 p1 p2 p3 q0 q1 q2 q3
  refine (eqLink_any _ _ k _ _ w14 H15.out.2.at H15.out.1.wown.at (by omega)).mono ?_
  rintro e w16 ⟨rfl, b16⟩
  have H16 := (show Hid (_ ∧ _) from ⟨H15.out.1.below b16, H15.out.2.below b16⟩)
  clear b16 H15
  obtain ⟨q0, q1, q2, q3⟩ := lbox H16.out.1.gbox
  go_wp2_with fail
  clear q0 q1 q2 q3
  refine (markLink_any _ _ k _ _ rs6 1 w16 (by decide) (by decide) (by omega) H16.out.2).mono ?_
  rintro e w17 ⟨rfl, m17, k17⟩
  have ord16 := H16.out.1.ord
  have H17 := (show Hid (_ ∧ _ ∧ _) from ⟨H16.out.1.kept k17 (fun k hk => by have := HB.out.2 k hk; omega), m17, H16.out.2.is⟩)
  clear m17 k17 H16 ord16
  have hq0 : ¬ mkE 1 k < 0 := by omega
  have hqq : (mkE 1 k != mkE 1 k) = false := by simp
  have HK := (show Hid (_ ∧ True) from ⟨fun (wx : World) (h : MkL wx W4.heap.size k (.slice oa6 k.out.length oc6) (.slice sa6 k.seen.length sc6) rs6 1) => heldLink_any W4.heap.size _ k _ _ rs6 1 wx (by decide) (by decide) (by omega) h H17.out.2.2 rfl, trivial⟩)
  generalize mkE 1 k = kq at *
  obtain ⟨q0, q1, q2, q3⟩ := lbox H17.out.1.gbox
  go_wp2_with fail
  clear q0 q1 q2 q3
  refine (HK.out.1 w17 H17.out.2.1).mono ?_
  rintro e w18 ⟨rfl, b18⟩
  have H18 := (show Hid (_ ∧ _) from ⟨H17.out.1.below b18, H17.out.2.1.below b18⟩)
  clear b18 H17
  have KPB : Hid (∀ wx : World, Below w18.heap.size w18 wx → wx.cell? ⟨w.heap.size, 0, none⟩ = some (.int .i64 l.id) ∧ wx.cell? ⟨w.heap.size, 1, none⟩ = some (.int .i64 l.next) ∧ wx.cell? ⟨w.heap.size, 2, none⟩ = some (.slice oa l.out.length oc) ∧ wx.cell? ⟨w.heap.size, 3, none⟩ = some (.slice sa l.seen.length sc) ∧ wx.cell? ⟨w.heap.size + 1, 0, none⟩ = some (.int .i64 p.kind) ∧ wx.cell? ⟨w.heap.size + 1, 1, none⟩ = some (.int .i64 p.frm) ∧ wx.cell? ⟨w.heap.size + 1, 2, none⟩ = some (.int .i64 p.dst) ∧ wx.cell? ⟨w.heap.size + 1, 3, none⟩ = some (.int .i64 p.seq) ∧ wx.cell? ⟨w.heap.size + 1, 4, none⟩ = some (.int .i64 p.low) ∧ wx.cell? ⟨w.heap.size + 1, 5, none⟩ = some (.string p.body)) := fun wx hx => lpbox ((hx.block _ (lt_heap H18.out.1.abox)).trans H18.out.1.abox) ((hx.block _ (lt_heap H18.out.1.apbx)).trans H18.out.1.apbx)
  have hzB : w.heap.size ≤ w18.heap.size := H18.out.1.base.size
  have CAB : Hid (∀ wx : World, Below w18.heap.size w18 wx → Calls Tryz.prog 8 #[.agg #[.int .i64 l.id, .int .i64 l.next, .slice oa l.out.length oc, .slice sa l.seen.length sc]] wx fun e w' => ∃ r, e = .returned r ∧ (∃ ov sv rs, LkOwn w' wx.heap.size r l ov sv rs ∧ Below wx.heap.size wx w')) := fun wx hx => (toLink_any _ l S wx (HL.out.1.below (H18.out.1.base.trans (hx.mono hzB))) hb).mono (fun e w' ⟨v, ov, sv, rs, h1, h2, h3⟩ => ⟨v, h1, ov, sv, rs, h2, h3⟩)
  have CBB : Hid (∀ wx : World, Calls Tryz.prog 18 #[.agg #[.int .i64 p.kind, .int .i64 p.frm, .int .i64 p.dst, .int .i64 p.seq, .int .i64 p.low, .string p.body]] wx fun e w' => ∃ r, e = .returned r ∧ (r = .agg #[.int .i64 p.kind, .int .i64 p.frm, .int .i64 p.dst, .int .i64 p.seq, .int .i64 p.low, .string p.body] ∧ Below wx.heap.size wx w')) := fun wx => (toPack_any p wx).mono (fun e w' h => ⟨_, h.1, rfl, h.2⟩)
  have CCB : Hid (∀ (v : Value) (S' : Nat → Prop) (wx : World), Below w18.heap.size w18 wx → LkAt wx S' v l → Calls Tryz.prog 19 #[v, .agg #[.int .i64 p.kind, .int .i64 p.frm, .int .i64 p.dst, .int .i64 p.seq, .int .i64 p.low, .string p.body]] wx fun e w' => ∃ r, e = .returned r ∧ (∃ v' ov sv rs, r = .tuple #[v', .bool gf, .bool gb] ∧ LkOwn w' wx.heap.size v' k ov sv rs ∧ Below wx.heap.size wx w')) := fun v S' wx hx h1 => (HC.out.2 v S' wx h1 (HL.out.2.1.below (H18.out.1.base.trans (hx.mono hzB))) (HL.out.2.2.below (H18.out.1.base.trans (hx.mono hzB)))).mono (fun e w' ⟨v', ov, sv, rs, h3, h4, h5⟩ => ⟨_, h3, v', ov, sv, rs, rfl, h4, h5⟩)
  have BDB := (show Hid (_ ∧ True) from ⟨(Below.refl w18.heap.size w18).drew, trivial⟩)
  obtain ⟨t0, t1, t2, t3, t4, t5, t6, t7, t8, t9⟩ := KPB.out w18 (Below.refl _ _)
  go_wp2_with fail
  clear t0 t1 t2 t3 t4 t5 t6 t7 t8 t9
  go_cut [16, 17, 18] from 19 (fun pv tv bv wc => ∃ (zb : Nat) (zov zsv : Value) (zrs : List (Se × Value)), pv = .pointer (some ⟨zb, 0, none⟩) ∧ tv = .bool gf ∧ bv = .bool gb ∧ w18.heap.size ≤ zb ∧ Hid (Below w18.heap.size w18 wc ∧ LkOwn wc w18.heap.size (.agg #[.int .i64 k.id, .int .i64 k.next, zov, zsv]) k zov zsv zrs ∧ (∀ b, LkBlk zov zsv zrs b → b ≠ zb) ∧ wc.heap[zb]? = some (.cells (k.row zov zsv) 36)))
  case first =>
    refine wp_region_held_drew (S := fun w' => w'.cell? ⟨w.heap.size, 0, none⟩ = some (.int .i64 l.id) ∧ w'.cell? ⟨w.heap.size, 1, none⟩ = some (.int .i64 l.next) ∧ w'.cell? ⟨w.heap.size, 2, none⟩ = some (.slice oa l.out.length oc) ∧ w'.cell? ⟨w.heap.size, 3, none⟩ = some (.slice sa l.seen.length sc) ∧ w'.cell? ⟨w.heap.size + 1, 0, none⟩ = some (.int .i64 p.kind) ∧ w'.cell? ⟨w.heap.size + 1, 1, none⟩ = some (.int .i64 p.frm) ∧ w'.cell? ⟨w.heap.size + 1, 2, none⟩ = some (.int .i64 p.dst) ∧ w'.cell? ⟨w.heap.size + 1, 3, none⟩ = some (.int .i64 p.seq) ∧ w'.cell? ⟨w.heap.size + 1, 4, none⟩ = some (.int .i64 p.low) ∧ w'.cell? ⟨w.heap.size + 1, 5, none⟩ = some (.string p.body)) (by kernel_rfl) (KPB.out w18 (Below.refl _ _)) (fun hS => ?_)
    refine wpAnyH_take (i := 0) (v := .agg #[.int .i64 l.id, .int .i64 l.next, .slice oa l.out.length oc, .slice sa l.seen.length sc]) rfl (by kernel_rfl) (by kernel_rfl) (by kernel_rfl) (fun _ _ _ h => h) (Or.inl ⟨by rfl, ?_⟩) hS ?_
    · intro wq hSw
      obtain ⟨q0, q1, q2, q3, y0, y1, y2, y3, y4, y5⟩ := hSw
      go_simp
    simp only [Act.put, List.getElem_toArray, List.getElem_cons_zero, List.setIfInBounds_toArray, List.set_cons_zero, List.set_cons_succ]
    refine wpAnyH_take (i := 2) (v := .agg #[.int .i64 p.kind, .int .i64 p.frm, .int .i64 p.dst, .int .i64 p.seq, .int .i64 p.low, .string p.body]) rfl (by kernel_rfl) (by kernel_rfl) (by kernel_rfl) (fun _ _ _ h => h) (Or.inl ⟨by rfl, ?_⟩) hS ?_
    · intro wq hSw
      obtain ⟨q0, q1, q2, q3, y0, y1, y2, y3, y4, y5⟩ := hSw
      go_simp
    simp only [Act.put, List.getElem_toArray, List.getElem_cons_zero, List.getElem_cons_succ, List.setIfInBounds_toArray, List.set_cons_zero, List.set_cons_succ]
    refine wpAnyH_ready (rs := [1, 9]) (by kernel_rfl) (by simp) ?_
    refine AllReadyH.cons rfl (fun K hK => ?_) (AllReadyH.cons rfl (fun K hK => ?_) AllReadyH.nil)
    · refine step_call1 rfl 8 (.tmp 100) _ rfl ent_toLink (.agg #[.int .i64 l.id, .int .i64 l.next, .slice oa l.out.length oc, .slice sa l.seen.length sc]) (by simp [Act.eval]) _ (CAB.out _ BDB.out.1) ?_
      rintro r w5 ⟨ov5, sv5, rs5, A5, b5⟩
      have G5 := (show Hid (_ ∧ _ ∧ _) from ⟨BDB.out.1.trans (b5.mono BDB.out.1.size), A5.at, b5⟩)
      obtain ⟨oa5, oc5, sa5, sc5, rfl, -, -⟩ := A5.at.form
      clear A5 b5
      refine hK.out _ _ (KPB.out _ G5.out.1) (fun _ => ?_)
      clear hK K
      simp only [Act.put, List.getElem_toArray, List.getElem_cons_zero, List.getElem_cons_succ, List.setIfInBounds_toArray, List.set_cons_zero, List.set_cons_succ]
      refine wpAnyH_ready (rs := [3, 9]) (by kernel_rfl) (by simp) ?_
      refine AllReadyH.cons rfl (fun K hK => ?_) (AllReadyH.cons rfl (fun K hK => ?_) AllReadyH.nil)
      · refine step_call1 rfl 18 (.tmp 102) _ rfl ent_toPack (.agg #[.int .i64 p.kind, .int .i64 p.frm, .int .i64 p.dst, .int .i64 p.seq, .int .i64 p.low, .string p.body]) (by simp [Act.eval]) _ (CBB.out _) ?_
        rintro r w6 ⟨rfl, b6⟩
        have G6 := (show Hid (_ ∧ _ ∧ _) from ⟨G5.out.1.trans (b6.mono G5.out.1.size), G5.out.2.1.below b6, b6⟩)
        clear b6
        refine hK.out _ _ (KPB.out _ G6.out.1) (fun _ => ?_)
        clear hK K
        simp only [Act.put, List.getElem_toArray, List.getElem_cons_zero, List.getElem_cons_succ, List.setIfInBounds_toArray, List.set_cons_zero, List.set_cons_succ]
        refine wpAnyH_ready (rs := [4, 9]) (by kernel_rfl) (by simp) ?_
        refine AllReadyH.cons rfl (fun K hK => ?_) (AllReadyH.cons rfl (fun K hK => ?_) AllReadyH.nil)
        · refine step_callB rfl 19 (.tmp 101) (.tmp 103) _ rfl ent_implTake (.agg #[.int .i64 l.id, .int .i64 l.next, .slice oa5 l.out.length oc5, .slice sa5 l.seen.length sc5]) (.agg #[.int .i64 p.kind, .int .i64 p.frm, .int .i64 p.dst, .int .i64 p.seq, .int .i64 p.low, .string p.body]) (by simp [Act.eval]) (by simp [Act.eval]) _ (CCB.out _ _ _ G6.out.1 G6.out.2.1) ?_
          rintro r w7 ⟨v7, ov7, sv7, rs7, rfl, A7, b7⟩
          have hv7 := A7.val
          obtain ⟨oa7, oc7, hov7⟩ := own_form A7.out.1
          have hrl7 : rs7.length = k.seen.length := by rw [← A7.is]; simp
          obtain ⟨n7, sa7, sc7, hn7, hsv7⟩ := own_formN A7.seen.cells
          obtain rfl : n7 = k.seen.length := by omega
          subst hov7 hsv7 hv7
          have G7 := (show Hid (_ ∧ _ ∧ _) from ⟨G6.out.1.trans (b7.mono G6.out.1.size), A7.mono G6.out.1.size, b7⟩)
          have G7o := (show Hid (_ ∧ True) from ⟨A7, trivial⟩)
          clear A7 b7 hrl7 hn7
          refine hK.out _ _ (KPB.out _ G7.out.1) (fun _ => ?_)
          clear hK K
          simp only [Act.put, List.getElem_toArray, List.getElem_cons_zero, List.getElem_cons_succ, List.setIfInBounds_toArray, List.set_cons_zero, List.set_cons_succ]
          refine wpAnyH_take (i := 5) (v := .tuple #[.agg #[.int .i64 k.id, .int .i64 k.next, .slice oa7 k.out.length oc7, .slice sa7 k.seen.length sc7], .bool gf, .bool gb]) rfl (by kernel_rfl) (by kernel_rfl) (by kernel_rfl) (fun _ _ _ h => h) (Or.inl ⟨by rfl, ?_⟩) (KPB.out _ G7.out.1) ?_
          · intro wq hSw
            go_simp
          simp only [Act.put, List.getElem_toArray, List.getElem_cons_zero, List.getElem_cons_succ, List.setIfInBounds_toArray, List.set_cons_zero, List.set_cons_succ]
          refine wpAnyH_take (i := 6) (v := .agg #[.int .i64 k.id, .int .i64 k.next, .slice oa7 k.out.length oc7, .slice sa7 k.seen.length sc7]) rfl (by kernel_rfl) (by kernel_rfl) (by kernel_rfl) (fun _ _ _ h => h) (Or.inl ⟨by rfl, ?_⟩) (KPB.out _ G7.out.1) ?_
          · intro wq hSw
            go_simp
          simp only [Act.put, List.getElem_toArray, List.getElem_cons_zero, List.getElem_cons_succ, List.setIfInBounds_toArray, List.set_cons_zero, List.set_cons_succ]
          refine wpAnyH_take (i := 7) (v := .bool gf) rfl (by kernel_rfl) (by kernel_rfl) (by kernel_rfl) (fun _ _ _ h => h) (Or.inl ⟨by rfl, ?_⟩) (KPB.out _ G7.out.1) ?_
          · intro wq hSw
            go_simp
          simp only [Act.put, List.getElem_toArray, List.getElem_cons_zero, List.getElem_cons_succ, List.setIfInBounds_toArray, List.set_cons_zero, List.set_cons_succ]
          refine wpAnyH_take (i := 8) (v := .bool gb) rfl (by kernel_rfl) (by kernel_rfl) (by kernel_rfl) (fun _ _ _ h => h) (Or.inl ⟨by rfl, ?_⟩) (KPB.out _ G7.out.1) ?_
          · intro wq hSw
            go_simp
          simp only [Act.put, List.getElem_toArray, List.getElem_cons_zero, List.getElem_cons_succ, List.setIfInBounds_toArray, List.set_cons_zero, List.set_cons_succ]
          refine wpAnyH_ready (rs := [9]) (by kernel_rfl) (by simp) ?_
          refine AllReadyH.cons rfl (fun K hK => ?_) AllReadyH.nil
          go_simp
          refine hK.out _ _ (KPB.out _ (G7.out.1.alloc G7.out.1.size (.cells #[.int .i64 0, .int .i64 0, .slice none 0 0, .slice none 0 0] 36))) (fun _ => ?_)
          clear hK K
          have B8 := G7.out.1.alloc G7.out.1.size (.cells #[.int .i64 0, .int .i64 0, .slice none 0 0, .slice none 0 0] 36)
          have A8 := G7.out.2.1.below ((Below.refl _ w7).alloc (Nat.le_refl _) (.cells #[.int .i64 0, .int .i64 0, .slice none 0 0, .slice none 0 0] 36))
          have Z8 := (MapKept.heap_alloc w7 (.cells #[.int .i64 0, .int .i64 0, .slice none 0 0, .slice none 0 0] 36)).1
          obtain ⟨W8, hW8⟩ : ∃ W8, W8 = w7.alloc (.cells #[.int .i64 0, .int .i64 0, .slice none 0 0, .slice none 0 0] 36) := ⟨_, rfl⟩
          rw [← hW8] at B8 A8 Z8 ⊢
          clear hW8
          refine wpAnyH_ready (rs := [10]) (by kernel_rfl) (by simp) ?_
          refine AllReadyH.cons rfl (fun K hK => ?_) AllReadyH.nil
          have ZZ : W8.heap[w7.heap.size]? = some (.cells #[.int .i64 0, .int .i64 0, .slice none 0 0, .slice none 0 0] 36) := Z8
          have y0 : W8.cell? ⟨w7.heap.size, 0, none⟩ = some (.int .i64 0) := by rw [cell_of_block ZZ]; rfl
          have y1 : W8.cell? ⟨w7.heap.size, 1, none⟩ = some (.int .i64 0) := by rw [cell_of_block ZZ]; rfl
          have y2 : W8.cell? ⟨w7.heap.size, 2, none⟩ = some (.slice none 0 0) := by rw [cell_of_block ZZ]; rfl
          have y3 : W8.cell? ⟨w7.heap.size, 3, none⟩ = some (.slice none 0 0) := by rw [cell_of_block ZZ]; rfl
          have f0 : W8.frozen? ⟨w7.heap.size, 0, none⟩ = false := unfrozen_of_block ZZ 0
          have f1 : W8.frozen? ⟨w7.heap.size, 1, none⟩ = false := unfrozen_of_block ZZ 1
          have f2 : W8.frozen? ⟨w7.heap.size, 2, none⟩ = false := unfrozen_of_block ZZ 2
          have f3 : W8.frozen? ⟨w7.heap.size, 3, none⟩ = false := unfrozen_of_block ZZ 3
          have hzw : w18.heap.size ≤ w7.heap.size := G7.out.1.size
          have hzl : w7.heap.size < W8.heap.size := lt_heap ZZ
          go_simp
          refine hK.out _ _ (KPB.out _ (below_set4 B8 hzw _ _ _ _)) (fun _ => ?_)
          clear hK K y0 y1 y2 y3 f0 f1 f2 f3
          refine wpAnyH_take (i := 11) (v := .bool gf) rfl (by kernel_rfl) (by kernel_rfl) (by kernel_rfl) (fun _ _ _ h => h) (Or.inl ⟨by rfl, ?_⟩) (KPB.out _ (below_set4 B8 hzw _ _ _ _)) ?_
          · intro wq hSw
            go_simp
          simp only [Act.put, List.getElem_toArray, List.getElem_cons_zero, List.getElem_cons_succ, List.setIfInBounds_toArray, List.set_cons_zero, List.set_cons_succ]
          refine wpAnyH_take (i := 12) (v := .bool gb) rfl (by kernel_rfl) (by kernel_rfl) (by kernel_rfl) (fun _ _ _ h => h) (Or.inl ⟨by rfl, ?_⟩) (KPB.out _ (below_set4 B8 hzw _ _ _ _)) ?_
          · intro wq hSw
            go_simp
          simp only [Act.put, List.getElem_toArray, List.getElem_cons_zero, List.getElem_cons_succ, List.setIfInBounds_toArray, List.set_cons_zero, List.set_cons_succ]
          refine wpAnyH_done (by kernel_rfl) ?_ _
          go_wp2_with fail
          go_meet
          exact ⟨w7.heap.size, .slice oa7 k.out.length oc7, .slice sa7 k.seen.length sc7, rs7, rfl, rfl, rfl, hzw, below_set4 B8 hzw _ _ _ _, box_set4 A8 (fun b hb => Nat.ne_of_lt (G7.out.2.1.own hb).2) ZZ, (fun b hb => Nat.ne_of_lt (G7.out.2.1.own hb).2), box_row ZZ⟩
        · go_simp
          refine hK.out _ _ (KPB.out _ (G6.out.1.alloc G6.out.1.size (.cells #[.int .i64 0, .int .i64 0, .slice none 0 0, .slice none 0 0] 36))) (fun _ => ?_)
          clear hK K
          refine wpAnyH_ready (rs := [4]) (by kernel_rfl) (by simp) ?_
          refine AllReadyH.cons rfl (fun K hK => ?_) AllReadyH.nil
          refine step_callB rfl 19 (.tmp 101) (.tmp 103) _ rfl ent_implTake (.agg #[.int .i64 l.id, .int .i64 l.next, .slice oa5 l.out.length oc5, .slice sa5 l.seen.length sc5]) (.agg #[.int .i64 p.kind, .int .i64 p.frm, .int .i64 p.dst, .int .i64 p.seq, .int .i64 p.low, .string p.body]) (by simp [Act.eval]) (by simp [Act.eval]) _ (CCB.out _ _ _ (G6.out.1.alloc G6.out.1.size (.cells #[.int .i64 0, .int .i64 0, .slice none 0 0, .slice none 0 0] 36)) (G6.out.2.1.below ((Below.refl _ _).alloc (Nat.le_refl _) (.cells #[.int .i64 0, .int .i64 0, .slice none 0 0, .slice none 0 0] 36)))) ?_
          rintro r w7 ⟨v7, ov7, sv7, rs7, rfl, A7, b7⟩
          have hv7 := A7.val
          obtain ⟨oa7, oc7, hov7⟩ := own_form A7.out.1
          have hrl7 : rs7.length = k.seen.length := by rw [← A7.is]; simp
          obtain ⟨n7, sa7, sc7, hn7, hsv7⟩ := own_formN A7.seen.cells
          obtain rfl : n7 = k.seen.length := by omega
          subst hov7 hsv7 hv7
          have G7 := (show Hid (_ ∧ _ ∧ _) from ⟨(G6.out.1.alloc G6.out.1.size (.cells #[.int .i64 0, .int .i64 0, .slice none 0 0, .slice none 0 0] 36)).trans (b7.mono (G6.out.1.alloc G6.out.1.size (.cells #[.int .i64 0, .int .i64 0, .slice none 0 0, .slice none 0 0] 36)).size), A7.mono (G6.out.1.alloc G6.out.1.size (.cells #[.int .i64 0, .int .i64 0, .slice none 0 0, .slice none 0 0] 36)).size, b7⟩)
          have G7o := (show Hid (_ ∧ True) from ⟨A7, trivial⟩)
          clear A7 b7 hrl7 hn7
          refine hK.out _ _ (KPB.out _ G7.out.1) (fun _ => ?_)
          clear hK K
          simp only [Act.put, List.getElem_toArray, List.getElem_cons_zero, List.getElem_cons_succ, List.setIfInBounds_toArray, List.set_cons_zero, List.set_cons_succ]
          refine wpAnyH_take (i := 5) (v := .tuple #[.agg #[.int .i64 k.id, .int .i64 k.next, .slice oa7 k.out.length oc7, .slice sa7 k.seen.length sc7], .bool gf, .bool gb]) rfl (by kernel_rfl) (by kernel_rfl) (by kernel_rfl) (fun _ _ _ h => h) (Or.inl ⟨by rfl, ?_⟩) (KPB.out _ G7.out.1) ?_
          · intro wq hSw
            go_simp
          simp only [Act.put, List.getElem_toArray, List.getElem_cons_zero, List.getElem_cons_succ, List.setIfInBounds_toArray, List.set_cons_zero, List.set_cons_succ]
          refine wpAnyH_take (i := 6) (v := .agg #[.int .i64 k.id, .int .i64 k.next, .slice oa7 k.out.length oc7, .slice sa7 k.seen.length sc7]) rfl (by kernel_rfl) (by kernel_rfl) (by kernel_rfl) (fun _ _ _ h => h) (Or.inl ⟨by rfl, ?_⟩) (KPB.out _ G7.out.1) ?_
          · intro wq hSw
            go_simp
          simp only [Act.put, List.getElem_toArray, List.getElem_cons_zero, List.getElem_cons_succ, List.setIfInBounds_toArray, List.set_cons_zero, List.set_cons_succ]
          refine wpAnyH_take (i := 7) (v := .bool gf) rfl (by kernel_rfl) (by kernel_rfl) (by kernel_rfl) (fun _ _ _ h => h) (Or.inl ⟨by rfl, ?_⟩) (KPB.out _ G7.out.1) ?_
          · intro wq hSw
            go_simp
          simp only [Act.put, List.getElem_toArray, List.getElem_cons_zero, List.getElem_cons_succ, List.setIfInBounds_toArray, List.set_cons_zero, List.set_cons_succ]
          refine wpAnyH_take (i := 8) (v := .bool gb) rfl (by kernel_rfl) (by kernel_rfl) (by kernel_rfl) (fun _ _ _ h => h) (Or.inl ⟨by rfl, ?_⟩) (KPB.out _ G7.out.1) ?_
          · intro wq hSw
            go_simp
          simp only [Act.put, List.getElem_toArray, List.getElem_cons_zero, List.getElem_cons_succ, List.setIfInBounds_toArray, List.set_cons_zero, List.set_cons_succ]
          have z0 := (MapKept.heap_alloc w6 (.cells #[.int .i64 0, .int .i64 0, .slice none 0 0, .slice none 0 0] 36)).1
          have z1 := (G7.out.2.2.block _ (lt_heap z0)).trans z0
          have hzo : w6.heap.size < (w6.alloc (.cells #[.int .i64 0, .int .i64 0, .slice none 0 0, .slice none 0 0] 36)).heap.size := lt_heap z0
          refine wpAnyH_ready (rs := [10]) (by kernel_rfl) (by simp) ?_
          refine AllReadyH.cons rfl (fun K hK => ?_) AllReadyH.nil
          have ZZ : w7.heap[w6.heap.size]? = some (.cells #[.int .i64 0, .int .i64 0, .slice none 0 0, .slice none 0 0] 36) := z1
          have y0 : w7.cell? ⟨w6.heap.size, 0, none⟩ = some (.int .i64 0) := by rw [cell_of_block ZZ]; rfl
          have y1 : w7.cell? ⟨w6.heap.size, 1, none⟩ = some (.int .i64 0) := by rw [cell_of_block ZZ]; rfl
          have y2 : w7.cell? ⟨w6.heap.size, 2, none⟩ = some (.slice none 0 0) := by rw [cell_of_block ZZ]; rfl
          have y3 : w7.cell? ⟨w6.heap.size, 3, none⟩ = some (.slice none 0 0) := by rw [cell_of_block ZZ]; rfl
          have f0 : w7.frozen? ⟨w6.heap.size, 0, none⟩ = false := unfrozen_of_block ZZ 0
          have f1 : w7.frozen? ⟨w6.heap.size, 1, none⟩ = false := unfrozen_of_block ZZ 1
          have f2 : w7.frozen? ⟨w6.heap.size, 2, none⟩ = false := unfrozen_of_block ZZ 2
          have f3 : w7.frozen? ⟨w6.heap.size, 3, none⟩ = false := unfrozen_of_block ZZ 3
          have hzw : w18.heap.size ≤ w6.heap.size := G6.out.1.size
          have hzl : w6.heap.size < w7.heap.size := lt_heap ZZ
          go_simp
          refine hK.out _ _ (KPB.out _ (below_set4 G7.out.1 hzw _ _ _ _)) (fun _ => ?_)
          clear hK K y0 y1 y2 y3 f0 f1 f2 f3
          refine wpAnyH_take (i := 11) (v := .bool gf) rfl (by kernel_rfl) (by kernel_rfl) (by kernel_rfl) (fun _ _ _ h => h) (Or.inl ⟨by rfl, ?_⟩) (KPB.out _ (below_set4 G7.out.1 hzw _ _ _ _)) ?_
          · intro wq hSw
            go_simp
          simp only [Act.put, List.getElem_toArray, List.getElem_cons_zero, List.getElem_cons_succ, List.setIfInBounds_toArray, List.set_cons_zero, List.set_cons_succ]
          refine wpAnyH_take (i := 12) (v := .bool gb) rfl (by kernel_rfl) (by kernel_rfl) (by kernel_rfl) (fun _ _ _ h => h) (Or.inl ⟨by rfl, ?_⟩) (KPB.out _ (below_set4 G7.out.1 hzw _ _ _ _)) ?_
          · intro wq hSw
            go_simp
          simp only [Act.put, List.getElem_toArray, List.getElem_cons_zero, List.getElem_cons_succ, List.setIfInBounds_toArray, List.set_cons_zero, List.set_cons_succ]
          refine wpAnyH_done (by kernel_rfl) ?_ _
          go_wp2_with fail
          go_meet
          exact ⟨w6.heap.size, .slice oa7 k.out.length oc7, .slice sa7 k.seen.length sc7, rs7, rfl, rfl, rfl, hzw, below_set4 G7.out.1 hzw _ _ _ _, box_set4 G7.out.2.1 (fun b hb => by have h1 := (G7o.out.1.own hb).1; have h2 := hzo; omega) ZZ, (fun b hb => by have h1 := (G7o.out.1.own hb).1; have h2 := hzo; omega), box_row ZZ⟩
      · go_simp
        refine hK.out _ _ (KPB.out _ (G5.out.1.alloc G5.out.1.size (.cells #[.int .i64 0, .int .i64 0, .slice none 0 0, .slice none 0 0] 36))) (fun _ => ?_)
        clear hK K
        refine wpAnyH_ready (rs := [3]) (by kernel_rfl) (by simp) ?_
        refine AllReadyH.cons rfl (fun K hK => ?_) AllReadyH.nil
        refine step_call1 rfl 18 (.tmp 102) _ rfl ent_toPack (.agg #[.int .i64 p.kind, .int .i64 p.frm, .int .i64 p.dst, .int .i64 p.seq, .int .i64 p.low, .string p.body]) (by simp [Act.eval]) _ (CBB.out _) ?_
        rintro r w6 ⟨rfl, b6⟩
        have G6 := (show Hid (_ ∧ _ ∧ _) from ⟨(G5.out.1.alloc G5.out.1.size (.cells #[.int .i64 0, .int .i64 0, .slice none 0 0, .slice none 0 0] 36)).trans (b6.mono (G5.out.1.alloc G5.out.1.size (.cells #[.int .i64 0, .int .i64 0, .slice none 0 0, .slice none 0 0] 36)).size), (G5.out.2.1.below ((Below.refl _ _).alloc (Nat.le_refl _) (.cells #[.int .i64 0, .int .i64 0, .slice none 0 0, .slice none 0 0] 36))).below b6, b6⟩)
        clear b6
        refine hK.out _ _ (KPB.out _ G6.out.1) (fun _ => ?_)
        clear hK K
        simp only [Act.put, List.getElem_toArray, List.getElem_cons_zero, List.getElem_cons_succ, List.setIfInBounds_toArray, List.set_cons_zero, List.set_cons_succ]
        refine wpAnyH_ready (rs := [4]) (by kernel_rfl) (by simp) ?_
        refine AllReadyH.cons rfl (fun K hK => ?_) AllReadyH.nil
        refine step_callB rfl 19 (.tmp 101) (.tmp 103) _ rfl ent_implTake (.agg #[.int .i64 l.id, .int .i64 l.next, .slice oa5 l.out.length oc5, .slice sa5 l.seen.length sc5]) (.agg #[.int .i64 p.kind, .int .i64 p.frm, .int .i64 p.dst, .int .i64 p.seq, .int .i64 p.low, .string p.body]) (by simp [Act.eval]) (by simp [Act.eval]) _ (CCB.out _ _ _ G6.out.1 G6.out.2.1) ?_
        rintro r w7 ⟨v7, ov7, sv7, rs7, rfl, A7, b7⟩
        have hv7 := A7.val
        obtain ⟨oa7, oc7, hov7⟩ := own_form A7.out.1
        have hrl7 : rs7.length = k.seen.length := by rw [← A7.is]; simp
        obtain ⟨n7, sa7, sc7, hn7, hsv7⟩ := own_formN A7.seen.cells
        obtain rfl : n7 = k.seen.length := by omega
        subst hov7 hsv7 hv7
        have G7 := (show Hid (_ ∧ _ ∧ _) from ⟨G6.out.1.trans (b7.mono G6.out.1.size), A7.mono G6.out.1.size, b7⟩)
        have G7o := (show Hid (_ ∧ True) from ⟨A7, trivial⟩)
        clear A7 b7 hrl7 hn7
        refine hK.out _ _ (KPB.out _ G7.out.1) (fun _ => ?_)
        clear hK K
        simp only [Act.put, List.getElem_toArray, List.getElem_cons_zero, List.getElem_cons_succ, List.setIfInBounds_toArray, List.set_cons_zero, List.set_cons_succ]
        refine wpAnyH_take (i := 5) (v := .tuple #[.agg #[.int .i64 k.id, .int .i64 k.next, .slice oa7 k.out.length oc7, .slice sa7 k.seen.length sc7], .bool gf, .bool gb]) rfl (by kernel_rfl) (by kernel_rfl) (by kernel_rfl) (fun _ _ _ h => h) (Or.inl ⟨by rfl, ?_⟩) (KPB.out _ G7.out.1) ?_
        · intro wq hSw
          go_simp
        simp only [Act.put, List.getElem_toArray, List.getElem_cons_zero, List.getElem_cons_succ, List.setIfInBounds_toArray, List.set_cons_zero, List.set_cons_succ]
        refine wpAnyH_take (i := 6) (v := .agg #[.int .i64 k.id, .int .i64 k.next, .slice oa7 k.out.length oc7, .slice sa7 k.seen.length sc7]) rfl (by kernel_rfl) (by kernel_rfl) (by kernel_rfl) (fun _ _ _ h => h) (Or.inl ⟨by rfl, ?_⟩) (KPB.out _ G7.out.1) ?_
        · intro wq hSw
          go_simp
        simp only [Act.put, List.getElem_toArray, List.getElem_cons_zero, List.getElem_cons_succ, List.setIfInBounds_toArray, List.set_cons_zero, List.set_cons_succ]
        refine wpAnyH_take (i := 7) (v := .bool gf) rfl (by kernel_rfl) (by kernel_rfl) (by kernel_rfl) (fun _ _ _ h => h) (Or.inl ⟨by rfl, ?_⟩) (KPB.out _ G7.out.1) ?_
        · intro wq hSw
          go_simp
        simp only [Act.put, List.getElem_toArray, List.getElem_cons_zero, List.getElem_cons_succ, List.setIfInBounds_toArray, List.set_cons_zero, List.set_cons_succ]
        refine wpAnyH_take (i := 8) (v := .bool gb) rfl (by kernel_rfl) (by kernel_rfl) (by kernel_rfl) (fun _ _ _ h => h) (Or.inl ⟨by rfl, ?_⟩) (KPB.out _ G7.out.1) ?_
        · intro wq hSw
          go_simp
        simp only [Act.put, List.getElem_toArray, List.getElem_cons_zero, List.getElem_cons_succ, List.setIfInBounds_toArray, List.set_cons_zero, List.set_cons_succ]
        have z0 := (MapKept.heap_alloc w5 (.cells #[.int .i64 0, .int .i64 0, .slice none 0 0, .slice none 0 0] 36)).1
        have z1 := (G6.out.2.2.block _ (lt_heap z0)).trans z0
        have z2 := (G7.out.2.2.block _ (lt_heap z1)).trans z1
        have hzo : w5.heap.size < w6.heap.size := lt_heap z1
        refine wpAnyH_ready (rs := [10]) (by kernel_rfl) (by simp) ?_
        refine AllReadyH.cons rfl (fun K hK => ?_) AllReadyH.nil
        have ZZ : w7.heap[w5.heap.size]? = some (.cells #[.int .i64 0, .int .i64 0, .slice none 0 0, .slice none 0 0] 36) := z2
        have y0 : w7.cell? ⟨w5.heap.size, 0, none⟩ = some (.int .i64 0) := by rw [cell_of_block ZZ]; rfl
        have y1 : w7.cell? ⟨w5.heap.size, 1, none⟩ = some (.int .i64 0) := by rw [cell_of_block ZZ]; rfl
        have y2 : w7.cell? ⟨w5.heap.size, 2, none⟩ = some (.slice none 0 0) := by rw [cell_of_block ZZ]; rfl
        have y3 : w7.cell? ⟨w5.heap.size, 3, none⟩ = some (.slice none 0 0) := by rw [cell_of_block ZZ]; rfl
        have f0 : w7.frozen? ⟨w5.heap.size, 0, none⟩ = false := unfrozen_of_block ZZ 0
        have f1 : w7.frozen? ⟨w5.heap.size, 1, none⟩ = false := unfrozen_of_block ZZ 1
        have f2 : w7.frozen? ⟨w5.heap.size, 2, none⟩ = false := unfrozen_of_block ZZ 2
        have f3 : w7.frozen? ⟨w5.heap.size, 3, none⟩ = false := unfrozen_of_block ZZ 3
        have hzw : w18.heap.size ≤ w5.heap.size := G5.out.1.size
        have hzl : w5.heap.size < w7.heap.size := lt_heap ZZ
        go_simp
        refine hK.out _ _ (KPB.out _ (below_set4 G7.out.1 hzw _ _ _ _)) (fun _ => ?_)
        clear hK K y0 y1 y2 y3 f0 f1 f2 f3
        refine wpAnyH_take (i := 11) (v := .bool gf) rfl (by kernel_rfl) (by kernel_rfl) (by kernel_rfl) (fun _ _ _ h => h) (Or.inl ⟨by rfl, ?_⟩) (KPB.out _ (below_set4 G7.out.1 hzw _ _ _ _)) ?_
        · intro wq hSw
          go_simp
        simp only [Act.put, List.getElem_toArray, List.getElem_cons_zero, List.getElem_cons_succ, List.setIfInBounds_toArray, List.set_cons_zero, List.set_cons_succ]
        refine wpAnyH_take (i := 12) (v := .bool gb) rfl (by kernel_rfl) (by kernel_rfl) (by kernel_rfl) (fun _ _ _ h => h) (Or.inl ⟨by rfl, ?_⟩) (KPB.out _ (below_set4 G7.out.1 hzw _ _ _ _)) ?_
        · intro wq hSw
          go_simp
        simp only [Act.put, List.getElem_toArray, List.getElem_cons_zero, List.getElem_cons_succ, List.setIfInBounds_toArray, List.set_cons_zero, List.set_cons_succ]
        refine wpAnyH_done (by kernel_rfl) ?_ _
        go_wp2_with fail
        go_meet
        exact ⟨w5.heap.size, .slice oa7 k.out.length oc7, .slice sa7 k.seen.length sc7, rs7, rfl, rfl, rfl, hzw, below_set4 G7.out.1 hzw _ _ _ _, box_set4 G7.out.2.1 (fun b hb => by have h1 := (G7o.out.1.own hb).1; have h2 := hzo; omega) ZZ, (fun b hb => by have h1 := (G7o.out.1.own hb).1; have h2 := hzo; omega), box_row ZZ⟩
    · go_simp
      refine hK.out _ _ (KPB.out _ (BDB.out.1.alloc BDB.out.1.size (.cells #[.int .i64 0, .int .i64 0, .slice none 0 0, .slice none 0 0] 36))) (fun _ => ?_)
      clear hK K
      refine wpAnyH_ready (rs := [1]) (by kernel_rfl) (by simp) ?_
      refine AllReadyH.cons rfl (fun K hK => ?_) AllReadyH.nil
      refine step_call1 rfl 8 (.tmp 100) _ rfl ent_toLink (.agg #[.int .i64 l.id, .int .i64 l.next, .slice oa l.out.length oc, .slice sa l.seen.length sc]) (by simp [Act.eval]) _ (CAB.out _ (BDB.out.1.alloc BDB.out.1.size (.cells #[.int .i64 0, .int .i64 0, .slice none 0 0, .slice none 0 0] 36))) ?_
      rintro r w5 ⟨ov5, sv5, rs5, A5, b5⟩
      have G5 := (show Hid (_ ∧ _ ∧ _) from ⟨(BDB.out.1.alloc BDB.out.1.size (.cells #[.int .i64 0, .int .i64 0, .slice none 0 0, .slice none 0 0] 36)).trans (b5.mono (BDB.out.1.alloc BDB.out.1.size (.cells #[.int .i64 0, .int .i64 0, .slice none 0 0, .slice none 0 0] 36)).size), A5.at, b5⟩)
      obtain ⟨oa5, oc5, sa5, sc5, rfl, -, -⟩ := A5.at.form
      clear A5 b5
      refine hK.out _ _ (KPB.out _ G5.out.1) (fun _ => ?_)
      clear hK K
      simp only [Act.put, List.getElem_toArray, List.getElem_cons_zero, List.getElem_cons_succ, List.setIfInBounds_toArray, List.set_cons_zero, List.set_cons_succ]
      refine wpAnyH_ready (rs := [3]) (by kernel_rfl) (by simp) ?_
      refine AllReadyH.cons rfl (fun K hK => ?_) AllReadyH.nil
      refine step_call1 rfl 18 (.tmp 102) _ rfl ent_toPack (.agg #[.int .i64 p.kind, .int .i64 p.frm, .int .i64 p.dst, .int .i64 p.seq, .int .i64 p.low, .string p.body]) (by simp [Act.eval]) _ (CBB.out _) ?_
      rintro r w6 ⟨rfl, b6⟩
      have G6 := (show Hid (_ ∧ _ ∧ _) from ⟨G5.out.1.trans (b6.mono G5.out.1.size), G5.out.2.1.below b6, b6⟩)
      clear b6
      refine hK.out _ _ (KPB.out _ G6.out.1) (fun _ => ?_)
      clear hK K
      simp only [Act.put, List.getElem_toArray, List.getElem_cons_zero, List.getElem_cons_succ, List.setIfInBounds_toArray, List.set_cons_zero, List.set_cons_succ]
      refine wpAnyH_ready (rs := [4]) (by kernel_rfl) (by simp) ?_
      refine AllReadyH.cons rfl (fun K hK => ?_) AllReadyH.nil
      refine step_callB rfl 19 (.tmp 101) (.tmp 103) _ rfl ent_implTake (.agg #[.int .i64 l.id, .int .i64 l.next, .slice oa5 l.out.length oc5, .slice sa5 l.seen.length sc5]) (.agg #[.int .i64 p.kind, .int .i64 p.frm, .int .i64 p.dst, .int .i64 p.seq, .int .i64 p.low, .string p.body]) (by simp [Act.eval]) (by simp [Act.eval]) _ (CCB.out _ _ _ G6.out.1 G6.out.2.1) ?_
      rintro r w7 ⟨v7, ov7, sv7, rs7, rfl, A7, b7⟩
      have hv7 := A7.val
      obtain ⟨oa7, oc7, hov7⟩ := own_form A7.out.1
      have hrl7 : rs7.length = k.seen.length := by rw [← A7.is]; simp
      obtain ⟨n7, sa7, sc7, hn7, hsv7⟩ := own_formN A7.seen.cells
      obtain rfl : n7 = k.seen.length := by omega
      subst hov7 hsv7 hv7
      have G7 := (show Hid (_ ∧ _ ∧ _) from ⟨G6.out.1.trans (b7.mono G6.out.1.size), A7.mono G6.out.1.size, b7⟩)
      have G7o := (show Hid (_ ∧ True) from ⟨A7, trivial⟩)
      clear A7 b7 hrl7 hn7
      refine hK.out _ _ (KPB.out _ G7.out.1) (fun _ => ?_)
      clear hK K
      simp only [Act.put, List.getElem_toArray, List.getElem_cons_zero, List.getElem_cons_succ, List.setIfInBounds_toArray, List.set_cons_zero, List.set_cons_succ]
      refine wpAnyH_take (i := 5) (v := .tuple #[.agg #[.int .i64 k.id, .int .i64 k.next, .slice oa7 k.out.length oc7, .slice sa7 k.seen.length sc7], .bool gf, .bool gb]) rfl (by kernel_rfl) (by kernel_rfl) (by kernel_rfl) (fun _ _ _ h => h) (Or.inl ⟨by rfl, ?_⟩) (KPB.out _ G7.out.1) ?_
      · intro wq hSw
        go_simp
      simp only [Act.put, List.getElem_toArray, List.getElem_cons_zero, List.getElem_cons_succ, List.setIfInBounds_toArray, List.set_cons_zero, List.set_cons_succ]
      refine wpAnyH_take (i := 6) (v := .agg #[.int .i64 k.id, .int .i64 k.next, .slice oa7 k.out.length oc7, .slice sa7 k.seen.length sc7]) rfl (by kernel_rfl) (by kernel_rfl) (by kernel_rfl) (fun _ _ _ h => h) (Or.inl ⟨by rfl, ?_⟩) (KPB.out _ G7.out.1) ?_
      · intro wq hSw
        go_simp
      simp only [Act.put, List.getElem_toArray, List.getElem_cons_zero, List.getElem_cons_succ, List.setIfInBounds_toArray, List.set_cons_zero, List.set_cons_succ]
      refine wpAnyH_take (i := 7) (v := .bool gf) rfl (by kernel_rfl) (by kernel_rfl) (by kernel_rfl) (fun _ _ _ h => h) (Or.inl ⟨by rfl, ?_⟩) (KPB.out _ G7.out.1) ?_
      · intro wq hSw
        go_simp
      simp only [Act.put, List.getElem_toArray, List.getElem_cons_zero, List.getElem_cons_succ, List.setIfInBounds_toArray, List.set_cons_zero, List.set_cons_succ]
      refine wpAnyH_take (i := 8) (v := .bool gb) rfl (by kernel_rfl) (by kernel_rfl) (by kernel_rfl) (fun _ _ _ h => h) (Or.inl ⟨by rfl, ?_⟩) (KPB.out _ G7.out.1) ?_
      · intro wq hSw
        go_simp
      simp only [Act.put, List.getElem_toArray, List.getElem_cons_zero, List.getElem_cons_succ, List.setIfInBounds_toArray, List.set_cons_zero, List.set_cons_succ]
      have z0 := (MapKept.heap_alloc w18.drew (.cells #[.int .i64 0, .int .i64 0, .slice none 0 0, .slice none 0 0] 36)).1
      have z1 := (G5.out.2.2.block _ (lt_heap z0)).trans z0
      have z2 := (G6.out.2.2.block _ (lt_heap z1)).trans z1
      have z3 := (G7.out.2.2.block _ (lt_heap z2)).trans z2
      have hzo : w18.heap.size < w6.heap.size := lt_heap z2
      refine wpAnyH_ready (rs := [10]) (by kernel_rfl) (by simp) ?_
      refine AllReadyH.cons rfl (fun K hK => ?_) AllReadyH.nil
      have ZZ : w7.heap[w18.heap.size]? = some (.cells #[.int .i64 0, .int .i64 0, .slice none 0 0, .slice none 0 0] 36) := z3
      have y0 : w7.cell? ⟨w18.heap.size, 0, none⟩ = some (.int .i64 0) := by rw [cell_of_block ZZ]; rfl
      have y1 : w7.cell? ⟨w18.heap.size, 1, none⟩ = some (.int .i64 0) := by rw [cell_of_block ZZ]; rfl
      have y2 : w7.cell? ⟨w18.heap.size, 2, none⟩ = some (.slice none 0 0) := by rw [cell_of_block ZZ]; rfl
      have y3 : w7.cell? ⟨w18.heap.size, 3, none⟩ = some (.slice none 0 0) := by rw [cell_of_block ZZ]; rfl
      have f0 : w7.frozen? ⟨w18.heap.size, 0, none⟩ = false := unfrozen_of_block ZZ 0
      have f1 : w7.frozen? ⟨w18.heap.size, 1, none⟩ = false := unfrozen_of_block ZZ 1
      have f2 : w7.frozen? ⟨w18.heap.size, 2, none⟩ = false := unfrozen_of_block ZZ 2
      have f3 : w7.frozen? ⟨w18.heap.size, 3, none⟩ = false := unfrozen_of_block ZZ 3
      have hzw : w18.heap.size ≤ w18.heap.size := BDB.out.1.size
      have hzl : w18.heap.size < w7.heap.size := lt_heap ZZ
      go_simp
      refine hK.out _ _ (KPB.out _ (below_set4 G7.out.1 hzw _ _ _ _)) (fun _ => ?_)
      clear hK K y0 y1 y2 y3 f0 f1 f2 f3
      refine wpAnyH_take (i := 11) (v := .bool gf) rfl (by kernel_rfl) (by kernel_rfl) (by kernel_rfl) (fun _ _ _ h => h) (Or.inl ⟨by rfl, ?_⟩) (KPB.out _ (below_set4 G7.out.1 hzw _ _ _ _)) ?_
      · intro wq hSw
        go_simp
      simp only [Act.put, List.getElem_toArray, List.getElem_cons_zero, List.getElem_cons_succ, List.setIfInBounds_toArray, List.set_cons_zero, List.set_cons_succ]
      refine wpAnyH_take (i := 12) (v := .bool gb) rfl (by kernel_rfl) (by kernel_rfl) (by kernel_rfl) (fun _ _ _ h => h) (Or.inl ⟨by rfl, ?_⟩) (KPB.out _ (below_set4 G7.out.1 hzw _ _ _ _)) ?_
      · intro wq hSw
        go_simp
      simp only [Act.put, List.getElem_toArray, List.getElem_cons_zero, List.getElem_cons_succ, List.setIfInBounds_toArray, List.set_cons_zero, List.set_cons_succ]
      refine wpAnyH_done (by kernel_rfl) ?_ _
      go_wp2_with fail
      go_meet
      exact ⟨w18.heap.size, .slice oa7 k.out.length oc7, .slice sa7 k.seen.length sc7, rs7, rfl, rfl, rfl, hzw, below_set4 G7.out.1 hzw _ _ _ _, box_set4 G7.out.2.1 (fun b hb => by have h1 := (G7o.out.1.own hb).1; have h2 := hzo; omega) ZZ, (fun b hb => by have h1 := (G7o.out.1.own hb).1; have h2 := hzo; omega), box_row ZZ⟩
  case rest =>
  obtain ⟨hbx, hov, hsv, hrs, rfl, rfl, rfl, hhb, HZ⟩ := hcut
  obtain ⟨hoa, hoc, hhov⟩ := own_form HZ.out.2.1.out.1
  have hhrl : hrs.length = k.seen.length := by rw [← HZ.out.2.1.is]; simp
  obtain ⟨hn, hsa, hsc, hhn, hhsv⟩ := own_formN HZ.out.2.1.seen.cells
  obtain rfl : hn = k.seen.length := by omega
  subst hhov hhsv
  have H19 := (show Hid (_ ∧ _ ∧ _ ∧ _) from ⟨H18.out.1.below HZ.out.1, H18.out.2.below HZ.out.1, HZ.out.2.1, HZ.out.2.2.2⟩)
  clear KPB CAB CBB CCB BDB HZ H18 hhrl hhn
  obtain ⟨p0, p1, p2, p3⟩ := lbox H19.out.1.wbox
  obtain ⟨q0, q1, q2, q3⟩ := lbox H19.out.2.2.2
  go_wp2_with fail
  clear p0 p1 p2 p3 q0 q1 q2 q3
  refine (eqLink_any _ _ k _ _ _ H19.out.2.2.1.at H19.out.1.wown.at (by omega)).mono ?_
  rintro e w20 ⟨rfl, b20⟩
  have H20 := (show Hid (_ ∧ _) from ⟨H19.out.1.below b20, H19.out.2.1.below b20⟩)
  clear b20 H19
  obtain ⟨q0, q1, q2, q3⟩ := lbox H20.out.1.gbox
  go_wp2_with fail
  clear q0 q1 q2 q3
  refine (HK.out.1 w20 H20.out.2).mono ?_
  rintro e w21 ⟨rfl, b21⟩
  have H21 := (show Hid (_ ∧ True) from ⟨H20.out.1.below b21, trivial⟩)
  clear b21 H20
  go_wp2
  go_ret
  exact ⟨rfl, H21.out.1.base⟩
end Go.Proofs.YtnehfjnanffjeaaGreatDoor
