/-
  The law of LinkSend, walked.
-/
import Derived.Test.YtobooepdfknihaaGreatDoorLinkSendP
import Derived.Test.YtobooepdfknihaaGreatDoorMsgToO
import Derived.Test.YtobooepdfknihaaGreatDoorLinkMark
import Derived.Test.YtobooepdfknihaaGreatDoorMU
import Derived.Deep.RegionHeld3
namespace Go.Proofs.YtobooepdfknihaaGreatDoor
open Go.RowKit Go.Joins Go.Shelf

set_option maxRecDepth 100000

theorem ent_toLink : ∀ args w, (callFunc 8 args).run Tryz.prog w = .ok (.enter 8 args) w := enters_of Tryz.func8 (by kernel_rfl) rfl
theorem ent_toMsg : ∀ args w, (callFunc 9 args).run Tryz.prog w = .ok (.enter 9 args) w := enters_of Tryz.func9 (by kernel_rfl) rfl
theorem ent_specSend : ∀ args w, (callFunc 7 args).run Tryz.prog w = .ok (.enter 7 args) w := enters_of Tryz.func7 (by kernel_rfl) rfl
theorem ent_implSend : ∀ args w, (callFunc 10 args).run Tryz.prog w = .ok (.enter 10 args) w := enters_of Tryz.func10 (by kernel_rfl) rfl
theorem LkOwn.mono {W : World} {B B' : Nat} {v : Value} {l : Lk} {ov sv : Value} {rs : List (Se × Value)} (hO : LkOwn W B v l ov sv rs) (hB : B' ≤ B) : LkOwn W B' v l ov sv rs :=
  ⟨hO.val, hO.fits, ⟨own_mono hO.out.1 hB, hO.out.2⟩, ⟨own_mono hO.seen.cells hB, fun r hr => ⟨own_mono (hO.seen.kids r hr).1 hB, (hO.seen.kids r hr).2⟩, hO.seen.apart⟩, hO.is⟩
/-- A box is filled: what lies elsewhere is as it was. -/
theorem box_set4 {W : World} {B zb : Nat} {v : Value} {l : Lk} {ov sv : Value} {rs : List (Se × Value)} (hO : LkOwn W B v l ov sv rs) (ha : ∀ b, LkBlk ov sv rs b → b ≠ zb) {o : Obj} (_hz : W.heap[zb]? = some o) {a b c d : Value} :
    LkOwn ((((W.setCell ⟨zb, 0, none⟩ a).setCell ⟨zb, 1, none⟩ b).setCell ⟨zb, 2, none⟩ c).setCell ⟨zb, 3, none⟩ d) B v l ov sv rs := by
  refine hO.moved (fun q hq => ?_)
  have hn := ha q hq
  rw [Below.heap_setCell _ _ _ _ hn, Below.heap_setCell _ _ _ _ hn, Below.heap_setCell _ _ _ _ hn, Below.heap_setCell _ _ _ _ hn]
theorem box_row {W : World} {zb : Nat} {t : TypeId} {a b c d a' b' c' d' : Value} (hz : W.heap[zb]? = some (.cells #[a', b', c', d'] t)) :
    ((((W.setCell ⟨zb, 0, none⟩ a).setCell ⟨zb, 1, none⟩ b).setCell ⟨zb, 2, none⟩ c).setCell ⟨zb, 3, none⟩ d).heap[zb]? = some (.cells #[a, b, c, d] t) :=
  block_setCell (i := 3) (block_setCell (i := 2) (block_setCell (i := 1) (block_setCell (i := 0) hz _) _) _) _
theorem send_bulk {l : Lk} {m : Ms} (hb : l.bulk ≤ 1048576) (hf : m.fits) : (l.send m).bulk ≤ 1048576 := by
  unfold Lk.send
  cases hgo : l.goes m with
  | false => exact hb
  | true =>
    have h := hgo
    unfold Lk.goes at h
    simp only [Bool.and_eq_true] at h
    have := push_bulk h.1.1.1 h.1.1.2 hf
    rw [if_pos rfl]
    omega
theorem lmbox {W : World} {b b' : Nat} {l : Lk} {m : Ms} {ov sv kv : Value} {t t' : TypeId} (h : W.heap[b]? = some (.cells (l.row ov sv) t)) (h' : W.heap[b']? = some (.cells (m.row kv) t')) : W.cell? ⟨b, 0, none⟩ = some (.int .i64 l.id) ∧ W.cell? ⟨b, 1, none⟩ = some (.int .i64 l.next) ∧ W.cell? ⟨b, 2, none⟩ = some ov ∧ W.cell? ⟨b, 3, none⟩ = some sv ∧ W.cell? ⟨b', 0, none⟩ = some (.int .i64 m.kind) ∧ W.cell? ⟨b', 1, none⟩ = some (.int .i64 m.frm) ∧ W.cell? ⟨b', 2, none⟩ = some (.int .i64 m.dst) ∧ W.cell? ⟨b', 3, none⟩ = some (.int .i64 m.id) ∧ W.cell? ⟨b', 4, none⟩ = some (.int .i64 m.want) ∧ W.cell? ⟨b', 5, none⟩ = some (.int .i64 m.cell.kind) ∧ W.cell? ⟨b', 6, none⟩ = some (.int .i64 m.cell.n) ∧ W.cell? ⟨b', 7, none⟩ = some (.int .i64 m.cell.pos) ∧ W.cell? ⟨b', 8, none⟩ = some kv := by
  obtain ⟨h0, h1, h2, h3⟩ := lbox h
  obtain ⟨y0, y1, y2, y3, y4, y5, y6, y7, y8⟩ := boxM h'
  exact ⟨h0, h1, h2, h3, y0, y1, y2, y3, y4, y5, y6, y7, y8⟩
theorem llbox {W : World} {b b' : Nat} {l : Lk} {ov sv ov' sv' : Value} {t t' : TypeId} (h : W.heap[b]? = some (.cells (l.row ov sv) t)) (h' : W.heap[b']? = some (.cells (l.row ov' sv') t')) : W.cell? ⟨b, 0, none⟩ = some (.int .i64 l.id) ∧ W.cell? ⟨b, 1, none⟩ = some (.int .i64 l.next) ∧ W.cell? ⟨b, 2, none⟩ = some ov ∧ W.cell? ⟨b, 3, none⟩ = some sv ∧ W.cell? ⟨b', 0, none⟩ = some (.int .i64 l.id) ∧ W.cell? ⟨b', 1, none⟩ = some (.int .i64 l.next) ∧ W.cell? ⟨b', 2, none⟩ = some ov' ∧ W.cell? ⟨b', 3, none⟩ = some sv' := by
  obtain ⟨h0, h1, h2, h3⟩ := lbox h
  obtain ⟨y0, y1, y2, y3⟩ := lbox h'
  exact ⟨h0, h1, h2, h3, y0, y1, y2, y3⟩
theorem mmbox {W : World} {b b' : Nat} {m : Ms} {kv kv' : Value} {t t' : TypeId} (h : W.heap[b]? = some (.cells (m.row kv) t)) (h' : W.heap[b']? = some (.cells (m.row kv') t')) : W.cell? ⟨b, 0, none⟩ = some (.int .i64 m.kind) ∧ W.cell? ⟨b, 1, none⟩ = some (.int .i64 m.frm) ∧ W.cell? ⟨b, 2, none⟩ = some (.int .i64 m.dst) ∧ W.cell? ⟨b, 3, none⟩ = some (.int .i64 m.id) ∧ W.cell? ⟨b, 4, none⟩ = some (.int .i64 m.want) ∧ W.cell? ⟨b, 5, none⟩ = some (.int .i64 m.cell.kind) ∧ W.cell? ⟨b, 6, none⟩ = some (.int .i64 m.cell.n) ∧ W.cell? ⟨b, 7, none⟩ = some (.int .i64 m.cell.pos) ∧ W.cell? ⟨b, 8, none⟩ = some kv ∧ W.cell? ⟨b', 0, none⟩ = some (.int .i64 m.kind) ∧ W.cell? ⟨b', 1, none⟩ = some (.int .i64 m.frm) ∧ W.cell? ⟨b', 2, none⟩ = some (.int .i64 m.dst) ∧ W.cell? ⟨b', 3, none⟩ = some (.int .i64 m.id) ∧ W.cell? ⟨b', 4, none⟩ = some (.int .i64 m.want) ∧ W.cell? ⟨b', 5, none⟩ = some (.int .i64 m.cell.kind) ∧ W.cell? ⟨b', 6, none⟩ = some (.int .i64 m.cell.n) ∧ W.cell? ⟨b', 7, none⟩ = some (.int .i64 m.cell.pos) ∧ W.cell? ⟨b', 8, none⟩ = some kv' := by
  obtain ⟨x0, x1, x2, x3, x4, x5, x6, x7, x8⟩ := boxM h
  obtain ⟨y0, y1, y2, y3, y4, y5, y6, y7, y8⟩ := boxM h'
  exact ⟨x0, x1, x2, x3, x4, x5, x6, x7, x8, y0, y1, y2, y3, y4, y5, y6, y7, y8⟩
/-- What the walk holds of a world: its arguments' boxes, the specification's answer and its box, the boxes of the copies and of the program's answer. -/
structure LsSt (w W : World) (l k : Lk) (m : Ms) (lov lsv km : Value) (B1 wbx B2 bx yb gbx : Nat) (wov wsv : Value) (wrs : List (Se × Value)) (xov xsv xkm gov gsv : Value) : Prop where
  base : Below w.heap.size w W
  abox : W.heap[w.heap.size]? = some (.cells (l.row lov lsv) 25)
  ambx : W.heap[w.heap.size + 1]? = some (.cells (m.row km) 30)
  wown : LkOwn W B1 (.agg #[.int .i64 k.id, .int .i64 k.next, wov, wsv]) k wov wsv wrs
  wlt : ∀ b, LkBlk wov wsv wrs b → b < B2
  wbox : W.heap[wbx]? = some (.cells (k.row wov wsv) 36)
  xbox : W.heap[bx]? = some (.cells (l.row xov xsv) 36)
  ybox : W.heap[yb]? = some (.cells (m.row xkm) 42)
  gbox : W.heap[gbx]? = some (.cells (k.row gov gsv) 36)
  ord : w.heap.size + 1 < B1 ∧ B1 ≤ wbx ∧ wbx < B2 ∧ B2 ≤ bx ∧ bx < yb ∧ yb < gbx ∧ gbx < W.heap.size
theorem LsSt.below {w W W' : World} {l k : Lk} {m : Ms} {lov lsv km : Value} {B1 wbx B2 bx yb gbx : Nat} {wov wsv : Value} {wrs : List (Se × Value)} {xov xsv xkm gov gsv : Value} (h : LsSt w W l k m lov lsv km B1 wbx B2 bx yb gbx wov wsv wrs xov xsv xkm gov gsv) (hb : Below W.heap.size W W') : LsSt w W' l k m lov lsv km B1 wbx B2 bx yb gbx wov wsv wrs xov xsv xkm gov gsv :=
  ⟨h.base.trans (hb.mono h.base.size), (hb.block _ (lt_heap h.abox)).trans h.abox, (hb.block _ (lt_heap h.ambx)).trans h.ambx, h.wown.below hb, h.wlt, (hb.block _ (lt_heap h.wbox)).trans h.wbox, (hb.block _ (lt_heap h.xbox)).trans h.xbox, (hb.block _ (lt_heap h.ybox)).trans h.ybox, (hb.block _ (lt_heap h.gbox)).trans h.gbox, by have := h.ord; have := hb.size; omega⟩
/-- A change in blocks of the copies or of the answer alone. -/
theorem LsSt.kept {X : Nat → Prop} {w W W' : World} {l k : Lk} {m : Ms} {lov lsv km : Value} {B1 wbx B2 bx yb gbx : Nat} {wov wsv : Value} {wrs : List (Se × Value)} {xov xsv xkm gov gsv : Value} (h : LsSt w W l k m lov lsv km B1 wbx B2 bx yb gbx wov wsv wrs xov xsv xkm gov gsv) (hb : KB X W W') (hX : ∀ k, X k → B2 ≤ k ∧ k ≠ bx ∧ k ≠ yb ∧ k ≠ gbx) : LsSt w W' l k m lov lsv km B1 wbx B2 bx yb gbx wov wsv wrs xov xsv xkm gov gsv :=
  ⟨h.base.trans (hb.below (fun k hk => by have := hX k hk; have := h.ord; omega) h.base.size), hb.heap h.abox (fun hx => by have := hX _ hx; have := h.ord; omega), hb.heap h.ambx (fun hx => by have := hX _ hx; have := h.ord; omega), h.wown.kept hb (fun b hb' hx => by have := hX _ hx; have := h.wlt b hb'; omega), h.wlt,
   hb.heap h.wbox (fun hx => by have := hX _ hx; have := h.ord; omega), hb.heap h.xbox (fun hx => (hX _ hx).2.1 rfl), hb.heap h.ybox (fun hx => (hX _ hx).2.2.1 rfl), hb.heap h.gbox (fun hx => (hX _ hx).2.2.2 rfl), by have := h.ord; have := hb.size; omega⟩

set_option maxHeartbeats 3200000 in
theorem linkSend_walk (v vm : Value) (l : Lk) (m : Ms) (S T : Nat → Prop) (a0 a1 a2 : Addr) (w : World) (h : LkAt w S v l) (hm : MsAt w T vm m) (hg : ET w) (he : EG a0 a1 a2 w) :
    Calls Tryz.prog 3 #[v, vm] w fun e w' => e = .returned (.bool true) ∧ Below w.heap.size w w' := by
  have hnot := ex_not
  have hf := ms_fitsS hm
  obtain ⟨oa, oc, sa, sc, rfl, -, -⟩ := h.form
  obtain ⟨ka, kc, rfl⟩ := hm.form
  obtain ⟨W0, hW0⟩ : ∃ W0, W0 = (w.alloc (.cells (l.row (.slice oa l.out.length oc) (.slice sa l.seen.length sc)) 25)).alloc (.cells (m.row (.slice ka m.cell.kids.length kc)) 30) := ⟨_, rfl⟩
  have B0 : Below w.heap.size w W0 := by rw [hW0]; exact ((Below.refl _ w).alloc (Nat.le_refl _) _).alloc (by simp) _
  have O0 : W0.heap[w.heap.size]? = some (.cells (l.row (.slice oa l.out.length oc) (.slice sa l.seen.length sc)) 25) := by
    rw [hW0, Below.heap_alloc _ _ _ (by simp)]; exact (MapKept.heap_alloc w _).1
  have O1 : W0.heap[w.heap.size + 1]? = some (.cells (m.row (.slice ka m.cell.kids.length kc)) 30) := by
    have := (MapKept.heap_alloc (w.alloc (.cells (l.row (.slice oa l.out.length oc) (.slice sa l.seen.length sc)) 25)) (.cells (m.row (.slice ka m.cell.kids.length kc)) 30)).1
    rw [hW0]
    simpa using this
  have hs0 : w.heap.size + 2 ≤ W0.heap.size := lt_heap O1
  have H0 := (show Hid (_ ∧ _ ∧ _ ∧ _ ∧ _) from ⟨szLink_any _ l S W0 (h.below B0), B0, O0, O1, hW0⟩)
  have HL := (show Hid (_ ∧ _ ∧ _ ∧ _) from ⟨h, hm, hg, he⟩)
  clear B0 O0 O1 hg hW0 h hm he
  go_enter Tryz.func3, Tryz.ntmps3
  go_wp2_with fail
  rw [← (show W0 = _ from H0.out.2.2.2.2)]
  refine H0.out.1.mono ?_
  rintro e w1 ⟨rfl, b1⟩
  have hs1 : W0.heap.size ≤ w1.heap.size := b1.size
  have H1 := (show Hid (_ ∧ _ ∧ _) from ⟨H0.out.2.1.trans (b1.mono (by omega)), (b1.block _ (lt_heap H0.out.2.2.1)).trans H0.out.2.2.1, (b1.block _ (lt_heap H0.out.2.2.2.1)).trans H0.out.2.2.2.1⟩)
  clear b1 H0
  by_cases hb : l.bulk ≤ 1048576
  case neg =>
    have hr : szR 1048576 l.bulk = -1 := by unfold szR; rw [if_neg (by omega)]
    rw [hr]
    clear hr
    go_wp2
    all_goals (go_ret; exact ⟨rfl, H1.out.1⟩)
  have hr : szR 1048576 l.bulk = 1048576 - (l.bulk : Int) := by unfold szR; rw [if_pos (by omega)]
  rw [hr]
  have hpos : ¬ (1048576 : Int) - (l.bulk : Int) < 0 := by omega
  clear hr
  obtain ⟨y0, y1, y2, y3, y4, y5, y6, y7, y8⟩ := boxM H1.out.2.2
  go_wp2_with fail
  clear y0 y1 y2 y3 y4 y5 y6 y7 y8
  refine (szMsg_any _ m T w1 _ (HL.out.2.1.below H1.out.1) (by omega) (by omega)).mono ?_
  rintro e w2 ⟨rfl, b2⟩
  have hs2 : w1.heap.size ≤ w2.heap.size := b2.size
  have H2 := (show Hid (_ ∧ _ ∧ _) from ⟨H1.out.1.trans (b2.mono (by omega)), (b2.block _ (lt_heap H1.out.2.1)).trans H1.out.2.1, (b2.block _ (lt_heap H1.out.2.2)).trans H1.out.2.2⟩)
  clear b2 H1
  by_cases hbm : m.cell.bulk ≤ 1048576 - l.bulk
  case neg =>
    have hr : szR (1048576 - (l.bulk : Int)) m.cell.bulk = -1 := by unfold szR; rw [if_neg (by omega)]
    rw [hr]
    clear hr
    go_wp2
    all_goals (go_ret; exact ⟨rfl, H2.out.1⟩)
  have hr : szR (1048576 - (l.bulk : Int)) m.cell.bulk = 1048576 - (l.bulk : Int) - (m.cell.bulk : Int) := by unfold szR; rw [if_pos (by omega)]
  rw [hr]
  have hpos2 : ¬ (1048576 : Int) - (l.bulk : Int) - (m.cell.bulk : Int) < 0 := by omega
  have hmk0 : m.cell.bulk = m.cell.kids.length := rfl
  clear hr
  have HC := (show Hid (_ ∧ _) from ⟨fun (v vm : Value) (S T : Nat → Prop) (wx : World) (h : LkAt wx S v l) (hm : MsAt wx T vm m) => specLinkSend_any v vm l m S T wx h hm hb (by omega), fun (v vm : Value) (S T : Nat → Prop) (wx : World) (h : LkAt wx S v l) (hm : MsAt wx T vm m) (hg : ET wx) (he : EG a0 a1 a2 wx) => implLinkSend_any v vm l m S T a0 a1 a2 wx h hm hb hg he⟩)
  have hkb : (l.send m).bulk ≤ 1048576 := send_bulk hb hf
  have hbM : m.cell.bulk ≤ 1048576 := by omega
  have hkl : m.cell.kids.length ≤ 1048576 := by omega
  generalize l.send m = k at *
  generalize l.sendText m = tx at *
  generalize l.goes m = gb at *
  clear hmk0
  have KPA : Hid (∀ wx : World, Below w2.heap.size w2 wx → wx.cell? ⟨w.heap.size, 0, none⟩ = some (.int .i64 l.id) ∧ wx.cell? ⟨w.heap.size, 1, none⟩ = some (.int .i64 l.next) ∧ wx.cell? ⟨w.heap.size, 2, none⟩ = some (.slice oa l.out.length oc) ∧ wx.cell? ⟨w.heap.size, 3, none⟩ = some (.slice sa l.seen.length sc) ∧ wx.cell? ⟨w.heap.size + 1, 0, none⟩ = some (.int .i64 m.kind) ∧ wx.cell? ⟨w.heap.size + 1, 1, none⟩ = some (.int .i64 m.frm) ∧ wx.cell? ⟨w.heap.size + 1, 2, none⟩ = some (.int .i64 m.dst) ∧ wx.cell? ⟨w.heap.size + 1, 3, none⟩ = some (.int .i64 m.id) ∧ wx.cell? ⟨w.heap.size + 1, 4, none⟩ = some (.int .i64 m.want) ∧ wx.cell? ⟨w.heap.size + 1, 5, none⟩ = some (.int .i64 m.cell.kind) ∧ wx.cell? ⟨w.heap.size + 1, 6, none⟩ = some (.int .i64 m.cell.n) ∧ wx.cell? ⟨w.heap.size + 1, 7, none⟩ = some (.int .i64 m.cell.pos) ∧ wx.cell? ⟨w.heap.size + 1, 8, none⟩ = some (.slice ka m.cell.kids.length kc)) := fun wx hx => lmbox ((hx.block _ (lt_heap H2.out.2.1)).trans H2.out.2.1) ((hx.block _ (lt_heap H2.out.2.2)).trans H2.out.2.2)
  have hzA : w.heap.size ≤ w2.heap.size := H2.out.1.size
  have CAA : Hid (∀ wx : World, Below w2.heap.size w2 wx → Calls Tryz.prog 8 #[.agg #[.int .i64 l.id, .int .i64 l.next, .slice oa l.out.length oc, .slice sa l.seen.length sc]] wx fun e w' => ∃ r, e = .returned r ∧ (∃ ov sv rs, LkOwn w' wx.heap.size r l ov sv rs ∧ Below wx.heap.size wx w')) := fun wx hx => (toLink_any _ l S wx (HL.out.1.below (H2.out.1.trans (hx.mono hzA))) hb).mono (fun e w' ⟨v, ov, sv, rs, h1, h2, h3⟩ => ⟨v, h1, ov, sv, rs, h2, h3⟩)
  have CBA : Hid (∀ wx : World, Below w2.heap.size w2 wx → Calls Tryz.prog 9 #[.agg #[.int .i64 m.kind, .int .i64 m.frm, .int .i64 m.dst, .int .i64 m.id, .int .i64 m.want, .int .i64 m.cell.kind, .int .i64 m.cell.n, .int .i64 m.cell.pos, .slice ka m.cell.kids.length kc]] wx fun e w' => ∃ r, e = .returned r ∧ (MsAt w' (fun b => wx.heap.size ≤ b ∧ Pl w' b) r m ∧ Below wx.heap.size wx w')) := fun wx hx => toMsg_any _ m T wx (HL.out.2.1.below (H2.out.1.trans (hx.mono hzA))) hbM
  have CCA : Hid (∀ (v vm : Value) (S' T' : Nat → Prop) (wx : World), Below w2.heap.size w2 wx → LkAt wx S' v l → MsAt wx T' vm m → Calls Tryz.prog 7 #[v, vm] wx fun e w' => ∃ r, e = .returned r ∧ (∃ v' ov sv rs, r = .tuple #[v', .string tx, .bool gb] ∧ LkOwn w' wx.heap.size v' k ov sv rs ∧ Below wx.heap.size wx w')) := fun v vm S' T' wx hx h1 h2 => (HC.out.1 v vm S' T' wx h1 h2).mono (fun e w' ⟨v', ov, sv, rs, h3, h4, h5⟩ => ⟨_, h3, v', ov, sv, rs, rfl, h4, h5⟩)
  have BDA := (show Hid (_ ∧ True) from ⟨(Below.refl w2.heap.size w2).drew, trivial⟩)
  obtain ⟨t0, t1, t2, t3, t4, t5, t6, t7, t8, t9, t10, t11, t12⟩ := KPA.out w2 (Below.refl _ _)
  go_wp2_with fail
  clear t0 t1 t2 t3 t4 t5 t6 t7 t8 t9 t10 t11 t12
  go_cut [6, 7, 8] from 20 (fun pv tv bv wc => ∃ (zb : Nat) (zov zsv : Value) (zrs : List (Se × Value)), pv = .pointer (some ⟨zb, 0, none⟩) ∧ tv = .string tx ∧ bv = .bool gb ∧ w2.heap.size ≤ zb ∧ Hid (Below w2.heap.size w2 wc ∧ LkOwn wc w2.heap.size (.agg #[.int .i64 k.id, .int .i64 k.next, zov, zsv]) k zov zsv zrs ∧ (∀ b, LkBlk zov zsv zrs b → b ≠ zb) ∧ wc.heap[zb]? = some (.cells (k.row zov zsv) 36)))
  case first =>
    refine wp_region_held_drew (S := fun w' => w'.cell? ⟨w.heap.size, 0, none⟩ = some (.int .i64 l.id) ∧ w'.cell? ⟨w.heap.size, 1, none⟩ = some (.int .i64 l.next) ∧ w'.cell? ⟨w.heap.size, 2, none⟩ = some (.slice oa l.out.length oc) ∧ w'.cell? ⟨w.heap.size, 3, none⟩ = some (.slice sa l.seen.length sc) ∧ w'.cell? ⟨w.heap.size + 1, 0, none⟩ = some (.int .i64 m.kind) ∧ w'.cell? ⟨w.heap.size + 1, 1, none⟩ = some (.int .i64 m.frm) ∧ w'.cell? ⟨w.heap.size + 1, 2, none⟩ = some (.int .i64 m.dst) ∧ w'.cell? ⟨w.heap.size + 1, 3, none⟩ = some (.int .i64 m.id) ∧ w'.cell? ⟨w.heap.size + 1, 4, none⟩ = some (.int .i64 m.want) ∧ w'.cell? ⟨w.heap.size + 1, 5, none⟩ = some (.int .i64 m.cell.kind) ∧ w'.cell? ⟨w.heap.size + 1, 6, none⟩ = some (.int .i64 m.cell.n) ∧ w'.cell? ⟨w.heap.size + 1, 7, none⟩ = some (.int .i64 m.cell.pos) ∧ w'.cell? ⟨w.heap.size + 1, 8, none⟩ = some (.slice ka m.cell.kids.length kc)) (by kernel_rfl) (KPA.out w2 (Below.refl _ _)) (fun hS => ?_)
    refine wpAnyH_take (i := 0) (v := .agg #[.int .i64 l.id, .int .i64 l.next, .slice oa l.out.length oc, .slice sa l.seen.length sc]) rfl (by kernel_rfl) (by kernel_rfl) (by kernel_rfl) (fun _ _ _ h => h) (Or.inl ⟨by rfl, ?_⟩) hS ?_
    · intro wq hSw
      obtain ⟨q0, q1, q2, q3, y0, y1, y2, y3, y4, y5, y6, y7, y8⟩ := hSw
      go_simp
    simp only [Act.put, List.getElem_toArray, List.getElem_cons_zero, List.setIfInBounds_toArray, List.set_cons_zero, List.set_cons_succ]
    refine wpAnyH_take (i := 2) (v := .agg #[.int .i64 m.kind, .int .i64 m.frm, .int .i64 m.dst, .int .i64 m.id, .int .i64 m.want, .int .i64 m.cell.kind, .int .i64 m.cell.n, .int .i64 m.cell.pos, .slice ka m.cell.kids.length kc]) rfl (by kernel_rfl) (by kernel_rfl) (by kernel_rfl) (fun _ _ _ h => h) (Or.inl ⟨by rfl, ?_⟩) hS ?_
    · intro wq hSw
      obtain ⟨q0, q1, q2, q3, y0, y1, y2, y3, y4, y5, y6, y7, y8⟩ := hSw
      go_simp
    simp only [Act.put, List.getElem_toArray, List.getElem_cons_zero, List.getElem_cons_succ, List.setIfInBounds_toArray, List.set_cons_zero, List.set_cons_succ]
    refine wpAnyH_ready (rs := [1, 9]) (by kernel_rfl) (by simp) ?_
    refine AllReadyH.cons rfl (fun K hK => ?_) (AllReadyH.cons rfl (fun K hK => ?_) AllReadyH.nil)
    · refine step_call1 rfl 8 (.tmp 31) _ rfl ent_toLink (.agg #[.int .i64 l.id, .int .i64 l.next, .slice oa l.out.length oc, .slice sa l.seen.length sc]) (by simp [Act.eval]) _ (CAA.out _ BDA.out.1) ?_
      rintro r w5 ⟨ov5, sv5, rs5, A5, b5⟩
      have G5 := (show Hid (_ ∧ _ ∧ _) from ⟨BDA.out.1.trans (b5.mono BDA.out.1.size), A5.at, b5⟩)
      obtain ⟨oa5, oc5, sa5, sc5, rfl, -, -⟩ := A5.at.form
      clear A5 b5
      refine hK.out _ _ (KPA.out _ G5.out.1) (fun _ => ?_)
      clear hK K
      simp only [Act.put, List.getElem_toArray, List.getElem_cons_zero, List.getElem_cons_succ, List.setIfInBounds_toArray, List.set_cons_zero, List.set_cons_succ]
      refine wpAnyH_ready (rs := [3, 9]) (by kernel_rfl) (by simp) ?_
      refine AllReadyH.cons rfl (fun K hK => ?_) (AllReadyH.cons rfl (fun K hK => ?_) AllReadyH.nil)
      · refine step_call1 rfl 9 (.tmp 33) _ rfl ent_toMsg (.agg #[.int .i64 m.kind, .int .i64 m.frm, .int .i64 m.dst, .int .i64 m.id, .int .i64 m.want, .int .i64 m.cell.kind, .int .i64 m.cell.n, .int .i64 m.cell.pos, .slice ka m.cell.kids.length kc]) (by simp [Act.eval]) _ (CBA.out _ G5.out.1) ?_
        rintro r w6 ⟨A6, b6⟩
        have G6 := (show Hid (_ ∧ _ ∧ _ ∧ _) from ⟨G5.out.1.trans (b6.mono G5.out.1.size), (G5.out.2.1).below b6, A6, b6⟩)
        obtain ⟨a6, c6, rfl⟩ := A6.form
        clear A6 b6
        refine hK.out _ _ (KPA.out _ G6.out.1) (fun _ => ?_)
        clear hK K
        simp only [Act.put, List.getElem_toArray, List.getElem_cons_zero, List.getElem_cons_succ, List.setIfInBounds_toArray, List.set_cons_zero, List.set_cons_succ]
        refine wpAnyH_ready (rs := [4, 9]) (by kernel_rfl) (by simp) ?_
        refine AllReadyH.cons rfl (fun K hK => ?_) (AllReadyH.cons rfl (fun K hK => ?_) AllReadyH.nil)
        · refine step_callB rfl 7 (.tmp 32) (.tmp 34) _ rfl ent_specSend (.agg #[.int .i64 l.id, .int .i64 l.next, .slice oa5 l.out.length oc5, .slice sa5 l.seen.length sc5]) (.agg (m.row (.slice a6 m.cell.kids.length c6))) (by simp [Act.eval]) (by simp [Act.eval]) _ (CCA.out _ _ _ _ _ G6.out.1 G6.out.2.1 G6.out.2.2.1) ?_
          rintro r w7 ⟨v7, ov7, sv7, rs7, rfl, A7, b7⟩
          have hv7 := A7.val
          obtain ⟨oa7, oc7, hov7⟩ := own_form A7.out.1
          have hrl7 : rs7.length = k.seen.length := by rw [← A7.is]; simp
          obtain ⟨n7, sa7, sc7, hn7, hsv7⟩ := own_formN A7.seen.cells
          obtain rfl : n7 = k.seen.length := by omega
          subst hov7 hsv7 hv7
          have G7 := (show Hid (_ ∧ _ ∧ _) from ⟨G6.out.1.trans (b7.mono G6.out.1.size), A7, b7⟩)
          clear A7 b7 hrl7 hn7
          refine hK.out _ _ (KPA.out _ G7.out.1) (fun _ => ?_)
          clear hK K
          simp only [Act.put, List.getElem_toArray, List.getElem_cons_zero, List.getElem_cons_succ, List.setIfInBounds_toArray, List.set_cons_zero, List.set_cons_succ]
          refine wpAnyH_take (i := 5) (v := .tuple #[.agg #[.int .i64 k.id, .int .i64 k.next, .slice oa7 k.out.length oc7, .slice sa7 k.seen.length sc7], .string tx, .bool gb]) rfl (by kernel_rfl) (by kernel_rfl) (by kernel_rfl) (fun _ _ _ h => h) (Or.inl ⟨by rfl, ?_⟩) (KPA.out _ G7.out.1) ?_
          · intro wq hSw
            go_simp
          simp only [Act.put, List.getElem_toArray, List.getElem_cons_zero, List.getElem_cons_succ, List.setIfInBounds_toArray, List.set_cons_zero, List.set_cons_succ]
          refine wpAnyH_take (i := 6) (v := .agg #[.int .i64 k.id, .int .i64 k.next, .slice oa7 k.out.length oc7, .slice sa7 k.seen.length sc7]) rfl (by kernel_rfl) (by kernel_rfl) (by kernel_rfl) (fun _ _ _ h => h) (Or.inl ⟨by rfl, ?_⟩) (KPA.out _ G7.out.1) ?_
          · intro wq hSw
            go_simp
          simp only [Act.put, List.getElem_toArray, List.getElem_cons_zero, List.getElem_cons_succ, List.setIfInBounds_toArray, List.set_cons_zero, List.set_cons_succ]
          refine wpAnyH_take (i := 7) (v := .string tx) rfl (by kernel_rfl) (by kernel_rfl) (by kernel_rfl) (fun _ _ _ h => h) (Or.inl ⟨by rfl, ?_⟩) (KPA.out _ G7.out.1) ?_
          · intro wq hSw
            go_simp
          simp only [Act.put, List.getElem_toArray, List.getElem_cons_zero, List.getElem_cons_succ, List.setIfInBounds_toArray, List.set_cons_zero, List.set_cons_succ]
          refine wpAnyH_take (i := 8) (v := .bool gb) rfl (by kernel_rfl) (by kernel_rfl) (by kernel_rfl) (fun _ _ _ h => h) (Or.inl ⟨by rfl, ?_⟩) (KPA.out _ G7.out.1) ?_
          · intro wq hSw
            go_simp
          simp only [Act.put, List.getElem_toArray, List.getElem_cons_zero, List.getElem_cons_succ, List.setIfInBounds_toArray, List.set_cons_zero, List.set_cons_succ]
          refine wpAnyH_ready (rs := [9]) (by kernel_rfl) (by simp) ?_
          refine AllReadyH.cons rfl (fun K hK => ?_) AllReadyH.nil
          go_simp
          refine hK.out _ _ (KPA.out _ (G7.out.1.alloc G7.out.1.size (.cells #[.int .i64 0, .int .i64 0, .slice none 0 0, .slice none 0 0] 36))) (fun _ => ?_)
          clear hK K
          have B8 := G7.out.1.alloc G7.out.1.size (.cells #[.int .i64 0, .int .i64 0, .slice none 0 0, .slice none 0 0] 36)
          have A8 := G7.out.2.1.below ((Below.refl _ w7).alloc (Nat.le_refl _) (.cells #[.int .i64 0, .int .i64 0, .slice none 0 0, .slice none 0 0] 36))
          have Z8 := (MapKept.heap_alloc w7 (.cells #[.int .i64 0, .int .i64 0, .slice none 0 0, .slice none 0 0] 36)).1
          obtain ⟨W8, hW8⟩ : ∃ W8, W8 = w7.alloc (.cells #[.int .i64 0, .int .i64 0, .slice none 0 0, .slice none 0 0] 36) := ⟨_, rfl⟩
          rw [← hW8] at B8 A8 Z8 ⊢
          have hzl : w7.heap.size < W8.heap.size := lt_heap Z8
          clear hW8
          refine wpAnyH_ready (rs := [10]) (by kernel_rfl) (by simp) ?_
          refine AllReadyH.cons rfl (fun K hK => ?_) AllReadyH.nil
          have ZZ : W8.heap[w7.heap.size]? = some (.cells #[.int .i64 0, .int .i64 0, .slice none 0 0, .slice none 0 0] 36) := Z8
          have y0 : W8.cell? ⟨w7.heap.size, 0, none⟩ = some (.int .i64 0) := by rw [cell_of_block ZZ]; rfl
          have y1 : W8.cell? ⟨w7.heap.size, 1, none⟩ = some (.int .i64 0) := by rw [cell_of_block ZZ]; rfl
          have y2 : W8.cell? ⟨w7.heap.size, 2, none⟩ = some (.slice none 0 0) := by rw [cell_of_block ZZ]; rfl
          have y3 : W8.cell? ⟨w7.heap.size, 3, none⟩ = some (.slice none 0 0) := by rw [cell_of_block ZZ]; rfl
          have f0 : W8.frozen? ⟨w7.heap.size, 0, none⟩ = false := unfrozen_of_block ZZ 0
          have f1 : W8.frozen? ⟨w7.heap.size, 1, none⟩ = false := unfrozen_of_block ZZ 1
          have f2 : W8.frozen? ⟨w7.heap.size, 2, none⟩ = false := unfrozen_of_block ZZ 2
          have f3 : W8.frozen? ⟨w7.heap.size, 3, none⟩ = false := unfrozen_of_block ZZ 3
          go_simp
          refine hK.out _ _ (KPA.out _ (below_set4 B8 G7.out.1.size _ _ _ _)) (fun _ => ?_)
          clear hK K y0 y1 y2 y3 f0 f1 f2 f3
          refine wpAnyH_take (i := 11) (v := .string tx) rfl (by kernel_rfl) (by kernel_rfl) (by kernel_rfl) (fun _ _ _ h => h) (Or.inl ⟨by rfl, ?_⟩) (KPA.out _ (below_set4 B8 G7.out.1.size _ _ _ _)) ?_
          · intro wq hSw
            go_simp
          simp only [Act.put, List.getElem_toArray, List.getElem_cons_zero, List.getElem_cons_succ, List.setIfInBounds_toArray, List.set_cons_zero, List.set_cons_succ]
          refine wpAnyH_take (i := 12) (v := .bool gb) rfl (by kernel_rfl) (by kernel_rfl) (by kernel_rfl) (fun _ _ _ h => h) (Or.inl ⟨by rfl, ?_⟩) (KPA.out _ (below_set4 B8 G7.out.1.size _ _ _ _)) ?_
          · intro wq hSw
            go_simp
          simp only [Act.put, List.getElem_toArray, List.getElem_cons_zero, List.getElem_cons_succ, List.setIfInBounds_toArray, List.set_cons_zero, List.set_cons_succ]
          refine wpAnyH_done (by kernel_rfl) ?_ _
          go_wp2_with fail
          go_meet
          exact ⟨w7.heap.size, .slice oa7 k.out.length oc7, .slice sa7 k.seen.length sc7, rs7, rfl, rfl, rfl, G7.out.1.size, below_set4 B8 G7.out.1.size _ _ _ _, box_set4 (A8.mono G6.out.1.size) (fun b hb => Nat.ne_of_lt (G7.out.2.1.own hb).2) ZZ, (fun b hb => Nat.ne_of_lt (G7.out.2.1.own hb).2), box_row ZZ⟩
        · go_simp
          refine hK.out _ _ (KPA.out _ (G6.out.1.alloc G6.out.1.size (.cells #[.int .i64 0, .int .i64 0, .slice none 0 0, .slice none 0 0] 36))) (fun _ => ?_)
          clear hK K
          refine wpAnyH_ready (rs := [4]) (by kernel_rfl) (by simp) ?_
          refine AllReadyH.cons rfl (fun K hK => ?_) AllReadyH.nil
          refine step_callB rfl 7 (.tmp 32) (.tmp 34) _ rfl ent_specSend (.agg #[.int .i64 l.id, .int .i64 l.next, .slice oa5 l.out.length oc5, .slice sa5 l.seen.length sc5]) (.agg (m.row (.slice a6 m.cell.kids.length c6))) (by simp [Act.eval]) (by simp [Act.eval]) _ (CCA.out _ _ _ _ _ (G6.out.1.alloc G6.out.1.size (.cells #[.int .i64 0, .int .i64 0, .slice none 0 0, .slice none 0 0] 36)) (G6.out.2.1.below ((Below.refl _ w6).alloc (Nat.le_refl _) (.cells #[.int .i64 0, .int .i64 0, .slice none 0 0, .slice none 0 0] 36))) (G6.out.2.2.1.below ((Below.refl _ w6).alloc (Nat.le_refl _) (.cells #[.int .i64 0, .int .i64 0, .slice none 0 0, .slice none 0 0] 36)))) ?_
          rintro r w7 ⟨v7, ov7, sv7, rs7, rfl, A7, b7⟩
          have hv7 := A7.val
          obtain ⟨oa7, oc7, hov7⟩ := own_form A7.out.1
          have hrl7 : rs7.length = k.seen.length := by rw [← A7.is]; simp
          obtain ⟨n7, sa7, sc7, hn7, hsv7⟩ := own_formN A7.seen.cells
          obtain rfl : n7 = k.seen.length := by omega
          subst hov7 hsv7 hv7
          have G7 := (show Hid (_ ∧ _ ∧ _) from ⟨(G6.out.1.alloc G6.out.1.size (.cells #[.int .i64 0, .int .i64 0, .slice none 0 0, .slice none 0 0] 36)).trans (b7.mono (G6.out.1.alloc G6.out.1.size (.cells #[.int .i64 0, .int .i64 0, .slice none 0 0, .slice none 0 0] 36)).size), A7, b7⟩)
          clear A7 b7 hrl7 hn7
          refine hK.out _ _ (KPA.out _ G7.out.1) (fun _ => ?_)
          clear hK K
          simp only [Act.put, List.getElem_toArray, List.getElem_cons_zero, List.getElem_cons_succ, List.setIfInBounds_toArray, List.set_cons_zero, List.set_cons_succ]
          refine wpAnyH_take (i := 5) (v := .tuple #[.agg #[.int .i64 k.id, .int .i64 k.next, .slice oa7 k.out.length oc7, .slice sa7 k.seen.length sc7], .string tx, .bool gb]) rfl (by kernel_rfl) (by kernel_rfl) (by kernel_rfl) (fun _ _ _ h => h) (Or.inl ⟨by rfl, ?_⟩) (KPA.out _ G7.out.1) ?_
          · intro wq hSw
            go_simp
          simp only [Act.put, List.getElem_toArray, List.getElem_cons_zero, List.getElem_cons_succ, List.setIfInBounds_toArray, List.set_cons_zero, List.set_cons_succ]
          refine wpAnyH_take (i := 6) (v := .agg #[.int .i64 k.id, .int .i64 k.next, .slice oa7 k.out.length oc7, .slice sa7 k.seen.length sc7]) rfl (by kernel_rfl) (by kernel_rfl) (by kernel_rfl) (fun _ _ _ h => h) (Or.inl ⟨by rfl, ?_⟩) (KPA.out _ G7.out.1) ?_
          · intro wq hSw
            go_simp
          simp only [Act.put, List.getElem_toArray, List.getElem_cons_zero, List.getElem_cons_succ, List.setIfInBounds_toArray, List.set_cons_zero, List.set_cons_succ]
          refine wpAnyH_take (i := 7) (v := .string tx) rfl (by kernel_rfl) (by kernel_rfl) (by kernel_rfl) (fun _ _ _ h => h) (Or.inl ⟨by rfl, ?_⟩) (KPA.out _ G7.out.1) ?_
          · intro wq hSw
            go_simp
          simp only [Act.put, List.getElem_toArray, List.getElem_cons_zero, List.getElem_cons_succ, List.setIfInBounds_toArray, List.set_cons_zero, List.set_cons_succ]
          refine wpAnyH_take (i := 8) (v := .bool gb) rfl (by kernel_rfl) (by kernel_rfl) (by kernel_rfl) (fun _ _ _ h => h) (Or.inl ⟨by rfl, ?_⟩) (KPA.out _ G7.out.1) ?_
          · intro wq hSw
            go_simp
          simp only [Act.put, List.getElem_toArray, List.getElem_cons_zero, List.getElem_cons_succ, List.setIfInBounds_toArray, List.set_cons_zero, List.set_cons_succ]
          have hzl : w6.heap.size < w7.heap.size := by have := G7.out.2.2.size; simp at this; omega
          refine wpAnyH_ready (rs := [10]) (by kernel_rfl) (by simp) ?_
          refine AllReadyH.cons rfl (fun K hK => ?_) AllReadyH.nil
          have ZZ : w7.heap[w6.heap.size]? = some (.cells #[.int .i64 0, .int .i64 0, .slice none 0 0, .slice none 0 0] 36) := (G7.out.2.2.block w6.heap.size (by simp)).trans (MapKept.heap_alloc w6 _).1
          have y0 : w7.cell? ⟨w6.heap.size, 0, none⟩ = some (.int .i64 0) := by rw [cell_of_block ZZ]; rfl
          have y1 : w7.cell? ⟨w6.heap.size, 1, none⟩ = some (.int .i64 0) := by rw [cell_of_block ZZ]; rfl
          have y2 : w7.cell? ⟨w6.heap.size, 2, none⟩ = some (.slice none 0 0) := by rw [cell_of_block ZZ]; rfl
          have y3 : w7.cell? ⟨w6.heap.size, 3, none⟩ = some (.slice none 0 0) := by rw [cell_of_block ZZ]; rfl
          have f0 : w7.frozen? ⟨w6.heap.size, 0, none⟩ = false := unfrozen_of_block ZZ 0
          have f1 : w7.frozen? ⟨w6.heap.size, 1, none⟩ = false := unfrozen_of_block ZZ 1
          have f2 : w7.frozen? ⟨w6.heap.size, 2, none⟩ = false := unfrozen_of_block ZZ 2
          have f3 : w7.frozen? ⟨w6.heap.size, 3, none⟩ = false := unfrozen_of_block ZZ 3
          go_simp
          refine hK.out _ _ (KPA.out _ (below_set4 G7.out.1 G6.out.1.size _ _ _ _)) (fun _ => ?_)
          clear hK K y0 y1 y2 y3 f0 f1 f2 f3
          refine wpAnyH_take (i := 11) (v := .string tx) rfl (by kernel_rfl) (by kernel_rfl) (by kernel_rfl) (fun _ _ _ h => h) (Or.inl ⟨by rfl, ?_⟩) (KPA.out _ (below_set4 G7.out.1 G6.out.1.size _ _ _ _)) ?_
          · intro wq hSw
            go_simp
          simp only [Act.put, List.getElem_toArray, List.getElem_cons_zero, List.getElem_cons_succ, List.setIfInBounds_toArray, List.set_cons_zero, List.set_cons_succ]
          refine wpAnyH_take (i := 12) (v := .bool gb) rfl (by kernel_rfl) (by kernel_rfl) (by kernel_rfl) (fun _ _ _ h => h) (Or.inl ⟨by rfl, ?_⟩) (KPA.out _ (below_set4 G7.out.1 G6.out.1.size _ _ _ _)) ?_
          · intro wq hSw
            go_simp
          simp only [Act.put, List.getElem_toArray, List.getElem_cons_zero, List.getElem_cons_succ, List.setIfInBounds_toArray, List.set_cons_zero, List.set_cons_succ]
          refine wpAnyH_done (by kernel_rfl) ?_ _
          go_wp2_with fail
          go_meet
          exact ⟨w6.heap.size, .slice oa7 k.out.length oc7, .slice sa7 k.seen.length sc7, rs7, rfl, rfl, rfl, G6.out.1.size, below_set4 G7.out.1 G6.out.1.size _ _ _ _, box_set4 (G7.out.2.1.mono (by simp; have := G6.out.1.size; omega)) (fun b hb => by have := (G7.out.2.1.own hb).1; simp at this; omega) ZZ, (fun b hb => by have := (G7.out.2.1.own hb).1; simp at this; omega), box_row ZZ⟩
      · go_simp
        refine hK.out _ _ (KPA.out _ (G5.out.1.alloc G5.out.1.size (.cells #[.int .i64 0, .int .i64 0, .slice none 0 0, .slice none 0 0] 36))) (fun _ => ?_)
        clear hK K
        refine wpAnyH_ready (rs := [3]) (by kernel_rfl) (by simp) ?_
        refine AllReadyH.cons rfl (fun K hK => ?_) AllReadyH.nil
        refine step_call1 rfl 9 (.tmp 33) _ rfl ent_toMsg (.agg #[.int .i64 m.kind, .int .i64 m.frm, .int .i64 m.dst, .int .i64 m.id, .int .i64 m.want, .int .i64 m.cell.kind, .int .i64 m.cell.n, .int .i64 m.cell.pos, .slice ka m.cell.kids.length kc]) (by simp [Act.eval]) _ (CBA.out _ (G5.out.1.alloc G5.out.1.size (.cells #[.int .i64 0, .int .i64 0, .slice none 0 0, .slice none 0 0] 36))) ?_
        rintro r w6 ⟨A6, b6⟩
        have G6 := (show Hid (_ ∧ _ ∧ _ ∧ _) from ⟨(G5.out.1.alloc G5.out.1.size (.cells #[.int .i64 0, .int .i64 0, .slice none 0 0, .slice none 0 0] 36)).trans (b6.mono (G5.out.1.alloc G5.out.1.size (.cells #[.int .i64 0, .int .i64 0, .slice none 0 0, .slice none 0 0] 36)).size), (G5.out.2.1.below ((Below.refl _ w5).alloc (Nat.le_refl _) (.cells #[.int .i64 0, .int .i64 0, .slice none 0 0, .slice none 0 0] 36))).below b6, A6, b6⟩)
        obtain ⟨a6, c6, rfl⟩ := A6.form
        clear A6 b6
        refine hK.out _ _ (KPA.out _ G6.out.1) (fun _ => ?_)
        clear hK K
        simp only [Act.put, List.getElem_toArray, List.getElem_cons_zero, List.getElem_cons_succ, List.setIfInBounds_toArray, List.set_cons_zero, List.set_cons_succ]
        refine wpAnyH_ready (rs := [4]) (by kernel_rfl) (by simp) ?_
        refine AllReadyH.cons rfl (fun K hK => ?_) AllReadyH.nil
        refine step_callB rfl 7 (.tmp 32) (.tmp 34) _ rfl ent_specSend (.agg #[.int .i64 l.id, .int .i64 l.next, .slice oa5 l.out.length oc5, .slice sa5 l.seen.length sc5]) (.agg (m.row (.slice a6 m.cell.kids.length c6))) (by simp [Act.eval]) (by simp [Act.eval]) _ (CCA.out _ _ _ _ _ G6.out.1 G6.out.2.1 G6.out.2.2.1) ?_
        rintro r w7 ⟨v7, ov7, sv7, rs7, rfl, A7, b7⟩
        have hv7 := A7.val
        obtain ⟨oa7, oc7, hov7⟩ := own_form A7.out.1
        have hrl7 : rs7.length = k.seen.length := by rw [← A7.is]; simp
        obtain ⟨n7, sa7, sc7, hn7, hsv7⟩ := own_formN A7.seen.cells
        obtain rfl : n7 = k.seen.length := by omega
        subst hov7 hsv7 hv7
        have G7 := (show Hid (_ ∧ _ ∧ _) from ⟨G6.out.1.trans (b7.mono G6.out.1.size), A7, b7⟩)
        clear A7 b7 hrl7 hn7
        refine hK.out _ _ (KPA.out _ G7.out.1) (fun _ => ?_)
        clear hK K
        simp only [Act.put, List.getElem_toArray, List.getElem_cons_zero, List.getElem_cons_succ, List.setIfInBounds_toArray, List.set_cons_zero, List.set_cons_succ]
        refine wpAnyH_take (i := 5) (v := .tuple #[.agg #[.int .i64 k.id, .int .i64 k.next, .slice oa7 k.out.length oc7, .slice sa7 k.seen.length sc7], .string tx, .bool gb]) rfl (by kernel_rfl) (by kernel_rfl) (by kernel_rfl) (fun _ _ _ h => h) (Or.inl ⟨by rfl, ?_⟩) (KPA.out _ G7.out.1) ?_
        · intro wq hSw
          go_simp
        simp only [Act.put, List.getElem_toArray, List.getElem_cons_zero, List.getElem_cons_succ, List.setIfInBounds_toArray, List.set_cons_zero, List.set_cons_succ]
        refine wpAnyH_take (i := 6) (v := .agg #[.int .i64 k.id, .int .i64 k.next, .slice oa7 k.out.length oc7, .slice sa7 k.seen.length sc7]) rfl (by kernel_rfl) (by kernel_rfl) (by kernel_rfl) (fun _ _ _ h => h) (Or.inl ⟨by rfl, ?_⟩) (KPA.out _ G7.out.1) ?_
        · intro wq hSw
          go_simp
        simp only [Act.put, List.getElem_toArray, List.getElem_cons_zero, List.getElem_cons_succ, List.setIfInBounds_toArray, List.set_cons_zero, List.set_cons_succ]
        refine wpAnyH_take (i := 7) (v := .string tx) rfl (by kernel_rfl) (by kernel_rfl) (by kernel_rfl) (fun _ _ _ h => h) (Or.inl ⟨by rfl, ?_⟩) (KPA.out _ G7.out.1) ?_
        · intro wq hSw
          go_simp
        simp only [Act.put, List.getElem_toArray, List.getElem_cons_zero, List.getElem_cons_succ, List.setIfInBounds_toArray, List.set_cons_zero, List.set_cons_succ]
        refine wpAnyH_take (i := 8) (v := .bool gb) rfl (by kernel_rfl) (by kernel_rfl) (by kernel_rfl) (fun _ _ _ h => h) (Or.inl ⟨by rfl, ?_⟩) (KPA.out _ G7.out.1) ?_
        · intro wq hSw
          go_simp
        simp only [Act.put, List.getElem_toArray, List.getElem_cons_zero, List.getElem_cons_succ, List.setIfInBounds_toArray, List.set_cons_zero, List.set_cons_succ]
        have hzm : w5.heap.size < w6.heap.size := by have := G6.out.2.2.2.size; simp at this; omega
        have hzl : w5.heap.size < w7.heap.size := Nat.lt_of_lt_of_le hzm G7.out.2.2.size
        refine wpAnyH_ready (rs := [10]) (by kernel_rfl) (by simp) ?_
        refine AllReadyH.cons rfl (fun K hK => ?_) AllReadyH.nil
        have ZZ : w7.heap[w5.heap.size]? = some (.cells #[.int .i64 0, .int .i64 0, .slice none 0 0, .slice none 0 0] 36) := (G7.out.2.2.block w5.heap.size hzm).trans ((G6.out.2.2.2.block w5.heap.size (by simp)).trans (MapKept.heap_alloc w5 _).1)
        have y0 : w7.cell? ⟨w5.heap.size, 0, none⟩ = some (.int .i64 0) := by rw [cell_of_block ZZ]; rfl
        have y1 : w7.cell? ⟨w5.heap.size, 1, none⟩ = some (.int .i64 0) := by rw [cell_of_block ZZ]; rfl
        have y2 : w7.cell? ⟨w5.heap.size, 2, none⟩ = some (.slice none 0 0) := by rw [cell_of_block ZZ]; rfl
        have y3 : w7.cell? ⟨w5.heap.size, 3, none⟩ = some (.slice none 0 0) := by rw [cell_of_block ZZ]; rfl
        have f0 : w7.frozen? ⟨w5.heap.size, 0, none⟩ = false := unfrozen_of_block ZZ 0
        have f1 : w7.frozen? ⟨w5.heap.size, 1, none⟩ = false := unfrozen_of_block ZZ 1
        have f2 : w7.frozen? ⟨w5.heap.size, 2, none⟩ = false := unfrozen_of_block ZZ 2
        have f3 : w7.frozen? ⟨w5.heap.size, 3, none⟩ = false := unfrozen_of_block ZZ 3
        go_simp
        refine hK.out _ _ (KPA.out _ (below_set4 G7.out.1 G5.out.1.size _ _ _ _)) (fun _ => ?_)
        clear hK K y0 y1 y2 y3 f0 f1 f2 f3
        refine wpAnyH_take (i := 11) (v := .string tx) rfl (by kernel_rfl) (by kernel_rfl) (by kernel_rfl) (fun _ _ _ h => h) (Or.inl ⟨by rfl, ?_⟩) (KPA.out _ (below_set4 G7.out.1 G5.out.1.size _ _ _ _)) ?_
        · intro wq hSw
          go_simp
        simp only [Act.put, List.getElem_toArray, List.getElem_cons_zero, List.getElem_cons_succ, List.setIfInBounds_toArray, List.set_cons_zero, List.set_cons_succ]
        refine wpAnyH_take (i := 12) (v := .bool gb) rfl (by kernel_rfl) (by kernel_rfl) (by kernel_rfl) (fun _ _ _ h => h) (Or.inl ⟨by rfl, ?_⟩) (KPA.out _ (below_set4 G7.out.1 G5.out.1.size _ _ _ _)) ?_
        · intro wq hSw
          go_simp
        simp only [Act.put, List.getElem_toArray, List.getElem_cons_zero, List.getElem_cons_succ, List.setIfInBounds_toArray, List.set_cons_zero, List.set_cons_succ]
        refine wpAnyH_done (by kernel_rfl) ?_ _
        go_wp2_with fail
        go_meet
        exact ⟨w5.heap.size, .slice oa7 k.out.length oc7, .slice sa7 k.seen.length sc7, rs7, rfl, rfl, rfl, G5.out.1.size, below_set4 G7.out.1 G5.out.1.size _ _ _ _, box_set4 (G7.out.2.1.mono G6.out.1.size) (fun b hb => by have := (G7.out.2.1.own hb).1; omega) ZZ, (fun b hb => by have := (G7.out.2.1.own hb).1; omega), box_row ZZ⟩
    · go_simp
      refine hK.out _ _ (KPA.out _ (BDA.out.1.alloc BDA.out.1.size (.cells #[.int .i64 0, .int .i64 0, .slice none 0 0, .slice none 0 0] 36))) (fun _ => ?_)
      clear hK K
      refine wpAnyH_ready (rs := [1]) (by kernel_rfl) (by simp) ?_
      refine AllReadyH.cons rfl (fun K hK => ?_) AllReadyH.nil
      refine step_call1 rfl 8 (.tmp 31) _ rfl ent_toLink (.agg #[.int .i64 l.id, .int .i64 l.next, .slice oa l.out.length oc, .slice sa l.seen.length sc]) (by simp [Act.eval]) _ (CAA.out _ (BDA.out.1.alloc BDA.out.1.size (.cells #[.int .i64 0, .int .i64 0, .slice none 0 0, .slice none 0 0] 36))) ?_
      rintro r w5 ⟨ov5, sv5, rs5, A5, b5⟩
      have G5 := (show Hid (_ ∧ _ ∧ _) from ⟨(BDA.out.1.alloc BDA.out.1.size (.cells #[.int .i64 0, .int .i64 0, .slice none 0 0, .slice none 0 0] 36)).trans (b5.mono (BDA.out.1.alloc BDA.out.1.size (.cells #[.int .i64 0, .int .i64 0, .slice none 0 0, .slice none 0 0] 36)).size), A5.at, b5⟩)
      obtain ⟨oa5, oc5, sa5, sc5, rfl, -, -⟩ := A5.at.form
      clear A5 b5
      refine hK.out _ _ (KPA.out _ G5.out.1) (fun _ => ?_)
      clear hK K
      simp only [Act.put, List.getElem_toArray, List.getElem_cons_zero, List.getElem_cons_succ, List.setIfInBounds_toArray, List.set_cons_zero, List.set_cons_succ]
      refine wpAnyH_ready (rs := [3]) (by kernel_rfl) (by simp) ?_
      refine AllReadyH.cons rfl (fun K hK => ?_) AllReadyH.nil
      refine step_call1 rfl 9 (.tmp 33) _ rfl ent_toMsg (.agg #[.int .i64 m.kind, .int .i64 m.frm, .int .i64 m.dst, .int .i64 m.id, .int .i64 m.want, .int .i64 m.cell.kind, .int .i64 m.cell.n, .int .i64 m.cell.pos, .slice ka m.cell.kids.length kc]) (by simp [Act.eval]) _ (CBA.out _ G5.out.1) ?_
      rintro r w6 ⟨A6, b6⟩
      have G6 := (show Hid (_ ∧ _ ∧ _ ∧ _) from ⟨G5.out.1.trans (b6.mono G5.out.1.size), (G5.out.2.1).below b6, A6, b6⟩)
      obtain ⟨a6, c6, rfl⟩ := A6.form
      clear A6 b6
      refine hK.out _ _ (KPA.out _ G6.out.1) (fun _ => ?_)
      clear hK K
      simp only [Act.put, List.getElem_toArray, List.getElem_cons_zero, List.getElem_cons_succ, List.setIfInBounds_toArray, List.set_cons_zero, List.set_cons_succ]
      refine wpAnyH_ready (rs := [4]) (by kernel_rfl) (by simp) ?_
      refine AllReadyH.cons rfl (fun K hK => ?_) AllReadyH.nil
      refine step_callB rfl 7 (.tmp 32) (.tmp 34) _ rfl ent_specSend (.agg #[.int .i64 l.id, .int .i64 l.next, .slice oa5 l.out.length oc5, .slice sa5 l.seen.length sc5]) (.agg (m.row (.slice a6 m.cell.kids.length c6))) (by simp [Act.eval]) (by simp [Act.eval]) _ (CCA.out _ _ _ _ _ G6.out.1 G6.out.2.1 G6.out.2.2.1) ?_
      rintro r w7 ⟨v7, ov7, sv7, rs7, rfl, A7, b7⟩
      have hv7 := A7.val
      obtain ⟨oa7, oc7, hov7⟩ := own_form A7.out.1
      have hrl7 : rs7.length = k.seen.length := by rw [← A7.is]; simp
      obtain ⟨n7, sa7, sc7, hn7, hsv7⟩ := own_formN A7.seen.cells
      obtain rfl : n7 = k.seen.length := by omega
      subst hov7 hsv7 hv7
      have G7 := (show Hid (_ ∧ _ ∧ _) from ⟨G6.out.1.trans (b7.mono G6.out.1.size), A7, b7⟩)
      clear A7 b7 hrl7 hn7
      refine hK.out _ _ (KPA.out _ G7.out.1) (fun _ => ?_)
      clear hK K
      simp only [Act.put, List.getElem_toArray, List.getElem_cons_zero, List.getElem_cons_succ, List.setIfInBounds_toArray, List.set_cons_zero, List.set_cons_succ]
      refine wpAnyH_take (i := 5) (v := .tuple #[.agg #[.int .i64 k.id, .int .i64 k.next, .slice oa7 k.out.length oc7, .slice sa7 k.seen.length sc7], .string tx, .bool gb]) rfl (by kernel_rfl) (by kernel_rfl) (by kernel_rfl) (fun _ _ _ h => h) (Or.inl ⟨by rfl, ?_⟩) (KPA.out _ G7.out.1) ?_
      · intro wq hSw
        go_simp
      simp only [Act.put, List.getElem_toArray, List.getElem_cons_zero, List.getElem_cons_succ, List.setIfInBounds_toArray, List.set_cons_zero, List.set_cons_succ]
      refine wpAnyH_take (i := 6) (v := .agg #[.int .i64 k.id, .int .i64 k.next, .slice oa7 k.out.length oc7, .slice sa7 k.seen.length sc7]) rfl (by kernel_rfl) (by kernel_rfl) (by kernel_rfl) (fun _ _ _ h => h) (Or.inl ⟨by rfl, ?_⟩) (KPA.out _ G7.out.1) ?_
      · intro wq hSw
        go_simp
      simp only [Act.put, List.getElem_toArray, List.getElem_cons_zero, List.getElem_cons_succ, List.setIfInBounds_toArray, List.set_cons_zero, List.set_cons_succ]
      refine wpAnyH_take (i := 7) (v := .string tx) rfl (by kernel_rfl) (by kernel_rfl) (by kernel_rfl) (fun _ _ _ h => h) (Or.inl ⟨by rfl, ?_⟩) (KPA.out _ G7.out.1) ?_
      · intro wq hSw
        go_simp
      simp only [Act.put, List.getElem_toArray, List.getElem_cons_zero, List.getElem_cons_succ, List.setIfInBounds_toArray, List.set_cons_zero, List.set_cons_succ]
      refine wpAnyH_take (i := 8) (v := .bool gb) rfl (by kernel_rfl) (by kernel_rfl) (by kernel_rfl) (fun _ _ _ h => h) (Or.inl ⟨by rfl, ?_⟩) (KPA.out _ G7.out.1) ?_
      · intro wq hSw
        go_simp
      simp only [Act.put, List.getElem_toArray, List.getElem_cons_zero, List.getElem_cons_succ, List.setIfInBounds_toArray, List.set_cons_zero, List.set_cons_succ]
      have hz5 : w2.heap.size < w5.heap.size := by have := G5.out.2.2.size; simp at this; omega
      have hz6 : w2.heap.size < w6.heap.size := Nat.lt_of_lt_of_le hz5 G6.out.2.2.2.size
      have hzl : w2.heap.size < w7.heap.size := Nat.lt_of_lt_of_le hz6 G7.out.2.2.size
      refine wpAnyH_ready (rs := [10]) (by kernel_rfl) (by simp) ?_
      refine AllReadyH.cons rfl (fun K hK => ?_) AllReadyH.nil
      have ZZ : w7.heap[w2.heap.size]? = some (.cells #[.int .i64 0, .int .i64 0, .slice none 0 0, .slice none 0 0] 36) := (G7.out.2.2.block w2.heap.size hz6).trans ((G6.out.2.2.2.block w2.heap.size hz5).trans ((G5.out.2.2.block w2.heap.size (by simp)).trans (MapKept.heap_alloc w2.drew (.cells #[.int .i64 0, .int .i64 0, .slice none 0 0, .slice none 0 0] 36)).1))
      have y0 : w7.cell? ⟨w2.heap.size, 0, none⟩ = some (.int .i64 0) := by rw [cell_of_block ZZ]; rfl
      have y1 : w7.cell? ⟨w2.heap.size, 1, none⟩ = some (.int .i64 0) := by rw [cell_of_block ZZ]; rfl
      have y2 : w7.cell? ⟨w2.heap.size, 2, none⟩ = some (.slice none 0 0) := by rw [cell_of_block ZZ]; rfl
      have y3 : w7.cell? ⟨w2.heap.size, 3, none⟩ = some (.slice none 0 0) := by rw [cell_of_block ZZ]; rfl
      have f0 : w7.frozen? ⟨w2.heap.size, 0, none⟩ = false := unfrozen_of_block ZZ 0
      have f1 : w7.frozen? ⟨w2.heap.size, 1, none⟩ = false := unfrozen_of_block ZZ 1
      have f2 : w7.frozen? ⟨w2.heap.size, 2, none⟩ = false := unfrozen_of_block ZZ 2
      have f3 : w7.frozen? ⟨w2.heap.size, 3, none⟩ = false := unfrozen_of_block ZZ 3
      go_simp
      refine hK.out _ _ (KPA.out _ (below_set4 G7.out.1 (Nat.le_refl _) _ _ _ _)) (fun _ => ?_)
      clear hK K y0 y1 y2 y3 f0 f1 f2 f3
      refine wpAnyH_take (i := 11) (v := .string tx) rfl (by kernel_rfl) (by kernel_rfl) (by kernel_rfl) (fun _ _ _ h => h) (Or.inl ⟨by rfl, ?_⟩) (KPA.out _ (below_set4 G7.out.1 (Nat.le_refl _) _ _ _ _)) ?_
      · intro wq hSw
        go_simp
      simp only [Act.put, List.getElem_toArray, List.getElem_cons_zero, List.getElem_cons_succ, List.setIfInBounds_toArray, List.set_cons_zero, List.set_cons_succ]
      refine wpAnyH_take (i := 12) (v := .bool gb) rfl (by kernel_rfl) (by kernel_rfl) (by kernel_rfl) (fun _ _ _ h => h) (Or.inl ⟨by rfl, ?_⟩) (KPA.out _ (below_set4 G7.out.1 (Nat.le_refl _) _ _ _ _)) ?_
      · intro wq hSw
        go_simp
      simp only [Act.put, List.getElem_toArray, List.getElem_cons_zero, List.getElem_cons_succ, List.setIfInBounds_toArray, List.set_cons_zero, List.set_cons_succ]
      refine wpAnyH_done (by kernel_rfl) ?_ _
      go_wp2_with fail
      go_meet
      exact ⟨w2.heap.size, .slice oa7 k.out.length oc7, .slice sa7 k.seen.length sc7, rs7, rfl, rfl, rfl, (Nat.le_refl _), below_set4 G7.out.1 (Nat.le_refl _) _ _ _ _, box_set4 (G7.out.2.1.mono G6.out.1.size) (fun b hb => by have := (G7.out.2.1.own hb).1; omega) ZZ, (fun b hb => by have := (G7.out.2.1.own hb).1; omega), box_row ZZ⟩
  case rest =>
  obtain ⟨wbx, wov, wsv, wrs, rfl, rfl, rfl, hwb, HA⟩ := hcut
  obtain ⟨woa, woc, hwov⟩ := own_form HA.out.2.1.out.1
  have hwrl : wrs.length = k.seen.length := by rw [← HA.out.2.1.is]; simp
  obtain ⟨wn, wsa, wsc, hwn, hwsv⟩ := own_formN HA.out.2.1.seen.cells
  obtain rfl : wn = k.seen.length := by omega
  subst hwov hwsv
  have hs3 : w2.heap.size ≤ wc.heap.size := HA.out.1.size
  have hwl : wbx < wc.heap.size := lt_heap HA.out.2.2.2
  have hww : w.heap.size + 1 < w2.heap.size := lt_heap H2.out.2.2
  have H3 := (show Hid (_ ∧ _ ∧ _ ∧ _ ∧ _) from ⟨H2.out.1.trans (HA.out.1.mono hzA), (HA.out.1.block _ (lt_heap H2.out.2.1)).trans H2.out.2.1, (HA.out.1.block _ (lt_heap H2.out.2.2)).trans H2.out.2.2, HA.out.2.1, HA.out.2.2.2⟩)
  clear KPA CAA CBA CCA BDA HA H2 hwrl hwn
  obtain ⟨q0, q1, q2, q3⟩ := lbox H3.out.2.1
  go_wp2_with fail
  clear q0 q1 q2 q3
  refine (toLink_any _ l S wc (HL.out.1.below H3.out.1) hb).mono ?_
  rintro e w4 ⟨v4, ov4, sv4, rs4, rfl, A4, b4⟩
  have hv4 := A4.val
  obtain ⟨oa4, oc4, hov4⟩ := own_form A4.out.1
  have hrl4 : rs4.length = l.seen.length := by rw [← A4.is]; simp
  obtain ⟨n4, sa4, sc4, hn4, hsv4⟩ := own_formN A4.seen.cells
  obtain rfl : n4 = l.seen.length := by omega
  subst hov4 hsv4 hv4
  have hs4 : wc.heap.size ≤ w4.heap.size := b4.size
  obtain ⟨W4, hW4⟩ : ∃ W4, W4 = w4.alloc (.cells (l.row (.slice oa4 l.out.length oc4) (.slice sa4 l.seen.length sc4)) 36) := ⟨_, rfl⟩
  have bW4 : Below w4.heap.size w4 W4 := by rw [hW4]; exact (Below.refl _ w4).alloc (Nat.le_refl _) _
  have M4 : W4.heap[w4.heap.size]? = some (.cells (l.row (.slice oa4 l.out.length oc4) (.slice sa4 l.seen.length sc4)) 36) := by rw [hW4]; exact (MapKept.heap_alloc w4 _).1
  have hs4' : w4.heap.size + 1 ≤ W4.heap.size := lt_heap M4
  have b4' : Below wc.heap.size wc W4 := b4.trans (bW4.mono (by omega))
  have H4 := (show Hid (_ ∧ _ ∧ _ ∧ _ ∧ _ ∧ _ ∧ _ ∧ _ ∧ _) from ⟨H3.out.1.trans (b4'.mono (by omega)), (b4'.block _ (lt_heap H3.out.2.1)).trans H3.out.2.1, (b4'.block _ (lt_heap H3.out.2.2.1)).trans H3.out.2.2.1, H3.out.2.2.2.1.below b4', (b4'.block _ (lt_heap H3.out.2.2.2.2)).trans H3.out.2.2.2.2, A4.below bW4, M4, (fun (b : Nat) (hb : LkBlk (.slice oa4 l.out.length oc4) (.slice sa4 l.seen.length sc4) rs4 b) => A4.own hb), hW4⟩)
  have HW := (show Hid (∀ b, LkBlk (.slice woa k.out.length woc) (.slice wsa k.seen.length wsc) wrs b → b < wc.heap.size) from fun b hb => (H3.out.2.2.2.1.own hb).2)
  obtain ⟨y0, y1, y2, y3, y4, y5, y6, y7, y8⟩ := boxM ((b4.block _ (lt_heap H3.out.2.2.1)).trans H3.out.2.2.1)
  have hlt14 : w.heap.size + 1 < w4.heap.size := by omega
  clear b4 A4 bW4 M4 b4' hW4 H3 hrl4 hn4
  go_wp2_with fail
  clear y0 y1 y2 y3 y4 y5 y6 y7 y8
  rw [← (show W4 = _ from H4.out.2.2.2.2.2.2.2.2)]
  refine (toMsgO_any _ m T W4 (HL.out.2.1.below H4.out.1) hbM).mono ?_
  rintro e w5 ⟨ka5, kc5, rfl, R5, hf5, b5⟩
  have hs5 : W4.heap.size ≤ w5.heap.size := b5.size
  obtain ⟨W5, hW5⟩ : ∃ W5, W5 = w5.alloc (.cells (m.row (.slice ka5 m.cell.kids.length kc5)) 42) := ⟨_, rfl⟩
  have bW5 : Below w5.heap.size w5 W5 := by rw [hW5]; exact (Below.refl _ w5).alloc (Nat.le_refl _) _
  have M5 : W5.heap[w5.heap.size]? = some (.cells (m.row (.slice ka5 m.cell.kids.length kc5)) 42) := by rw [hW5]; exact (MapKept.heap_alloc w5 _).1
  have hs5' : w5.heap.size + 1 ≤ W5.heap.size := lt_heap M5
  have b5' : Below W4.heap.size W4 W5 := b5.trans (bW5.mono (by omega))
  have R5' := own_moved R5 (fun g hg => bW5.block g (own_lt R5 g hg))
  have hX5 : ∀ b, (Value.slice ka5 m.cell.kids.length kc5).ownBlock = some b → W4.heap.size ≤ b ∧ b < w5.heap.size := fun b hb => ⟨(own_type R5 b hb).1, own_lt R5 b hb⟩
  have H5 := (show Hid (_ ∧ _ ∧ _ ∧ _ ∧ _ ∧ _ ∧ _ ∧ _ ∧ _ ∧ _) from ⟨H4.out.1.trans (b5'.mono (by omega)), (b5'.block _ (lt_heap H4.out.2.1)).trans H4.out.2.1, (b5'.block _ (lt_heap H4.out.2.2.1)).trans H4.out.2.2.1, H4.out.2.2.2.1.below b5', (b5'.block _ (lt_heap H4.out.2.2.2.2.1)).trans H4.out.2.2.2.2.1, H4.out.2.2.2.2.2.1.below b5', (b5'.block _ (lt_heap H4.out.2.2.2.2.2.2.1)).trans H4.out.2.2.2.2.2.2.1, R5', M5, hW5⟩)
  have HX := (show Hid (_ ∧ _) from ⟨H4.out.2.2.2.2.2.2.2.1, hX5⟩)
  obtain ⟨t0, t1, t2, t3⟩ := lbox ((b5.block _ (lt_heap H4.out.2.2.2.2.2.2.1)).trans H4.out.2.2.2.2.2.2.1)
  have hlt45 : w4.heap.size < w5.heap.size := by omega
  clear b5 bW5 M5 b5' hW5 H4 R5 R5' hX5 hf5
  go_wp2_with fail
  clear t0 t1 t2 t3
  rw [← (show W5 = w5.alloc (.cells #[.int .i64 m.kind, .int .i64 m.frm, .int .i64 m.dst, .int .i64 m.id, .int .i64 m.want, .int .i64 m.cell.kind, .int .i64 m.cell.n, .int .i64 m.cell.pos, .slice ka5 m.cell.kids.length kc5] 42) from H5.out.2.2.2.2.2.2.2.2.2)]
  refine (HC.out.2 _ _ _ _ W5 H5.out.2.2.2.2.2.1.at (MsAt.of_own H5.out.2.2.2.2.2.2.2.1 hf) (HL.out.2.2.1.below H5.out.1) (HL.out.2.2.2.below H5.out.1)).mono ?_
  rintro e w6 ⟨v6, ov6, sv6, rs6, rfl, A6, b6⟩
  have hv6 := A6.val
  obtain ⟨oa6, oc6, hov6⟩ := own_form A6.out.1
  have hrl6 : rs6.length = k.seen.length := by rw [← A6.is]; simp
  obtain ⟨n6, sa6, sc6, hn6, hsv6⟩ := own_formN A6.seen.cells
  obtain rfl : n6 = k.seen.length := by omega
  subst hov6 hsv6 hv6
  have hs6 : W5.heap.size ≤ w6.heap.size := b6.size
  obtain ⟨W6, hW6⟩ : ∃ W6, W6 = w6.alloc (.cells (k.row (.slice oa6 k.out.length oc6) (.slice sa6 k.seen.length sc6)) 36) := ⟨_, rfl⟩
  have bW6 : Below w6.heap.size w6 W6 := by rw [hW6]; exact (Below.refl _ w6).alloc (Nat.le_refl _) _
  have M6 : W6.heap[w6.heap.size]? = some (.cells (k.row (.slice oa6 k.out.length oc6) (.slice sa6 k.seen.length sc6)) 36) := by rw [hW6]; exact (MapKept.heap_alloc w6 _).1
  have hs6' : w6.heap.size + 1 ≤ W6.heap.size := lt_heap M6
  have b6' : Below W5.heap.size W5 W6 := b6.trans (bW6.mono (by omega))
  have st6 : LsSt w W6 l k m (.slice oa l.out.length oc) (.slice sa l.seen.length sc) (.slice ka m.cell.kids.length kc) w2.heap.size wbx wc.heap.size w4.heap.size w5.heap.size w6.heap.size (.slice woa k.out.length woc) (.slice wsa k.seen.length wsc) wrs (.slice oa4 l.out.length oc4) (.slice sa4 l.seen.length sc4) (.slice ka5 m.cell.kids.length kc5) (.slice oa6 k.out.length oc6) (.slice sa6 k.seen.length sc6) :=
    ⟨H5.out.1.trans (b6'.mono (by omega)), (b6'.block _ (lt_heap H5.out.2.1)).trans H5.out.2.1, (b6'.block _ (lt_heap H5.out.2.2.1)).trans H5.out.2.2.1, H5.out.2.2.2.1.below b6', HW.out, (b6'.block _ (lt_heap H5.out.2.2.2.2.1)).trans H5.out.2.2.2.2.1, (b6'.block _ (lt_heap H5.out.2.2.2.2.2.2.1)).trans H5.out.2.2.2.2.2.2.1, (b6'.block _ (lt_heap H5.out.2.2.2.2.2.2.2.2.1)).trans H5.out.2.2.2.2.2.2.2.2.1, M6, ⟨by omega, by omega, by omega, by omega, by omega, by omega, by omega⟩⟩
  have hX6 := (fun (b : Nat) (hb : LkBlk (.slice oa6 k.out.length oc6) (.slice sa6 k.seen.length sc6) rs6 b) => A6.own hb)
  have H6 := (show Hid (_ ∧ _ ∧ _ ∧ _ ∧ _) from ⟨st6, H5.out.2.2.2.2.2.1.below b6', own_moved H5.out.2.2.2.2.2.2.2.1 (fun g hg => b6'.block g (own_lt H5.out.2.2.2.2.2.2.2.1 g hg)), A6.below bW6, hW6⟩)
  have HB := (show Hid (_ ∧ _ ∧ _) from ⟨HX.out.1, HX.out.2, hX6⟩)
  obtain ⟨y0, y1, y2, y3⟩ := lbox ((b6.block _ (lt_heap H5.out.2.2.2.2.1)).trans H5.out.2.2.2.2.1)
  have hlt36 : wbx < w6.heap.size := by omega
  clear b6 A6 bW6 M6 b6' hW6 H5 hrl6 hn6 st6 hX6 HX HW
  go_wp2_with fail
  clear y0 y1 y2 y3
  rw [← (show W6 = _ from H6.out.2.2.2.2)]
  refine (eqLink_any _ _ k _ _ W6 H6.out.2.2.2.1.at H6.out.1.wown.at (by omega)).mono ?_
  rintro e w7 ⟨rfl, b7⟩
  have H7 := (show Hid (_ ∧ _ ∧ _ ∧ _) from ⟨H6.out.1.below b7, H6.out.2.1.below b7, own_moved H6.out.2.2.1 (fun g hg => b7.block g (own_lt H6.out.2.2.1 g hg)), H6.out.2.2.2.1.below b7⟩)
  clear b7 H6
  obtain ⟨q0, q1, q2, q3⟩ := lbox H7.out.1.abox
  obtain ⟨p0, p1, p2, p3⟩ := lbox H7.out.1.xbox
  go_wp2_with fail
  clear q0 q1 q2 q3 p0 p1 p2 p3
  have hd : Below w7.heap.size w7 w7.drew := (Below.refl _ _).drew
  have H8 := (show Hid (_ ∧ _ ∧ _ ∧ _) from ⟨H7.out.1.below hd, H7.out.2.1.below hd, own_moved H7.out.2.2.1 (fun g hg => hd.block g (own_lt H7.out.2.2.1 g hg)), H7.out.2.2.2.below hd⟩)
  clear hd H7
  go_region_held3 (fun w' => w'.cell? ⟨w4.heap.size, 0, none⟩ = some (.int .i64 l.id) ∧ w'.cell? ⟨w4.heap.size, 1, none⟩ = some (.int .i64 l.next) ∧ w'.cell? ⟨w4.heap.size, 2, none⟩ = some (.slice oa4 l.out.length oc4) ∧ w'.cell? ⟨w4.heap.size, 3, none⟩ = some (.slice sa4 l.seen.length sc4) ∧ w'.cell? ⟨w.heap.size, 0, none⟩ = some (.int .i64 l.id) ∧ w'.cell? ⟨w.heap.size, 1, none⟩ = some (.int .i64 l.next) ∧ w'.cell? ⟨w.heap.size, 2, none⟩ = some (.slice oa l.out.length oc) ∧ w'.cell? ⟨w.heap.size, 3, none⟩ = some (.slice sa l.seen.length sc)) (first | exact llbox H10.out.1.xbox H10.out.1.abox | exact llbox H9.out.1.xbox H9.out.1.abox | exact llbox H8.out.1.xbox H8.out.1.abox) (first
    | (go_at_call 8; refine (toLink_any _ l S _ (HL.out.1.below H8.out.1.base) hb).mono ?_; rintro e w9 ⟨v9, ov9, sv9, rs9, rfl, A9, b9⟩; have H9 := (show Hid (_ ∧ _ ∧ _ ∧ _ ∧ _) from ⟨H8.out.1.below b9, H8.out.2.1.below b9, own_moved H8.out.2.2.1 (fun g hg => b9.block g (own_lt H8.out.2.2.1 g hg)), H8.out.2.2.2.below b9, A9.at⟩); obtain ⟨oa9, oc9, sa9, sc9, rfl, -, -⟩ := A9.at.form; clear A9 b9 H8)
    | (go_at_call 11; refine (eqLink_any _ _ l _ _ _ H9.out.2.1.at H9.out.2.2.2.2 (by omega)).mono ?_; rintro e w10 ⟨rfl, b10⟩; have H10 := (show Hid (_ ∧ _ ∧ _ ∧ _) from ⟨H9.out.1.below b10, H9.out.2.1.below b10, own_moved H9.out.2.2.1 (fun g hg => b10.block g (own_lt H9.out.2.2.1 g hg)), H9.out.2.2.2.1.below b10⟩); clear b10 H9))
  obtain ⟨t0, t1, t2, t3, t4, t5, t6, t7, t8, t9, t10, t11, t12, t13, t14, t15, t16, t17⟩ := mmbox H10.out.1.ybox H10.out.1.ambx
  go_wp2_with fail
  clear t0 t1 t2 t3 t4 t5 t6 t7 t8 t9 t10 t11 t12 t13 t14 t15 t16 t17
  have hd : Below w10.heap.size w10 w10.drew := (Below.refl _ _).drew
  have H11 := (show Hid (_ ∧ _ ∧ _ ∧ _) from ⟨H10.out.1.below hd, H10.out.2.1.below hd, own_moved H10.out.2.2.1 (fun g hg => hd.block g (own_lt H10.out.2.2.1 g hg)), H10.out.2.2.2.below hd⟩)
  clear hd H10
  go_region_held3 (fun w' => w'.cell? ⟨w5.heap.size, 0, none⟩ = some (.int .i64 m.kind) ∧ w'.cell? ⟨w5.heap.size, 1, none⟩ = some (.int .i64 m.frm) ∧ w'.cell? ⟨w5.heap.size, 2, none⟩ = some (.int .i64 m.dst) ∧ w'.cell? ⟨w5.heap.size, 3, none⟩ = some (.int .i64 m.id) ∧ w'.cell? ⟨w5.heap.size, 4, none⟩ = some (.int .i64 m.want) ∧ w'.cell? ⟨w5.heap.size, 5, none⟩ = some (.int .i64 m.cell.kind) ∧ w'.cell? ⟨w5.heap.size, 6, none⟩ = some (.int .i64 m.cell.n) ∧ w'.cell? ⟨w5.heap.size, 7, none⟩ = some (.int .i64 m.cell.pos) ∧ w'.cell? ⟨w5.heap.size, 8, none⟩ = some (.slice ka5 m.cell.kids.length kc5) ∧ w'.cell? ⟨w.heap.size + 1, 0, none⟩ = some (.int .i64 m.kind) ∧ w'.cell? ⟨w.heap.size + 1, 1, none⟩ = some (.int .i64 m.frm) ∧ w'.cell? ⟨w.heap.size + 1, 2, none⟩ = some (.int .i64 m.dst) ∧ w'.cell? ⟨w.heap.size + 1, 3, none⟩ = some (.int .i64 m.id) ∧ w'.cell? ⟨w.heap.size + 1, 4, none⟩ = some (.int .i64 m.want) ∧ w'.cell? ⟨w.heap.size + 1, 5, none⟩ = some (.int .i64 m.cell.kind) ∧ w'.cell? ⟨w.heap.size + 1, 6, none⟩ = some (.int .i64 m.cell.n) ∧ w'.cell? ⟨w.heap.size + 1, 7, none⟩ = some (.int .i64 m.cell.pos) ∧ w'.cell? ⟨w.heap.size + 1, 8, none⟩ = some (.slice ka m.cell.kids.length kc)) (first | exact mmbox H13.out.1.ybox H13.out.1.ambx | exact mmbox H12.out.1.ybox H12.out.1.ambx | exact mmbox H11.out.1.ybox H11.out.1.ambx) (first
    | (go_at_call 9; refine (toMsg_any _ m T _ (HL.out.2.1.below H11.out.1.base) hbM).mono ?_; rintro e w12 ⟨v12, rfl, A12, b12⟩; have H12 := (show Hid (_ ∧ _ ∧ _ ∧ _ ∧ _) from ⟨H11.out.1.below b12, H11.out.2.1.below b12, own_moved H11.out.2.2.1 (fun g hg => b12.block g (own_lt H11.out.2.2.1 g hg)), H11.out.2.2.2.below b12, A12⟩); obtain ⟨a12, c12, rfl⟩ := A12.form; clear A12 b12 H11)
    | (go_at_call 12; refine (eqMsg_any _ _ m _ _ _ (MsAt.of_own H12.out.2.2.1 hf) H12.out.2.2.2.2 (by omega)).mono ?_; rintro e w13 ⟨rfl, b13⟩; have H13 := (show Hid (_ ∧ _ ∧ _ ∧ _) from ⟨H12.out.1.below b13, H12.out.2.1.below b13, own_moved H12.out.2.2.1 (fun g hg => b13.block g (own_lt H12.out.2.2.1 g hg)), H12.out.2.2.2.1.below b13⟩); clear b13 H12))
  obtain ⟨p0, p1, p2, p3⟩ := lbox H13.out.1.xbox
  have hbb := (show l.bulk = bulkO l.out + bulkN l.seen from rfl)
  have hbo := (show bulkO l.out = l.out.length + preO l.out l.out.length from rfl)
  have hmk : (0 : Int) ≤ mkE 1 l ∧ mkE 1 l ≤ 90000000 := by unfold mkE; omega
  have hmbb := (show k.bulk = bulkO k.out + bulkN k.seen from rfl)
  have hmbo := (show bulkO k.out = k.out.length + preO k.out k.out.length from rfl)
  have hmm : (0 : Int) ≤ mkE 1 k ∧ mkE 1 k ≤ 90000000 := by unfold mkE; omega
  go_wp2_with fail
  clear p0 p1 p2 p3
  refine (markLink_any _ _ l _ _ rs4 1 w13 (by omega) (by omega) (by omega) H13.out.2.1).mono ?_
  rintro e w14 ⟨rfl, -, k14⟩
  have ord13 := H13.out.1.ord
  have H14 := (show Hid (_ ∧ _ ∧ _) from ⟨H13.out.1.kept k14 (fun k hk => by have := HB.out.1 k hk; omega), own_moved H13.out.2.2.1 (fun g hg => k14.block g (own_lt H13.out.2.2.1 g hg) (fun hx => by have := HB.out.1 g hx; have := HB.out.2.1 g hg; omega)), H13.out.2.2.2.kept k14 (fun b hb hx => by have h1 := HB.out.1 b hx; have h2 := HB.out.2.2 b hb; omega)⟩)
  clear k14 H13 ord13
  generalize mkE 1 l = km at *
  obtain ⟨y0, y1, y2, y3, y4, y5, y6, y7, y8⟩ := boxM H14.out.1.ybox
  go_wp2_with fail
  clear y0 y1 y2 y3 y4 y5 y6 y7 y8
  refine (markMsg_any _ m ka5 kc5 m.cell.kids.length _ km w14 (by omega) (by omega) (by omega) H14.out.2.1).mono ?_
  rintro e w15 ⟨rfl, -, k15⟩
  have ord14 := H14.out.1.ord
  have H15 := (show Hid (_ ∧ _) from ⟨H14.out.1.kept k15 (fun k hk => by have := HB.out.2.1 k hk; omega), H14.out.2.2.kept k15 (fun b hb hx => by have h1 := HB.out.2.1 b hx; have h2 := HB.out.2.2 b hb; omega)⟩)
  clear k15 H14 ord14
  have hmn : ¬ km + (m.cell.kids.length : Int) < 0 := by omega
  obtain ⟨p0, p1, p2, p3⟩ := lbox H15.out.1.wbox
  obtain ⟨q0, q1, q2, q3⟩ := lbox H15.out.1.gbox
  go_wp2_with fail
  clear p0 p1 p2 p3 q0 q1 q2 q3
  refine (eqLink_any _ _ k _ _ w15 H15.out.2.at H15.out.1.wown.at (by omega)).mono ?_
  rintro e w16 ⟨rfl, b16⟩
  have H16 := (show Hid (_ ∧ _) from ⟨H15.out.1.below b16, H15.out.2.below b16⟩)
  clear b16 H15
  obtain ⟨q0, q1, q2, q3⟩ := lbox H16.out.1.gbox
  go_wp2_with fail
  clear q0 q1 q2 q3
  refine (markLink_any _ _ k _ _ rs6 1 w16 (by decide) (by decide) (by omega) H16.out.2).mono ?_
  rintro e w17 ⟨rfl, m17, k17⟩
  have ord16 := H16.out.1.ord
  have H17 := (show Hid (_ ∧ _ ∧ _) from ⟨H16.out.1.kept k17 (fun k hk => by have := HB.out.2.2 k hk; omega), m17, H16.out.2.is⟩)
  clear m17 k17 H16 ord16
  have hq0 : ¬ mkE 1 k < 0 := by omega
  have hqq : (mkE 1 k != mkE 1 k) = false := by simp
  have HK := (show Hid (_ ∧ True) from ⟨fun (wx : World) (h : MkL wx W5.heap.size k (.slice oa6 k.out.length oc6) (.slice sa6 k.seen.length sc6) rs6 1) => heldLink_any W5.heap.size _ k _ _ rs6 1 wx (by decide) (by decide) (by omega) h H17.out.2.2 rfl, trivial⟩)
  generalize mkE 1 k = kq at *
  obtain ⟨q0, q1, q2, q3⟩ := lbox H17.out.1.gbox
  go_wp2_with fail
  clear q0 q1 q2 q3
  refine (HK.out.1 w17 H17.out.2.1).mono ?_
  rintro e w18 ⟨rfl, b18⟩
  have H18 := (show Hid (_ ∧ _) from ⟨H17.out.1.below b18, H17.out.2.1.below b18⟩)
  clear b18 H17
  have KPB : Hid (∀ wx : World, Below w18.heap.size w18 wx → wx.cell? ⟨w.heap.size, 0, none⟩ = some (.int .i64 l.id) ∧ wx.cell? ⟨w.heap.size, 1, none⟩ = some (.int .i64 l.next) ∧ wx.cell? ⟨w.heap.size, 2, none⟩ = some (.slice oa l.out.length oc) ∧ wx.cell? ⟨w.heap.size, 3, none⟩ = some (.slice sa l.seen.length sc) ∧ wx.cell? ⟨w.heap.size + 1, 0, none⟩ = some (.int .i64 m.kind) ∧ wx.cell? ⟨w.heap.size + 1, 1, none⟩ = some (.int .i64 m.frm) ∧ wx.cell? ⟨w.heap.size + 1, 2, none⟩ = some (.int .i64 m.dst) ∧ wx.cell? ⟨w.heap.size + 1, 3, none⟩ = some (.int .i64 m.id) ∧ wx.cell? ⟨w.heap.size + 1, 4, none⟩ = some (.int .i64 m.want) ∧ wx.cell? ⟨w.heap.size + 1, 5, none⟩ = some (.int .i64 m.cell.kind) ∧ wx.cell? ⟨w.heap.size + 1, 6, none⟩ = some (.int .i64 m.cell.n) ∧ wx.cell? ⟨w.heap.size + 1, 7, none⟩ = some (.int .i64 m.cell.pos) ∧ wx.cell? ⟨w.heap.size + 1, 8, none⟩ = some (.slice ka m.cell.kids.length kc)) := fun wx hx => lmbox ((hx.block _ (lt_heap H18.out.1.abox)).trans H18.out.1.abox) ((hx.block _ (lt_heap H18.out.1.ambx)).trans H18.out.1.ambx)
  have hzB : w.heap.size ≤ w18.heap.size := H18.out.1.base.size
  have CAB : Hid (∀ wx : World, Below w18.heap.size w18 wx → Calls Tryz.prog 8 #[.agg #[.int .i64 l.id, .int .i64 l.next, .slice oa l.out.length oc, .slice sa l.seen.length sc]] wx fun e w' => ∃ r, e = .returned r ∧ (∃ ov sv rs, LkOwn w' wx.heap.size r l ov sv rs ∧ Below wx.heap.size wx w')) := fun wx hx => (toLink_any _ l S wx (HL.out.1.below (H18.out.1.base.trans (hx.mono hzB))) hb).mono (fun e w' ⟨v, ov, sv, rs, h1, h2, h3⟩ => ⟨v, h1, ov, sv, rs, h2, h3⟩)
  have CBB : Hid (∀ wx : World, Below w18.heap.size w18 wx → Calls Tryz.prog 9 #[.agg #[.int .i64 m.kind, .int .i64 m.frm, .int .i64 m.dst, .int .i64 m.id, .int .i64 m.want, .int .i64 m.cell.kind, .int .i64 m.cell.n, .int .i64 m.cell.pos, .slice ka m.cell.kids.length kc]] wx fun e w' => ∃ r, e = .returned r ∧ (MsAt w' (fun b => wx.heap.size ≤ b ∧ Pl w' b) r m ∧ Below wx.heap.size wx w')) := fun wx hx => toMsg_any _ m T wx (HL.out.2.1.below (H18.out.1.base.trans (hx.mono hzB))) hbM
  have CCB : Hid (∀ (v vm : Value) (S' T' : Nat → Prop) (wx : World), Below w18.heap.size w18 wx → LkAt wx S' v l → MsAt wx T' vm m → Calls Tryz.prog 10 #[v, vm] wx fun e w' => ∃ r, e = .returned r ∧ (∃ v' ov sv rs, r = .tuple #[v', .string tx, .bool gb] ∧ LkOwn w' wx.heap.size v' k ov sv rs ∧ Below wx.heap.size wx w')) := fun v vm S' T' wx hx h1 h2 => (HC.out.2 v vm S' T' wx h1 h2 (HL.out.2.2.1.below (H18.out.1.base.trans (hx.mono hzB))) (HL.out.2.2.2.below (H18.out.1.base.trans (hx.mono hzB)))).mono (fun e w' ⟨v', ov, sv, rs, h3, h4, h5⟩ => ⟨_, h3, v', ov, sv, rs, rfl, h4, h5⟩)
  have BDB := (show Hid (_ ∧ True) from ⟨(Below.refl w18.heap.size w18).drew, trivial⟩)
  obtain ⟨t0, t1, t2, t3, t4, t5, t6, t7, t8, t9, t10, t11, t12⟩ := KPB.out w18 (Below.refl _ _)
  go_wp2_with fail
  clear t0 t1 t2 t3 t4 t5 t6 t7 t8 t9 t10 t11 t12
  go_cut [17, 18, 19] from 20 (fun pv tv bv wc => ∃ (zb : Nat) (zov zsv : Value) (zrs : List (Se × Value)), pv = .pointer (some ⟨zb, 0, none⟩) ∧ tv = .string tx ∧ bv = .bool gb ∧ w18.heap.size ≤ zb ∧ Hid (Below w18.heap.size w18 wc ∧ LkOwn wc w18.heap.size (.agg #[.int .i64 k.id, .int .i64 k.next, zov, zsv]) k zov zsv zrs ∧ (∀ b, LkBlk zov zsv zrs b → b ≠ zb) ∧ wc.heap[zb]? = some (.cells (k.row zov zsv) 36)))
  case first =>
    refine wp_region_held_drew (S := fun w' => w'.cell? ⟨w.heap.size, 0, none⟩ = some (.int .i64 l.id) ∧ w'.cell? ⟨w.heap.size, 1, none⟩ = some (.int .i64 l.next) ∧ w'.cell? ⟨w.heap.size, 2, none⟩ = some (.slice oa l.out.length oc) ∧ w'.cell? ⟨w.heap.size, 3, none⟩ = some (.slice sa l.seen.length sc) ∧ w'.cell? ⟨w.heap.size + 1, 0, none⟩ = some (.int .i64 m.kind) ∧ w'.cell? ⟨w.heap.size + 1, 1, none⟩ = some (.int .i64 m.frm) ∧ w'.cell? ⟨w.heap.size + 1, 2, none⟩ = some (.int .i64 m.dst) ∧ w'.cell? ⟨w.heap.size + 1, 3, none⟩ = some (.int .i64 m.id) ∧ w'.cell? ⟨w.heap.size + 1, 4, none⟩ = some (.int .i64 m.want) ∧ w'.cell? ⟨w.heap.size + 1, 5, none⟩ = some (.int .i64 m.cell.kind) ∧ w'.cell? ⟨w.heap.size + 1, 6, none⟩ = some (.int .i64 m.cell.n) ∧ w'.cell? ⟨w.heap.size + 1, 7, none⟩ = some (.int .i64 m.cell.pos) ∧ w'.cell? ⟨w.heap.size + 1, 8, none⟩ = some (.slice ka m.cell.kids.length kc)) (by kernel_rfl) (KPB.out w18 (Below.refl _ _)) (fun hS => ?_)
    refine wpAnyH_take (i := 0) (v := .agg #[.int .i64 l.id, .int .i64 l.next, .slice oa l.out.length oc, .slice sa l.seen.length sc]) rfl (by kernel_rfl) (by kernel_rfl) (by kernel_rfl) (fun _ _ _ h => h) (Or.inl ⟨by rfl, ?_⟩) hS ?_
    · intro wq hSw
      obtain ⟨q0, q1, q2, q3, y0, y1, y2, y3, y4, y5, y6, y7, y8⟩ := hSw
      go_simp
    simp only [Act.put, List.getElem_toArray, List.getElem_cons_zero, List.setIfInBounds_toArray, List.set_cons_zero, List.set_cons_succ]
    refine wpAnyH_take (i := 2) (v := .agg #[.int .i64 m.kind, .int .i64 m.frm, .int .i64 m.dst, .int .i64 m.id, .int .i64 m.want, .int .i64 m.cell.kind, .int .i64 m.cell.n, .int .i64 m.cell.pos, .slice ka m.cell.kids.length kc]) rfl (by kernel_rfl) (by kernel_rfl) (by kernel_rfl) (fun _ _ _ h => h) (Or.inl ⟨by rfl, ?_⟩) hS ?_
    · intro wq hSw
      obtain ⟨q0, q1, q2, q3, y0, y1, y2, y3, y4, y5, y6, y7, y8⟩ := hSw
      go_simp
    simp only [Act.put, List.getElem_toArray, List.getElem_cons_zero, List.getElem_cons_succ, List.setIfInBounds_toArray, List.set_cons_zero, List.set_cons_succ]
    refine wpAnyH_ready (rs := [1, 9]) (by kernel_rfl) (by simp) ?_
    refine AllReadyH.cons rfl (fun K hK => ?_) (AllReadyH.cons rfl (fun K hK => ?_) AllReadyH.nil)
    · refine step_call1 rfl 8 (.tmp 110) _ rfl ent_toLink (.agg #[.int .i64 l.id, .int .i64 l.next, .slice oa l.out.length oc, .slice sa l.seen.length sc]) (by simp [Act.eval]) _ (CAB.out _ BDB.out.1) ?_
      rintro r w5 ⟨ov5, sv5, rs5, A5, b5⟩
      have G5 := (show Hid (_ ∧ _ ∧ _) from ⟨BDB.out.1.trans (b5.mono BDB.out.1.size), A5.at, b5⟩)
      obtain ⟨oa5, oc5, sa5, sc5, rfl, -, -⟩ := A5.at.form
      clear A5 b5
      refine hK.out _ _ (KPB.out _ G5.out.1) (fun _ => ?_)
      clear hK K
      simp only [Act.put, List.getElem_toArray, List.getElem_cons_zero, List.getElem_cons_succ, List.setIfInBounds_toArray, List.set_cons_zero, List.set_cons_succ]
      refine wpAnyH_ready (rs := [3, 9]) (by kernel_rfl) (by simp) ?_
      refine AllReadyH.cons rfl (fun K hK => ?_) (AllReadyH.cons rfl (fun K hK => ?_) AllReadyH.nil)
      · refine step_call1 rfl 9 (.tmp 112) _ rfl ent_toMsg (.agg #[.int .i64 m.kind, .int .i64 m.frm, .int .i64 m.dst, .int .i64 m.id, .int .i64 m.want, .int .i64 m.cell.kind, .int .i64 m.cell.n, .int .i64 m.cell.pos, .slice ka m.cell.kids.length kc]) (by simp [Act.eval]) _ (CBB.out _ G5.out.1) ?_
        rintro r w6 ⟨A6, b6⟩
        have G6 := (show Hid (_ ∧ _ ∧ _ ∧ _) from ⟨G5.out.1.trans (b6.mono G5.out.1.size), (G5.out.2.1).below b6, A6, b6⟩)
        obtain ⟨a6, c6, rfl⟩ := A6.form
        clear A6 b6
        refine hK.out _ _ (KPB.out _ G6.out.1) (fun _ => ?_)
        clear hK K
        simp only [Act.put, List.getElem_toArray, List.getElem_cons_zero, List.getElem_cons_succ, List.setIfInBounds_toArray, List.set_cons_zero, List.set_cons_succ]
        refine wpAnyH_ready (rs := [4, 9]) (by kernel_rfl) (by simp) ?_
        refine AllReadyH.cons rfl (fun K hK => ?_) (AllReadyH.cons rfl (fun K hK => ?_) AllReadyH.nil)
        · refine step_callB rfl 10 (.tmp 111) (.tmp 113) _ rfl ent_implSend (.agg #[.int .i64 l.id, .int .i64 l.next, .slice oa5 l.out.length oc5, .slice sa5 l.seen.length sc5]) (.agg (m.row (.slice a6 m.cell.kids.length c6))) (by simp [Act.eval]) (by simp [Act.eval]) _ (CCB.out _ _ _ _ _ G6.out.1 G6.out.2.1 G6.out.2.2.1) ?_
          rintro r w7 ⟨v7, ov7, sv7, rs7, rfl, A7, b7⟩
          have hv7 := A7.val
          obtain ⟨oa7, oc7, hov7⟩ := own_form A7.out.1
          have hrl7 : rs7.length = k.seen.length := by rw [← A7.is]; simp
          obtain ⟨n7, sa7, sc7, hn7, hsv7⟩ := own_formN A7.seen.cells
          obtain rfl : n7 = k.seen.length := by omega
          subst hov7 hsv7 hv7
          have G7 := (show Hid (_ ∧ _ ∧ _) from ⟨G6.out.1.trans (b7.mono G6.out.1.size), A7, b7⟩)
          clear A7 b7 hrl7 hn7
          refine hK.out _ _ (KPB.out _ G7.out.1) (fun _ => ?_)
          clear hK K
          simp only [Act.put, List.getElem_toArray, List.getElem_cons_zero, List.getElem_cons_succ, List.setIfInBounds_toArray, List.set_cons_zero, List.set_cons_succ]
          refine wpAnyH_take (i := 5) (v := .tuple #[.agg #[.int .i64 k.id, .int .i64 k.next, .slice oa7 k.out.length oc7, .slice sa7 k.seen.length sc7], .string tx, .bool gb]) rfl (by kernel_rfl) (by kernel_rfl) (by kernel_rfl) (fun _ _ _ h => h) (Or.inl ⟨by rfl, ?_⟩) (KPB.out _ G7.out.1) ?_
          · intro wq hSw
            go_simp
          simp only [Act.put, List.getElem_toArray, List.getElem_cons_zero, List.getElem_cons_succ, List.setIfInBounds_toArray, List.set_cons_zero, List.set_cons_succ]
          refine wpAnyH_take (i := 6) (v := .agg #[.int .i64 k.id, .int .i64 k.next, .slice oa7 k.out.length oc7, .slice sa7 k.seen.length sc7]) rfl (by kernel_rfl) (by kernel_rfl) (by kernel_rfl) (fun _ _ _ h => h) (Or.inl ⟨by rfl, ?_⟩) (KPB.out _ G7.out.1) ?_
          · intro wq hSw
            go_simp
          simp only [Act.put, List.getElem_toArray, List.getElem_cons_zero, List.getElem_cons_succ, List.setIfInBounds_toArray, List.set_cons_zero, List.set_cons_succ]
          refine wpAnyH_take (i := 7) (v := .string tx) rfl (by kernel_rfl) (by kernel_rfl) (by kernel_rfl) (fun _ _ _ h => h) (Or.inl ⟨by rfl, ?_⟩) (KPB.out _ G7.out.1) ?_
          · intro wq hSw
            go_simp
          simp only [Act.put, List.getElem_toArray, List.getElem_cons_zero, List.getElem_cons_succ, List.setIfInBounds_toArray, List.set_cons_zero, List.set_cons_succ]
          refine wpAnyH_take (i := 8) (v := .bool gb) rfl (by kernel_rfl) (by kernel_rfl) (by kernel_rfl) (fun _ _ _ h => h) (Or.inl ⟨by rfl, ?_⟩) (KPB.out _ G7.out.1) ?_
          · intro wq hSw
            go_simp
          simp only [Act.put, List.getElem_toArray, List.getElem_cons_zero, List.getElem_cons_succ, List.setIfInBounds_toArray, List.set_cons_zero, List.set_cons_succ]
          refine wpAnyH_ready (rs := [9]) (by kernel_rfl) (by simp) ?_
          refine AllReadyH.cons rfl (fun K hK => ?_) AllReadyH.nil
          go_simp
          refine hK.out _ _ (KPB.out _ (G7.out.1.alloc G7.out.1.size (.cells #[.int .i64 0, .int .i64 0, .slice none 0 0, .slice none 0 0] 36))) (fun _ => ?_)
          clear hK K
          have B8 := G7.out.1.alloc G7.out.1.size (.cells #[.int .i64 0, .int .i64 0, .slice none 0 0, .slice none 0 0] 36)
          have A8 := G7.out.2.1.below ((Below.refl _ w7).alloc (Nat.le_refl _) (.cells #[.int .i64 0, .int .i64 0, .slice none 0 0, .slice none 0 0] 36))
          have Z8 := (MapKept.heap_alloc w7 (.cells #[.int .i64 0, .int .i64 0, .slice none 0 0, .slice none 0 0] 36)).1
          obtain ⟨W8, hW8⟩ : ∃ W8, W8 = w7.alloc (.cells #[.int .i64 0, .int .i64 0, .slice none 0 0, .slice none 0 0] 36) := ⟨_, rfl⟩
          rw [← hW8] at B8 A8 Z8 ⊢
          have hzl : w7.heap.size < W8.heap.size := lt_heap Z8
          clear hW8
          refine wpAnyH_ready (rs := [10]) (by kernel_rfl) (by simp) ?_
          refine AllReadyH.cons rfl (fun K hK => ?_) AllReadyH.nil
          have ZZ : W8.heap[w7.heap.size]? = some (.cells #[.int .i64 0, .int .i64 0, .slice none 0 0, .slice none 0 0] 36) := Z8
          have y0 : W8.cell? ⟨w7.heap.size, 0, none⟩ = some (.int .i64 0) := by rw [cell_of_block ZZ]; rfl
          have y1 : W8.cell? ⟨w7.heap.size, 1, none⟩ = some (.int .i64 0) := by rw [cell_of_block ZZ]; rfl
          have y2 : W8.cell? ⟨w7.heap.size, 2, none⟩ = some (.slice none 0 0) := by rw [cell_of_block ZZ]; rfl
          have y3 : W8.cell? ⟨w7.heap.size, 3, none⟩ = some (.slice none 0 0) := by rw [cell_of_block ZZ]; rfl
          have f0 : W8.frozen? ⟨w7.heap.size, 0, none⟩ = false := unfrozen_of_block ZZ 0
          have f1 : W8.frozen? ⟨w7.heap.size, 1, none⟩ = false := unfrozen_of_block ZZ 1
          have f2 : W8.frozen? ⟨w7.heap.size, 2, none⟩ = false := unfrozen_of_block ZZ 2
          have f3 : W8.frozen? ⟨w7.heap.size, 3, none⟩ = false := unfrozen_of_block ZZ 3
          go_simp
          refine hK.out _ _ (KPB.out _ (below_set4 B8 G7.out.1.size _ _ _ _)) (fun _ => ?_)
          clear hK K y0 y1 y2 y3 f0 f1 f2 f3
          refine wpAnyH_take (i := 11) (v := .string tx) rfl (by kernel_rfl) (by kernel_rfl) (by kernel_rfl) (fun _ _ _ h => h) (Or.inl ⟨by rfl, ?_⟩) (KPB.out _ (below_set4 B8 G7.out.1.size _ _ _ _)) ?_
          · intro wq hSw
            go_simp
          simp only [Act.put, List.getElem_toArray, List.getElem_cons_zero, List.getElem_cons_succ, List.setIfInBounds_toArray, List.set_cons_zero, List.set_cons_succ]
          refine wpAnyH_take (i := 12) (v := .bool gb) rfl (by kernel_rfl) (by kernel_rfl) (by kernel_rfl) (fun _ _ _ h => h) (Or.inl ⟨by rfl, ?_⟩) (KPB.out _ (below_set4 B8 G7.out.1.size _ _ _ _)) ?_
          · intro wq hSw
            go_simp
          simp only [Act.put, List.getElem_toArray, List.getElem_cons_zero, List.getElem_cons_succ, List.setIfInBounds_toArray, List.set_cons_zero, List.set_cons_succ]
          refine wpAnyH_done (by kernel_rfl) ?_ _
          go_wp2_with fail
          go_meet
          exact ⟨w7.heap.size, .slice oa7 k.out.length oc7, .slice sa7 k.seen.length sc7, rs7, rfl, rfl, rfl, G7.out.1.size, below_set4 B8 G7.out.1.size _ _ _ _, box_set4 (A8.mono G6.out.1.size) (fun b hb => Nat.ne_of_lt (G7.out.2.1.own hb).2) ZZ, (fun b hb => Nat.ne_of_lt (G7.out.2.1.own hb).2), box_row ZZ⟩
        · go_simp
          refine hK.out _ _ (KPB.out _ (G6.out.1.alloc G6.out.1.size (.cells #[.int .i64 0, .int .i64 0, .slice none 0 0, .slice none 0 0] 36))) (fun _ => ?_)
          clear hK K
          refine wpAnyH_ready (rs := [4]) (by kernel_rfl) (by simp) ?_
          refine AllReadyH.cons rfl (fun K hK => ?_) AllReadyH.nil
          refine step_callB rfl 10 (.tmp 111) (.tmp 113) _ rfl ent_implSend (.agg #[.int .i64 l.id, .int .i64 l.next, .slice oa5 l.out.length oc5, .slice sa5 l.seen.length sc5]) (.agg (m.row (.slice a6 m.cell.kids.length c6))) (by simp [Act.eval]) (by simp [Act.eval]) _ (CCB.out _ _ _ _ _ (G6.out.1.alloc G6.out.1.size (.cells #[.int .i64 0, .int .i64 0, .slice none 0 0, .slice none 0 0] 36)) (G6.out.2.1.below ((Below.refl _ w6).alloc (Nat.le_refl _) (.cells #[.int .i64 0, .int .i64 0, .slice none 0 0, .slice none 0 0] 36))) (G6.out.2.2.1.below ((Below.refl _ w6).alloc (Nat.le_refl _) (.cells #[.int .i64 0, .int .i64 0, .slice none 0 0, .slice none 0 0] 36)))) ?_
          rintro r w7 ⟨v7, ov7, sv7, rs7, rfl, A7, b7⟩
          have hv7 := A7.val
          obtain ⟨oa7, oc7, hov7⟩ := own_form A7.out.1
          have hrl7 : rs7.length = k.seen.length := by rw [← A7.is]; simp
          obtain ⟨n7, sa7, sc7, hn7, hsv7⟩ := own_formN A7.seen.cells
          obtain rfl : n7 = k.seen.length := by omega
          subst hov7 hsv7 hv7
          have G7 := (show Hid (_ ∧ _ ∧ _) from ⟨(G6.out.1.alloc G6.out.1.size (.cells #[.int .i64 0, .int .i64 0, .slice none 0 0, .slice none 0 0] 36)).trans (b7.mono (G6.out.1.alloc G6.out.1.size (.cells #[.int .i64 0, .int .i64 0, .slice none 0 0, .slice none 0 0] 36)).size), A7, b7⟩)
          clear A7 b7 hrl7 hn7
          refine hK.out _ _ (KPB.out _ G7.out.1) (fun _ => ?_)
          clear hK K
          simp only [Act.put, List.getElem_toArray, List.getElem_cons_zero, List.getElem_cons_succ, List.setIfInBounds_toArray, List.set_cons_zero, List.set_cons_succ]
          refine wpAnyH_take (i := 5) (v := .tuple #[.agg #[.int .i64 k.id, .int .i64 k.next, .slice oa7 k.out.length oc7, .slice sa7 k.seen.length sc7], .string tx, .bool gb]) rfl (by kernel_rfl) (by kernel_rfl) (by kernel_rfl) (fun _ _ _ h => h) (Or.inl ⟨by rfl, ?_⟩) (KPB.out _ G7.out.1) ?_
          · intro wq hSw
            go_simp
          simp only [Act.put, List.getElem_toArray, List.getElem_cons_zero, List.getElem_cons_succ, List.setIfInBounds_toArray, List.set_cons_zero, List.set_cons_succ]
          refine wpAnyH_take (i := 6) (v := .agg #[.int .i64 k.id, .int .i64 k.next, .slice oa7 k.out.length oc7, .slice sa7 k.seen.length sc7]) rfl (by kernel_rfl) (by kernel_rfl) (by kernel_rfl) (fun _ _ _ h => h) (Or.inl ⟨by rfl, ?_⟩) (KPB.out _ G7.out.1) ?_
          · intro wq hSw
            go_simp
          simp only [Act.put, List.getElem_toArray, List.getElem_cons_zero, List.getElem_cons_succ, List.setIfInBounds_toArray, List.set_cons_zero, List.set_cons_succ]
          refine wpAnyH_take (i := 7) (v := .string tx) rfl (by kernel_rfl) (by kernel_rfl) (by kernel_rfl) (fun _ _ _ h => h) (Or.inl ⟨by rfl, ?_⟩) (KPB.out _ G7.out.1) ?_
          · intro wq hSw
            go_simp
          simp only [Act.put, List.getElem_toArray, List.getElem_cons_zero, List.getElem_cons_succ, List.setIfInBounds_toArray, List.set_cons_zero, List.set_cons_succ]
          refine wpAnyH_take (i := 8) (v := .bool gb) rfl (by kernel_rfl) (by kernel_rfl) (by kernel_rfl) (fun _ _ _ h => h) (Or.inl ⟨by rfl, ?_⟩) (KPB.out _ G7.out.1) ?_
          · intro wq hSw
            go_simp
          simp only [Act.put, List.getElem_toArray, List.getElem_cons_zero, List.getElem_cons_succ, List.setIfInBounds_toArray, List.set_cons_zero, List.set_cons_succ]
          have hzl : w6.heap.size < w7.heap.size := by have := G7.out.2.2.size; simp at this; omega
          refine wpAnyH_ready (rs := [10]) (by kernel_rfl) (by simp) ?_
          refine AllReadyH.cons rfl (fun K hK => ?_) AllReadyH.nil
          have ZZ : w7.heap[w6.heap.size]? = some (.cells #[.int .i64 0, .int .i64 0, .slice none 0 0, .slice none 0 0] 36) := (G7.out.2.2.block w6.heap.size (by simp)).trans (MapKept.heap_alloc w6 _).1
          have y0 : w7.cell? ⟨w6.heap.size, 0, none⟩ = some (.int .i64 0) := by rw [cell_of_block ZZ]; rfl
          have y1 : w7.cell? ⟨w6.heap.size, 1, none⟩ = some (.int .i64 0) := by rw [cell_of_block ZZ]; rfl
          have y2 : w7.cell? ⟨w6.heap.size, 2, none⟩ = some (.slice none 0 0) := by rw [cell_of_block ZZ]; rfl
          have y3 : w7.cell? ⟨w6.heap.size, 3, none⟩ = some (.slice none 0 0) := by rw [cell_of_block ZZ]; rfl
          have f0 : w7.frozen? ⟨w6.heap.size, 0, none⟩ = false := unfrozen_of_block ZZ 0
          have f1 : w7.frozen? ⟨w6.heap.size, 1, none⟩ = false := unfrozen_of_block ZZ 1
          have f2 : w7.frozen? ⟨w6.heap.size, 2, none⟩ = false := unfrozen_of_block ZZ 2
          have f3 : w7.frozen? ⟨w6.heap.size, 3, none⟩ = false := unfrozen_of_block ZZ 3
          go_simp
          refine hK.out _ _ (KPB.out _ (below_set4 G7.out.1 G6.out.1.size _ _ _ _)) (fun _ => ?_)
          clear hK K y0 y1 y2 y3 f0 f1 f2 f3
          refine wpAnyH_take (i := 11) (v := .string tx) rfl (by kernel_rfl) (by kernel_rfl) (by kernel_rfl) (fun _ _ _ h => h) (Or.inl ⟨by rfl, ?_⟩) (KPB.out _ (below_set4 G7.out.1 G6.out.1.size _ _ _ _)) ?_
          · intro wq hSw
            go_simp
          simp only [Act.put, List.getElem_toArray, List.getElem_cons_zero, List.getElem_cons_succ, List.setIfInBounds_toArray, List.set_cons_zero, List.set_cons_succ]
          refine wpAnyH_take (i := 12) (v := .bool gb) rfl (by kernel_rfl) (by kernel_rfl) (by kernel_rfl) (fun _ _ _ h => h) (Or.inl ⟨by rfl, ?_⟩) (KPB.out _ (below_set4 G7.out.1 G6.out.1.size _ _ _ _)) ?_
          · intro wq hSw
            go_simp
          simp only [Act.put, List.getElem_toArray, List.getElem_cons_zero, List.getElem_cons_succ, List.setIfInBounds_toArray, List.set_cons_zero, List.set_cons_succ]
          refine wpAnyH_done (by kernel_rfl) ?_ _
          go_wp2_with fail
          go_meet
          exact ⟨w6.heap.size, .slice oa7 k.out.length oc7, .slice sa7 k.seen.length sc7, rs7, rfl, rfl, rfl, G6.out.1.size, below_set4 G7.out.1 G6.out.1.size _ _ _ _, box_set4 (G7.out.2.1.mono (by simp; have := G6.out.1.size; omega)) (fun b hb => by have := (G7.out.2.1.own hb).1; simp at this; omega) ZZ, (fun b hb => by have := (G7.out.2.1.own hb).1; simp at this; omega), box_row ZZ⟩
      · go_simp
        refine hK.out _ _ (KPB.out _ (G5.out.1.alloc G5.out.1.size (.cells #[.int .i64 0, .int .i64 0, .slice none 0 0, .slice none 0 0] 36))) (fun _ => ?_)
        clear hK K
        refine wpAnyH_ready (rs := [3]) (by kernel_rfl) (by simp) ?_
        refine AllReadyH.cons rfl (fun K hK => ?_) AllReadyH.nil
        refine step_call1 rfl 9 (.tmp 112) _ rfl ent_toMsg (.agg #[.int .i64 m.kind, .int .i64 m.frm, .int .i64 m.dst, .int .i64 m.id, .int .i64 m.want, .int .i64 m.cell.kind, .int .i64 m.cell.n, .int .i64 m.cell.pos, .slice ka m.cell.kids.length kc]) (by simp [Act.eval]) _ (CBB.out _ (G5.out.1.alloc G5.out.1.size (.cells #[.int .i64 0, .int .i64 0, .slice none 0 0, .slice none 0 0] 36))) ?_
        rintro r w6 ⟨A6, b6⟩
        have G6 := (show Hid (_ ∧ _ ∧ _ ∧ _) from ⟨(G5.out.1.alloc G5.out.1.size (.cells #[.int .i64 0, .int .i64 0, .slice none 0 0, .slice none 0 0] 36)).trans (b6.mono (G5.out.1.alloc G5.out.1.size (.cells #[.int .i64 0, .int .i64 0, .slice none 0 0, .slice none 0 0] 36)).size), (G5.out.2.1.below ((Below.refl _ w5).alloc (Nat.le_refl _) (.cells #[.int .i64 0, .int .i64 0, .slice none 0 0, .slice none 0 0] 36))).below b6, A6, b6⟩)
        obtain ⟨a6, c6, rfl⟩ := A6.form
        clear A6 b6
        refine hK.out _ _ (KPB.out _ G6.out.1) (fun _ => ?_)
        clear hK K
        simp only [Act.put, List.getElem_toArray, List.getElem_cons_zero, List.getElem_cons_succ, List.setIfInBounds_toArray, List.set_cons_zero, List.set_cons_succ]
        refine wpAnyH_ready (rs := [4]) (by kernel_rfl) (by simp) ?_
        refine AllReadyH.cons rfl (fun K hK => ?_) AllReadyH.nil
        refine step_callB rfl 10 (.tmp 111) (.tmp 113) _ rfl ent_implSend (.agg #[.int .i64 l.id, .int .i64 l.next, .slice oa5 l.out.length oc5, .slice sa5 l.seen.length sc5]) (.agg (m.row (.slice a6 m.cell.kids.length c6))) (by simp [Act.eval]) (by simp [Act.eval]) _ (CCB.out _ _ _ _ _ G6.out.1 G6.out.2.1 G6.out.2.2.1) ?_
        rintro r w7 ⟨v7, ov7, sv7, rs7, rfl, A7, b7⟩
        have hv7 := A7.val
        obtain ⟨oa7, oc7, hov7⟩ := own_form A7.out.1
        have hrl7 : rs7.length = k.seen.length := by rw [← A7.is]; simp
        obtain ⟨n7, sa7, sc7, hn7, hsv7⟩ := own_formN A7.seen.cells
        obtain rfl : n7 = k.seen.length := by omega
        subst hov7 hsv7 hv7
        have G7 := (show Hid (_ ∧ _ ∧ _) from ⟨G6.out.1.trans (b7.mono G6.out.1.size), A7, b7⟩)
        clear A7 b7 hrl7 hn7
        refine hK.out _ _ (KPB.out _ G7.out.1) (fun _ => ?_)
        clear hK K
        simp only [Act.put, List.getElem_toArray, List.getElem_cons_zero, List.getElem_cons_succ, List.setIfInBounds_toArray, List.set_cons_zero, List.set_cons_succ]
        refine wpAnyH_take (i := 5) (v := .tuple #[.agg #[.int .i64 k.id, .int .i64 k.next, .slice oa7 k.out.length oc7, .slice sa7 k.seen.length sc7], .string tx, .bool gb]) rfl (by kernel_rfl) (by kernel_rfl) (by kernel_rfl) (fun _ _ _ h => h) (Or.inl ⟨by rfl, ?_⟩) (KPB.out _ G7.out.1) ?_
        · intro wq hSw
          go_simp
        simp only [Act.put, List.getElem_toArray, List.getElem_cons_zero, List.getElem_cons_succ, List.setIfInBounds_toArray, List.set_cons_zero, List.set_cons_succ]
        refine wpAnyH_take (i := 6) (v := .agg #[.int .i64 k.id, .int .i64 k.next, .slice oa7 k.out.length oc7, .slice sa7 k.seen.length sc7]) rfl (by kernel_rfl) (by kernel_rfl) (by kernel_rfl) (fun _ _ _ h => h) (Or.inl ⟨by rfl, ?_⟩) (KPB.out _ G7.out.1) ?_
        · intro wq hSw
          go_simp
        simp only [Act.put, List.getElem_toArray, List.getElem_cons_zero, List.getElem_cons_succ, List.setIfInBounds_toArray, List.set_cons_zero, List.set_cons_succ]
        refine wpAnyH_take (i := 7) (v := .string tx) rfl (by kernel_rfl) (by kernel_rfl) (by kernel_rfl) (fun _ _ _ h => h) (Or.inl ⟨by rfl, ?_⟩) (KPB.out _ G7.out.1) ?_
        · intro wq hSw
          go_simp
        simp only [Act.put, List.getElem_toArray, List.getElem_cons_zero, List.getElem_cons_succ, List.setIfInBounds_toArray, List.set_cons_zero, List.set_cons_succ]
        refine wpAnyH_take (i := 8) (v := .bool gb) rfl (by kernel_rfl) (by kernel_rfl) (by kernel_rfl) (fun _ _ _ h => h) (Or.inl ⟨by rfl, ?_⟩) (KPB.out _ G7.out.1) ?_
        · intro wq hSw
          go_simp
        simp only [Act.put, List.getElem_toArray, List.getElem_cons_zero, List.getElem_cons_succ, List.setIfInBounds_toArray, List.set_cons_zero, List.set_cons_succ]
        have hzm : w5.heap.size < w6.heap.size := by have := G6.out.2.2.2.size; simp at this; omega
        have hzl : w5.heap.size < w7.heap.size := Nat.lt_of_lt_of_le hzm G7.out.2.2.size
        refine wpAnyH_ready (rs := [10]) (by kernel_rfl) (by simp) ?_
        refine AllReadyH.cons rfl (fun K hK => ?_) AllReadyH.nil
        have ZZ : w7.heap[w5.heap.size]? = some (.cells #[.int .i64 0, .int .i64 0, .slice none 0 0, .slice none 0 0] 36) := (G7.out.2.2.block w5.heap.size hzm).trans ((G6.out.2.2.2.block w5.heap.size (by simp)).trans (MapKept.heap_alloc w5 _).1)
        have y0 : w7.cell? ⟨w5.heap.size, 0, none⟩ = some (.int .i64 0) := by rw [cell_of_block ZZ]; rfl
        have y1 : w7.cell? ⟨w5.heap.size, 1, none⟩ = some (.int .i64 0) := by rw [cell_of_block ZZ]; rfl
        have y2 : w7.cell? ⟨w5.heap.size, 2, none⟩ = some (.slice none 0 0) := by rw [cell_of_block ZZ]; rfl
        have y3 : w7.cell? ⟨w5.heap.size, 3, none⟩ = some (.slice none 0 0) := by rw [cell_of_block ZZ]; rfl
        have f0 : w7.frozen? ⟨w5.heap.size, 0, none⟩ = false := unfrozen_of_block ZZ 0
        have f1 : w7.frozen? ⟨w5.heap.size, 1, none⟩ = false := unfrozen_of_block ZZ 1
        have f2 : w7.frozen? ⟨w5.heap.size, 2, none⟩ = false := unfrozen_of_block ZZ 2
        have f3 : w7.frozen? ⟨w5.heap.size, 3, none⟩ = false := unfrozen_of_block ZZ 3
        go_simp
        refine hK.out _ _ (KPB.out _ (below_set4 G7.out.1 G5.out.1.size _ _ _ _)) (fun _ => ?_)
        clear hK K y0 y1 y2 y3 f0 f1 f2 f3
        refine wpAnyH_take (i := 11) (v := .string tx) rfl (by kernel_rfl) (by kernel_rfl) (by kernel_rfl) (fun _ _ _ h => h) (Or.inl ⟨by rfl, ?_⟩) (KPB.out _ (below_set4 G7.out.1 G5.out.1.size _ _ _ _)) ?_
        · intro wq hSw
          go_simp
        simp only [Act.put, List.getElem_toArray, List.getElem_cons_zero, List.getElem_cons_succ, List.setIfInBounds_toArray, List.set_cons_zero, List.set_cons_succ]
        refine wpAnyH_take (i := 12) (v := .bool gb) rfl (by kernel_rfl) (by kernel_rfl) (by kernel_rfl) (fun _ _ _ h => h) (Or.inl ⟨by rfl, ?_⟩) (KPB.out _ (below_set4 G7.out.1 G5.out.1.size _ _ _ _)) ?_
        · intro wq hSw
          go_simp
        simp only [Act.put, List.getElem_toArray, List.getElem_cons_zero, List.getElem_cons_succ, List.setIfInBounds_toArray, List.set_cons_zero, List.set_cons_succ]
        refine wpAnyH_done (by kernel_rfl) ?_ _
        go_wp2_with fail
        go_meet
        exact ⟨w5.heap.size, .slice oa7 k.out.length oc7, .slice sa7 k.seen.length sc7, rs7, rfl, rfl, rfl, G5.out.1.size, below_set4 G7.out.1 G5.out.1.size _ _ _ _, box_set4 (G7.out.2.1.mono G6.out.1.size) (fun b hb => by have := (G7.out.2.1.own hb).1; omega) ZZ, (fun b hb => by have := (G7.out.2.1.own hb).1; omega), box_row ZZ⟩
    · go_simp
      refine hK.out _ _ (KPB.out _ (BDB.out.1.alloc BDB.out.1.size (.cells #[.int .i64 0, .int .i64 0, .slice none 0 0, .slice none 0 0] 36))) (fun _ => ?_)
      clear hK K
      refine wpAnyH_ready (rs := [1]) (by kernel_rfl) (by simp) ?_
      refine AllReadyH.cons rfl (fun K hK => ?_) AllReadyH.nil
      refine step_call1 rfl 8 (.tmp 110) _ rfl ent_toLink (.agg #[.int .i64 l.id, .int .i64 l.next, .slice oa l.out.length oc, .slice sa l.seen.length sc]) (by simp [Act.eval]) _ (CAB.out _ (BDB.out.1.alloc BDB.out.1.size (.cells #[.int .i64 0, .int .i64 0, .slice none 0 0, .slice none 0 0] 36))) ?_
      rintro r w5 ⟨ov5, sv5, rs5, A5, b5⟩
      have G5 := (show Hid (_ ∧ _ ∧ _) from ⟨(BDB.out.1.alloc BDB.out.1.size (.cells #[.int .i64 0, .int .i64 0, .slice none 0 0, .slice none 0 0] 36)).trans (b5.mono (BDB.out.1.alloc BDB.out.1.size (.cells #[.int .i64 0, .int .i64 0, .slice none 0 0, .slice none 0 0] 36)).size), A5.at, b5⟩)
      obtain ⟨oa5, oc5, sa5, sc5, rfl, -, -⟩ := A5.at.form
      clear A5 b5
      refine hK.out _ _ (KPB.out _ G5.out.1) (fun _ => ?_)
      clear hK K
      simp only [Act.put, List.getElem_toArray, List.getElem_cons_zero, List.getElem_cons_succ, List.setIfInBounds_toArray, List.set_cons_zero, List.set_cons_succ]
      refine wpAnyH_ready (rs := [3]) (by kernel_rfl) (by simp) ?_
      refine AllReadyH.cons rfl (fun K hK => ?_) AllReadyH.nil
      refine step_call1 rfl 9 (.tmp 112) _ rfl ent_toMsg (.agg #[.int .i64 m.kind, .int .i64 m.frm, .int .i64 m.dst, .int .i64 m.id, .int .i64 m.want, .int .i64 m.cell.kind, .int .i64 m.cell.n, .int .i64 m.cell.pos, .slice ka m.cell.kids.length kc]) (by simp [Act.eval]) _ (CBB.out _ G5.out.1) ?_
      rintro r w6 ⟨A6, b6⟩
      have G6 := (show Hid (_ ∧ _ ∧ _ ∧ _) from ⟨G5.out.1.trans (b6.mono G5.out.1.size), (G5.out.2.1).below b6, A6, b6⟩)
      obtain ⟨a6, c6, rfl⟩ := A6.form
      clear A6 b6
      refine hK.out _ _ (KPB.out _ G6.out.1) (fun _ => ?_)
      clear hK K
      simp only [Act.put, List.getElem_toArray, List.getElem_cons_zero, List.getElem_cons_succ, List.setIfInBounds_toArray, List.set_cons_zero, List.set_cons_succ]
      refine wpAnyH_ready (rs := [4]) (by kernel_rfl) (by simp) ?_
      refine AllReadyH.cons rfl (fun K hK => ?_) AllReadyH.nil
      refine step_callB rfl 10 (.tmp 111) (.tmp 113) _ rfl ent_implSend (.agg #[.int .i64 l.id, .int .i64 l.next, .slice oa5 l.out.length oc5, .slice sa5 l.seen.length sc5]) (.agg (m.row (.slice a6 m.cell.kids.length c6))) (by simp [Act.eval]) (by simp [Act.eval]) _ (CCB.out _ _ _ _ _ G6.out.1 G6.out.2.1 G6.out.2.2.1) ?_
      rintro r w7 ⟨v7, ov7, sv7, rs7, rfl, A7, b7⟩
      have hv7 := A7.val
      obtain ⟨oa7, oc7, hov7⟩ := own_form A7.out.1
      have hrl7 : rs7.length = k.seen.length := by rw [← A7.is]; simp
      obtain ⟨n7, sa7, sc7, hn7, hsv7⟩ := own_formN A7.seen.cells
      obtain rfl : n7 = k.seen.length := by omega
      subst hov7 hsv7 hv7
      have G7 := (show Hid (_ ∧ _ ∧ _) from ⟨G6.out.1.trans (b7.mono G6.out.1.size), A7, b7⟩)
      clear A7 b7 hrl7 hn7
      refine hK.out _ _ (KPB.out _ G7.out.1) (fun _ => ?_)
      clear hK K
      simp only [Act.put, List.getElem_toArray, List.getElem_cons_zero, List.getElem_cons_succ, List.setIfInBounds_toArray, List.set_cons_zero, List.set_cons_succ]
      refine wpAnyH_take (i := 5) (v := .tuple #[.agg #[.int .i64 k.id, .int .i64 k.next, .slice oa7 k.out.length oc7, .slice sa7 k.seen.length sc7], .string tx, .bool gb]) rfl (by kernel_rfl) (by kernel_rfl) (by kernel_rfl) (fun _ _ _ h => h) (Or.inl ⟨by rfl, ?_⟩) (KPB.out _ G7.out.1) ?_
      · intro wq hSw
        go_simp
      simp only [Act.put, List.getElem_toArray, List.getElem_cons_zero, List.getElem_cons_succ, List.setIfInBounds_toArray, List.set_cons_zero, List.set_cons_succ]
      refine wpAnyH_take (i := 6) (v := .agg #[.int .i64 k.id, .int .i64 k.next, .slice oa7 k.out.length oc7, .slice sa7 k.seen.length sc7]) rfl (by kernel_rfl) (by kernel_rfl) (by kernel_rfl) (fun _ _ _ h => h) (Or.inl ⟨by rfl, ?_⟩) (KPB.out _ G7.out.1) ?_
      · intro wq hSw
        go_simp
      simp only [Act.put, List.getElem_toArray, List.getElem_cons_zero, List.getElem_cons_succ, List.setIfInBounds_toArray, List.set_cons_zero, List.set_cons_succ]
      refine wpAnyH_take (i := 7) (v := .string tx) rfl (by kernel_rfl) (by kernel_rfl) (by kernel_rfl) (fun _ _ _ h => h) (Or.inl ⟨by rfl, ?_⟩) (KPB.out _ G7.out.1) ?_
      · intro wq hSw
        go_simp
      simp only [Act.put, List.getElem_toArray, List.getElem_cons_zero, List.getElem_cons_succ, List.setIfInBounds_toArray, List.set_cons_zero, List.set_cons_succ]
      refine wpAnyH_take (i := 8) (v := .bool gb) rfl (by kernel_rfl) (by kernel_rfl) (by kernel_rfl) (fun _ _ _ h => h) (Or.inl ⟨by rfl, ?_⟩) (KPB.out _ G7.out.1) ?_
      · intro wq hSw
        go_simp
      simp only [Act.put, List.getElem_toArray, List.getElem_cons_zero, List.getElem_cons_succ, List.setIfInBounds_toArray, List.set_cons_zero, List.set_cons_succ]
      have hz5 : w18.heap.size < w5.heap.size := by have := G5.out.2.2.size; simp at this; omega
      have hz6 : w18.heap.size < w6.heap.size := Nat.lt_of_lt_of_le hz5 G6.out.2.2.2.size
      have hzl : w18.heap.size < w7.heap.size := Nat.lt_of_lt_of_le hz6 G7.out.2.2.size
      refine wpAnyH_ready (rs := [10]) (by kernel_rfl) (by simp) ?_
      refine AllReadyH.cons rfl (fun K hK => ?_) AllReadyH.nil
      have ZZ : w7.heap[w18.heap.size]? = some (.cells #[.int .i64 0, .int .i64 0, .slice none 0 0, .slice none 0 0] 36) := (G7.out.2.2.block w18.heap.size hz6).trans ((G6.out.2.2.2.block w18.heap.size hz5).trans ((G5.out.2.2.block w18.heap.size (by simp)).trans (MapKept.heap_alloc w18.drew (.cells #[.int .i64 0, .int .i64 0, .slice none 0 0, .slice none 0 0] 36)).1))
      have y0 : w7.cell? ⟨w18.heap.size, 0, none⟩ = some (.int .i64 0) := by rw [cell_of_block ZZ]; rfl
      have y1 : w7.cell? ⟨w18.heap.size, 1, none⟩ = some (.int .i64 0) := by rw [cell_of_block ZZ]; rfl
      have y2 : w7.cell? ⟨w18.heap.size, 2, none⟩ = some (.slice none 0 0) := by rw [cell_of_block ZZ]; rfl
      have y3 : w7.cell? ⟨w18.heap.size, 3, none⟩ = some (.slice none 0 0) := by rw [cell_of_block ZZ]; rfl
      have f0 : w7.frozen? ⟨w18.heap.size, 0, none⟩ = false := unfrozen_of_block ZZ 0
      have f1 : w7.frozen? ⟨w18.heap.size, 1, none⟩ = false := unfrozen_of_block ZZ 1
      have f2 : w7.frozen? ⟨w18.heap.size, 2, none⟩ = false := unfrozen_of_block ZZ 2
      have f3 : w7.frozen? ⟨w18.heap.size, 3, none⟩ = false := unfrozen_of_block ZZ 3
      go_simp
      refine hK.out _ _ (KPB.out _ (below_set4 G7.out.1 (Nat.le_refl _) _ _ _ _)) (fun _ => ?_)
      clear hK K y0 y1 y2 y3 f0 f1 f2 f3
      refine wpAnyH_take (i := 11) (v := .string tx) rfl (by kernel_rfl) (by kernel_rfl) (by kernel_rfl) (fun _ _ _ h => h) (Or.inl ⟨by rfl, ?_⟩) (KPB.out _ (below_set4 G7.out.1 (Nat.le_refl _) _ _ _ _)) ?_
      · intro wq hSw
        go_simp
      simp only [Act.put, List.getElem_toArray, List.getElem_cons_zero, List.getElem_cons_succ, List.setIfInBounds_toArray, List.set_cons_zero, List.set_cons_succ]
      refine wpAnyH_take (i := 12) (v := .bool gb) rfl (by kernel_rfl) (by kernel_rfl) (by kernel_rfl) (fun _ _ _ h => h) (Or.inl ⟨by rfl, ?_⟩) (KPB.out _ (below_set4 G7.out.1 (Nat.le_refl _) _ _ _ _)) ?_
      · intro wq hSw
        go_simp
      simp only [Act.put, List.getElem_toArray, List.getElem_cons_zero, List.getElem_cons_succ, List.setIfInBounds_toArray, List.set_cons_zero, List.set_cons_succ]
      refine wpAnyH_done (by kernel_rfl) ?_ _
      go_wp2_with fail
      go_meet
      exact ⟨w18.heap.size, .slice oa7 k.out.length oc7, .slice sa7 k.seen.length sc7, rs7, rfl, rfl, rfl, (Nat.le_refl _), below_set4 G7.out.1 (Nat.le_refl _) _ _ _ _, box_set4 (G7.out.2.1.mono G6.out.1.size) (fun b hb => by have := (G7.out.2.1.own hb).1; omega) ZZ, (fun b hb => by have := (G7.out.2.1.own hb).1; omega), box_row ZZ⟩
  case rest =>
  obtain ⟨hbx, hov, hsv, hrs, rfl, rfl, rfl, hhb, HZ⟩ := hcut
  obtain ⟨hoa, hoc, hhov⟩ := own_form HZ.out.2.1.out.1
  have hhrl : hrs.length = k.seen.length := by rw [← HZ.out.2.1.is]; simp
  obtain ⟨hn, hsa, hsc, hhn, hhsv⟩ := own_formN HZ.out.2.1.seen.cells
  obtain rfl : hn = k.seen.length := by omega
  subst hhov hhsv
  have H19 := (show Hid (_ ∧ _ ∧ _ ∧ _) from ⟨H18.out.1.below HZ.out.1, H18.out.2.below HZ.out.1, HZ.out.2.1, HZ.out.2.2.2⟩)
  clear KPB CAB CBB CCB BDB HZ H18 hhrl hhn
  obtain ⟨p0, p1, p2, p3⟩ := lbox H19.out.1.wbox
  obtain ⟨q0, q1, q2, q3⟩ := lbox H19.out.2.2.2
  go_wp2_with fail
  clear p0 p1 p2 p3 q0 q1 q2 q3
  refine (eqLink_any _ _ k _ _ _ H19.out.2.2.1.at H19.out.1.wown.at (by omega)).mono ?_
  rintro e w20 ⟨rfl, b20⟩
  have H20 := (show Hid (_ ∧ _) from ⟨H19.out.1.below b20, H19.out.2.1.below b20⟩)
  clear b20 H19
  obtain ⟨q0, q1, q2, q3⟩ := lbox H20.out.1.gbox
  go_wp2_with fail
  clear q0 q1 q2 q3
  refine (HK.out.1 w20 H20.out.2).mono ?_
  rintro e w21 ⟨rfl, b21⟩
  have H21 := (show Hid (_ ∧ True) from ⟨H20.out.1.below b21, trivial⟩)
  clear b21 H20
  go_wp2
  go_ret
  exact ⟨rfl, H21.out.1.base⟩
end Go.Proofs.YtobooepdfknihaaGreatDoor
