/-
  The specification's draw of a link: its rounds.
-/
import Derived.Test.YtlbinamlehapoaaGreatDoorNM
import Derived.Test.YtlbinamlehapoaaGreatDoorLinkTakeS
import Derived.Test.YtlbinamlehapoaaGreatDoorLinkSendS
import Derived.Test.YtlbinamlehapoaaGreatDoorNH
import Derived.Test.YtlbinamlehapoaaGreatDoorNF
import Derived.Test.YtlbinamlehapoaaGreatDoorMZ
import Derived.Deep.CutBlock
import Derived.BigRegion
namespace Go.Proofs.YtlbinamlehapoaaGreatDoor
open Go.RowKit Go.Joins

set_option maxRecDepth 100000

/-- A right link that is being drawn. -/
def LkGo (B g : Nat) (V : Value) (len : Nat) (w W : World) (lb : Nat) : Prop := ∃ (l : Lk) (oa : Option Addr) (oc : Nat) (sa : Option Addr) (sc : Nat) (rs : List (Se × Value)), l.ok = true ∧ LkDr B g V len w W lb l (.slice oa l.out.length oc) (.slice sa l.seen.length sc) rs
theorem LkDr.go {B g : Nat} {V : Value} {len : Nat} {w W : World} {lb : Nat} {l : Lk} {ov sv : Value} {rs : List (Se × Value)} (h : LkDr B g V len w W lb l ov sv rs) (hok : l.ok = true) : LkGo B g V len w W lb := by
  obtain ⟨oa, oc, sa, sc, rfl, rfl⟩ := h.own.form
  exact ⟨l, oa, oc, sa, sc, rs, hok, h⟩
theorem new_three (x : Int) (h0 : 0 ≤ x) (h1 : x < 2) : amongB 1 (3 + x) = true := by
  have : x = 0 ∨ x = 1 := by omega
  rcases this with rfl | rfl <;> rfl

theorem tail_len {l : List Se} {x y : Se} (h : l = x :: l.tail) : (y :: l.tail).length = l.length := by
  have := congrArg List.length h
  simp only [List.length_cons] at this ⊢
  omega
theorem bulk_first (id next : Int) (out : List Sn) (x y : Se) (t : List Se) : Lk.bulk ⟨id, next, out, y :: t⟩ + x.bulk = Lk.bulk ⟨id, next, out, x :: t⟩ + y.bulk := by
  unfold Lk.bulk bulkN preN
  simp
  omega
theorem LkDr.first {B g : Nat} {V : Value} {len : Nat} {w W : World} {lb : Nat} {l : Lk} {ov : Value} {sa : Option Addr} {sc : Nat} {rs : List (Se × Value)} (h : LkDr B g V len w W lb l ov (.slice sa l.seen.length sc) rs) (hok : l.ok = true) :
    ∃ sg x kv D, sa = some ⟨sg, 0, none⟩ ∧ rs = (x, kv) :: D ∧ l.seen = x :: l.seen.tail ∧ x.ok = true := by
  have h1 := (Lk.parts hok).1
  have h6 := (Lk.parts hok).2.2.2.2.2
  unfold amongB at h1
  simp only [Bool.and_eq_true, decide_eq_true_eq] at h1
  have hl : 0 < l.seen.length := by omega
  have his := h.own.is
  cases rs with
  | nil => rw [← his] at hl; simp at hl
  | cons r D =>
    obtain ⟨x, kv⟩ := r
    have hs : l.seen = x :: l.seen.tail := by rw [← his]; rfl
    have hxo : x.ok = true := List.all_eq_true.1 h6 x (by rw [hs]; simp)
    rcases h.own.seen.cells.2 with ⟨e, _⟩ | ⟨g', cap, cur, e, _⟩
    · simp only [Value.slice.injEq] at e
      omega
    · simp only [Value.slice.injEq] at e
      exact ⟨g', x, kv, D, e.1, rfl, hs, hxo⟩
theorem LkDr.cell1 {B g sg n cap : Nat} {V : Value} {len : Nat} {w W : World} {lb : Nat} {l : Lk} {ov kv : Value} {x : Se} {D : List (Se × Value)} (h : LkDr B g V len w W lb l ov (.slice (some ⟨sg, 0, none⟩) n cap) ((x, kv) :: D)) :
    W.cell? ⟨sg, 0, none⟩ = some (.int .i64 x.low) ∧ W.cell? ⟨sg, 1, none⟩ = some kv ∧ W.frozen? ⟨sg, 0, none⟩ = false ∧ W.frozen? ⟨sg, 1, none⟩ = false := by
  have hc := h.own.seen.cells
  have h0 := hc.cells (g := sg) rfl 0 (.int .i64 x.low) rfl
  have h1 := hc.cells (g := sg) rfl 1 kv rfl
  rw [addr_addI] at h0 h1
  obtain ⟨-, cs, hcs⟩ := own_type hc sg rfl
  exact ⟨h0, h1, unfrozen_of_block hcs 0, unfrozen_of_block hcs 1⟩

def fishMs : Ms := ⟨2, 1, 2, 0, 0, ⟨0, 0, 0, []⟩⟩
def outLen (lb : Nat) (W : World) : Nat := match W.cell? ⟨lb, 2, none⟩ with
  | some (.slice _ n _) => n
  | _ => 0
theorem LkDr.olen {B g : Nat} {V : Value} {len : Nat} {w W : World} {lb : Nat} {l : Lk} {ov sv : Value} {rs : List (Se × Value)} (h : LkDr B g V len w W lb l ov sv rs) : outLen lb W = l.out.length := by
  obtain ⟨oa, oc, sa, sc, rfl, rfl⟩ := h.own.form
  unfold outLen
  rw [(lbox h.box).2.2.1]
theorem bulkO_snoc (es : List Sn) (x : Sn) : bulkO (es ++ [x]) = bulkO es + 1 + x.bulk := by
  unfold bulkO preO
  rw [List.take_length, List.take_length]
  simp
  omega
/-- What region 29 reads beside Out. -/
def FishS (lb mb : Nat) (nx : Int) (W : World) : Prop := W.cell? ⟨lb, 1, none⟩ = some (.int .i64 nx) ∧ W.cell? ⟨mb, 0, none⟩ = some (.int .i64 2) ∧ W.cell? ⟨mb, 1, none⟩ = some (.int .i64 1) ∧ W.cell? ⟨mb, 2, none⟩ = some (.int .i64 2) ∧ W.cell? ⟨mb, 3, none⟩ = some (.int .i64 0) ∧ W.cell? ⟨mb, 4, none⟩ = some (.int .i64 0) ∧ W.cell? ⟨mb, 5, none⟩ = some (.int .i64 0) ∧ W.cell? ⟨mb, 6, none⟩ = some (.int .i64 0) ∧ W.cell? ⟨mb, 7, none⟩ = some (.int .i64 0) ∧ W.cell? ⟨mb, 8, none⟩ = some (.slice none 0 0)
theorem FishS.kept {lb mb : Nat} {nx : Int} {W W' : World} (h : FishS lb mb nx W) (hk : ∀ b, b = lb ∨ b = mb → ∀ {o : Nat}, W'.cell? ⟨b, o, none⟩ = W.cell? ⟨b, o, none⟩) : FishS lb mb nx W' := by
  obtain ⟨h0, h1, h2, h3, h4, h5, h6, h7, h8, h9⟩ := h
  exact ⟨(hk lb (.inl rfl)).trans h0, (hk mb (.inr rfl)).trans h1, (hk mb (.inr rfl)).trans h2, (hk mb (.inr rfl)).trans h3, (hk mb (.inr rfl)).trans h4, (hk mb (.inr rfl)).trans h5, (hk mb (.inr rfl)).trans h6, (hk mb (.inr rfl)).trans h7, (hk mb (.inr rfl)).trans h8, (hk mb (.inr rfl)).trans h9⟩
theorem FishS.set2 {lb mb : Nat} {nx : Int} {W : World} {u : Value} (h : FishS lb mb nx W) (hn : mb ≠ lb) : FishS lb mb nx (W.setCell ⟨lb, 2, none⟩ u) := by
  obtain ⟨h0, h1, h2, h3, h4, h5, h6, h7, h8, h9⟩ := h
  have hm : ∀ o, (W.setCell ⟨lb, 2, none⟩ u).cell? ⟨mb, o, none⟩ = W.cell? ⟨mb, o, none⟩ := fun o => World.cell?_of_block (Below.heap_setCell _ _ _ _ (by simpa using hn))
  refine ⟨?_, (hm _).trans h1, (hm _).trans h2, (hm _).trans h3, (hm _).trans h4, (hm _).trans h5, (hm _).trans h6, (hm _).trans h7, (hm _).trans h8, (hm _).trans h9⟩
  have := h0
  simp [go_sem, this]
theorem ent_putM : ∀ args w, (callFunc 34 args).run Tryz.prog w = .ok (.enter 34 args) w := enters_of Tryz.func34 (by kernel_rfl) rfl
theorem run_buildS (e : Operand → Value) (o : Oper) (x : Operand) (a b c : Value) (ho : o.op = .buildSlice 24 1 #[(0, x)]) (hx : e x = .agg #[a, b, c]) (w : World) : (execOp e o).run Tryz.prog w = .ok (.value (.slice (some ⟨w.heap.size, 0, none⟩) 1 1)) (w.alloc (.cells #[a, b, c] 68)) := by
  obtain ⟨d, op, t, ps, af, g⟩ := o
  cases ho
  simp [execOp, hx, go_sem]
theorem run_storeO (e : Operand → Value) (o : Oper) (x y : Operand) (ad : Addr) (a : Option Addr) (n c : Nat) (old : Value) (ho : o.op = .store 24 x y) (hx : e x = .pointer (some ad)) (hy : e y = .slice a n c) (w : World) (hc : w.cell? ad = some old) (hf : w.frozen? ad = false) : (execOp e o).run Tryz.prog w = .ok .skip (w.setCell ad (.slice a n c)) := by
  obtain ⟨d, op, t, ps, af, g⟩ := o
  cases ho
  simp [execOp, hx, hy, go_sem, hc, hf]

set_option maxHeartbeats 6400000 in
theorem link_dr (B g : Nat) (V : Value) (len : Nat) (w : World) (h : Dr B w g V len) :
    Calls Tryz.prog 25 #[.pointer (some ⟨g, 0, none⟩)] w fun e w' => ∃ (v : Value) (l : Lk), e = .returned v ∧ LkAt w' (fun b => w.heap.size ≤ b) v l ∧ l.bulk ≤ 300000 ∧ Dr B w' g V len ∧ w.grownBy w' (some g) := by
  have hgl := h.glt
  have hnot := ex_not
  have HD := (show Hid (_ ∧ _ ∧ _) from ⟨h.alloc (.cells (Lk.row ⟨0, 0, [], []⟩ (.slice none 0 0) (.slice none 0 0)) 27), World.grownBy_alloc w (.cells (Lk.row ⟨0, 0, [], []⟩ (.slice none 0 0) (.slice none 0 0)) 27) (some g), (MapKept.heap_alloc w (.cells (Lk.row ⟨0, 0, [], []⟩ (.slice none 0 0) (.slice none 0 0)) 27)).1⟩)
  clear h
  go_enter Tryz.func25, Tryz.ntmps25
  go_wp2_with fail
  refine (below_dr B g V len 2 _ (by omega) (by omega) HD.out.1).mono ?_
  rintro e w1 ⟨x, rfl, x0, x1, h1, g1⟩
  have HN : Hid (amongB 1 (3 + x) = true) := new_three x x0 x1
  have hr1 := (g1.block w.heap.size (lt_heap HD.out.2.2) (fun e => by have := Option.some.inj e; omega)).trans HD.out.2.2
  have H1 := (show Hid (_ ∧ _ ∧ _) from ⟨h1, HD.out.2.1.trans g1, hr1⟩)
  clear h1 g1 hr1 HD
  go_wp2_with fail
  refine (specLinkNew_any 1 (3 + x) w1 ⟨by omega, by omega⟩).mono ?_
  rintro e w2 ⟨v, ov, sv, rs, rfl, hO, b2⟩
  obtain ⟨oa, oc, sa, sc, rfl, rfl⟩ := hO.form
  have hv := hO.val
  subst hv
  have hok := new_ok HN.out
  have hwl : w.heap.size < w1.heap.size := lt_heap H1.out.2.2
  have hw2 := b2.size
  generalize newOf 1 (3 + x) = l at *
  have H2 : Hid (LkDr B g V len w (w2.alloc (.cells (l.row (.slice oa l.out.length oc) (.slice sa l.seen.length sc)) 27)) w2.heap.size l (.slice oa l.out.length oc) (.slice sa l.seen.length sc) rs ∧ l.ok = true) := by
    have B2 : Below w2.heap.size w2 (w2.alloc (.cells (l.row (.slice oa l.out.length oc) (.slice sa l.seen.length sc)) 27)) := (Below.refl _ w2).alloc (Nat.le_refl _) _
    refine ⟨⟨(H1.out.1.below b2).alloc _, (H1.out.2.1.trans ⟨b2.os, b2.tape, b2.output, b2.size, fun k hk _ => b2.block k hk⟩).trans (World.grownBy_alloc w2 _ (some g)), (B2.block _ (by omega)).trans ((b2.block _ hwl).trans H1.out.2.2), (MapKept.heap_alloc w2 _).1, ?_, fun b hb => by have := (hO.own hb).2; omega, by omega, hgl⟩, hok⟩
    have h5 := hO.below B2
    exact ⟨rfl, h5.fits, ⟨own_mono h5.out.1 (by omega), h5.out.2⟩, ⟨own_mono h5.seen.cells (by omega), fun r hr => ⟨own_mono (h5.seen.kids r hr).1 (by omega), (h5.seen.kids r hr).2⟩, h5.seen.apart⟩, h5.is⟩
  clear hO b2 hok H1 HN hw2
  go_upto_region 2 with fail
  generalize w2.alloc (.cells (l.row (.slice oa l.out.length oc) (.slice sa l.seen.length sc)) 27) = W2 at *
  generalize w2.heap.size = lb at *
  go_wp2_with fail
  refine (below_dr B g V len 10 _ (by omega) (by omega) H2.out.1.dr).mono ?_
  rintro e w3 ⟨n, rfl, n0, n1, h3, g3⟩
  have H3 := (show Hid (LkGo B g V len w w3 lb) from (H2.out.1.step h3 g3).go H2.out.2)
  clear h3 g3 H2 hwl
  go_wp2_with fail
  go_loopw [6] (fun i wr => ∃ k : Int, 0 ≤ k ∧ k ≤ n ∧ i = .int .i64 k ∧ Hid (LkGo B g V len w wr lb)) (fun i _ => (n - intOf i).toNat)
  case atStart => exact ⟨0, by omega, by omega, rfl, H3⟩
  case round =>
    clear H3
    obtain ⟨k, k0, k1, rfl, H4⟩ := hrel
    by_cases hkn : k < n
    · have hkn' : decide (k < n) = true := by simpa using hkn
      obtain ⟨l, oa, oc, sa, sc, rs, hok, hdr⟩ := H4.out
      have H5 := (show Hid (_ ∧ _) from ⟨hok, hdr⟩)
      clear H4 hok hdr
      go_wp2_with fail
      refine (below_dr B g V len 3 _ (by omega) (by omega) H5.out.2.dr).mono ?_
      rintro e w6 ⟨t, rfl, t0, t1, h6, g6⟩
      have H6 := (show Hid (_ ∧ _) from ⟨H5.out.1, H5.out.2.step h6 g6⟩)
      clear h6 g6 H5
      have ht : t = 0 ∨ t = 1 ∨ t = 2 := by omega
      obtain ⟨q0, q1, q2, q3⟩ := lbox H6.out.2.box
      rcases ht with rfl | rfl | rfl
      · go_upto_region 11 with fail
        go_region_with (first
          | (go_at_call 40; refine (below_dr B g V len 5 _ (by omega) (by omega) H7.out.2.dr).mono ?_; rintro e w8 ⟨b, rfl, b0, b1, h8, g8⟩; have H8 := (show Hid (_ ∧ _) from ⟨H7.out.1, H7.out.2.step h8 g8⟩); clear h8 g8; obtain ⟨q80, q81, q82, q83⟩ := lbox H8.out.2.box)
          | (go_at_call 40; refine (below_dr B g V len 4 _ (by omega) (by omega) H6.out.2.drew.dr).mono ?_; rintro e w7 ⟨a, rfl, a0, a1, h7, g7⟩; have H7 := (show Hid (_ ∧ _) from ⟨H6.out.1, H6.out.2.drew.step h7 g7⟩); clear h7 g7; obtain ⟨q70, q71, q72, q73⟩ := lbox H7.out.2.box)
          | (go_at_call 18; refine (specLinkAck_any _ l _ _ _ w8 H8.out.2.own.at (by have := ok_bulk H8.out.1; omega)).mono ?_; rintro e w9 ⟨v9, ov9, sv9, rs9, rfl, hO, b9⟩; obtain ⟨oa9, oc9, sa9, sc9, rfl, rfl⟩ := hO.form; have hv := hO.val; subst hv; have hok9 := ack_filter (frm := a) (seq := IntKind.i64.wrap (1 + b)) H8.out.1; generalize l.ack a (IntKind.i64.wrap (1 + b)) = l9 at *; have H9 := (show Hid (_ ∧ _ ∧ _ ∧ _) from ⟨H8.out.2.below b9, hO, hok9, lt_heap H8.out.2.box⟩); clear b9 hO hok9; obtain ⟨q90, q91, q92, q93⟩ := lbox H9.out.1.box; have fz0 : w9.frozen? ⟨lb, 0, none⟩ = false := unfrozen_of_block H9.out.1.box 0; have fz1 : w9.frozen? ⟨lb, 1, none⟩ = false := unfrozen_of_block H9.out.1.box 1; have fz2 : w9.frozen? ⟨lb, 2, none⟩ = false := unfrozen_of_block H9.out.1.box 2; have fz3 : w9.frozen? ⟨lb, 3, none⟩ = false := unfrozen_of_block H9.out.1.box 3))
        all_goals
          clear q0 q1 q2 q3 q70 q71 q72 q73 q80 q81 q82 q83
          go_wp2_with fail
          go_roundw
          case rel => exact ⟨k + 1, by omega, by omega, by go_num, (H9.out.1.swap H9.out.2.1 H9.out.2.2.2).go H9.out.2.2.1⟩
          case measure => simp [intOf]; omega
      · go_upto_region 13 with fail
        go_region_with (first
          | (go_at_call 36; refine (in_dr B g V len _ H6.out.2.drew.dr).mono ?_; rintro e w8 ⟨p, rfl, pf, pb, h8, g8⟩; have H8 := (show Hid (_ ∧ _ ∧ _ ∧ _) from ⟨H6.out.1, H6.out.2.drew.step h8 g8, pf, pb⟩); clear h8 g8 pf pb; obtain ⟨q80, q81, q82, q83⟩ := lbox H8.out.2.1.box)
          | (go_at_call 10; refine (specLinkTake_any _ l p _ w8 H8.out.2.1.own.at (by have := ok_bulk H8.out.1; omega) (by have := H8.out.2.2.2; omega) H8.out.2.2.1).mono ?_; rintro e w9 ⟨v9, ov9, sv9, rs9, rfl, hO, b9⟩; obtain ⟨oa9, oc9, sa9, sc9, rfl, rfl⟩ := hO.form; have hv := hO.val; subst hv; have hok9 := take_ok (p := p) H8.out.1; generalize l.take p = l9 at *; have H9 := (show Hid (_ ∧ _ ∧ _ ∧ _) from ⟨H8.out.2.1.below b9, hO, hok9, lt_heap H8.out.2.1.box⟩); clear b9 hO hok9; obtain ⟨q90, q91, q92, q93⟩ := lbox H9.out.1.box; have fz0 : w9.frozen? ⟨lb, 0, none⟩ = false := unfrozen_of_block H9.out.1.box 0; have fz1 : w9.frozen? ⟨lb, 1, none⟩ = false := unfrozen_of_block H9.out.1.box 1; have fz2 : w9.frozen? ⟨lb, 2, none⟩ = false := unfrozen_of_block H9.out.1.box 2; have fz3 : w9.frozen? ⟨lb, 3, none⟩ = false := unfrozen_of_block H9.out.1.box 3))
        all_goals
          clear q0 q1 q2 q3 q80 q81 q82 q83
          go_wp2_with fail
          go_roundw
          case rel => exact ⟨k + 1, by omega, by omega, by go_num, (H9.out.1.swap H9.out.2.1 H9.out.2.2.2).go H9.out.2.2.1⟩
          case measure => simp [intOf]; omega
      · clear q0 q1 q2 q3
        go_wp2_with fail
        refine (l07Msg_dr B g V len _ H6.out.2.dr).mono ?_
        rintro e w7 ⟨v, m, rfl, hm, hl, h7, g7⟩
        obtain ⟨ka, kc, rfl⟩ := hm.form
        have hs67 := g7.size
        have L7 := (H6.out.2.step h7 g7).alloc (.cells (m.row (.slice ka m.cell.kids.length kc)) 32)
        have M7 := MsBx.new hm hs67
        obtain ⟨-, -, ⟨k1, -, k3, k4, k5⟩, -⟩ := M7.is
        have h11 : inI64 1 := ⟨by omega, by omega⟩
        have M8 := M7.put (i := 1) (u := .int .i64 1) ⟨m.kind, 1, m.dst, m.id, m.want, m.cell⟩ rfl rfl ⟨k1, h11, k3, k4, k5⟩
        have hlw : lb < w6.heap.size := lt_heap H6.out.2.box
        have hww := H6.out.2.new
        have hown6 := H6.out.2.own
        have L8 := L7.far (mb := w7.heap.size) (i := 1) (u := .int .i64 1) (by omega) (by omega) (fun b hb => by have := (hown6.own hb).2; omega)
        have H7 := (show Hid (_ ∧ _ ∧ _ ∧ _) from ⟨H6.out.1, L7, M7, hl⟩)
        have H8 := (show Hid (_ ∧ _) from ⟨L8, M8⟩)
        clear L7 M7 M8 L8 h7 g7 hm k1 k3 k4 k5 hl H6 hown6
        go_upto_region 8 with fail
        generalize w7.alloc (.cells (m.row (.slice ka m.cell.kids.length kc)) 32) = W7 at *
        have hnlm : w7.heap.size ≠ lb := by omega
        generalize w7.heap.size = mb at *
        have e1 := H7.out.2.2.1.cells 1 _ rfl
        have fm1 : W7.frozen? ⟨mb, 1, none⟩ = false := unfrozen_of_block H7.out.2.2.1.box 1
        go_upto_region 9 with fail
        generalize W7.setCell ⟨mb, 1, none⟩ (.int .i64 1) = W8 at *
        clear e1 fm1
        obtain ⟨q80, q81, q82, q83⟩ := lbox H8.out.1.box
        have e0 := H8.out.2.cells 0 _ rfl
        have e1 := H8.out.2.cells 1 _ rfl
        have e2 := H8.out.2.cells 2 _ rfl
        have e3 := H8.out.2.cells 3 _ rfl
        have e4 := H8.out.2.cells 4 _ rfl
        have e5 := H8.out.2.cells 5 _ rfl
        have e6 := H8.out.2.cells 6 _ rfl
        have e7 := H8.out.2.cells 7 _ rfl
        have e8 := H8.out.2.cells 8 _ rfl
        go_wp2_with fail
        refine (specLinkSend_any _ _ l ⟨m.kind, 1, m.dst, m.id, m.want, m.cell⟩ _ _ W8 H8.out.1.own.at H8.out.2.is (by have := ok_bulk H7.out.1; omega) (by have := H7.out.2.2.2; show m.cell.kids.length ≤ _; omega)).mono ?_
        rintro e w9 ⟨v9, ov9, sv9, rs9, rfl, hO, b9⟩
        obtain ⟨oa9, oc9, sa9, sc9, rfl, rfl⟩ := hO.form
        have hv := hO.val
        subst hv
        have hok9 := send_ok H7.out.1 (ms_fitsS H8.out.2.is)
        generalize l.send ⟨m.kind, 1, m.dst, m.id, m.want, m.cell⟩ = l9 at *
        have H9 := (show Hid (_ ∧ _ ∧ _ ∧ _) from ⟨H8.out.1.below b9, hO, hok9, lt_heap H8.out.1.box⟩)
        clear b9 hO hok9 e0 e1 e2 e3 e4 e5 e6 e7 e8 q80 q81 q82 q83 H8 H7
        obtain ⟨q90, q91, q92, q93⟩ := lbox H9.out.1.box
        have fz0 : w9.frozen? ⟨lb, 0, none⟩ = false := unfrozen_of_block H9.out.1.box 0
        have fz1 : w9.frozen? ⟨lb, 1, none⟩ = false := unfrozen_of_block H9.out.1.box 1
        have fz2 : w9.frozen? ⟨lb, 2, none⟩ = false := unfrozen_of_block H9.out.1.box 2
        have fz3 : w9.frozen? ⟨lb, 3, none⟩ = false := unfrozen_of_block H9.out.1.box 3
        go_wp2_with fail
        go_roundw
        case rel => exact ⟨k + 1, by omega, by omega, by go_num, (H9.out.1.swap H9.out.2.1 H9.out.2.2.2).go H9.out.2.2.1⟩
        case measure => simp [intOf]; omega
    · have hkn' : decide (k < n) = false := by simpa using hkn
      go_wp2_with fail
      obtain ⟨l, oa, oc, sa, sc, rs, hok, hdr⟩ := H4.out
      have H5 := (show Hid (_ ∧ _) from ⟨hok, hdr⟩)
      clear H4 hok hdr
      refine (below_dr B g V len 20 _ (by omega) (by omega) H5.out.2.dr).mono ?_
      rintro e w6 ⟨t, rfl, t0, t1, h6, g6⟩
      have H6 := (show Hid (_ ∧ _) from ⟨H5.out.1, H5.out.2.step h6 g6⟩)
      clear h6 g6 H5
      have hgw : g < w6.heap.size := H6.out.2.dr.glt
      have hbk : l.bulk ≤ 70000 := ok_bulk H6.out.1
      go_upto_block 3 with fail
      go_cut [] from 10 (fun wc => ∃ (l : Lk) (oa : Option Addr) (oc : Nat) (sa : Option Addr) (sc : Nat) (rs : List (Se × Value)), l.bulk ≤ 300000 ∧ Hid (LkDr B g V len w wc lb l (.slice oa l.out.length oc) (.slice sa l.seen.length sc) rs))
      case first =>
        have hs : t = 0 ∨ t = 1 ∨ t = 2 ∨ t = 3 ∨ t = 4 ∨ 5 ≤ t := by omega
        rcases hs with rfl | rfl | rfl | rfl | rfl | hs
        · go_wp2_with fail
          refine (pickInt_dr B g V len _ 4 4 [0, 1, 999999, 1000000] _ (by decide) (by decide) rfl (by omega) (ints_lit [0, 1, 999999, 1000000] w6) (H6.out.2.alloc _).dr).mono ?_
          rintro e w7 ⟨y, rfl, hy, h7, g7⟩
          have hyb : inI64 y := by
            simp only [List.mem_cons, List.not_mem_nil, or_false] at hy
            exact ⟨by omega, by omega⟩
          have H7 : Hid (LkDr B g V len w w7 lb l (.slice oa l.out.length oc) (.slice sa l.seen.length sc) rs) := (H6.out.2.alloc _).step h7 g7
          clear h7 g7 hy
          obtain ⟨q0, q1, q2, q3⟩ := lbox H7.out.box
          have fz1 : w7.frozen? ⟨lb, 1, none⟩ = false := unfrozen_of_block H7.out.box 1
          go_wp2_with fail
          go_meet
          exact ⟨⟨l.id, y, l.out, l.seen⟩, oa, oc, sa, sc, rs, (show l.bulk ≤ 300000 by omega), H7.out.put (i := 1) l.id y rfl ⟨H7.out.own.fits.1, hyb⟩⟩
        · go_wp2_with fail
          refine (pickInt_dr B g V len _ 3 3 [-1, 4, 0] _ (by decide) (by decide) rfl (by omega) (ints_lit [-1, 4, 0] w6) (H6.out.2.alloc _).dr).mono ?_
          rintro e w7 ⟨y, rfl, hy, h7, g7⟩
          have hyb : inI64 y := by
            simp only [List.mem_cons, List.not_mem_nil, or_false] at hy
            exact ⟨by omega, by omega⟩
          have H7 : Hid (LkDr B g V len w w7 lb l (.slice oa l.out.length oc) (.slice sa l.seen.length sc) rs) := (H6.out.2.alloc _).step h7 g7
          clear h7 g7 hy
          obtain ⟨q0, q1, q2, q3⟩ := lbox H7.out.box
          have fz0 : w7.frozen? ⟨lb, 0, none⟩ = false := unfrozen_of_block H7.out.box 0
          go_wp2_with fail
          go_meet
          exact ⟨⟨y, l.next, l.out, l.seen⟩, oa, oc, sa, sc, rs, (show l.bulk ≤ 300000 by omega), H7.out.put (i := 0) y l.next rfl ⟨hyb, H7.out.own.fits.2⟩⟩
        · obtain ⟨sg, x, kv, D, rfl, rfl, hseen, hxok⟩ := H6.out.2.first H6.out.1
          have hlen1 : 0 < l.seen.length := by rw [hseen]; simp
          have hlenI : (0 : Int) < ((l.seen.length : Nat) : Int) := by omega
          have hlb : lb < w6.heap.size := lt_heap H6.out.2.box
          have HSE := (show Hid (_ ∧ _) from ⟨hseen, hxok⟩)
          clear hseen hxok
          obtain ⟨q0, q1, q2, q3⟩ := lbox H6.out.2.box
          go_upto_region 20 with fail
          go_region_with (go_at_call 41; refine (pickInt_dr B g V len w6.heap.size 3 3 [0, 1000000, 1000001] _ (by decide) (by decide) rfl (by omega) (ints_lit [0, 1000000, 1000001] w6.drew) (H6.out.2.drew.alloc _).dr).mono ?_; rintro e w7 ⟨y, rfl, hy, h7, g7⟩; have hyb : inI64 y := (by simp only [List.mem_cons, List.not_mem_nil, or_false] at hy; exact ⟨by omega, by omega⟩); have H7 := (show Hid _ from (H6.out.2.drew.alloc _).step h7 g7); clear h7 g7 hy; obtain ⟨q70, q71, q72, q73⟩ := lbox H7.out.box; obtain ⟨s0, s1, fs0, fs1⟩ := H7.out.cell1)
          all_goals
            clear q0 q1 q2 q3
            go_wp2_with fail
            go_meet
            refine ⟨⟨l.id, l.next, l.out, ⟨y, x.ids⟩ :: l.seen.tail⟩, oa, oc, some ⟨sg, 0, none⟩, sc, (⟨y, x.ids⟩, kv) :: D, ?_, ?_⟩
            · have e1 := bulk_first l.id l.next l.out x ⟨y, x.ids⟩ l.seen.tail
              have e2 : l.bulk = Lk.bulk ⟨l.id, l.next, l.out, x :: l.seen.tail⟩ := by rw [← HSE.out.1]
              have e3 : (⟨y, x.ids⟩ : Se).bulk = x.bulk := rfl
              omega
            · have := H7.out.low y hyb
              rw [show (⟨l.id, l.next, l.out, ⟨y, x.ids⟩ :: l.seen.tail⟩ : Lk).seen.length = l.seen.length from tail_len HSE.out.1]
              exact this
        · obtain ⟨sg, x, kv, D, rfl, rfl, hseen, hxok⟩ := H6.out.2.first H6.out.1
          have hlen1 : 0 < l.seen.length := by rw [hseen]; simp
          have hlenI : (0 : Int) < ((l.seen.length : Nat) : Int) := by omega
          have hlb : lb < w6.heap.size := lt_heap H6.out.2.box
          have HSE := (show Hid (_ ∧ _) from ⟨hseen, hxok⟩)
          clear hseen hxok
          have hk1 : w6.ownsRow (w.heap.size + 1) 3 1 kv x.ids.length (intVs x.ids) := (H6.out.2.own.seen.kids (x, kv) (by simp)).1
          obtain ⟨ka, kc, rfl⟩ := own_form hk1
          clear hk1
          have hids : x.ids.length ≤ 60 := (Se.parts HSE.out.2).2.1
          go_wp2_with fail
          go_loopw [8] (fun i wr => ∃ (k : Nat) (x' : Se) (ka' : Option Addr) (kc' : Nat), i = .int .i64 k ∧ x'.ids.length = x.ids.length + k ∧ x'.ids.length ≤ 60 ∧ Hid (LkDr B g V len w wr lb ⟨l.id, l.next, l.out, x' :: l.seen.tail⟩ (.slice oa l.out.length oc) (.slice (some ⟨sg, 0, none⟩) l.seen.length sc) ((x', .slice ka' x'.ids.length kc') :: D))) (fun i _ => 60 - x.ids.length - (intOf i).toNat)
          case atStart =>
            refine ⟨0, x, ka, kc, rfl, rfl, hids, ?_⟩
            show LkDr _ _ _ _ _ _ _ _ _ _ _
            rw [← HSE.out.1]
            exact H6.out.2
          case round =>
            obtain ⟨k, x', ka', kc', rfl, hxl, hx60, H8⟩ := hrel
            have HXL : Hid (x'.ids.length = x.ids.length + k) := hxl
            have hkb : k ≤ 60 := by omega
            clear hxl
            obtain ⟨q0, q1, q2, q3⟩ := lbox H8.out.box
            obtain ⟨s0, s1, fs0, fs1⟩ := H8.out.cell1
            by_cases h60 : x'.ids.length < 60
            · have h60' : (((x'.ids.length : Nat) : Int)) < 60 := by omega
              have hwz : IntKind.i64.wrap (100 + (k : Int)) = 100 + (k : Int) := by rw [IntKind.wrap_i64]; omega
              have hzI : inI64 (100 + (k : Int)) := ⟨by omega, by omega⟩
              have hlr : lb < wr.heap.size := lt_heap H8.out.box
              have hgr : w.heap.size + 1 ≤ wr.heap.size := by have := H8.out.new; omega
              have hsgl : sg ≠ lb := H8.out.apt sg (.inr (.inl rfl))
              have HK := (show Hid (_) from (H8.out.own.seen.kids (x', .slice ka' x'.ids.length kc') (by simp)).1)
              go_upto_region 25 with fail
              clear q0 q1 q2
              refine wp_region_held_drew (S := fun w' => w'.cell? ⟨lb, 3, none⟩ = some (.slice (some ⟨sg, 0, none⟩) l.seen.length sc)) (by kernel_rfl) q3 (fun hS => ?_)
              refine wpAnyH_take (i := 0) (v := .pointer (some ⟨lb, 3, none⟩)) rfl (by kernel_rfl) (by kernel_rfl) (by kernel_rfl) (fun _ _ _ h => h) (Or.inl ⟨by rfl, ?_⟩) hS ?_
              · intro wq hSw
                go_simp
              simp only [Act.put, List.getElem_toArray, List.getElem_cons_zero, List.setIfInBounds_toArray, List.set_cons_zero, List.set_cons_succ]
              refine wpAnyH_take (i := 1) (v := .slice (some ⟨sg, 0, none⟩) l.seen.length sc) rfl (by kernel_rfl) (by kernel_rfl) (by kernel_rfl) (fun _ _ _ h => h) (Or.inl ⟨by rfl, ?_⟩) hS ?_
              · intro wq hSw
                have q0 : wq.cell? ⟨lb, 3, none⟩ = some (.slice (some ⟨sg, 0, none⟩) l.seen.length sc) := hSw
                go_simp
              simp only [Act.put, List.getElem_toArray, List.getElem_cons_zero, List.getElem_cons_succ, List.setIfInBounds_toArray, List.set_cons_zero, List.set_cons_succ]
              refine wpAnyH_take (i := 2) (v := .pointer (some ⟨lb, 3, none⟩)) rfl (by kernel_rfl) (by kernel_rfl) (by kernel_rfl) (fun _ _ _ h => h) (Or.inl ⟨by rfl, ?_⟩) hS ?_
              · intro wq hSw
                go_simp
              simp only [Act.put, List.getElem_toArray, List.getElem_cons_zero, List.getElem_cons_succ, List.setIfInBounds_toArray, List.set_cons_zero, List.set_cons_succ]
              refine wpAnyH_take (i := 3) (v := .slice (some ⟨sg, 0, none⟩) l.seen.length sc) rfl (by kernel_rfl) (by kernel_rfl) (by kernel_rfl) (fun _ _ _ h => h) (Or.inl ⟨by rfl, ?_⟩) hS ?_
              · intro wq hSw
                have q0 : wq.cell? ⟨lb, 3, none⟩ = some (.slice (some ⟨sg, 0, none⟩) l.seen.length sc) := hSw
                go_simp
              simp only [Act.put, List.getElem_toArray, List.getElem_cons_zero, List.getElem_cons_succ, List.setIfInBounds_toArray, List.set_cons_zero, List.set_cons_succ]
              refine wpAnyH_take (i := 4) (v := .pointer (some ⟨sg, 0, none⟩)) rfl (by kernel_rfl) (by kernel_rfl) (by kernel_rfl) (fun _ _ _ h => h) (Or.inl ⟨by rfl, ?_⟩) hS ?_
              · intro wq hSw
                go_simp
              simp only [Act.put, List.getElem_toArray, List.getElem_cons_zero, List.getElem_cons_succ, List.setIfInBounds_toArray, List.set_cons_zero, List.set_cons_succ]
              refine wpAnyH_take (i := 5) (v := .pointer (some ⟨sg, 1, none⟩)) rfl (by kernel_rfl) (by kernel_rfl) (by kernel_rfl) (fun _ _ _ h => h) (Or.inl ⟨by rfl, ?_⟩) hS ?_
              · intro wq hSw
                go_simp
              simp only [Act.put, List.getElem_toArray, List.getElem_cons_zero, List.getElem_cons_succ, List.setIfInBounds_toArray, List.set_cons_zero, List.set_cons_succ]
              refine wpAnyH_take (i := 7) (v := .int .i64 (k : Int)) rfl (by kernel_rfl) (by kernel_rfl) (by kernel_rfl) (fun _ _ _ h => h) (Or.inl ⟨by rfl, ?_⟩) hS ?_
              · intro wq hSw
                go_simp
              simp only [Act.put, List.getElem_toArray, List.getElem_cons_zero, List.getElem_cons_succ, List.setIfInBounds_toArray, List.set_cons_zero, List.set_cons_succ]
              refine wpAnyH_take (i := 8) (v := .int .i64 (100 + (k : Int))) rfl (by kernel_rfl) (by kernel_rfl) (by kernel_rfl) (fun _ _ _ h => h) (Or.inl ⟨by rfl, ?_⟩) hS ?_
              · intro wq hSw
                go_simp
              simp only [Act.put, List.getElem_toArray, List.getElem_cons_zero, List.getElem_cons_succ, List.setIfInBounds_toArray, List.set_cons_zero, List.set_cons_succ]
              have hSA : ((wr.drew).alloc (.cells #[.int .i64 (100 + (k : Int))] 3)).cell? ⟨lb, 3, none⟩ = some (.slice (some ⟨sg, 0, none⟩) l.seen.length sc) := (World.cell?_of_block (Below.heap_alloc wr.drew _ lb hlr)).trans q3
              have hsA : (wr.alloc (.cells #[.int .i64 (100 + (k : Int))] 3)).cell? ⟨sg, 1, none⟩ = some (.slice ka' x'.ids.length kc') := (World.cell?_of_block (Below.heap_alloc wr _ sg (H8.out.own.own (.inr (.inl rfl)) : _ ∧ sg < wr.heap.size).2)).trans s1
              have HA : Hid (((wr.drew).alloc (.cells #[.int .i64 (100 + (k : Int))] 3)).heap[wr.heap.size]? = some (.cells #[.int .i64 (100 + (k : Int))] 3)) := (MapKept.heap_alloc wr.drew (.cells #[.int .i64 (100 + (k : Int))] 3)).1
              have OA : Hid (((wr.drew).alloc (.cells #[.int .i64 (100 + (k : Int))] 3)).ownsRow (w.heap.size + 1) 3 1 (.slice ka' x'.ids.length kc') x'.ids.length (intVs x'.ids)) := own_alloc1 (own_moved HK.out (fun _ _ => rfl)) _
              refine wpAnyH_ready (rs := [6, 9]) (by kernel_rfl) (by simp) ?_
              refine AllReadyH.cons rfl (fun K hK => ?_) (AllReadyH.cons rfl (fun K hK => ?_) AllReadyH.nil)
              · refine step_run rfl (.slice ka' x'.ids.length kc') wr.drew (by go_simp) ?_
                refine hK.out _ _ hS (fun _ => ?_)
                clear hK K
                simp only [Act.put, List.getElem_toArray, List.getElem_cons_zero, List.getElem_cons_succ, List.setIfInBounds_toArray, List.set_cons_zero, List.set_cons_succ]
                refine wpAnyH_ready (rs := [9]) (by kernel_rfl) (by simp) ?_
                refine AllReadyH.cons rfl (fun K hK => ?_) AllReadyH.nil
                refine step_run rfl _ _ (run_build1 _ _ (.tmp 97) (100 + (k : Int)) rfl (by first | (simp [Act.eval]; done) | simp [Act.eval, Act.put]) _) ?_
                refine hK.out _ _ hSA (fun _ => ?_)
                clear hK K
                simp only [Act.put, List.getElem_toArray, List.getElem_cons_zero, List.getElem_cons_succ, List.setIfInBounds_toArray, List.set_cons_zero, List.set_cons_succ]
                refine wpAnyH_ready (rs := [10]) (by kernel_rfl) (by simp) ?_
                refine AllReadyH.cons rfl (fun K hK => ?_) AllReadyH.nil
                refine step_append_ints rfl (.tmp 95) (.tmp 98) rfl (w.heap.size + 1) (.slice ka' x'.ids.length kc') x'.ids.length (intVs x'.ids) (by first | (simp [Act.eval]; done) | simp [Act.eval, Act.put]) OA.out (.slice (some ⟨wr.heap.size, 0, none⟩) 1 1) [100 + (k : Int)] _ (by first | (simp [Act.eval]; done) | simp [Act.eval, Act.put]) (ints_one1 HA.out hzI) (by simp; omega) (by simp; omega) ?_
                intro v4 w4 hown4 hgrow4 hat4
                have hlb4 : w4.heap[lb]? = wr.heap[lb]? := (hgrow4.block lb (by simp; omega) (fun e => H8.out.apt lb (.inr (.inr ⟨_, List.mem_cons_self .., e.symm⟩)) rfl)).trans (Below.heap_alloc _ _ _ hlr)
                have hsg4 : w4.heap[sg]? = wr.heap[sg]? := (hgrow4.block sg (by have := (H8.out.own.own (.inr (.inl rfl)) : _ ∧ sg < wr.heap.size).2; simp; omega) (fun e => own_ne HK.out H8.out.own.seen.cells (by decide) sg e.symm rfl)).trans (Below.heap_alloc _ _ _ (H8.out.own.own (.inr (.inl rfl)) : _ ∧ sg < wr.heap.size).2)
                have hS4 : w4.cell? ⟨lb, 3, none⟩ = some (.slice (some ⟨sg, 0, none⟩) l.seen.length sc) := (World.cell?_of_block hlb4).trans q3
                have s14 : w4.cell? ⟨sg, 1, none⟩ = some (.slice ka' x'.ids.length kc') := (World.cell?_of_block hsg4).trans s1
                have fs4 : w4.frozen? ⟨sg, 1, none⟩ = false := by obtain ⟨-, cs, hcs⟩ := own_type H8.out.own.seen.cells sg rfl; exact unfrozen_of_block (hsg4.trans hcs) 1
                obtain ⟨n4, va4, vc4, hn4, rfl⟩ := own_formN hown4
                have G4 := (show Hid (_) from H8.out.ids (100 + (k : Int)) hzI ((Below.refl _ wr).drew.alloc (Nat.le_refl _) (.cells #[.int .i64 (100 + (k : Int))] 3)) hown4 hgrow4 hat4)
                clear hown4 hgrow4 hat4 hlb4 hsg4
                refine hK.out _ _ hS4 (fun _ => ?_)
                clear hK K
                simp only [Act.put, List.getElem_toArray, List.getElem_cons_zero, List.getElem_cons_succ, List.setIfInBounds_toArray, List.set_cons_zero, List.set_cons_succ]
                refine wpAnyH_take (i := 11) (v := .pointer (some ⟨sg, 0, none⟩)) rfl (by kernel_rfl) (by kernel_rfl) (by kernel_rfl) (fun _ _ _ h => h) (Or.inl ⟨by rfl, ?_⟩) hS4 ?_
                · intro wq hSw
                  go_simp
                simp only [Act.put, List.getElem_toArray, List.getElem_cons_zero, List.getElem_cons_succ, List.setIfInBounds_toArray, List.set_cons_zero, List.set_cons_succ]
                refine wpAnyH_take (i := 12) (v := .pointer (some ⟨sg, 1, none⟩)) rfl (by kernel_rfl) (by kernel_rfl) (by kernel_rfl) (fun _ _ _ h => h) (Or.inl ⟨by rfl, ?_⟩) hS4 ?_
                · intro wq hSw
                  go_simp
                simp only [Act.put, List.getElem_toArray, List.getElem_cons_zero, List.getElem_cons_succ, List.setIfInBounds_toArray, List.set_cons_zero, List.set_cons_succ]
                refine wpAnyH_ready (rs := [13]) (by kernel_rfl) (by simp) ?_
                refine AllReadyH.cons rfl (fun K hK => ?_) AllReadyH.nil
                refine step_skip rfl _ (run_storeI _ _ (.tmp 101) (.tmp 99) ⟨sg, 1, none⟩ va4 n4 vc4 _ rfl (by first | (simp [Act.eval]; done) | simp [Act.eval, Act.put]) (by first | (simp [Act.eval]; done) | simp [Act.eval, Act.put]) w4 s14 fs4) ?_
                refine hK.out _ _ (by show (w4.setCell ⟨sg, 1, none⟩ _).cell? _ = _; rw [World.cell?_setCell_far _ _ _ _ (fun e => hsgl e)]; exact hS4) (fun _ => ?_)
                clear hK K s14 fs4 hS4
                refine wpAnyH_done (by kernel_rfl) ?_ _
                have HN4 : Hid (n4 = (x'.ids ++ [100 + (k : Int)]).length) := by show _ = _; rw [hn4]; simp
                clear hn4
                clear s1 q3 hSA HA OA hS s0 fs0 fs1
                go_wp2_with fail
                go_roundw
                case rel => exact ⟨k + 1, ⟨x'.low, x'.ids ++ [100 + (k : Int)]⟩, va4, vc4, by go_num, by have := HXL.out; simp; omega, by simp; omega, by have h := G4.out; rw [HN4.out] at h; rw [HN4.out]; exact h⟩
                case measure => have := HXL.out; simp [intOf]; omega
              · refine step_run rfl _ _ (run_build1 _ _ (.tmp 97) (100 + (k : Int)) rfl (by first | (simp [Act.eval]; done) | simp [Act.eval, Act.put]) _) ?_
                refine hK.out _ _ hSA (fun _ => ?_)
                clear hK K
                simp only [Act.put, List.getElem_toArray, List.getElem_cons_zero, List.getElem_cons_succ, List.setIfInBounds_toArray, List.set_cons_zero, List.set_cons_succ]
                refine wpAnyH_ready (rs := [6]) (by kernel_rfl) (by simp) ?_
                refine AllReadyH.cons rfl (fun K hK => ?_) AllReadyH.nil
                refine step_run rfl (.slice ka' x'.ids.length kc') (wr.drew.alloc (.cells #[.int .i64 (100 + (k : Int))] 3)) (by go_simp) ?_
                refine hK.out _ _ hSA (fun _ => ?_)
                clear hK K
                simp only [Act.put, List.getElem_toArray, List.getElem_cons_zero, List.getElem_cons_succ, List.setIfInBounds_toArray, List.set_cons_zero, List.set_cons_succ]
                refine wpAnyH_ready (rs := [10]) (by kernel_rfl) (by simp) ?_
                refine AllReadyH.cons rfl (fun K hK => ?_) AllReadyH.nil
                refine step_append_ints rfl (.tmp 95) (.tmp 98) rfl (w.heap.size + 1) (.slice ka' x'.ids.length kc') x'.ids.length (intVs x'.ids) (by first | (simp [Act.eval]; done) | simp [Act.eval, Act.put]) OA.out (.slice (some ⟨wr.heap.size, 0, none⟩) 1 1) [100 + (k : Int)] _ (by first | (simp [Act.eval]; done) | simp [Act.eval, Act.put]) (ints_one1 HA.out hzI) (by simp; omega) (by simp; omega) ?_
                intro v4 w4 hown4 hgrow4 hat4
                have hlb4 : w4.heap[lb]? = wr.heap[lb]? := (hgrow4.block lb (by simp; omega) (fun e => H8.out.apt lb (.inr (.inr ⟨_, List.mem_cons_self .., e.symm⟩)) rfl)).trans (Below.heap_alloc _ _ _ hlr)
                have hsg4 : w4.heap[sg]? = wr.heap[sg]? := (hgrow4.block sg (by have := (H8.out.own.own (.inr (.inl rfl)) : _ ∧ sg < wr.heap.size).2; simp; omega) (fun e => own_ne HK.out H8.out.own.seen.cells (by decide) sg e.symm rfl)).trans (Below.heap_alloc _ _ _ (H8.out.own.own (.inr (.inl rfl)) : _ ∧ sg < wr.heap.size).2)
                have hS4 : w4.cell? ⟨lb, 3, none⟩ = some (.slice (some ⟨sg, 0, none⟩) l.seen.length sc) := (World.cell?_of_block hlb4).trans q3
                have s14 : w4.cell? ⟨sg, 1, none⟩ = some (.slice ka' x'.ids.length kc') := (World.cell?_of_block hsg4).trans s1
                have fs4 : w4.frozen? ⟨sg, 1, none⟩ = false := by obtain ⟨-, cs, hcs⟩ := own_type H8.out.own.seen.cells sg rfl; exact unfrozen_of_block (hsg4.trans hcs) 1
                obtain ⟨n4, va4, vc4, hn4, rfl⟩ := own_formN hown4
                have G4 := (show Hid (_) from H8.out.ids (100 + (k : Int)) hzI ((Below.refl _ wr).drew.alloc (Nat.le_refl _) (.cells #[.int .i64 (100 + (k : Int))] 3)) hown4 hgrow4 hat4)
                clear hown4 hgrow4 hat4 hlb4 hsg4
                refine hK.out _ _ hS4 (fun _ => ?_)
                clear hK K
                simp only [Act.put, List.getElem_toArray, List.getElem_cons_zero, List.getElem_cons_succ, List.setIfInBounds_toArray, List.set_cons_zero, List.set_cons_succ]
                refine wpAnyH_take (i := 11) (v := .pointer (some ⟨sg, 0, none⟩)) rfl (by kernel_rfl) (by kernel_rfl) (by kernel_rfl) (fun _ _ _ h => h) (Or.inl ⟨by rfl, ?_⟩) hS4 ?_
                · intro wq hSw
                  go_simp
                simp only [Act.put, List.getElem_toArray, List.getElem_cons_zero, List.getElem_cons_succ, List.setIfInBounds_toArray, List.set_cons_zero, List.set_cons_succ]
                refine wpAnyH_take (i := 12) (v := .pointer (some ⟨sg, 1, none⟩)) rfl (by kernel_rfl) (by kernel_rfl) (by kernel_rfl) (fun _ _ _ h => h) (Or.inl ⟨by rfl, ?_⟩) hS4 ?_
                · intro wq hSw
                  go_simp
                simp only [Act.put, List.getElem_toArray, List.getElem_cons_zero, List.getElem_cons_succ, List.setIfInBounds_toArray, List.set_cons_zero, List.set_cons_succ]
                refine wpAnyH_ready (rs := [13]) (by kernel_rfl) (by simp) ?_
                refine AllReadyH.cons rfl (fun K hK => ?_) AllReadyH.nil
                refine step_skip rfl _ (run_storeI _ _ (.tmp 101) (.tmp 99) ⟨sg, 1, none⟩ va4 n4 vc4 _ rfl (by first | (simp [Act.eval]; done) | simp [Act.eval, Act.put]) (by first | (simp [Act.eval]; done) | simp [Act.eval, Act.put]) w4 s14 fs4) ?_
                refine hK.out _ _ (by show (w4.setCell ⟨sg, 1, none⟩ _).cell? _ = _; rw [World.cell?_setCell_far _ _ _ _ (fun e => hsgl e)]; exact hS4) (fun _ => ?_)
                clear hK K s14 fs4 hS4
                refine wpAnyH_done (by kernel_rfl) ?_ _
                have HN4 : Hid (n4 = (x'.ids ++ [100 + (k : Int)]).length) := by show _ = _; rw [hn4]; simp
                clear hn4
                clear s1 q3 hSA HA OA hS s0 fs0 fs1
                go_wp2_with fail
                go_roundw
                case rel => exact ⟨k + 1, ⟨x'.low, x'.ids ++ [100 + (k : Int)]⟩, va4, vc4, by go_num, by have := HXL.out; simp; omega, by simp; omega, by have h := G4.out; rw [HN4.out] at h; rw [HN4.out]; exact h⟩
                case measure => have := HXL.out; simp [intOf]; omega
            · have h60' : ¬ (((x'.ids.length : Nat) : Int)) < 60 := by omega
              go_wp2_with fail
              go_meet
              refine ⟨⟨l.id, l.next, l.out, x' :: l.seen.tail⟩, oa, oc, some ⟨sg, 0, none⟩, sc, (x', .slice ka' x'.ids.length kc') :: D, ?_, ?_⟩
              · have e1 := bulk_first l.id l.next l.out x x' l.seen.tail
                have e2 : l.bulk = Lk.bulk ⟨l.id, l.next, l.out, x :: l.seen.tail⟩ := by rw [← HSE.out.1]
                have e3 : x'.bulk = x'.ids.length := rfl
                omega
              · rw [show (⟨l.id, l.next, l.out, x' :: l.seen.tail⟩ : Lk).seen.length = l.seen.length from tail_len HSE.out.1]
                exact H8
        · have hob : bulkO l.out ≤ 70000 := Nat.le_trans (Nat.le_add_right _ _) hbk
          have hnb : bulkN l.seen ≤ 70000 := Nat.le_trans (Nat.le_add_left _ _) hbk
          have ho60 : l.out.length ≤ 60 := by have := of_decide_eq_true (Lk.parts H6.out.1).2.2.1; omega
          have hnx : 1 ≤ l.next ∧ l.next ≤ 999999 := by have := (Lk.parts H6.out.1).2.1; unfold inB at this; simpa using this
          go_wp2_with fail
          go_loopw [] (fun wr => ∃ (out' : List Sn) (nx : Int) (oa' : Option Addr) (oc' : Nat), out'.length ≤ 60 ∧ 0 ≤ nx ∧ nx ≤ 999999 + out'.length ∧ bulkO out' ≤ 70000 + 1001 * out'.length ∧ Hid (LkDr B g V len w wr lb ⟨l.id, nx, out', l.seen⟩ (.slice oa' out'.length oc') (.slice sa l.seen.length sc) rs)) (fun wr => 61 - outLen lb wr)
          case atStart => exact ⟨l.out, l.next, oa, oc, ho60, by omega, by omega, by omega, H6.out.2⟩
          case round =>
            obtain ⟨out', nx, oa', oc', h60, n0, n1, hbo, H8⟩ := hrel
            obtain ⟨q0, q1, q2, q3⟩ := lbox H8.out.box
            by_cases hlt : out'.length < 60
            · have hlt' : (((out'.length : Nat) : Int)) < 60 := by omega
              have A8 := (show Hid (LkDr B g V len w (wr.alloc (.cells #[.int .i64 2, .int .i64 1, .int .i64 2, .int .i64 0, .int .i64 0, .int .i64 0, .int .i64 0, .int .i64 0, .slice none 0 0] 32)) lb ⟨l.id, nx, out', l.seen⟩ (.slice oa' out'.length oc') (.slice sa l.seen.length sc) rs ∧ (wr.alloc (.cells #[.int .i64 2, .int .i64 1, .int .i64 2, .int .i64 0, .int .i64 0, .int .i64 0, .int .i64 0, .int .i64 0, .slice none 0 0] 32)).heap[wr.heap.size]? = some (.cells #[.int .i64 2, .int .i64 1, .int .i64 2, .int .i64 0, .int .i64 0, .int .i64 0, .int .i64 0, .int .i64 0, .slice none 0 0] 32)) from ⟨H8.out.alloc _, (MapKept.heap_alloc wr _).1⟩)
              have hlr : lb < wr.heap.size := lt_heap H8.out.box
              go_upto_region 29 with fail
              clear q0 q1 q2 q3
              have HM : Hid (∀ W : World, W = wr.alloc (.cells #[.int .i64 2, .int .i64 1, .int .i64 2, .int .i64 0, .int .i64 0, .int .i64 0, .int .i64 0, .int .i64 0, .slice none 0 0] 32) → LkDr B g V len w W lb ⟨l.id, nx, out', l.seen⟩ (.slice oa' out'.length oc') (.slice sa l.seen.length sc) rs ∧ W.heap[wr.heap.size]? = some (.cells #[.int .i64 2, .int .i64 1, .int .i64 2, .int .i64 0, .int .i64 0, .int .i64 0, .int .i64 0, .int .i64 0, .slice none 0 0] 32)) := fun W e => by subst e; exact A8.out
              have hmsz : (wr.alloc (.cells #[.int .i64 2, .int .i64 1, .int .i64 2, .int .i64 0, .int .i64 0, .int .i64 0, .int .i64 0, .int .i64 0, .slice none 0 0] 32)).heap.size = wr.heap.size + 1 := by simp
              have hmn : wr.heap.size ≠ lb := by omega
              obtain ⟨W8, hW8⟩ : ∃ W8, W8 = wr.alloc (.cells #[.int .i64 2, .int .i64 1, .int .i64 2, .int .i64 0, .int .i64 0, .int .i64 0, .int .i64 0, .int .i64 0, .slice none 0 0] 32) := ⟨_, rfl⟩
              have H9 := (show Hid (_ ∧ _ ∧ _) from ⟨(HM.out W8 hW8).1, (HM.out W8 hW8).2, H8.out.olen⟩)
              have hws : wr.heap.size < W8.heap.size := by rw [hW8]; simp
              rw [← hW8]
              clear A8 HM hmsz hW8
              generalize wr.heap.size = mb at *
              obtain ⟨q0, q1, q2, q3⟩ := lbox H9.out.1.box
              have hwl := H9.out.1.new
              have hl8 : lb < W8.heap.size := lt_heap H9.out.1.box
              obtain ⟨i0, hi, hz0, hz1, hz2⟩ := info_parts infoSent
              have hmc : ∀ i v, (#[.int .i64 2, .int .i64 1, .int .i64 2, .int .i64 0, .int .i64 0, .int .i64 0, .int .i64 0, .int .i64 0, .slice none 0 0] : Array Value)[i]? = some v → W8.cell? ⟨mb, i, none⟩ = some v := fun i v hv => by rw [cell_of_block H9.out.2.1]; exact hv
              have HS : Hid (FishS lb mb nx W8) := ⟨q1, hmc 0 _ rfl, hmc 1 _ rfl, hmc 2 _ rfl, hmc 3 _ rfl, hmc 4 _ rfl, hmc 5 _ rfl, hmc 6 _ rfl, hmc 7 _ rfl, hmc 8 _ rfl⟩
              have HSB : Hid (∀ wx : World, Below W8.heap.size W8 wx → FishS lb mb nx wx) := fun wx hx => HS.out.kept (fun b hb => World.cell?_of_block (hx.block b (by omega)))
              clear hmc q0 q1 q3
              have hw6 : W8.drew.cell? ⟨lb, 2, none⟩ = some (.slice oa' out'.length oc') := q2
              refine wp_region_held_drew (S := FishS lb mb nx) (by kernel_rfl) HS.out (fun hS => ?_)
              refine wpAnyH_take (i := 0) (v := .pointer (some ⟨lb, 2, none⟩)) rfl (by kernel_rfl) (by kernel_rfl) (by kernel_rfl) (fun _ _ _ h => h) (Or.inl ⟨by rfl, ?_⟩) hS ?_
              · intro wq hSw
                go_simp
              simp only [Act.put, List.getElem_toArray, List.getElem_cons_zero, List.setIfInBounds_toArray, List.set_cons_zero, List.set_cons_succ]
              refine wpAnyH_take (i := 2) (v := .pointer (some ⟨lb, 1, none⟩)) rfl (by kernel_rfl) (by kernel_rfl) (by kernel_rfl) (fun _ _ _ h => h) (Or.inl ⟨by rfl, ?_⟩) hS ?_
              · intro wq hSw
                go_simp
              simp only [Act.put, List.getElem_toArray, List.getElem_cons_zero, List.getElem_cons_succ, List.setIfInBounds_toArray, List.set_cons_zero, List.set_cons_succ]
              refine wpAnyH_take (i := 3) (v := .int .i64 nx) rfl (by kernel_rfl) (by kernel_rfl) (by kernel_rfl) (fun _ _ _ h => h) (Or.inl ⟨by rfl, ?_⟩) hS ?_
              · intro wq hSw
                obtain ⟨c1, m0, m1, m2, m3, m4, m5, m6, m7, m8⟩ := hSw
                go_simp
              simp only [Act.put, List.getElem_toArray, List.getElem_cons_zero, List.getElem_cons_succ, List.setIfInBounds_toArray, List.set_cons_zero, List.set_cons_succ]
              refine wpAnyH_take (i := 4) (v := .agg #[.int .i64 2, .int .i64 1, .int .i64 2, .int .i64 0, .int .i64 0, .int .i64 0, .int .i64 0, .int .i64 0, .slice none 0 0]) rfl (by kernel_rfl) (by kernel_rfl) (by kernel_rfl) (fun _ _ _ h => h) (Or.inl ⟨by rfl, ?_⟩) hS ?_
              · intro wq hSw
                obtain ⟨c1, m0, m1, m2, m3, m4, m5, m6, m7, m8⟩ := hSw
                go_simp
              simp only [Act.put, List.getElem_toArray, List.getElem_cons_zero, List.getElem_cons_succ, List.setIfInBounds_toArray, List.set_cons_zero, List.set_cons_succ]
              refine wpAnyH_ready (rs := [1, 5]) (by kernel_rfl) (by simp) ?_
              refine AllReadyH.cons rfl (fun K hK => ?_) (AllReadyH.cons rfl (fun K hK => ?_) AllReadyH.nil)
              · have q2' : (W8.drew).cell? ⟨lb, 2, none⟩ = some (.slice oa' out'.length oc') := q2
                refine step_run rfl (.slice oa' out'.length oc') (W8.drew) (by go_simp) ?_
                refine hK.out _ _ hS (fun _ => ?_)
                clear hK K q2'
                simp only [Act.put, List.getElem_toArray, List.getElem_cons_zero, List.getElem_cons_succ, List.setIfInBounds_toArray, List.set_cons_zero, List.set_cons_succ]
                refine wpAnyH_ready (rs := [5]) (by kernel_rfl) (by simp) ?_
                refine AllReadyH.cons rfl (fun K hK => ?_) AllReadyH.nil
                refine step_call1 rfl 34 (.tmp 113) _ rfl ent_putM (.agg #[.int .i64 2, .int .i64 1, .int .i64 2, .int .i64 0, .int .i64 0, .int .i64 0, .int .i64 0, .int .i64 0, .slice none 0 0]) (by first | (simp [Act.eval]; done) | simp [Act.eval, Act.put]) (fun r w' => r = .string ⟨fishMs.bytes.toArray⟩ ∧ Below W8.heap.size W8 w') ((specPutMsg_any _ fishMs (fun _ => True) W8.drew ⟨.slice none 0 0, rfl, ⟨by unfold inI64; decide, by unfold inI64; decide, by unfold inI64; decide, by unfold inI64; decide, by unfold inI64; decide⟩, by unfold inI64; decide, by unfold inI64; decide, by unfold inI64; decide, no_kids⟩ (by decide)).mono (fun e w' h => ⟨_, h.1, rfl, (Below.refl _ W8).drew.trans h.2⟩)) ?_
                rintro r w5 ⟨rfl, b5⟩
                have hfb : (⟨fishMs.bytes.toArray⟩ : ByteArray).size ≤ 1000 := msg_short (by decide)
                generalize (⟨fishMs.bytes.toArray⟩ : ByteArray) = fb at *
                have B5 : Hid (Below W8.heap.size W8 w5) := b5
                have hs5 : W8.heap.size ≤ w5.heap.size := b5.size
                clear b5
                refine hK.out _ _ (HSB.out _ B5.out) (fun _ => ?_)
                clear hK K
                simp only [Act.put, List.getElem_toArray, List.getElem_cons_zero, List.getElem_cons_succ, List.setIfInBounds_toArray, List.set_cons_zero, List.set_cons_succ]
                refine wpAnyH_take (i := 6) (v := .agg #[.int .i64 nx, .int .i64 2, .string fb]) rfl (by kernel_rfl) (by kernel_rfl) (by kernel_rfl) (fun _ _ _ h => h) (Or.inl ⟨by rfl, ?_⟩) (HSB.out _ B5.out) ?_
                · intro wq hSw
                  go_simp
                simp only [Act.put, List.getElem_toArray, List.getElem_cons_zero, List.getElem_cons_succ, List.setIfInBounds_toArray, List.set_cons_zero, List.set_cons_succ]
                refine wpAnyH_ready (rs := [7]) (by kernel_rfl) (by simp) ?_
                refine AllReadyH.cons rfl (fun K hK => ?_) AllReadyH.nil
                refine step_run rfl _ _ (run_buildS _ _ (.tmp 115) (.int .i64 nx) (.int .i64 2) (.string fb) rfl (by first | (simp [Act.eval]; done) | simp [Act.eval, Act.put]) _) ?_
                have B7 : Hid (Below W8.heap.size W8 (w5.alloc (.cells #[.int .i64 nx, .int .i64 2, .string fb] 68))) := B5.out.alloc hs5 _
                refine hK.out _ _ (HSB.out _ B7.out) (fun _ => ?_)
                clear hK K
                simp only [Act.put, List.getElem_toArray, List.getElem_cons_zero, List.getElem_cons_succ, List.setIfInBounds_toArray, List.set_cons_zero, List.set_cons_succ]
                refine wpAnyH_ready (rs := [8]) (by kernel_rfl) (by simp) ?_
                refine AllReadyH.cons rfl (fun K hK => ?_) AllReadyH.nil
                have OA : Hid ((w5.alloc (.cells #[.int .i64 nx, .int .i64 2, .string fb] 68)).ownsRow (w.heap.size + 1) 68 3 (.slice oa' out'.length oc') out'.length (out'.flatMap snCells)) := own_moved H9.out.1.own.out.1 (fun g hg => B7.out.block g (own_lt H9.out.1.own.out.1 g hg))
                refine step_append_row rfl (.tmp 110) (.tmp 116) 24 rfl (w.heap.size + 1) 68 i0 _ 3 32 Tryz.underlying24 hi hz0 hz1 hz2 rfl (by decide) (.slice oa' out'.length oc') out'.length _ (by first | (simp [Act.eval]; done) | simp [Act.eval, Act.put]) OA.out ⟨w5.heap.size, 0, none⟩ 1 1 (snCells ⟨nx, 2, fb⟩) (by first | (simp [Act.eval]; done) | simp [Act.eval, Act.put]) (by simp [snCells]) (cell_threeS w5 _ _ _ _) (snS_ones _) (by unfold maxLen; omega) (by omega) (by simp; omega) ?_
                intro v4 w4 hown4 hgrow4 hat4
                have hlb4 : w4.heap[lb]? = W8.heap[lb]? := (hgrow4.block lb (by simp; omega) (fun e => H9.out.1.apt lb (.inl e.symm) rfl)).trans (B7.out.block lb hl8)
                have hmb4 : w4.heap[mb]? = W8.heap[mb]? := (hgrow4.block mb (by simp; omega) (fun e => by obtain ⟨-, cs, hcs⟩ := own_type H9.out.1.own.out.1 mb e.symm; rw [H9.out.2.1] at hcs; cases hcs)).trans (B7.out.block mb hws)
                have hS4 : FishS lb mb nx w4 := HS.out.kept (fun b hb => by rcases hb with rfl | rfl; exact World.cell?_of_block hlb4; exact World.cell?_of_block hmb4)
                have s24 : w4.cell? ⟨lb, 2, none⟩ = some (.slice oa' out'.length oc') := (World.cell?_of_block hlb4).trans q2
                have fs4 : w4.frozen? ⟨lb, 2, none⟩ = false := unfrozen_of_block (hlb4.trans H9.out.1.box) 2
                obtain ⟨n4, va4, vc4, hn4, rfl⟩ := own_formN hown4
                have G4 := (show Hid (_) from H9.out.1.outs ⟨nx, 2, fb⟩ ⟨⟨by show _ ≤ nx; omega, by show nx ≤ _; omega⟩, ⟨by show _ ≤ (2 : Int); omega, by show (2 : Int) ≤ _; omega⟩, by unfold maxLen; show fb.size ≤ _; omega⟩ B7.out hown4 hgrow4 hat4)
                clear hown4 hgrow4 hat4 hlb4 hmb4
                refine hK.out _ _ hS4 (fun _ => ?_)
                clear hK K
                simp only [Act.put, List.getElem_toArray, List.getElem_cons_zero, List.getElem_cons_succ, List.setIfInBounds_toArray, List.set_cons_zero, List.set_cons_succ]
                refine wpAnyH_take (i := 9) (v := .pointer (some ⟨lb, 2, none⟩)) rfl (by kernel_rfl) (by kernel_rfl) (by kernel_rfl) (fun _ _ _ h => h) (Or.inl ⟨by rfl, ?_⟩) hS4 ?_
                · intro wq hSw
                  go_simp
                simp only [Act.put, List.getElem_toArray, List.getElem_cons_zero, List.getElem_cons_succ, List.setIfInBounds_toArray, List.set_cons_zero, List.set_cons_succ]
                refine wpAnyH_ready (rs := [10]) (by kernel_rfl) (by simp) ?_
                refine AllReadyH.cons rfl (fun K hK => ?_) AllReadyH.nil
                refine step_skip rfl _ (run_storeO _ _ (.tmp 118) (.tmp 117) ⟨lb, 2, none⟩ va4 n4 vc4 _ rfl (by first | (simp [Act.eval]; done) | simp [Act.eval, Act.put]) (by first | (simp [Act.eval]; done) | simp [Act.eval, Act.put]) w4 s24 fs4) ?_
                refine hK.out _ _ (hS4.set2 hmn) (fun _ => ?_)
                clear hK K s24 fs4 hS4
                refine wpAnyH_done (by kernel_rfl) ?_ _
                have hn4' : n4 = (out' ++ [(⟨nx, 2, fb⟩ : Sn)]).length := by rw [hn4]; simp
                subst hn4'
                clear q2 hw6 hS HS HSB OA B7 B5
                have G5 := (show Hid (_ ∧ _) from ⟨G4.out, G4.out.put (i := 1) (u := .int .i64 (nx + 1)) l.id (nx + 1) rfl ⟨G4.out.own.fits.1, ⟨by omega, by omega⟩⟩⟩)
                clear G4
                generalize w4.setCell ⟨lb, 2, none⟩ (.slice va4 (out' ++ [(⟨nx, 2, fb⟩ : Sn)]).length vc4) = w10 at *
                obtain ⟨t0, t1, t2, t3⟩ := lbox G5.out.1.box
                have ft1 : w10.frozen? ⟨lb, 1, none⟩ = false := unfrozen_of_block G5.out.1.box 1
                go_wp2_with fail
                go_roundw
                case rel => exact ⟨out' ++ [(⟨nx, 2, fb⟩ : Sn)], nx + 1, va4, vc4, by simp; omega, by omega, by simp; omega, by have := bulkO_snoc out' ⟨nx, 2, fb⟩; have e : (⟨nx, 2, fb⟩ : Sn).bulk = fb.size := rfl; simp; omega, G5.out.2⟩
                case measure => have e1 := G5.out.2.olen; have e2 := H9.out.2.2; simp only at e1 e2; rw [e1, e2]; simp; omega
              · refine step_call1 rfl 34 (.tmp 113) _ rfl ent_putM (.agg #[.int .i64 2, .int .i64 1, .int .i64 2, .int .i64 0, .int .i64 0, .int .i64 0, .int .i64 0, .int .i64 0, .slice none 0 0]) (by first | (simp [Act.eval]; done) | simp [Act.eval, Act.put]) (fun r w' => r = .string ⟨fishMs.bytes.toArray⟩ ∧ Below W8.heap.size W8 w') ((specPutMsg_any _ fishMs (fun _ => True) W8.drew ⟨.slice none 0 0, rfl, ⟨by unfold inI64; decide, by unfold inI64; decide, by unfold inI64; decide, by unfold inI64; decide, by unfold inI64; decide⟩, by unfold inI64; decide, by unfold inI64; decide, by unfold inI64; decide, no_kids⟩ (by decide)).mono (fun e w' h => ⟨_, h.1, rfl, (Below.refl _ W8).drew.trans h.2⟩)) ?_
                rintro r w5 ⟨rfl, b5⟩
                have hfb : (⟨fishMs.bytes.toArray⟩ : ByteArray).size ≤ 1000 := msg_short (by decide)
                generalize (⟨fishMs.bytes.toArray⟩ : ByteArray) = fb at *
                have B5 : Hid (Below W8.heap.size W8 w5) := b5
                have hs5 : W8.heap.size ≤ w5.heap.size := b5.size
                clear b5
                refine hK.out _ _ (HSB.out _ B5.out) (fun _ => ?_)
                clear hK K
                simp only [Act.put, List.getElem_toArray, List.getElem_cons_zero, List.getElem_cons_succ, List.setIfInBounds_toArray, List.set_cons_zero, List.set_cons_succ]
                refine wpAnyH_take (i := 6) (v := .agg #[.int .i64 nx, .int .i64 2, .string fb]) rfl (by kernel_rfl) (by kernel_rfl) (by kernel_rfl) (fun _ _ _ h => h) (Or.inl ⟨by rfl, ?_⟩) (HSB.out _ B5.out) ?_
                · intro wq hSw
                  go_simp
                simp only [Act.put, List.getElem_toArray, List.getElem_cons_zero, List.getElem_cons_succ, List.setIfInBounds_toArray, List.set_cons_zero, List.set_cons_succ]
                refine wpAnyH_ready (rs := [1, 7]) (by kernel_rfl) (by simp) ?_
                refine AllReadyH.cons rfl (fun K hK => ?_) (AllReadyH.cons rfl (fun K hK => ?_) AllReadyH.nil)
                · have q2' : (w5).cell? ⟨lb, 2, none⟩ = some (.slice oa' out'.length oc') := (World.cell?_of_block (B5.out.block lb hl8)).trans q2
                  refine step_run rfl (.slice oa' out'.length oc') (w5) (by go_simp) ?_
                  refine hK.out _ _ (HSB.out _ B5.out) (fun _ => ?_)
                  clear hK K q2'
                  simp only [Act.put, List.getElem_toArray, List.getElem_cons_zero, List.getElem_cons_succ, List.setIfInBounds_toArray, List.set_cons_zero, List.set_cons_succ]
                  refine wpAnyH_ready (rs := [7]) (by kernel_rfl) (by simp) ?_
                  refine AllReadyH.cons rfl (fun K hK => ?_) AllReadyH.nil
                  refine step_run rfl _ _ (run_buildS _ _ (.tmp 115) (.int .i64 nx) (.int .i64 2) (.string fb) rfl (by first | (simp [Act.eval]; done) | simp [Act.eval, Act.put]) _) ?_
                  have B7 : Hid (Below W8.heap.size W8 (w5.alloc (.cells #[.int .i64 nx, .int .i64 2, .string fb] 68))) := B5.out.alloc hs5 _
                  refine hK.out _ _ (HSB.out _ B7.out) (fun _ => ?_)
                  clear hK K
                  simp only [Act.put, List.getElem_toArray, List.getElem_cons_zero, List.getElem_cons_succ, List.setIfInBounds_toArray, List.set_cons_zero, List.set_cons_succ]
                  refine wpAnyH_ready (rs := [8]) (by kernel_rfl) (by simp) ?_
                  refine AllReadyH.cons rfl (fun K hK => ?_) AllReadyH.nil
                  have OA : Hid ((w5.alloc (.cells #[.int .i64 nx, .int .i64 2, .string fb] 68)).ownsRow (w.heap.size + 1) 68 3 (.slice oa' out'.length oc') out'.length (out'.flatMap snCells)) := own_moved H9.out.1.own.out.1 (fun g hg => B7.out.block g (own_lt H9.out.1.own.out.1 g hg))
                  refine step_append_row rfl (.tmp 110) (.tmp 116) 24 rfl (w.heap.size + 1) 68 i0 _ 3 32 Tryz.underlying24 hi hz0 hz1 hz2 rfl (by decide) (.slice oa' out'.length oc') out'.length _ (by first | (simp [Act.eval]; done) | simp [Act.eval, Act.put]) OA.out ⟨w5.heap.size, 0, none⟩ 1 1 (snCells ⟨nx, 2, fb⟩) (by first | (simp [Act.eval]; done) | simp [Act.eval, Act.put]) (by simp [snCells]) (cell_threeS w5 _ _ _ _) (snS_ones _) (by unfold maxLen; omega) (by omega) (by simp; omega) ?_
                  intro v4 w4 hown4 hgrow4 hat4
                  have hlb4 : w4.heap[lb]? = W8.heap[lb]? := (hgrow4.block lb (by simp; omega) (fun e => H9.out.1.apt lb (.inl e.symm) rfl)).trans (B7.out.block lb hl8)
                  have hmb4 : w4.heap[mb]? = W8.heap[mb]? := (hgrow4.block mb (by simp; omega) (fun e => by obtain ⟨-, cs, hcs⟩ := own_type H9.out.1.own.out.1 mb e.symm; rw [H9.out.2.1] at hcs; cases hcs)).trans (B7.out.block mb hws)
                  have hS4 : FishS lb mb nx w4 := HS.out.kept (fun b hb => by rcases hb with rfl | rfl; exact World.cell?_of_block hlb4; exact World.cell?_of_block hmb4)
                  have s24 : w4.cell? ⟨lb, 2, none⟩ = some (.slice oa' out'.length oc') := (World.cell?_of_block hlb4).trans q2
                  have fs4 : w4.frozen? ⟨lb, 2, none⟩ = false := unfrozen_of_block (hlb4.trans H9.out.1.box) 2
                  obtain ⟨n4, va4, vc4, hn4, rfl⟩ := own_formN hown4
                  have G4 := (show Hid (_) from H9.out.1.outs ⟨nx, 2, fb⟩ ⟨⟨by show _ ≤ nx; omega, by show nx ≤ _; omega⟩, ⟨by show _ ≤ (2 : Int); omega, by show (2 : Int) ≤ _; omega⟩, by unfold maxLen; show fb.size ≤ _; omega⟩ B7.out hown4 hgrow4 hat4)
                  clear hown4 hgrow4 hat4 hlb4 hmb4
                  refine hK.out _ _ hS4 (fun _ => ?_)
                  clear hK K
                  simp only [Act.put, List.getElem_toArray, List.getElem_cons_zero, List.getElem_cons_succ, List.setIfInBounds_toArray, List.set_cons_zero, List.set_cons_succ]
                  refine wpAnyH_take (i := 9) (v := .pointer (some ⟨lb, 2, none⟩)) rfl (by kernel_rfl) (by kernel_rfl) (by kernel_rfl) (fun _ _ _ h => h) (Or.inl ⟨by rfl, ?_⟩) hS4 ?_
                  · intro wq hSw
                    go_simp
                  simp only [Act.put, List.getElem_toArray, List.getElem_cons_zero, List.getElem_cons_succ, List.setIfInBounds_toArray, List.set_cons_zero, List.set_cons_succ]
                  refine wpAnyH_ready (rs := [10]) (by kernel_rfl) (by simp) ?_
                  refine AllReadyH.cons rfl (fun K hK => ?_) AllReadyH.nil
                  refine step_skip rfl _ (run_storeO _ _ (.tmp 118) (.tmp 117) ⟨lb, 2, none⟩ va4 n4 vc4 _ rfl (by first | (simp [Act.eval]; done) | simp [Act.eval, Act.put]) (by first | (simp [Act.eval]; done) | simp [Act.eval, Act.put]) w4 s24 fs4) ?_
                  refine hK.out _ _ (hS4.set2 hmn) (fun _ => ?_)
                  clear hK K s24 fs4 hS4
                  refine wpAnyH_done (by kernel_rfl) ?_ _
                  have hn4' : n4 = (out' ++ [(⟨nx, 2, fb⟩ : Sn)]).length := by rw [hn4]; simp
                  subst hn4'
                  clear q2 hw6 hS HS HSB OA B7 B5
                  have G5 := (show Hid (_ ∧ _) from ⟨G4.out, G4.out.put (i := 1) (u := .int .i64 (nx + 1)) l.id (nx + 1) rfl ⟨G4.out.own.fits.1, ⟨by omega, by omega⟩⟩⟩)
                  clear G4
                  generalize w4.setCell ⟨lb, 2, none⟩ (.slice va4 (out' ++ [(⟨nx, 2, fb⟩ : Sn)]).length vc4) = w10 at *
                  obtain ⟨t0, t1, t2, t3⟩ := lbox G5.out.1.box
                  have ft1 : w10.frozen? ⟨lb, 1, none⟩ = false := unfrozen_of_block G5.out.1.box 1
                  go_wp2_with fail
                  go_roundw
                  case rel => exact ⟨out' ++ [(⟨nx, 2, fb⟩ : Sn)], nx + 1, va4, vc4, by simp; omega, by omega, by simp; omega, by have := bulkO_snoc out' ⟨nx, 2, fb⟩; have e : (⟨nx, 2, fb⟩ : Sn).bulk = fb.size := rfl; simp; omega, G5.out.2⟩
                  case measure => have e1 := G5.out.2.olen; have e2 := H9.out.2.2; simp only at e1 e2; rw [e1, e2]; simp; omega
                · refine step_run rfl _ _ (run_buildS _ _ (.tmp 115) (.int .i64 nx) (.int .i64 2) (.string fb) rfl (by first | (simp [Act.eval]; done) | simp [Act.eval, Act.put]) _) ?_
                  have B7 : Hid (Below W8.heap.size W8 (w5.alloc (.cells #[.int .i64 nx, .int .i64 2, .string fb] 68))) := B5.out.alloc hs5 _
                  refine hK.out _ _ (HSB.out _ B7.out) (fun _ => ?_)
                  clear hK K
                  simp only [Act.put, List.getElem_toArray, List.getElem_cons_zero, List.getElem_cons_succ, List.setIfInBounds_toArray, List.set_cons_zero, List.set_cons_succ]
                  refine wpAnyH_ready (rs := [1]) (by kernel_rfl) (by simp) ?_
                  refine AllReadyH.cons rfl (fun K hK => ?_) AllReadyH.nil
                  have q2' : (w5.alloc (.cells #[.int .i64 nx, .int .i64 2, .string fb] 68)).cell? ⟨lb, 2, none⟩ = some (.slice oa' out'.length oc') := (World.cell?_of_block (B7.out.block lb hl8)).trans q2
                  refine step_run rfl (.slice oa' out'.length oc') (w5.alloc (.cells #[.int .i64 nx, .int .i64 2, .string fb] 68)) (by go_simp) ?_
                  refine hK.out _ _ (HSB.out _ B7.out) (fun _ => ?_)
                  clear hK K q2'
                  simp only [Act.put, List.getElem_toArray, List.getElem_cons_zero, List.getElem_cons_succ, List.setIfInBounds_toArray, List.set_cons_zero, List.set_cons_succ]
                  refine wpAnyH_ready (rs := [8]) (by kernel_rfl) (by simp) ?_
                  refine AllReadyH.cons rfl (fun K hK => ?_) AllReadyH.nil
                  have OA : Hid ((w5.alloc (.cells #[.int .i64 nx, .int .i64 2, .string fb] 68)).ownsRow (w.heap.size + 1) 68 3 (.slice oa' out'.length oc') out'.length (out'.flatMap snCells)) := own_moved H9.out.1.own.out.1 (fun g hg => B7.out.block g (own_lt H9.out.1.own.out.1 g hg))
                  refine step_append_row rfl (.tmp 110) (.tmp 116) 24 rfl (w.heap.size + 1) 68 i0 _ 3 32 Tryz.underlying24 hi hz0 hz1 hz2 rfl (by decide) (.slice oa' out'.length oc') out'.length _ (by first | (simp [Act.eval]; done) | simp [Act.eval, Act.put]) OA.out ⟨w5.heap.size, 0, none⟩ 1 1 (snCells ⟨nx, 2, fb⟩) (by first | (simp [Act.eval]; done) | simp [Act.eval, Act.put]) (by simp [snCells]) (cell_threeS w5 _ _ _ _) (snS_ones _) (by unfold maxLen; omega) (by omega) (by simp; omega) ?_
                  intro v4 w4 hown4 hgrow4 hat4
                  have hlb4 : w4.heap[lb]? = W8.heap[lb]? := (hgrow4.block lb (by simp; omega) (fun e => H9.out.1.apt lb (.inl e.symm) rfl)).trans (B7.out.block lb hl8)
                  have hmb4 : w4.heap[mb]? = W8.heap[mb]? := (hgrow4.block mb (by simp; omega) (fun e => by obtain ⟨-, cs, hcs⟩ := own_type H9.out.1.own.out.1 mb e.symm; rw [H9.out.2.1] at hcs; cases hcs)).trans (B7.out.block mb hws)
                  have hS4 : FishS lb mb nx w4 := HS.out.kept (fun b hb => by rcases hb with rfl | rfl; exact World.cell?_of_block hlb4; exact World.cell?_of_block hmb4)
                  have s24 : w4.cell? ⟨lb, 2, none⟩ = some (.slice oa' out'.length oc') := (World.cell?_of_block hlb4).trans q2
                  have fs4 : w4.frozen? ⟨lb, 2, none⟩ = false := unfrozen_of_block (hlb4.trans H9.out.1.box) 2
                  obtain ⟨n4, va4, vc4, hn4, rfl⟩ := own_formN hown4
                  have G4 := (show Hid (_) from H9.out.1.outs ⟨nx, 2, fb⟩ ⟨⟨by show _ ≤ nx; omega, by show nx ≤ _; omega⟩, ⟨by show _ ≤ (2 : Int); omega, by show (2 : Int) ≤ _; omega⟩, by unfold maxLen; show fb.size ≤ _; omega⟩ B7.out hown4 hgrow4 hat4)
                  clear hown4 hgrow4 hat4 hlb4 hmb4
                  refine hK.out _ _ hS4 (fun _ => ?_)
                  clear hK K
                  simp only [Act.put, List.getElem_toArray, List.getElem_cons_zero, List.getElem_cons_succ, List.setIfInBounds_toArray, List.set_cons_zero, List.set_cons_succ]
                  refine wpAnyH_take (i := 9) (v := .pointer (some ⟨lb, 2, none⟩)) rfl (by kernel_rfl) (by kernel_rfl) (by kernel_rfl) (fun _ _ _ h => h) (Or.inl ⟨by rfl, ?_⟩) hS4 ?_
                  · intro wq hSw
                    go_simp
                  simp only [Act.put, List.getElem_toArray, List.getElem_cons_zero, List.getElem_cons_succ, List.setIfInBounds_toArray, List.set_cons_zero, List.set_cons_succ]
                  refine wpAnyH_ready (rs := [10]) (by kernel_rfl) (by simp) ?_
                  refine AllReadyH.cons rfl (fun K hK => ?_) AllReadyH.nil
                  refine step_skip rfl _ (run_storeO _ _ (.tmp 118) (.tmp 117) ⟨lb, 2, none⟩ va4 n4 vc4 _ rfl (by first | (simp [Act.eval]; done) | simp [Act.eval, Act.put]) (by first | (simp [Act.eval]; done) | simp [Act.eval, Act.put]) w4 s24 fs4) ?_
                  refine hK.out _ _ (hS4.set2 hmn) (fun _ => ?_)
                  clear hK K s24 fs4 hS4
                  refine wpAnyH_done (by kernel_rfl) ?_ _
                  have hn4' : n4 = (out' ++ [(⟨nx, 2, fb⟩ : Sn)]).length := by rw [hn4]; simp
                  subst hn4'
                  clear q2 hw6 hS HS HSB OA B7 B5
                  have G5 := (show Hid (_ ∧ _) from ⟨G4.out, G4.out.put (i := 1) (u := .int .i64 (nx + 1)) l.id (nx + 1) rfl ⟨G4.out.own.fits.1, ⟨by omega, by omega⟩⟩⟩)
                  clear G4
                  generalize w4.setCell ⟨lb, 2, none⟩ (.slice va4 (out' ++ [(⟨nx, 2, fb⟩ : Sn)]).length vc4) = w10 at *
                  obtain ⟨t0, t1, t2, t3⟩ := lbox G5.out.1.box
                  have ft1 : w10.frozen? ⟨lb, 1, none⟩ = false := unfrozen_of_block G5.out.1.box 1
                  go_wp2_with fail
                  go_roundw
                  case rel => exact ⟨out' ++ [(⟨nx, 2, fb⟩ : Sn)], nx + 1, va4, vc4, by simp; omega, by omega, by simp; omega, by have := bulkO_snoc out' ⟨nx, 2, fb⟩; have e : (⟨nx, 2, fb⟩ : Sn).bulk = fb.size := rfl; simp; omega, G5.out.2⟩
                  case measure => have e1 := G5.out.2.olen; have e2 := H9.out.2.2; simp only at e1 e2; rw [e1, e2]; simp; omega
            · have hlt' : ¬ (((out'.length : Nat) : Int)) < 60 := by omega
              go_wp2_with fail
              go_meet
              exact ⟨⟨l.id, nx, out', l.seen⟩, oa', oc', sa, sc, rs, (show bulkO out' + bulkN l.seen ≤ 300000 by omega), H8⟩
        · have n0 : (t == 0) = false := by simp; omega
          have n1 : (t == 1) = false := by simp; omega
          have n2 : (t == 2) = false := by simp; omega
          have n3 : (t == 3) = false := by simp; omega
          have n4 : (t == 4) = false := by simp; omega
          go_wp2_with fail
          go_meet
          exact ⟨l, oa, oc, sa, sc, rs, by omega, H6.out.2⟩
      case rest =>
      obtain ⟨l, oa, oc, sa, sc, rs, hb, H7⟩ := hcut
      clear H6
      obtain ⟨q0, q1, q2, q3⟩ := lbox H7.out.box
      have z0 : wc.cell? ⟨w.heap.size, 0, none⟩ = some (.int .i64 0) := by rw [cell_of_block H7.out.res]; rfl
      have f0 : wc.frozen? ⟨w.heap.size, 0, none⟩ = false := unfrozen_of_block H7.out.res 0
      have z1 : wc.cell? ⟨w.heap.size, 1, none⟩ = some (.int .i64 0) := by rw [cell_of_block H7.out.res]; rfl
      have f1 : wc.frozen? ⟨w.heap.size, 1, none⟩ = false := unfrozen_of_block H7.out.res 1
      have z2 : wc.cell? ⟨w.heap.size, 2, none⟩ = some (.slice none 0 0) := by rw [cell_of_block H7.out.res]; rfl
      have f2 : wc.frozen? ⟨w.heap.size, 2, none⟩ = false := unfrozen_of_block H7.out.res 2
      have z3 : wc.cell? ⟨w.heap.size, 3, none⟩ = some (.slice none 0 0) := by rw [cell_of_block H7.out.res]; rfl
      have f3 : wc.frozen? ⟨w.heap.size, 3, none⟩ = false := unfrozen_of_block H7.out.res 3
      have hne := H7.out.new
      go_wp2_with fail
      refine bodyPost_ret (v := .agg (l.row (.slice oa l.out.length oc) (.slice sa l.seen.length sc))) (by simp [results, Tryz.results25, go_sem, z0, z1, z2, z3]) rfl ?_
      have hf := H7.out.fin (grown4 wc w.heap.size (.int .i64 l.id) (.int .i64 l.next) (.slice oa l.out.length oc) (.slice sa l.seen.length sc))
      exact ⟨_, l, rfl, hf.1, hb, hf.2⟩
end Go.Proofs.YtlbinamlehapoaaGreatDoor
