/-
  The specification's draws of packs: whatever is drawn is a small pack, and the cursor stays a cursor.
-/
import Derived.Test.YtlbinamlehapoaaGreatDoorND
import Derived.Test.YtlbinamlehapoaaGreatDoorSpecPutPack
namespace Go.Proofs.YtlbinamlehapoaaGreatDoor
open Go.RowKit Go.Joins

set_option maxRecDepth 100000

/-- A drawn pack is small. -/
structure PaSm (p : Pa) : Prop where
  kind : 0 ≤ p.kind ∧ p.kind ≤ 1
  frm : inI64 p.frm
  dst : inI64 p.dst
  seq : 0 ≤ p.seq ∧ p.seq ≤ 1000000
  low : 0 ≤ p.low ∧ p.low ≤ 1000000
  body : p.body.size ≤ 1000
theorem pa_sm {k f d s l : Int} {b : ByteArray} (h1 : 0 ≤ k ∧ k ≤ 1) (h2 : inI64 f) (h3 : inI64 d) (h4 : 0 ≤ s ∧ s ≤ 1000000) (h5 : 0 ≤ l ∧ l ≤ 1000000) (h6 : b.size ≤ 1000) : PaSm ⟨k, f, d, s, l, b⟩ := ⟨h1, h2, h3, h4, h5, h6⟩
/-- A pack that is being drawn. -/
structure PaDr (B g : Nat) (V : Value) (len : Nat) (w W : World) (pb : Nat) (p : Pa) : Prop where
  dr : Dr B W g V len
  grown : w.grownBy W (some g)
  box : W.heap[pb]? = some (.cells p.row 38)
  new : w.heap.size < pb
  res : W.heap[w.heap.size]? = some (.cells #[.int .i64 0, .int .i64 0, .int .i64 0, .int .i64 0, .int .i64 0, .string ⟨#[]⟩] 38)
  glt : g < w.heap.size
  sm : PaSm p
theorem PaDr.step {B g : Nat} {V : Value} {len : Nat} {w W W' : World} {pb : Nat} {p : Pa} (h : PaDr B g V len w W pb p) (h1 : Dr B W' g V len) (g1 : W.grownBy W' (some g)) : PaDr B g V len w W' pb p :=
  ⟨h1, h.grown.trans g1, (g1.block pb (Array.getElem?_eq_some_iff.1 h.box).1 (fun e => by have := Option.some.inj e; have := h.new; have := h.glt; omega)).trans h.box, h.new, (g1.block _ (Array.getElem?_eq_some_iff.1 h.res).1 (fun e => by have := Option.some.inj e; have := h.glt; omega)).trans h.res, h.glt, h.sm⟩
theorem PaDr.below {B g : Nat} {V : Value} {len : Nat} {w W W' : World} {pb : Nat} {p : Pa} (h : PaDr B g V len w W pb p) (hb : Below W.heap.size W W') : PaDr B g V len w W' pb p :=
  h.step (h.dr.below hb) ⟨hb.os, hb.tape, hb.output, hb.size, fun k hk _ => hb.block k hk⟩
theorem PaDr.alloc {B g : Nat} {V : Value} {len : Nat} {w W : World} {pb : Nat} {p : Pa} (h : PaDr B g V len w W pb p) (o : Obj) : PaDr B g V len w (W.alloc o) pb p :=
  h.below ((Below.refl _ W).alloc (Nat.le_refl _) o)
theorem PaDr.cells {B g : Nat} {V : Value} {len : Nat} {w W : World} {pb : Nat} {p : Pa} (h : PaDr B g V len w W pb p) : ∀ i v, p.row[i]? = some v → W.cell? ⟨pb, i, none⟩ = some v :=
  fun i v hv => by rw [cell_of_block h.box]; exact hv
theorem PaDr.put {B g : Nat} {V : Value} {len : Nat} {w W : World} {pb i : Nat} {u : Value} {p p' : Pa} (h : PaDr B g V len w W pb p) (hrow : p.row.setIfInBounds i u = p'.row) (hsm : PaSm p') : PaDr B g V len w (W.setCell ⟨pb, i, none⟩ u) pb p' := by
  have h1 := h.new
  have h2 := h.glt
  have h3 := h.dr.2.1.1
  have hg := Go.Lib.grownBy_setCell W pb i u
  refine ⟨h.dr.grownOwn hg (fun q e => by have := Option.some.inj e; omega), grown_two h.grown hg (fun q e => .inr (by have := Option.some.inj e; omega)), ?_, h1, (hg.block _ (Array.getElem?_eq_some_iff.1 h.res).1 (fun e => by have := Option.some.inj e; omega)).trans h.res, h2, hsm⟩
  rw [block_setCell (i := i) h.box _, hrow]
theorem grown6 (W : World) (r : Nat) (v0 v1 v2 v3 v4 v5 : Value) : W.grownBy ((((((W.setCell ⟨r, 0, none⟩ v0).setCell ⟨r, 1, none⟩ v1).setCell ⟨r, 2, none⟩ v2).setCell ⟨r, 3, none⟩ v3).setCell ⟨r, 4, none⟩ v4).setCell ⟨r, 5, none⟩ v5) (some r) :=
  (((((Go.Lib.grownBy_setCell W r 0 v0).trans (Go.Lib.grownBy_setCell _ r 1 v1)).trans (Go.Lib.grownBy_setCell _ r 2 v2)).trans (Go.Lib.grownBy_setCell _ r 3 v3)).trans (Go.Lib.grownBy_setCell _ r 4 v4)).trans (Go.Lib.grownBy_setCell _ r 5 v5)
theorem pa_six {B g : Nat} {V : Value} {len : Nat} {w W : World} {pb : Nat} {p : Pa} {k f d s l : Int} {b : ByteArray} (h : PaDr B g V len w W pb p) (hsm : PaSm ⟨k, f, d, s, l, b⟩) :
    PaDr B g V len w ((((((W.setCell ⟨pb, 0, none⟩ (.int .i64 k)).setCell ⟨pb, 1, none⟩ (.int .i64 f)).setCell ⟨pb, 2, none⟩ (.int .i64 d)).setCell ⟨pb, 3, none⟩ (.int .i64 s)).setCell ⟨pb, 4, none⟩ (.int .i64 l)).setCell ⟨pb, 5, none⟩ (.string b)) pb ⟨k, f, d, s, l, b⟩ := by
  obtain ⟨k', f', d', s', l', b'⟩ := p
  have h0 := h.put (i := 0) (u := .int .i64 k) (p' := ⟨k, f', d', s', l', b'⟩) rfl (pa_sm hsm.kind h.sm.frm h.sm.dst h.sm.seq h.sm.low h.sm.body)
  have h1 := h0.put (i := 1) (u := .int .i64 f) (p' := ⟨k, f, d', s', l', b'⟩) rfl (pa_sm hsm.kind hsm.frm h.sm.dst h.sm.seq h.sm.low h.sm.body)
  have h2 := h1.put (i := 2) (u := .int .i64 d) (p' := ⟨k, f, d, s', l', b'⟩) rfl (pa_sm hsm.kind hsm.frm hsm.dst h.sm.seq h.sm.low h.sm.body)
  have h3 := h2.put (i := 3) (u := .int .i64 s) (p' := ⟨k, f, d, s, l', b'⟩) rfl (pa_sm hsm.kind hsm.frm hsm.dst hsm.seq h.sm.low h.sm.body)
  have h4 := h3.put (i := 4) (u := .int .i64 l) (p' := ⟨k, f, d, s, l, b'⟩) rfl (pa_sm hsm.kind hsm.frm hsm.dst hsm.seq hsm.low h.sm.body)
  exact h4.put (i := 5) (u := .string b) (p' := ⟨k, f, d, s, l, b⟩) rfl hsm
theorem PaDr.fin {B g : Nat} {V : Value} {len : Nat} {w W W' : World} {pb : Nat} {p : Pa} (h : PaDr B g V len w W pb p) (hg : W.grownBy W' (some w.heap.size)) : p.fits ∧ p.body.size ≤ 1000 ∧ Dr B W' g V len ∧ w.grownBy W' (some g) := by
  have h1 := h.new
  have h2 := h.glt
  have h3 := h.dr.2.1.1
  have hs := h.sm
  exact ⟨⟨inI64_mid (by have := hs.kind; omega), hs.frm, hs.dst, inI64_mid (by have := hs.seq; omega), inI64_mid (by have := hs.low; omega)⟩, hs.body, h.dr.grownOwn hg (fun q e => by have := Option.some.inj e; omega), grown_two h.grown hg (fun q e => .inr (by have := Option.some.inj e; omega))⟩

/-- A message in its box, behind its draw. -/
def MB (w W : World) (mb : Nat) (m : Ms) (kv : Value) : Prop := W.heap[mb]? = some (.cells (m.row kv) 32) ∧ MsAt W (fun b => w.heap.size ≤ b ∧ b < mb) (.agg (m.row kv)) m
theorem MB.kept {w W W' : World} {mb : Nat} {m : Ms} {kv : Value} (h : MB w W mb m kv) (hb : ∀ k, w.heap.size ≤ k → k ≤ mb → k < W.heap.size → W'.heap[k]? = W.heap[k]?) (hs : W.heap.size ≤ W'.heap.size) (hm : w.heap.size ≤ mb) : MB w W' mb m kv := by
  refine ⟨(hb mb hm (Nat.le_refl _) (Array.getElem?_eq_some_iff.1 h.1).1).trans h.1, ?_⟩
  obtain ⟨kv', hv, h1, h2, h3, h4, hk⟩ := h.2
  exact ⟨kv', hv, h1, h2, h3, h4, hk.kept (fun b hb1 hb2 => hb b hb1.1 (by omega) hb2) hs (fun b hb1 _ => hb1)⟩
theorem MB.step {w W W' : World} {mb g : Nat} {m : Ms} {kv : Value} (h : MB w W mb m kv) (hg : W.grownBy W' (some g)) (hgl : g < w.heap.size) (hm : w.heap.size ≤ mb) : MB w W' mb m kv :=
  h.kept (fun k hk _ hlt => hg.block k hlt (fun e => by have := Option.some.inj e; omega)) hg.size hm
theorem MB.alloc {w W : World} {mb : Nat} {m : Ms} {kv : Value} (h : MB w W mb m kv) (o : Obj) (hm : w.heap.size ≤ mb) : MB w (W.alloc o) mb m kv :=
  h.kept (fun k _ _ hlt => Below.heap_alloc W o k hlt) (by simp) hm
theorem MB.drew {w W : World} {mb : Nat} {m : Ms} {kv : Value} (h : MB w W mb m kv) (hm : w.heap.size ≤ mb) : MB w W.drew mb m kv :=
  h.kept (fun _ _ _ _ => rfl) (Nat.le_refl _) hm
theorem MB.set {w W : World} {mb pb i : Nat} {u : Value} {m : Ms} {kv : Value} (h : MB w W mb m kv) (hm : w.heap.size ≤ mb) (hp : mb < pb) : MB w (W.setCell ⟨pb, i, none⟩ u) mb m kv :=
  h.kept (fun k _ hk _ => Below.heap_setCell _ _ _ _ (by show k ≠ pb; omega)) (by simp) hm
theorem MB.cells {w W : World} {mb : Nat} {m : Ms} {kv : Value} (h : MB w W mb m kv) : ∀ i v, (m.row kv)[i]? = some v → W.cell? ⟨mb, i, none⟩ = some v :=
  fun i v hv => by rw [cell_of_block h.1]; exact hv
theorem MB.new {w w1 : World} {m : Ms} {kv : Value} (h : MsAt w1 (fun b => w.heap.size ≤ b) (.agg (m.row kv)) m) : MB w (w1.alloc (.cells (m.row kv) 32)) w1.heap.size m kv := by
  refine ⟨(MapKept.heap_alloc w1 _).1, ?_⟩
  obtain ⟨kv', hv, h1, h2, h3, h4, hk⟩ := h
  exact ⟨kv', hv, h1, h2, h3, h4, hk.kept (fun b _ hlt => Below.heap_alloc w1 _ b hlt) (by simp) (fun b hb hlt => ⟨hb, hlt⟩)⟩
theorem msg_short {m : Ms} (hl : m.cell.kids.length ≤ 101) : (⟨m.bytes.toArray⟩ : ByteArray).size ≤ 1000 := by
  show m.bytes.toArray.size ≤ 1000
  rw [List.size_toArray]
  cases hok : m.ok with
  | false => unfold Ms.bytes; rw [hok]; simp
  | true => rw [bytes_len m hok]; omega

set_option maxHeartbeats 6400000 in
theorem pack_dr (B g : Nat) (V : Value) (len : Nat) (w : World) (h : Dr B w g V len) :
    Calls Tryz.prog 68 #[.pointer (some ⟨g, 0, none⟩)] w fun e w' => ∃ p : Pa, e = .returned (.agg p.row) ∧ p.fits ∧ p.body.size ≤ 1000 ∧ Dr B w' g V len ∧ w.grownBy w' (some g) := by
  have hgl := h.glt
  have HD : Hid (Dr B w g V len) := h
  clear h
  go_enter Tryz.func68, Tryz.ntmps68
  go_wp2_with fail
  refine (l07Msg_dr B g V len _ (HD.out.alloc _)).mono ?_
  rintro e w1 ⟨v, m, rfl, hm, hl, h1, g1⟩
  obtain ⟨ka, kc, rfl⟩ := hm.form
  have hr1 := (g1.block w.heap.size (by simp) (fun e => by have := Option.some.inj e; omega)).trans (MapKept.heap_alloc w _).1
  have G1 := (World.grownBy_alloc w _ (some g)).trans g1
  have M1 : MsAt w1 (fun b => w.heap.size ≤ b) (.agg (m.row (.slice ka m.cell.kids.length kc))) m := by
    obtain ⟨kv', hv, e1, e2, e3, e4, hk⟩ := hm
    exact ⟨kv', hv, e1, e2, e3, e4, hk.kept (fun _ _ _ => rfl) (Nat.le_refl _) (fun b hb _ => by simp at hb; omega)⟩
  have hmw : w.heap.size ≤ w1.heap.size := G1.size
  have hwm : w.heap.size < w1.heap.size := (Array.getElem?_eq_some_iff.1 hr1).1
  have H1 := (show Hid (_ ∧ _ ∧ _ ∧ _) from ⟨h1.alloc (.cells (m.row (.slice ka m.cell.kids.length kc)) 32), G1.trans (World.grownBy_alloc w1 (.cells (m.row (.slice ka m.cell.kids.length kc)) 32) (some g)), (Below.heap_alloc w1 (.cells (m.row (.slice ka m.cell.kids.length kc)) 32) _ hwm).trans hr1, MB.new M1⟩)
  have HM := (show Hid (_ ∧ _) from ⟨M1, hl⟩)
  clear h1 g1 hr1 G1 M1 HD hm hl
  go_wp2_with fail
  generalize w1.alloc (.cells (m.row (.slice ka m.cell.kids.length kc)) 32) = W1 at *
  generalize w1.heap.size = mb at *
  refine (below_dr B g V len 9 _ (by omega) (by omega) H1.out.1).mono ?_
  rintro e w2 ⟨x, rfl, x0, x1, h2, g2⟩
  have H2 := (show Hid (_ ∧ _ ∧ _ ∧ _) from ⟨h2, H1.out.2.1.trans g2, (g2.block w.heap.size (Array.getElem?_eq_some_iff.1 H1.out.2.2.1).1 (fun e => by have := Option.some.inj e; omega)).trans H1.out.2.2.1, H1.out.2.2.2.step g2 hgl hmw⟩)
  clear h2 g2 H1
  have c1 := H2.out.2.2.2.cells 1 _ rfl
  have c2 := H2.out.2.2.2.cells 2 _ rfl
  have hmb := (Array.getElem?_eq_some_iff.1 H2.out.2.2.2.1).1
  go_wp2_with fail
  go_cut [5] from 6 (fun pv wc => ∃ (k : Int) (pb : Nat), pv = .pointer (some ⟨pb, 0, none⟩) ∧ mb < pb ∧ 0 ≤ k ∧ k ≤ 1 ∧ Hid (PaDr B g V len w wc pb ⟨k, m.frm, m.dst, 1 + x, 0, ⟨#[]⟩⟩ ∧ MB w wc mb m (.slice ka m.cell.kids.length kc)))
  case first =>
    have HZ := (show Hid (_ ∧ _ ∧ _ ∧ _ ∧ _) from ⟨H2.out.1.alloc (.cells #[.int .i64 0, .int .i64 0, .int .i64 0, .int .i64 0, .int .i64 0, .string ⟨#[]⟩] 38), H2.out.2.1.trans (World.grownBy_alloc w2 (.cells #[.int .i64 0, .int .i64 0, .int .i64 0, .int .i64 0, .int .i64 0, .string ⟨#[]⟩] 38) (some g)), (Below.heap_alloc w2 (.cells #[.int .i64 0, .int .i64 0, .int .i64 0, .int .i64 0, .int .i64 0, .string ⟨#[]⟩] 38) _ (Array.getElem?_eq_some_iff.1 H2.out.2.2.1).1).trans H2.out.2.2.1, H2.out.2.2.2.alloc (.cells #[.int .i64 0, .int .i64 0, .int .i64 0, .int .i64 0, .int .i64 0, .string ⟨#[]⟩] 38) hmw, (MapKept.heap_alloc w2 (.cells #[.int .i64 0, .int .i64 0, .int .i64 0, .int .i64 0, .int .i64 0, .string ⟨#[]⟩] 38)).1⟩)
    have hw2 : w.heap.size < w2.heap.size := by omega
    have hsz2 : w2.heap.size < (w2.alloc (.cells #[.int .i64 0, .int .i64 0, .int .i64 0, .int .i64 0, .int .i64 0, .string ⟨#[]⟩] 38)).heap.size := by simp
    go_region_with (first
      | (go_at_call 40; refine (below_dr B g V len 2 _ (by omega) (by omega) (H2.out.1.below (Below.refl _ w2).drew)).mono ?_; rintro e w3 ⟨k, rfl, k0, k1, h3, g3⟩; have HM3 := (H2.out.2.2.2.drew hmw).step g3 hgl hmw; have d1 := HM3.cells 1 _ rfl; have d2 := HM3.cells 2 _ rfl; have hmb3 := (Array.getElem?_eq_some_iff.1 HM3.1).1; have H3 := (show Hid (_ ∧ _ ∧ _ ∧ _) from ⟨h3, (H2.out.2.1.trans (⟨rfl, rfl, rfl, Nat.le_refl _, fun _ _ _ => rfl⟩ : w2.grownBy w2.drew (some g))).trans g3, (g3.block w.heap.size (Array.getElem?_eq_some_iff.1 H2.out.2.2.1).1 (fun e => by have := Option.some.inj e; omega)).trans H2.out.2.2.1, HM3⟩); clear h3 g3 HM3)
      | (go_at_call 40; refine (below_dr B g V len 2 _ (by omega) (by omega) (HZ.out.1.below (Below.refl _ (w2.alloc (.cells #[.int .i64 0, .int .i64 0, .int .i64 0, .int .i64 0, .int .i64 0, .string ⟨#[]⟩] 38))).drew)).mono ?_; rintro e w3 ⟨k, rfl, k0, k1, h3, g3⟩; have HM3 := (HZ.out.2.2.2.1.drew hmw).step g3 hgl hmw; have d1 := HM3.cells 1 _ rfl; have d2 := HM3.cells 2 _ rfl; have hmb3 := (Array.getElem?_eq_some_iff.1 HM3.1).1; have HZ3 := (g3.block w2.heap.size hsz2 (fun e => by have := Option.some.inj e; omega)).trans HZ.out.2.2.2.2; have y0 : w3.cell? ⟨w2.heap.size, 0, none⟩ = some (.int .i64 0) := (by rw [cell_of_block HZ3]; rfl); have f0 : w3.frozen? ⟨w2.heap.size, 0, none⟩ = false := unfrozen_of_block HZ3 0; have y1 : w3.cell? ⟨w2.heap.size, 1, none⟩ = some (.int .i64 0) := (by rw [cell_of_block HZ3]; rfl); have f1 : w3.frozen? ⟨w2.heap.size, 1, none⟩ = false := unfrozen_of_block HZ3 1; have y2 : w3.cell? ⟨w2.heap.size, 2, none⟩ = some (.int .i64 0) := (by rw [cell_of_block HZ3]; rfl); have f2 : w3.frozen? ⟨w2.heap.size, 2, none⟩ = false := unfrozen_of_block HZ3 2; have y3 : w3.cell? ⟨w2.heap.size, 3, none⟩ = some (.int .i64 0) := (by rw [cell_of_block HZ3]; rfl); have f3 : w3.frozen? ⟨w2.heap.size, 3, none⟩ = false := unfrozen_of_block HZ3 3; have y4 : w3.cell? ⟨w2.heap.size, 4, none⟩ = some (.int .i64 0) := (by rw [cell_of_block HZ3]; rfl); have f4 : w3.frozen? ⟨w2.heap.size, 4, none⟩ = false := unfrozen_of_block HZ3 4; have y5 : w3.cell? ⟨w2.heap.size, 5, none⟩ = some (.string ⟨#[]⟩) := (by rw [cell_of_block HZ3]; rfl); have f5 : w3.frozen? ⟨w2.heap.size, 5, none⟩ = false := unfrozen_of_block HZ3 5; have H3 := (show Hid (_ ∧ _ ∧ _ ∧ _ ∧ _) from ⟨h3, (HZ.out.2.1.trans (⟨rfl, rfl, rfl, Nat.le_refl _, fun _ _ _ => rfl⟩ : (w2.alloc (.cells #[.int .i64 0, .int .i64 0, .int .i64 0, .int .i64 0, .int .i64 0, .string ⟨#[]⟩] 38)).grownBy (w2.alloc (.cells #[.int .i64 0, .int .i64 0, .int .i64 0, .int .i64 0, .int .i64 0, .string ⟨#[]⟩] 38)).drew (some g))).trans g3, (g3.block w.heap.size (Array.getElem?_eq_some_iff.1 HZ.out.2.2.1).1 (fun e => by have := Option.some.inj e; omega)).trans HZ.out.2.2.1, HM3, HZ3⟩); clear h3 g3 HM3 HZ3))
    all_goals
      have hfd : inI64 m.frm ∧ inI64 m.dst := by
        obtain ⟨_, _, ⟨_, e1, e2, _⟩, _⟩ := HM.out.1
        exact ⟨e1, e2⟩
      go_wp2_with fail
      go_meet
      first
        | exact ⟨k, _, rfl, hmb3, k0, by omega, ⟨H3.out.1.alloc _, H3.out.2.1.trans (World.grownBy_alloc w3 _ (some g)), (MapKept.heap_alloc w3 _).1, (Array.getElem?_eq_some_iff.1 H3.out.2.2.1).1, (Below.heap_alloc w3 _ _ (Array.getElem?_eq_some_iff.1 H3.out.2.2.1).1).trans H3.out.2.2.1, hgl, pa_sm ⟨k0, by omega⟩ hfd.1 hfd.2 (by omega) (by omega) (by decide)⟩, H3.out.2.2.2.alloc _ hmw⟩
        | exact ⟨k, _, rfl, hmb, k0, by omega, pa_six ⟨H3.out.1, H3.out.2.1, H3.out.2.2.2.2, hw2, H3.out.2.2.1, hgl, pa_sm (by omega) ⟨by omega, by omega⟩ ⟨by omega, by omega⟩ (by omega) (by omega) (by decide)⟩ (pa_sm ⟨k0, by omega⟩ hfd.1 hfd.2 (by omega) (by omega) (by decide)), (((((H3.out.2.2.2.1.set hmw hmb).set hmw hmb).set hmw hmb).set hmw hmb).set hmw hmb).set hmw hmb⟩
  case rest =>
  obtain ⟨k, pb, rfl, hmp, k0, k1, H3⟩ := hcut
  clear H2 c1 c2 hmb
  have c0 := H3.out.1.cells 0 _ rfl
  go_upto_if 21 with fail
  go_cut [] from 6 (fun wc => ∃ (p : Pa), Hid (PaDr B g V len w wc pb p))
  case first =>
    have hk : k = 0 ∨ k = 1 := by omega
    rcases hk with rfl | rfl
    · go_wp2_with fail
      refine (below_dr B g V len (1 + x) _ (by omega) (by omega) H3.out.1.dr).mono ?_
      rintro e w4 ⟨y, rfl, y0, y1, h4, g4⟩
      have H4 := (show Hid (_ ∧ _) from ⟨H3.out.1.step h4 g4, H3.out.2.step g4 hgl hmw⟩)
      clear h4 g4 H3 c0
      have c4 := H4.out.1.cells 4 _ rfl
      have f4 : w4.frozen? ⟨pb, 4, none⟩ = false := unfrozen_of_block H4.out.1.box 4
      have H5 := (show Hid (_ ∧ _) from ⟨H4.out.1.put (i := 4) (u := .int .i64 (1 + y)) (p' := ⟨0, m.frm, m.dst, 1 + x, 1 + y, ⟨#[]⟩⟩) rfl (pa_sm (by omega) H4.out.1.sm.frm H4.out.1.sm.dst (by omega) (by omega) (by decide)), H4.out.2.set (i := 4) (u := .int .i64 (1 + y)) hmw hmp⟩)
      have e0 := H4.out.2.cells 0 _ rfl
      have e1 := H4.out.2.cells 1 _ rfl
      have e2 := H4.out.2.cells 2 _ rfl
      have e3 := H4.out.2.cells 3 _ rfl
      have e4 := H4.out.2.cells 4 _ rfl
      have e5 := H4.out.2.cells 5 _ rfl
      have e6 := H4.out.2.cells 6 _ rfl
      have e7 := H4.out.2.cells 7 _ rfl
      have e8 := H4.out.2.cells 8 _ rfl
      have hne : mb ≠ pb := by omega
      go_wp2_with fail
      refine (specPutMsg_any _ m _ _ H5.out.2.2 (by have := HM.out.2; omega)).mono ?_
      rintro e w6 ⟨rfl, b6⟩
      have H6 := (show Hid (PaDr B g V len w w6 pb ⟨0, m.frm, m.dst, 1 + x, 1 + y, ⟨#[]⟩⟩) from H5.out.1.below b6)
      clear b6 c4 f4 e0 e1 e2 e3 e4 e5 e6 e7 e8 H5
      have c5 := H6.out.cells 5 _ rfl
      have f5 : w6.frozen? ⟨pb, 5, none⟩ = false := unfrozen_of_block H6.out.box 5
      go_wp2_with fail
      go_meet
      exact ⟨_, H6.out.put (i := 5) (p' := ⟨0, m.frm, m.dst, 1 + x, 1 + y, ⟨m.bytes.toArray⟩⟩) rfl (pa_sm (by omega) H6.out.sm.frm H6.out.sm.dst (by omega) (by omega) (msg_short HM.out.2))⟩
    · go_wp2_with fail
      go_meet
      exact ⟨_, H3.out.1⟩
  case rest =>
  obtain ⟨⟨pk, pf, pd, ps, pl, pby⟩, H4⟩ := hcut
  clear H3 c0
  go_wp2_with fail
  refine (below_dr B g V len 16 _ (by omega) (by omega) H4.out.dr).mono ?_
  rintro e w5 ⟨t, rfl, t0, t1, h5, g5⟩
  have H5 : Hid (PaDr B g V len w w5 pb ⟨pk, pf, pd, ps, pl, pby⟩) := H4.out.step h5 g5
  clear h5 g5 H4
  have hgw : g < w5.heap.size := H5.out.dr.glt
  have hsm := H5.out.sm
  go_upto_block 0 with fail
  go_cut [] from 6 (fun wc => ∃ (p : Pa), Hid (PaDr B g V len w wc pb p))
  case first =>
    have hs : t = 0 ∨ t = 1 ∨ t = 2 ∨ 3 ≤ t := by omega
    rcases hs with rfl | rfl | rfl | hs
    · go_wp2_with fail
      refine (pickInt_dr B g V len _ 2 2 [0, 1 + x + 1] _ (by decide) (by decide) rfl (by omega) (ints_lit [0, 1 + x + 1] w5) (H5.out.alloc _).dr).mono ?_
      rintro e w6 ⟨y, rfl, hy, h6, g6⟩
      have H6 : Hid (PaDr B g V len w w6 pb ⟨pk, pf, pd, ps, pl, pby⟩) := (H5.out.alloc _).step h6 g6
      have hyb : 0 ≤ y ∧ y ≤ 1000000 := by simp at hy; omega
      clear h6 g6 hy
      have c4 := H6.out.cells 4 _ rfl
      have f4 : w6.frozen? ⟨pb, 4, none⟩ = false := unfrozen_of_block H6.out.box 4
      go_wp2_with fail
      go_meet
      exact ⟨_, H6.out.put (i := 4) (p' := ⟨pk, pf, pd, ps, y, pby⟩) rfl (pa_sm hsm.kind hsm.frm hsm.dst hsm.seq hyb hsm.body)⟩
    · have c2 := H5.out.cells 2 _ rfl
      go_wp2_with fail
      refine (pickInt_dr B g V len _ 3 3 [5, pd, -1] _ (by decide) (by decide) rfl (by omega) (ints_lit [5, pd, -1] w5) (H5.out.alloc _).dr).mono ?_
      rintro e w6 ⟨y, rfl, hy, h6, g6⟩
      have H6 : Hid (PaDr B g V len w w6 pb ⟨pk, pf, pd, ps, pl, pby⟩) := (H5.out.alloc _).step h6 g6
      have hd := hsm.dst
      have hyb : inI64 y := by
        simp only [List.mem_cons, List.not_mem_nil, or_false] at hy
        rcases hy with rfl | rfl | rfl
        · exact ⟨by omega, by omega⟩
        · exact hd
        · exact ⟨by omega, by omega⟩
      clear h6 g6 hy c2 hd
      have c1 := H6.out.cells 1 _ rfl
      have f1 : w6.frozen? ⟨pb, 1, none⟩ = false := unfrozen_of_block H6.out.box 1
      go_wp2_with fail
      go_meet
      exact ⟨_, H6.out.put (i := 1) (p' := ⟨pk, y, pd, ps, pl, pby⟩) rfl (pa_sm hsm.kind hyb hsm.dst hsm.seq hsm.low hsm.body)⟩
    · go_wp2_with fail
      refine (pickInt_dr B g V len _ 2 2 [0, 1000000] _ (by decide) (by decide) rfl (by omega) (ints_lit [0, 1000000] w5) (H5.out.alloc _).dr).mono ?_
      rintro e w6 ⟨y, rfl, hy, h6, g6⟩
      have H6 : Hid (PaDr B g V len w w6 pb ⟨pk, pf, pd, ps, pl, pby⟩) := (H5.out.alloc _).step h6 g6
      have hyb : 0 ≤ y ∧ y ≤ 1000000 := by simp at hy; omega
      clear h6 g6 hy
      have c3 := H6.out.cells 3 _ rfl
      have f3 : w6.frozen? ⟨pb, 3, none⟩ = false := unfrozen_of_block H6.out.box 3
      go_wp2_with fail
      go_meet
      exact ⟨_, H6.out.put (i := 3) (p' := ⟨pk, pf, pd, y, pl, pby⟩) rfl (pa_sm hsm.kind hsm.frm hsm.dst hyb hsm.low hsm.body)⟩
    · have n0 : (t == 0) = false := by simp; omega
      have n1 : (t == 1) = false := by simp; omega
      have n2 : (t == 2) = false := by simp; omega
      go_wp2_with fail
      go_meet
      exact ⟨_, H5.out⟩
  case rest =>
  obtain ⟨⟨pk, pf, pd, ps, pl, pby⟩, H6⟩ := hcut
  clear H5 hsm
  have c0 := H6.out.cells 0 _ rfl
  have c1 := H6.out.cells 1 _ rfl
  have c2 := H6.out.cells 2 _ rfl
  have c3 := H6.out.cells 3 _ rfl
  have c4 := H6.out.cells 4 _ rfl
  have c5 := H6.out.cells 5 _ rfl
  have z0 : wc.cell? ⟨w.heap.size, 0, none⟩ = some (.int .i64 0) := by rw [cell_of_block H6.out.res]; rfl
  have f0 : wc.frozen? ⟨w.heap.size, 0, none⟩ = false := unfrozen_of_block H6.out.res 0
  have z1 : wc.cell? ⟨w.heap.size, 1, none⟩ = some (.int .i64 0) := by rw [cell_of_block H6.out.res]; rfl
  have f1 : wc.frozen? ⟨w.heap.size, 1, none⟩ = false := unfrozen_of_block H6.out.res 1
  have z2 : wc.cell? ⟨w.heap.size, 2, none⟩ = some (.int .i64 0) := by rw [cell_of_block H6.out.res]; rfl
  have f2 : wc.frozen? ⟨w.heap.size, 2, none⟩ = false := unfrozen_of_block H6.out.res 2
  have z3 : wc.cell? ⟨w.heap.size, 3, none⟩ = some (.int .i64 0) := by rw [cell_of_block H6.out.res]; rfl
  have f3 : wc.frozen? ⟨w.heap.size, 3, none⟩ = false := unfrozen_of_block H6.out.res 3
  have z4 : wc.cell? ⟨w.heap.size, 4, none⟩ = some (.int .i64 0) := by rw [cell_of_block H6.out.res]; rfl
  have f4 : wc.frozen? ⟨w.heap.size, 4, none⟩ = false := unfrozen_of_block H6.out.res 4
  have z5 : wc.cell? ⟨w.heap.size, 5, none⟩ = some (.string ⟨#[]⟩) := by rw [cell_of_block H6.out.res]; rfl
  have f5 : wc.frozen? ⟨w.heap.size, 5, none⟩ = false := unfrozen_of_block H6.out.res 5
  have hne := H6.out.new
  go_wp2_with fail
  refine bodyPost_ret (v := .agg #[.int .i64 pk, .int .i64 pf, .int .i64 pd, .int .i64 ps, .int .i64 pl, .string pby]) (by simp [results, Tryz.results68, go_sem, z0, z1, z2, z3, z4, z5]) rfl ⟨⟨pk, pf, pd, ps, pl, pby⟩, rfl, H6.out.fin (grown6 _ _ _ _ _ _ _ _)⟩
end Go.Proofs.YtlbinamlehapoaaGreatDoor
