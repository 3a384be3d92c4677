/-
  The specification's draw of a chance.
  The specification's draw of a pack to node 1.
-/
import Derived.Test.YtlbinamlehapoaaGreatDoorND
import Derived.Test.YtlbinamlehapoaaGreatDoorDrawPack
import Derived.Test.YtlbinamlehapoaaGreatDoorSpecGetMsg
import Derived.Test.YtlbinamlehapoaaGreatDoorSpecPutMsg
import Derived.Deep.CutBlock
namespace Go.Proofs.YtlbinamlehapoaaGreatDoor
open Go.RowKit Go.Joins

set_option maxRecDepth 100000

set_option maxHeartbeats 1600000 in
theorem once_dr (B g : Nat) (V : Value) (len : Nat) (n : Int) (w : World) (hn0 : 0 < n) (hn1 : n ≤ 1000000000) (h : Dr B w g V len) :
    Calls Tryz.prog 27 #[.pointer (some ⟨g, 0, none⟩), .int .i64 n] w fun e w' => ∃ x : Bool, e = .returned (.bool x) ∧ Dr B w' g V len ∧ w.grownBy w' (some g) := by
  go_enter Tryz.func27, Tryz.ntmps27
  go_wp2_with fail
  refine (below_dr B g V len n _ hn0 hn1 h).mono ?_
  rintro e w1 ⟨x, rfl, x0, x1, h1, g1⟩
  go_wp2
  go_ret
  exact ⟨_, rfl, h1, g1⟩
end Go.Proofs.YtlbinamlehapoaaGreatDoor

namespace Go.Proofs.YtlbinamlehapoaaGreatDoor
open Go.RowKit Go.Joins

set_option maxRecDepth 100000

/-- A message in its box, its kids in blocks from lo on. -/
structure MsBx (lo : Nat) (W : World) (mb : Nat) (m : Ms) (kv : Value) : Prop where
  box : W.heap[mb]? = some (.cells (m.row kv) 32)
  is : MsAt W (fun b => lo ≤ b ∧ b < mb) (.agg (m.row kv)) m
  ge : lo ≤ mb
theorem MsBx.kept {lo : Nat} {W W' : World} {mb : Nat} {m : Ms} {kv : Value} (h : MsBx lo W mb m kv) (hb : ∀ k, lo ≤ k → k ≤ mb → k < W.heap.size → W'.heap[k]? = W.heap[k]?) (hs : W.heap.size ≤ W'.heap.size) : MsBx lo W' mb m kv := by
  refine ⟨(hb mb h.ge (Nat.le_refl _) (Array.getElem?_eq_some_iff.1 h.box).1).trans h.box, ?_, h.ge⟩
  obtain ⟨kv', hv, h1, h2, h3, h4, hk⟩ := h.is
  exact ⟨kv', hv, h1, h2, h3, h4, hk.kept (fun b hb1 hb2 => hb b hb1.1 (by omega) hb2) hs (fun b hb1 _ => hb1)⟩
theorem MsBx.step {lo : Nat} {W W' : World} {mb g : Nat} {m : Ms} {kv : Value} (h : MsBx lo W mb m kv) (hg : W.grownBy W' (some g)) (hgl : g < lo) : MsBx lo W' mb m kv :=
  h.kept (fun k hk _ hlt => hg.block k hlt (fun e => by have := Option.some.inj e; omega)) hg.size
theorem MsBx.below {lo : Nat} {W W' : World} {mb : Nat} {m : Ms} {kv : Value} (h : MsBx lo W mb m kv) (hb : Below W.heap.size W W') : MsBx lo W' mb m kv :=
  h.kept (fun k _ _ hlt => hb.block k hlt) hb.size
theorem MsBx.alloc {lo : Nat} {W : World} {mb : Nat} {m : Ms} {kv : Value} (h : MsBx lo W mb m kv) (o : Obj) : MsBx lo (W.alloc o) mb m kv :=
  h.kept (fun k _ _ hlt => Below.heap_alloc W o k hlt) (by simp)
theorem MsBx.set {lo : Nat} {W : World} {mb pb i : Nat} {u : Value} {m : Ms} {kv : Value} (h : MsBx lo W mb m kv) (hp : pb < lo) : MsBx lo (W.setCell ⟨pb, i, none⟩ u) mb m kv :=
  h.kept (fun k hk _ _ => Below.heap_setCell _ _ _ _ (by show k ≠ pb; omega)) (by simp)
theorem MsBx.cells {lo : Nat} {W : World} {mb : Nat} {m : Ms} {kv : Value} (h : MsBx lo W mb m kv) : ∀ i v, (m.row kv)[i]? = some v → W.cell? ⟨mb, i, none⟩ = some v :=
  fun i v hv => by rw [cell_of_block h.box]; exact hv
/-- From, To of a message in its box are written. -/
theorem MsBx.put {lo : Nat} {W : World} {mb i : Nat} {u : Value} {m : Ms} {kv : Value} (m' : Ms) (h : MsBx lo W mb m kv) (hrow : (m.row kv).setIfInBounds i u = m'.row kv) (hc : m'.cell = m.cell) (hf : inI64 m'.kind ∧ inI64 m'.frm ∧ inI64 m'.dst ∧ inI64 m'.id ∧ inI64 m'.want) : MsBx lo (W.setCell ⟨mb, i, none⟩ u) mb m' kv := by
  refine ⟨by rw [block_setCell (i := i) h.box _, hrow], ?_, h.ge⟩
  obtain ⟨kv', hv, h1, h2, h3, h4, hk⟩ := h.is
  have hkv : kv' = kv := by
    have := hv
    simp only [Ms.row, Value.agg.injEq] at this
    have := congrArg (fun a => a[8]?) this
    simpa using this.symm
  subst hkv
  exact ⟨kv', rfl, hf, hc ▸ h2, hc ▸ h3, hc ▸ h4, hc ▸ hk.kept (fun b hb1 _ => Below.heap_setCell _ _ _ _ (by show b ≠ mb; omega)) (by simp) (fun b hb1 _ => hb1)⟩
theorem MsBx.new {lo : Nat} {w1 : World} {m : Ms} {kv : Value} (h : MsAt w1 (fun b => lo ≤ b) (.agg (m.row kv)) m) (hl : lo ≤ w1.heap.size) : MsBx lo (w1.alloc (.cells (m.row kv) 32)) w1.heap.size m kv := by
  refine ⟨(MapKept.heap_alloc w1 _).1, ?_, hl⟩
  obtain ⟨kv', hv, h1, h2, h3, h4, hk⟩ := h
  exact ⟨kv', hv, h1, h2, h3, h4, hk.kept (fun b _ hlt => Below.heap_alloc w1 _ b hlt) (by simp) (fun b hb hlt => ⟨hb, hlt⟩)⟩
theorem OwnMs.from_ {w : World} {B : Nat} {v : Value} {m : Ms} (h : OwnMs w B v m) : MsAt w (fun b => B ≤ b) v m := by
  obtain ⟨kv, rfl, h1, h2, h3, h4, h5, h6⟩ := h
  exact ⟨kv, rfl, h2, h3, h4, h5, (own_ints h1 h6).kept (fun _ _ _ => rfl) (Nat.le_refl _) (fun b hb _ => hb.1)⟩

/-- A pack that is being drawn, whatever its numbers. -/
structure PiDr (B g : Nat) (V : Value) (len : Nat) (w W : World) (pb : Nat) (p : Pa) : Prop where
  dr : Dr B W g V len
  grown : w.grownBy W (some g)
  box : W.heap[pb]? = some (.cells p.row 38)
  new : w.heap.size < pb
  res : W.heap[w.heap.size]? = some (.cells #[.int .i64 0, .int .i64 0, .int .i64 0, .int .i64 0, .int .i64 0, .string ⟨#[]⟩] 38)
  glt : g < w.heap.size
  fits : p.fits
  body : p.body.size ≤ 1000
theorem PiDr.step {B g : Nat} {V : Value} {len : Nat} {w W W' : World} {pb : Nat} {p : Pa} (h : PiDr B g V len w W pb p) (h1 : Dr B W' g V len) (g1 : W.grownBy W' (some g)) : PiDr B g V len w W' pb p :=
  ⟨h1, h.grown.trans g1, (g1.block pb (Array.getElem?_eq_some_iff.1 h.box).1 (fun e => by have := Option.some.inj e; have := h.new; have := h.glt; omega)).trans h.box, h.new, (g1.block _ (Array.getElem?_eq_some_iff.1 h.res).1 (fun e => by have := Option.some.inj e; have := h.glt; omega)).trans h.res, h.glt, h.fits, h.body⟩
theorem PiDr.below {B g : Nat} {V : Value} {len : Nat} {w W W' : World} {pb : Nat} {p : Pa} (h : PiDr B g V len w W pb p) (hb : Below W.heap.size W W') : PiDr B g V len w W' pb p :=
  h.step (h.dr.below hb) ⟨hb.os, hb.tape, hb.output, hb.size, fun k hk _ => hb.block k hk⟩
theorem PiDr.alloc {B g : Nat} {V : Value} {len : Nat} {w W : World} {pb : Nat} {p : Pa} (h : PiDr B g V len w W pb p) (o : Obj) : PiDr B g V len w (W.alloc o) pb p :=
  h.below ((Below.refl _ W).alloc (Nat.le_refl _) o)
theorem PiDr.cells {B g : Nat} {V : Value} {len : Nat} {w W : World} {pb : Nat} {p : Pa} (h : PiDr B g V len w W pb p) : ∀ i v, p.row[i]? = some v → W.cell? ⟨pb, i, none⟩ = some v :=
  fun i v hv => by rw [cell_of_block h.box]; exact hv
theorem PiDr.put {B g : Nat} {V : Value} {len : Nat} {w W : World} {pb i : Nat} {u : Value} {p : Pa} (p' : Pa) (h : PiDr B g V len w W pb p) (hrow : p.row.setIfInBounds i u = p'.row) (hf : p'.fits) (hb : p'.body.size ≤ 1000) : PiDr B g V len w (W.setCell ⟨pb, i, none⟩ u) pb p' := by
  have h1 := h.new
  have h2 := h.glt
  have h3 := h.dr.2.1.1
  have hg := Go.Lib.grownBy_setCell W pb i u
  refine ⟨h.dr.grownOwn hg (fun q e => by have := Option.some.inj e; omega), grown_two h.grown hg (fun q e => .inr (by have := Option.some.inj e; omega)), ?_, h1, (hg.block _ (Array.getElem?_eq_some_iff.1 h.res).1 (fun e => by have := Option.some.inj e; omega)).trans h.res, h2, hf, hb⟩
  rw [block_setCell (i := i) h.box _, hrow]
/-- Another block of its own is written. -/
theorem PiDr.far {B g : Nat} {V : Value} {len : Nat} {w W : World} {pb mb i : Nat} {u : Value} {p : Pa} (h : PiDr B g V len w W pb p) (hm : w.heap.size < mb) (hp : mb ≠ pb) : PiDr B g V len w (W.setCell ⟨mb, i, none⟩ u) pb p := by
  have h1 := h.new
  have h2 := h.glt
  have h3 := h.dr.2.1.1
  have hg := Go.Lib.grownBy_setCell W mb i u
  exact ⟨h.dr.grownOwn hg (fun q e => by have := Option.some.inj e; omega), grown_two h.grown hg (fun q e => .inr (by have := Option.some.inj e; omega)), (hg.block _ (Array.getElem?_eq_some_iff.1 h.box).1 (fun e => by have := Option.some.inj e; omega)).trans h.box, h1, (hg.block _ (Array.getElem?_eq_some_iff.1 h.res).1 (fun e => by have := Option.some.inj e; omega)).trans h.res, h2, h.fits, h.body⟩
theorem PiDr.fin {B g : Nat} {V : Value} {len : Nat} {w W W' : World} {pb : Nat} {p : Pa} (h : PiDr B g V len w W pb p) (hg : W.grownBy W' (some w.heap.size)) : p.fits ∧ p.body.size ≤ 1000 ∧ Dr B W' g V len ∧ w.grownBy W' (some g) := by
  have h1 := h.new
  have h2 := h.glt
  have h3 := h.dr.2.1.1
  exact ⟨h.fits, h.body, h.dr.grownOwn hg (fun q e => by have := Option.some.inj e; omega), grown_two h.grown hg (fun q e => .inr (by have := Option.some.inj e; omega))⟩
theorem fit_kids {l : List UInt8} : (msgRes l).cell.kids.length ≤ 101 := by
  unfold msgRes
  split
  · rename_i h
    unfold msgFit inB at h
    simp only [Bool.and_eq_true, decide_eq_true_eq] at h
    show (numsL l 72 (numL l 64).toNat).length ≤ 101
    rw [numsL_len]
    omega
  · exact Nat.zero_le _

set_option maxHeartbeats 6400000 in
theorem in_dr (B g : Nat) (V : Value) (len : Nat) (w : World) (h : Dr B w g V len) :
    Calls Tryz.prog 36 #[.pointer (some ⟨g, 0, none⟩)] w fun e w' => ∃ p : Pa, e = .returned (.agg p.row) ∧ p.fits ∧ p.body.size ≤ 1000 ∧ Dr B w' g V len ∧ w.grownBy w' (some g) := by
  have hgl := h.glt
  have hnot := ex_not
  have HD : Hid (Dr B w g V len) := h
  clear h
  go_enter Tryz.func36, Tryz.ntmps36
  go_wp2_with fail
  refine (pack_dr B g V len _ (HD.out.alloc _)).mono ?_
  rintro e w1 ⟨⟨pk, pf, pd, ps, pl, pby⟩, rfl, hf, hbd, h1, g1⟩
  have hr1 := (g1.block w.heap.size (by simp) (fun e => by have := Option.some.inj e; omega)).trans (MapKept.heap_alloc w _).1
  have G1 := (World.grownBy_alloc w _ (some g)).trans g1
  have hwm : w.heap.size < w1.heap.size := (Array.getElem?_eq_some_iff.1 hr1).1
  have H1 : Hid (PiDr B g V len w (w1.alloc (.cells (Pa.row ⟨pk, pf, pd, ps, pl, pby⟩) 38)) w1.heap.size ⟨pk, pf, pd, ps, pl, pby⟩) :=
    ⟨h1.alloc _, G1.trans (World.grownBy_alloc w1 _ (some g)), (MapKept.heap_alloc w1 _).1, hwm, (Below.heap_alloc w1 _ _ hwm).trans hr1, hgl, hf, hbd⟩
  clear h1 g1 hr1 G1 HD hf hbd
  have hpl : w1.heap.size < (w1.alloc (.cells (Pa.row ⟨pk, pf, pd, ps, pl, pby⟩) 38)).heap.size := by simp
  go_upto_region 2 with fail
  generalize w1.alloc (.cells (Pa.row ⟨pk, pf, pd, ps, pl, pby⟩) 38) = W1 at *
  generalize w1.heap.size = pb at *
  have c5 := H1.out.cells 5 _ rfl
  go_wp2_with fail
  refine (specGetMsg_any pby W1 (by have := H1.out.body; exact Nat.le_trans this (by decide))).mono ?_
  rintro e w2 ⟨mv, rfl, hm, b2⟩
  have hlo : W1.heap.size ≤ w2.heap.size := b2.size
  have hm' := hm.from_
  obtain ⟨ka, kc, rfl⟩ := hm'.form
  have hkl := fit_kids (l := pby.data.toList)
  generalize msgRes pby.data.toList = m at *
  have H2 : Hid (PiDr B g V len w (w2.alloc (.cells (m.row (.slice ka m.cell.kids.length kc)) 32)) pb ⟨pk, pf, pd, ps, pl, pby⟩ ∧ MsBx W1.heap.size (w2.alloc (.cells (m.row (.slice ka m.cell.kids.length kc)) 32)) w2.heap.size m (.slice ka m.cell.kids.length kc) ∧ m.cell.kids.length ≤ 101) :=
    ⟨(H1.out.below b2).alloc _, MsBx.new hm' hlo, hkl⟩
  have hml : w2.heap.size < (w2.alloc (.cells (m.row (.slice ka m.cell.kids.length kc)) 32)).heap.size := by simp
  clear hm hm' b2 H1 c5 hkl
  generalize msgFit pby.data.toList = ok at *
  go_upto_region 3 with fail
  generalize w2.alloc (.cells (m.row (.slice ka m.cell.kids.length kc)) 32) = W2 at *
  generalize w2.heap.size = mb at *
  have hgm : g < W2.heap.size := H2.out.1.dr.glt
  cases ok with
  | false =>
    have c0 := H2.out.1.cells 0 _ rfl
    have c1 := H2.out.1.cells 1 _ rfl
    have c2 := H2.out.1.cells 2 _ rfl
    have c3 := H2.out.1.cells 3 _ rfl
    have c4 := H2.out.1.cells 4 _ rfl
    have c5 := H2.out.1.cells 5 _ rfl
    have z0 : (W2).cell? ⟨w.heap.size, 0, none⟩ = some (.int .i64 0) := by rw [cell_of_block H2.out.1.res]; rfl
    have f0 : (W2).frozen? ⟨w.heap.size, 0, none⟩ = false := unfrozen_of_block H2.out.1.res 0
    have z1 : (W2).cell? ⟨w.heap.size, 1, none⟩ = some (.int .i64 0) := by rw [cell_of_block H2.out.1.res]; rfl
    have f1 : (W2).frozen? ⟨w.heap.size, 1, none⟩ = false := unfrozen_of_block H2.out.1.res 1
    have z2 : (W2).cell? ⟨w.heap.size, 2, none⟩ = some (.int .i64 0) := by rw [cell_of_block H2.out.1.res]; rfl
    have f2 : (W2).frozen? ⟨w.heap.size, 2, none⟩ = false := unfrozen_of_block H2.out.1.res 2
    have z3 : (W2).cell? ⟨w.heap.size, 3, none⟩ = some (.int .i64 0) := by rw [cell_of_block H2.out.1.res]; rfl
    have f3 : (W2).frozen? ⟨w.heap.size, 3, none⟩ = false := unfrozen_of_block H2.out.1.res 3
    have z4 : (W2).cell? ⟨w.heap.size, 4, none⟩ = some (.int .i64 0) := by rw [cell_of_block H2.out.1.res]; rfl
    have f4 : (W2).frozen? ⟨w.heap.size, 4, none⟩ = false := unfrozen_of_block H2.out.1.res 4
    have z5 : (W2).cell? ⟨w.heap.size, 5, none⟩ = some (.string ⟨#[]⟩) := by rw [cell_of_block H2.out.1.res]; rfl
    have f5 : (W2).frozen? ⟨w.heap.size, 5, none⟩ = false := unfrozen_of_block H2.out.1.res 5
    have hne := H2.out.1.new
    go_wp2_with fail
    refine bodyPost_ret (v := .agg #[.int .i64 pk, .int .i64 pf, .int .i64 pd, .int .i64 ps, .int .i64 pl, .string pby]) (by simp [results, Tryz.results36, go_sem, z0, z1, z2, z3, z4, z5]) rfl ⟨⟨pk, pf, pd, ps, pl, pby⟩, rfl, H2.out.1.fin (grown6 _ _ _ _ _ _ _ _)⟩
  | true =>
    go_upto_if 19 with (go_at_call 27; refine (once_dr B g V len 8 _ (by decide) (by decide) H2.out.1.dr).mono ?_; rintro e w3 ⟨x, rfl, h3, g3⟩; have H3 := (show Hid (_ ∧ _ ∧ _) from ⟨H2.out.1.step h3 g3, H2.out.2.1.step g3 (by have := H2.out.1.new; omega), H2.out.2.2⟩); clear h3 g3 H2)
    have hgw : g < w3.heap.size := H3.out.1.dr.glt
    cases x with
    | true =>
      have c0 := H3.out.1.cells 0 _ rfl
      have c1 := H3.out.1.cells 1 _ rfl
      have c2 := H3.out.1.cells 2 _ rfl
      have c3 := H3.out.1.cells 3 _ rfl
      have c4 := H3.out.1.cells 4 _ rfl
      have c5 := H3.out.1.cells 5 _ rfl
      have z0 : (w3).cell? ⟨w.heap.size, 0, none⟩ = some (.int .i64 0) := by rw [cell_of_block H3.out.1.res]; rfl
      have f0 : (w3).frozen? ⟨w.heap.size, 0, none⟩ = false := unfrozen_of_block H3.out.1.res 0
      have z1 : (w3).cell? ⟨w.heap.size, 1, none⟩ = some (.int .i64 0) := by rw [cell_of_block H3.out.1.res]; rfl
      have f1 : (w3).frozen? ⟨w.heap.size, 1, none⟩ = false := unfrozen_of_block H3.out.1.res 1
      have z2 : (w3).cell? ⟨w.heap.size, 2, none⟩ = some (.int .i64 0) := by rw [cell_of_block H3.out.1.res]; rfl
      have f2 : (w3).frozen? ⟨w.heap.size, 2, none⟩ = false := unfrozen_of_block H3.out.1.res 2
      have z3 : (w3).cell? ⟨w.heap.size, 3, none⟩ = some (.int .i64 0) := by rw [cell_of_block H3.out.1.res]; rfl
      have f3 : (w3).frozen? ⟨w.heap.size, 3, none⟩ = false := unfrozen_of_block H3.out.1.res 3
      have z4 : (w3).cell? ⟨w.heap.size, 4, none⟩ = some (.int .i64 0) := by rw [cell_of_block H3.out.1.res]; rfl
      have f4 : (w3).frozen? ⟨w.heap.size, 4, none⟩ = false := unfrozen_of_block H3.out.1.res 4
      have z5 : (w3).cell? ⟨w.heap.size, 5, none⟩ = some (.string ⟨#[]⟩) := by rw [cell_of_block H3.out.1.res]; rfl
      have f5 : (w3).frozen? ⟨w.heap.size, 5, none⟩ = false := unfrozen_of_block H3.out.1.res 5
      have hne := H3.out.1.new
      go_wp2_with fail
      refine bodyPost_ret (v := .agg #[.int .i64 pk, .int .i64 pf, .int .i64 pd, .int .i64 ps, .int .i64 pl, .string pby]) (by simp [results, Tryz.results36, go_sem, z0, z1, z2, z3, z4, z5]) rfl ⟨⟨pk, pf, pd, ps, pl, pby⟩, rfl, H3.out.1.fin (grown6 _ _ _ _ _ _ _ _)⟩
    | false =>
      have hmn : pb < mb := by have := H3.out.2.1.ge; omega
      go_upto_region 4 with fail
      have A3 := (show Hid (_ ∧ _) from ⟨H3.out.1.alloc (.cells ([0, 2, 0].map (fun z => Value.int .i64 z)).toArray 3), H3.out.2.1.alloc (.cells ([0, 2, 0].map (fun z => Value.int .i64 z)).toArray 3)⟩)
      go_wp2_with fail
      refine (pickInt_dr B g V len _ 3 3 [0, 2, 0] _ (by decide) (by decide) rfl (by omega) (ints_lit [0, 2, 0] w3) A3.out.1.dr).mono ?_
      rintro e w4 ⟨y, rfl, hy, h4, g4⟩
      have hyb : inI64 y := by
        simp only [List.mem_cons, List.not_mem_nil, or_false] at hy
        exact ⟨by omega, by omega⟩
      have h11 : inI64 1 := ⟨by omega, by omega⟩
      have P4 := A3.out.1.step h4 g4
      have M4 := A3.out.2.step g4 (by have := P4.new; omega)
      obtain ⟨-, -, ⟨k1, -, k3, k4, k5⟩, -⟩ := M4.is
      have pf4 := P4.fits
      have hwp := P4.new
      have hmw : w.heap.size < mb := by omega
      have M5 := M4.put (i := 1) (u := .int .i64 y) ⟨m.kind, y, m.dst, m.id, m.want, m.cell⟩ rfl rfl ⟨k1, hyb, k3, k4, k5⟩
      have M6 := M5.put (i := 2) (u := .int .i64 1) ⟨m.kind, y, 1, m.id, m.want, m.cell⟩ rfl rfl ⟨k1, hyb, h11, k4, k5⟩
      have M7 := (M6.set (pb := pb) (i := 1) (u := .int .i64 y) hpl).set (pb := pb) (i := 2) (u := .int .i64 1) hpl
      have P6 := (P4.far (mb := mb) (i := 1) (u := .int .i64 y) hmw (by omega)).far (mb := mb) (i := 2) (u := .int .i64 1) hmw (by omega)
      have P7 := (P6.put (i := 1) (u := .int .i64 y) ⟨pk, y, pd, ps, pl, pby⟩ rfl ⟨pf4.1, hyb, pf4.2.2⟩ P6.body).put (i := 2) (u := .int .i64 1) ⟨pk, y, 1, ps, pl, pby⟩ rfl ⟨pf4.1, hyb, h11, pf4.2.2.2⟩ P6.body
      have H4 := (show Hid (PiDr B g V len w w4 pb ⟨pk, pf, pd, ps, pl, pby⟩ ∧ MsBx W1.heap.size w4 mb m (.slice ka m.cell.kids.length kc)) from ⟨P4, M4⟩)
      have H7 := (show Hid (_ ∧ _) from ⟨P7, M7⟩)
      have HK := (show Hid (_ ∧ _) from ⟨H3.out.2.2, pf4⟩)
      clear P4 M4 M5 M6 M7 P6 P7 h4 g4 A3 H3 hy k1 k3 k4 k5 pf4
      have e0 := H4.out.2.cells 0 _ rfl
      have e1 := H4.out.2.cells 1 _ rfl
      have e2 := H4.out.2.cells 2 _ rfl
      have e3 := H4.out.2.cells 3 _ rfl
      have e4 := H4.out.2.cells 4 _ rfl
      have e5 := H4.out.2.cells 5 _ rfl
      have e6 := H4.out.2.cells 6 _ rfl
      have e7 := H4.out.2.cells 7 _ rfl
      have e8 := H4.out.2.cells 8 _ rfl
      have q1 : w4.frozen? ⟨mb, 1, none⟩ = false := unfrozen_of_block H4.out.2.box 1
      have q2 : w4.frozen? ⟨mb, 2, none⟩ = false := unfrozen_of_block H4.out.2.box 2
      have c1 := H4.out.1.cells 1 _ rfl
      have c2 := H4.out.1.cells 2 _ rfl
      have r1 : w4.frozen? ⟨pb, 1, none⟩ = false := unfrozen_of_block H4.out.1.box 1
      have r2 : w4.frozen? ⟨pb, 2, none⟩ = false := unfrozen_of_block H4.out.1.box 2
      have hn1 : mb ≠ pb := by omega
      have hn2 : pb ≠ mb := by omega
      go_wp2_with fail
      refine (specPutMsg_any _ _ _ _ H7.out.2.is (by have := HK.out.1; show m.cell.kids.length ≤ _; omega)).mono ?_
      rintro e w8 ⟨rfl, b8⟩
      have H8 : Hid (PiDr B g V len w w8 pb ⟨pk, y, 1, ps, pl, pby⟩) := H7.out.1.below b8
      have hbs := msg_short (m := ⟨m.kind, y, 1, m.id, m.want, m.cell⟩) HK.out.1
      generalize (⟨(Ms.bytes ⟨m.kind, y, 1, m.id, m.want, m.cell⟩).toArray⟩ : ByteArray) = bb at *
      clear e0 e1 e2 e3 e4 e5 e6 e7 e8 q1 q2 c1 c2 r1 r2 H4 H7 b8
      have c5' := H8.out.cells 5 _ rfl
      have r5 : w8.frozen? ⟨pb, 5, none⟩ = false := unfrozen_of_block H8.out.box 5
      have H9 : Hid (PiDr B g V len w (w8.setCell ⟨pb, 5, none⟩ (.string bb)) pb ⟨pk, y, 1, ps, pl, bb⟩) := H8.out.put (i := 5) _ rfl H8.out.fits hbs
      go_upto_region 9 with fail
      generalize w8.setCell ⟨pb, 5, none⟩ (.string bb) = w9 at *
      clear c5' r5 H8
      have c0 := H9.out.cells 0 _ rfl
      have c1 := H9.out.cells 1 _ rfl
      have c2 := H9.out.cells 2 _ rfl
      have c3 := H9.out.cells 3 _ rfl
      have c4 := H9.out.cells 4 _ rfl
      have c5 := H9.out.cells 5 _ rfl
      have z0 : (w9).cell? ⟨w.heap.size, 0, none⟩ = some (.int .i64 0) := by rw [cell_of_block H9.out.res]; rfl
      have f0 : (w9).frozen? ⟨w.heap.size, 0, none⟩ = false := unfrozen_of_block H9.out.res 0
      have z1 : (w9).cell? ⟨w.heap.size, 1, none⟩ = some (.int .i64 0) := by rw [cell_of_block H9.out.res]; rfl
      have f1 : (w9).frozen? ⟨w.heap.size, 1, none⟩ = false := unfrozen_of_block H9.out.res 1
      have z2 : (w9).cell? ⟨w.heap.size, 2, none⟩ = some (.int .i64 0) := by rw [cell_of_block H9.out.res]; rfl
      have f2 : (w9).frozen? ⟨w.heap.size, 2, none⟩ = false := unfrozen_of_block H9.out.res 2
      have z3 : (w9).cell? ⟨w.heap.size, 3, none⟩ = some (.int .i64 0) := by rw [cell_of_block H9.out.res]; rfl
      have f3 : (w9).frozen? ⟨w.heap.size, 3, none⟩ = false := unfrozen_of_block H9.out.res 3
      have z4 : (w9).cell? ⟨w.heap.size, 4, none⟩ = some (.int .i64 0) := by rw [cell_of_block H9.out.res]; rfl
      have f4 : (w9).frozen? ⟨w.heap.size, 4, none⟩ = false := unfrozen_of_block H9.out.res 4
      have z5 : (w9).cell? ⟨w.heap.size, 5, none⟩ = some (.string ⟨#[]⟩) := by rw [cell_of_block H9.out.res]; rfl
      have f5 : (w9).frozen? ⟨w.heap.size, 5, none⟩ = false := unfrozen_of_block H9.out.res 5
      have hne := H9.out.new
      go_wp2_with fail
      refine bodyPost_ret (v := .agg #[.int .i64 pk, .int .i64 y, .int .i64 1, .int .i64 ps, .int .i64 pl, .string bb]) (by simp [results, Tryz.results36, go_sem, z0, z1, z2, z3, z4, z5]) rfl ⟨⟨pk, y, 1, ps, pl, bb⟩, rfl, H9.out.fin (grown6 _ _ _ _ _ _ _ _)⟩
end Go.Proofs.YtlbinamlehapoaaGreatDoor
