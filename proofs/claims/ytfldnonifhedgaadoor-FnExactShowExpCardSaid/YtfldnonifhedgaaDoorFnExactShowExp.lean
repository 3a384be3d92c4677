/-
  At every expression the program's ShowExp answers as the specification's, writes into no argument, and the law's call changes nothing that was there; the library's tables that the row lists hold what the program's text lays, and the card ties that; no further condition.
-/
import Derived.Test.YtfldnonifhedgaaDoorSpecShow
import Derived.Test.YtfldnonifhedgaaDoorImplShow
import Derived.Test.YtfldnonifhedgaaDoorExSz
import Derived.Test.YtfldnonifhedgaaDoorExTo
import Derived.Test.YtfldnonifhedgaaDoorExEq
import Derived.Test.YtfldnonifhedgaaDoorExOpen
import Derived.Test.YtfldnonifhedgaaDoorLaidShow
import Derived.ChangeOld
namespace Go.Proofs.YtfldnonifhedgaaDoor
open Go.ChangeShapes Go.WideShapes Go.ChangeAt Go.RowKit Go.Joins

set_option maxRecDepth 100000

theorem exAt_belowP {w w' : World} {n d : Nat} {v : Value} {x : Ex} (h : ExAt w (fun b => n ≤ b ∧ Pl w b) d v x) (hb : Below w.heap.size w w') : ExAt w' (fun b => n ≤ b ∧ Pl w' b) d v x := by
  obtain ⟨kv, hv, h1, h2, h3, hk⟩ := h
  exact ⟨kv, hv, h1, h2, h3, hk.belowP hb⟩
theorem exAt_plain {w : World} {n d : Nat} {v : Value} {x : Ex} (h : ExAt w (fun b => n ≤ b ∧ Pl w b) d v x) : ExAt w (Pl w) d v x := by
  obtain ⟨kv, hv, h1, h2, h3, hk⟩ := h
  exact ⟨kv, hv, h1, h2, h3, hk.plain⟩

namespace fnExactShowExp
set_option maxHeartbeats 6400000 in
theorem walk (d : Nat) (v : Value) (x : Ex) (w : World) (h : ExAt w (fun _ => True) d v x) (htab : Lib.TabIs Tryd.prog w "internal/strconv.uint64pow10" .u64 Lib.pow10Tab) :
    Calls Tryd.prog 3 #[v] w fun e w' => e = .returned (.bool true) ∧ Below w.heap.size w w' := by
  have HT : Hid (Lib.TabIs Tryd.prog w "internal/strconv.uint64pow10" .u64 Lib.pow10Tab) := htab
  clear htab
  have H1 : Hid (ExAt w (fun _ => True) d v x) := h
  obtain ⟨kv, rfl, -, -, -, hk⟩ := h
  obtain ⟨a1, c1, rfl⟩ := hk.form
  clear hk
  have B0 : Below w.heap.size w (w.alloc (.cells #[.int .i64 x.kind, .int .i64 x.n, .string x.text, .slice a1 x.kids.length c1] 24)) := (Below.refl _ w).alloc (Nat.le_refl _) _
  have O1 : (w.alloc (.cells #[.int .i64 x.kind, .int .i64 x.n, .string x.text, .slice a1 x.kids.length c1] 24)).heap[w.heap.size]? = some (.cells #[.int .i64 x.kind, .int .i64 x.n, .string x.text, .slice a1 x.kids.length c1] 24) := (MapKept.heap_alloc w _).1
  have P3 : (w.alloc (.cells #[.int .i64 x.kind, .int .i64 x.n, .string x.text, .slice a1 x.kids.length c1] 24)).heap.size = w.heap.size + 1 := by simp
  have L1 : Hid (∀ wk : World, Below (w.alloc (.cells #[.int .i64 x.kind, .int .i64 x.n, .string x.text, .slice a1 x.kids.length c1] 24)).heap.size (w.alloc (.cells #[.int .i64 x.kind, .int .i64 x.n, .string x.text, .slice a1 x.kids.length c1] 24)) wk → wk.heap[w.heap.size]? = some (.cells #[.int .i64 x.kind, .int .i64 x.n, .string x.text, .slice a1 x.kids.length c1] 24)) := fun wk hb => (hb.block _ (by rw [P3]; omega)).trans O1
  have HB0 : Hid (∀ wk : World, Below (w.alloc (.cells #[.int .i64 x.kind, .int .i64 x.n, .string x.text, .slice a1 x.kids.length c1] 24)).heap.size (w.alloc (.cells #[.int .i64 x.kind, .int .i64 x.n, .string x.text, .slice a1 x.kids.length c1] 24)) wk → Below w.heap.size w wk) := fun wk hb => B0.trans (hb.mono B0.size)
  clear O1
  go_enter Tryd.func3, Tryd.ntmps3
  go_wp2_with fail
  generalize (w.alloc (.cells #[.int .i64 x.kind, .int .i64 x.n, .string x.text, .slice a1 x.kids.length c1] 24)) = w2 at *
  refine (szExp_any d _ x _ _ _ (H1.out.below B0) (by omega) (by omega)).mono ?_
  rintro e w3 ⟨rfl, b3⟩
  by_cases hx : x.bulk ≤ 1048576
  · have hr : szR 1048576 x.bulk = 1048576 - x.bulk := by unfold szR; rw [if_pos (by omega)]
    rw [hr]
    have hr0 : ¬ (1048576 : Int) - x.bulk < 0 := by omega
    have M3 := L1.out _ b3
    have y0 : w3.cell? ⟨w.heap.size, 0, none⟩ = some (.int .i64 x.kind) := by rw [cell_of_block M3]; rfl
    have y1 : w3.cell? ⟨w.heap.size, 1, none⟩ = some (.int .i64 x.n) := by rw [cell_of_block M3]; rfl
    have y2 : w3.cell? ⟨w.heap.size, 2, none⟩ = some (.string x.text) := by rw [cell_of_block M3]; rfl
    have y3 : w3.cell? ⟨w.heap.size, 3, none⟩ = some (.slice a1 x.kids.length c1) := by rw [cell_of_block M3]; rfl
    clear hr M3
    go_wp2_with fail
    refine (toExp_any d _ x _ _ (H1.out.below (HB0.out _ b3)) hx).mono ?_
    rintro e w4 ⟨v4, rfl, p4, d4⟩
    have b4 : Below w2.heap.size w2 w4 := b3.trans (d4.mono b3.size)
    clear d4 y0 y1 y2 y3
    have HP4 := (show Hid (_ ∧ True) from ⟨p4, trivial⟩)
    obtain ⟨kv4, rfl, -, -, -, hk4⟩ := p4
    obtain ⟨a4, c4, rfl⟩ := hk4.form
    clear hk4
    go_wp2_with fail
    refine (specShow_any d _ x _ _ HP4.out.1 hx).mono ?_
    rintro e w5 ⟨rfl, d5⟩
    have b5 : Below w2.heap.size w2 w5 := b4.trans (d5.mono b4.size)
    clear d5 HP4 b3 b4
    have M5 := L1.out _ b5
    have y0 : w5.cell? ⟨w.heap.size, 0, none⟩ = some (.int .i64 x.kind) := by rw [cell_of_block M5]; rfl
    have y1 : w5.cell? ⟨w.heap.size, 1, none⟩ = some (.int .i64 x.n) := by rw [cell_of_block M5]; rfl
    have y2 : w5.cell? ⟨w.heap.size, 2, none⟩ = some (.string x.text) := by rw [cell_of_block M5]; rfl
    have y3 : w5.cell? ⟨w.heap.size, 3, none⟩ = some (.slice a1 x.kids.length c1) := by rw [cell_of_block M5]; rfl
    clear M5
    go_wp2_with fail
    refine (toExp_any d _ x _ _ (H1.out.below (HB0.out _ b5)) hx).mono ?_
    rintro e w6 ⟨v6, rfl, p6, d6⟩
    have b6 : Below w2.heap.size w2 w6 := b5.trans (d6.mono b5.size)
    clear d6 y0 y1 y2 y3
    have HP6 := (show Hid (_ ∧ True) from ⟨p6, trivial⟩)
    obtain ⟨kv6, rfl, -, -, -, hk6⟩ := p6
    obtain ⟨a6, c6, rfl⟩ := hk6.form
    clear hk6
    have e6 := exAt_belowP HP6.out.1 ((Below.refl _ w6).alloc (Nat.le_refl _) (.cells #[.int .i64 x.kind, .int .i64 x.n, .string x.text, .slice a6 x.kids.length c6] 29))
    have b6a : Below w2.heap.size w2 (w6.alloc (.cells #[.int .i64 x.kind, .int .i64 x.n, .string x.text, .slice a6 x.kids.length c6] 29)) := b6.alloc b6.size _
    have O6 : (w6.alloc (.cells #[.int .i64 x.kind, .int .i64 x.n, .string x.text, .slice a6 x.kids.length c6] 29)).heap[w6.heap.size]? = some (.cells #[.int .i64 x.kind, .int .i64 x.n, .string x.text, .slice a6 x.kids.length c6] 29) := (MapKept.heap_alloc w6 _).1
    have s6 : (w6.alloc (.cells #[.int .i64 x.kind, .int .i64 x.n, .string x.text, .slice a6 x.kids.length c6] 29)).heap.size = w6.heap.size + 1 := by simp
    have HE6 := (show Hid (_ ∧ _ ∧ _) from ⟨e6, b6a, O6⟩)
    clear e6 b6a O6
    go_wp2_with fail
    refine (showExp_any d _ x _ (exAt_plain HE6.out.1) hx (tab_below HT.out (HB0.out _ HE6.out.2.1))).mono ?_
    rintro e w7 ⟨rfl, d7⟩
    have b7 : Below w2.heap.size w2 w7 := HE6.out.2.1.trans (d7.mono HE6.out.2.1.size)
    have e7 := exAt_belowP HE6.out.1 d7
    have O7 : w7.heap[w6.heap.size]? = some (.cells #[.int .i64 x.kind, .int .i64 x.n, .string x.text, .slice a6 x.kids.length c6] 29) := (d7.block _ (by rw [s6]; omega)).trans HE6.out.2.2
    have HE7 := (show Hid (_ ∧ _ ∧ _) from ⟨e7, b7, O7⟩)
    have x0 : w7.cell? ⟨w6.heap.size, 0, none⟩ = some (.int .i64 x.kind) := by rw [cell_of_block O7]; rfl
    have x1 : w7.cell? ⟨w6.heap.size, 1, none⟩ = some (.int .i64 x.n) := by rw [cell_of_block O7]; rfl
    have x2 : w7.cell? ⟨w6.heap.size, 2, none⟩ = some (.string x.text) := by rw [cell_of_block O7]; rfl
    have x3 : w7.cell? ⟨w6.heap.size, 3, none⟩ = some (.slice a6 x.kids.length c6) := by rw [cell_of_block O7]; rfl
    have M7 := L1.out _ b7
    have y0 : w7.cell? ⟨w.heap.size, 0, none⟩ = some (.int .i64 x.kind) := by rw [cell_of_block M7]; rfl
    have y1 : w7.cell? ⟨w.heap.size, 1, none⟩ = some (.int .i64 x.n) := by rw [cell_of_block M7]; rfl
    have y2 : w7.cell? ⟨w.heap.size, 2, none⟩ = some (.string x.text) := by rw [cell_of_block M7]; rfl
    have y3 : w7.cell? ⟨w.heap.size, 3, none⟩ = some (.slice a1 x.kids.length c1) := by rw [cell_of_block M7]; rfl
    have hlt7 : w6.heap.size < w7.heap.size := (Array.getElem?_eq_some_iff.1 O7).1
    clear e7 b7 O7 M7 d7 HE6 HP6 s6
    have hss : ((bsOf (x.show 60)).toList != (bsOf (x.show 60)).toList) = false := by simp
    have hnot := ex_not
    generalize bsOf (x.show 60) = q at *
    go_wp2_with fail
    go_region_with (first
      | (go_at_call 6; refine (toExp_any d _ x _ _ (H1.out.below (HB0.out _ HE7.out.2.1.drew)) hx).mono ?_; rintro e w8 ⟨v8, rfl, p8, d8⟩; have D8 : Below w7.heap.size w7 w8 := (Below.refl _ w7).drew.trans d8; have HP8 := (show Hid (_ ∧ _) from ⟨p8, D8⟩); obtain ⟨kv8, rfl, -, -, -, hk8⟩ := p8; obtain ⟨a8, c8, rfl⟩ := hk8.form; have O8 := (D8.block _ hlt7).trans HE7.out.2.2; have z0 : w8.cell? ⟨w6.heap.size, 0, none⟩ = some (.int .i64 x.kind) := (by rw [cell_of_block O8]; rfl); have z1 : w8.cell? ⟨w6.heap.size, 1, none⟩ = some (.int .i64 x.n) := (by rw [cell_of_block O8]; rfl); have z2 : w8.cell? ⟨w6.heap.size, 2, none⟩ = some (.string x.text) := (by rw [cell_of_block O8]; rfl); have z3 : w8.cell? ⟨w6.heap.size, 3, none⟩ = some (.slice a6 x.kids.length c6) := (by rw [cell_of_block O8]; rfl); clear hk8 O8 d8 D8)
      | (go_at_call 8; refine (eqExp_any d _ _ x _ _ _ (HE7.out.1.below HP8.out.2) HP8.out.1 hx).mono ?_; rintro e w9 ⟨rfl, d9⟩; have b9 : Below w2.heap.size w2 w9 := (HE7.out.2.1.trans (HP8.out.2.mono HE7.out.2.1.size)).trans (d9.mono (HE7.out.2.1.trans (HP8.out.2.mono HE7.out.2.1.size)).size); clear d9))
    all_goals
      go_wp2
      go_ret
      exact ⟨rfl, HB0.out _ b9⟩
  · have hr : szR 1048576 x.bulk = -1 := by unfold szR; rw [if_neg (by omega)]
    rw [hr]
    go_wp2
    go_ret
    exact ⟨rfl, HB0.out _ b3⟩

theorem laidOut : laidOutB Tryd.prog = true := by kernel_rfl

theorem contract (H : Type) (enc : TypeId × Value → H) (W : World) (base : Nat) (args : Array Value) (ds gs : List (DataW H)) (before : List MemPlace)
    (hval : ∀ (j : Nat) t v, Tryd.f3.params[j]? = some t → args[j]? = some v → Value.okWide Tryd.prog W .any base t v)
    (hW : DataW.Whole enc Tryd.prog Tryd.f3.params.toList Rows.fnExactShowExpSpec.vars false W args.toList ds gs before) (hL : laidMetH Tryd.prog Rows.fnExactShowExpRow.laid W) :
    Calls Tryd.prog 3 args W fun e W' => ∃ v, e = .returned v ∧ Rows.fnExactShowExpSpec.post enc Tryd.prog Tryd.f3 false true false false W args v W' := by
  have hW' := hW
  obtain ⟨p, q, hA0, hV, rfl, hfz, hnd⟩ := hW
  have hA : DataW.TrodAll enc Tryd.prog W 0 (fun _ => true) true Tryd.f3.params.toList args.toList ds p := hA0
  rw [Tryd.params3] at hA hval
  obtain ⟨v0, vs0, d0, ds0, p0, q0, hargs, rfl, rfl, h0, r0⟩ := trodAll_cons hA
  obtain ⟨rfl, rfl, rfl⟩ := trodAll_nil r0
  obtain rfl : args = #[v0] := by cases args; simp_all
  obtain ⟨rfl, rfl⟩ := trodVars_none hV
  have k0 := h0
  have lt0 : ∀ x ∈ p0, x.block < W.heap.size := by obtain ⟨m, hm⟩ := k0; exact DataW.trod_lt m _ _ _ hm
  obtain ⟨x, dx, hx⟩ := open_exp (okWide_struct Tryd.underlying24 (hval 0 24 v0 rfl rfl)) h0
  clear hA0
  refine (walk _ v0 x W hx (pow10S_of hL)).mono fun e W' ⟨he, bel⟩ => ?_
  subst he
  exact ⟨_, rfl, _, _, _, [], _, [], hW', trodAll_mk1 (shut_bool Tryd.underlying4 _), (trodAll_cons_mk (Below.trod laidOut (by kernel_rfl) (of_decide_eq_true (by kernel_rfl)) k0 bel lt0) trodAll_mk0), rfl, bel.frame _, fun h => by cases h⟩

theorem laid_met (os : Os) : laidMet Tryd.prog Rows.fnExactShowExpRow.laid ((laidWorld os).forCall (fun _ _ => 0) ⟨#[], #[.agg #[.int .i64 0, .int .i64 0, .string ByteArray.empty, .slice none 0 0]], []⟩).memory :=
  laidMet_of_run' 8 (by kernel_rfl) (by kernel_rfl)
theorem reads (os : Os) {H : Type} (enc : TypeId × Value → H) : ∃ places, DataW.whole enc Tryd.prog ((laidWorld os).forCall (fun _ _ => 0) ⟨#[], #[.agg #[.int .i64 0, .int .i64 0, .string ByteArray.empty, .slice none 0 0]], []⟩).memory Tryd.f3.params.toList Rows.fnExactShowExpSpec.vars false #[Value.agg #[.int .i64 0, .int .i64 0, .string ByteArray.empty, .slice none 0 0]].toList 8 = some ([.agg [.lit (.int .i64 0), .lit (.int .i64 0), .lit (.string []), .nil]], [], places) :=
  ⟨[], by kernel_rfl⟩

theorem lifted (os : Os) (started : os.Started) (H : Type) (enc : TypeId × Value → H) (F : Stop.Interp) :
    ReturnsInHanded {} Tryd.checked os 3 .any ((OpenSpec.ofChange Rows.fnExactShowExpSpec).preRow enc Tryd.prog Tryd.f3 Rows.fnExactShowExpRow.domain false Rows.fnExactShowExpRow.laid) (((OpenSpec.ofChange Rows.fnExactShowExpSpec).at F).post enc Tryd.prog Tryd.f3 false true false false) := by
  obtain ⟨places, hx⟩ := reads os enc
  refine returnsInHanded_of_row (C := Tryd.checked) (s := OpenSpec.ofChange Rows.fnExactShowExpSpec) own started (by kernel_rfl) Tryd.func3
    (witness_row_at (enc := enc) (C := Tryd.checked) false (laidWorld os) #[.agg #[.int .i64 0, .int .i64 0, .string ByteArray.empty, .slice none 0 0]] rfl (by kernel_rfl) (by kernel_rfl) (by kernel_rfl)
      (OpenSpec.preRow_of_cond 8 hx (by kernel_rfl) (fun k hk => by cases hk) (by kernel_rfl) (laid_met os))) ?_
  intro W base args ds gs before hval hW _ _ _ hL _ _
  exact contract H enc W base args ds gs before hval hW hL

theorem said : Rows.FnExactShowExpSaid :=
  OpenClaim.holds_of_cond 3 Tryd.f3 rfl rfl rfl rfl rfl rfl rfl ⟨rfl, rfl, rfl, rfl, rfl⟩ rfl rfl rfl rfl rfl (by kernel_rfl) Tryd.func3 (by kernel_rfl)
    (of_decide_eq_true (by kernel_rfl)) (by unfold Func.isWrapper; first | (rw [if_pos (by decide +kernel)]; kernel_rfl) | (rw [if_neg (by decide +kernel)]; exact ⟨rfl, rfl⟩))
    (fun os started H enc _ F => by rw [OpenClaim.pre_eq_preRow]; exact lifted os started H enc F)

theorem plain (f : FuncId) (fn : Func) (hf : Tryd.pinned.checked.prog.funcNamed "loop.example/g00303/laws.FnExactShowExp" = some f) (hfn : Tryd.pinned.checked.prog.funcs[f]? = some fn) :
    false = Tryd.pinned.checked.prog.looks [] ∧ ∀ (j : Nat) t, fn.params[j]? = some t → Tryd.pinned.checked.prog.wantsStandIn t = false := by
  obtain rfl : f = 3 := Option.some.inj ((show Tryd.prog.funcNamed "loop.example/g00303/laws.FnExactShowExp" = some 3 by kernel_rfl).symm.trans hf) |>.symm
  obtain rfl : fn = Tryd.f3 := (Option.some.inj (Tryd.func3.symm.trans hfn)).symm
  refine ⟨by kernel_rfl, fun j t ht => ?_⟩
  rw [Tryd.params3] at ht
  obtain rfl : t = 24 := by simpa using Array.mem_of_getElem? ht
  exact (show Tryd.prog.wantsStandIn 24 = false by kernel_rfl)
end fnExactShowExp

theorem fnExactShowExp_holds : Rows.FnExactShowExpCardSaid :=
  Claim7.holds_tied_plain_at .later [] _ _ _ _ fnExactShowExp.said (fun _ h => by cases h) (by kernel_rfl) (fun _ h => by cases h) fnExactShowExp_row_tie rfl ⟨rfl, rfl⟩ (by kernel_rfl) rfl fnExactShowExp.plain (by kernel_rfl)
#print axioms fnExactShowExp_holds
end Go.Proofs.YtfldnonifhedgaaDoor
