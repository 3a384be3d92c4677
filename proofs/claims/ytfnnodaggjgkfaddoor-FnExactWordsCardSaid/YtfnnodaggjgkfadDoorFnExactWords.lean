/-
  At every text the program's Words answers as the specification's Words, part by part, its answer lies in memory of its own and stands behind another call, and the law's call changes nothing that was there; the library's tables that the row lists hold what the program's text lays, and the card ties that; no further condition.
-/
import Derived.Test.YtfnnodaggjgkfadDoorLaid
import Derived.Test.YtfnnodaggjgkfadDoorStrRows
namespace Go.Proofs.YtfnnodaggjgkfadDoor
open Go.ChangeShapes Go.WideShapes Go.ChangeAt Go.RowKit

namespace fnExactWords
theorem row_below {w w' : World} {base : Nat} {e : TypeId} {size : Nat} {v : Value} {n : Nat} {xs : List Value} (h : w.ownsRow base e size v n xs) (hb : Below w.heap.size w w') : w'.ownsRow base e size v n xs :=
  h.kept (sgrown_of_below hb (row := .none)) (by cases hv : v.ownBlock <;> simp)

theorem row_apart {w w' : World} {B1 B2 : Nat} {e e' : TypeId} {size size' : Nat} {v v' : Value} {n n' : Nat} {xs xs' : List Value} (h : w.ownsRow B1 e size v n xs) (hlt : ∀ k, v.ownBlock = some k → k < B2) (h' : w.ownsRow B2 e' size' v' n' xs') (hg : w.grownBy w' v'.ownBlock) : w'.ownsRow B1 e size v n xs := by
  refine h.kept hg ?_
  cases hv : v.ownBlock with
  | none => exact .inl rfl
  | some k =>
    refine .inr (fun e1 => ?_)
    have h1 := hlt k hv
    have h2 := (h'.lt k e1.symm).1
    omega

set_option maxRecDepth 100000 in
set_option maxHeartbeats 3200000 in
theorem walk (a0 : ByteArray) (w0 : a0.size ≤ maxLen) (w : World) (m : Int) (hm : w.cell? ⟨1, 0, none⟩ = some (.int .i64 m)) :
    Calls Tryd.prog 5 #[.string a0] w fun e w' => e = .returned (.bool true) ∧ Below w.heap.size w w' := by
  unfold maxLen at w0
  have hml := World.block_lt_of_cell? _ _ hm
  have HM : Hid (w.cell? ⟨1, 0, none⟩ = some (.int .i64 m)) := hm
  clear hm
  by_cases hb : (1048576 : Int) < (a0.size : Int)
  · go_enter Tryd.func5, Tryd.ntmps5
    go_wp2
    go_ret
    exact ⟨rfl, Below.refl _ _⟩
  have hs : a0.size ≤ 1048576 := by omega
  have hlen := wordsL_le a0
  have hspec := specWords_any a0
  have himpl := Words_any a0
  have hnot := s_not
  generalize wordsL a0 = ts at *
  have HSp := (show Hid (∀ w : World, a0.size ≤ 1048576 → _) from hspec)
  have HIm := (show Hid (∀ w : World, a0.size ≤ 1048576 → _) from himpl)
  clear hspec himpl
  have hn1 : ¬ (1 + ((ts.length : Nat) : Int)) < 0 := by omega
  have hn2 : ((1 + ((ts.length : Nat) : Int)) != (1 + ((ts.length : Nat) : Int))) = false := by simp
  go_enter Tryd.func5, Tryd.ntmps5
  go_wp2_with fail
  refine (HSp.out _ hs).mono ?_
  rintro e w1 ⟨v0, rfl, hr0, hb1⟩
  go_wp2_with fail
  refine (HIm.out _ hs m ((hb1.cell (by exact hml)).trans HM.out)).mono ?_
  rintro e w2 ⟨vg, rfl, hrg, hb2⟩
  have hr0a := row_below hr0 hb2
  have hlt0 : ∀ k, v0.ownBlock = some k → k < w1.heap.size := fun k hk => (hr0.lt k hk).2
  clear hr0
  have hB2 : Below w.heap.size w w2 := hb1.trans (hb2.mono hb1.size)
  have hs1 := hb1.size
  have hs2 := hb2.size
  clear hb1 hb2
  go_wp2_with fail
  refine (eqStringS_same _ _ vg v0 ts _ (by omega) hrg hr0a).mono ?_
  rintro e w3 ⟨rfl, hb3⟩
  have hrg3 := row_below hrg hb3
  have hr03 := row_below hr0a hb3
  have hB3 : Below w.heap.size w w3 := hB2.trans (hb3.mono hB2.size)
  have hs3 := hb3.size
  clear hrg hr0a hb3 hB2
  go_wp2_with fail
  refine (markStringS_any _ vg ts.length _ 1 _ (by omega) (by omega) (by omega) hrg3).mono ?_
  rintro e w4 ⟨rfl, hrg4, hg4⟩
  have hr04 := row_apart hr03 hlt0 hrg3 hg4
  have hs4 := hg4.size
  have hB4 : Below w.heap.size w w4 := hB3.grown hg4 (by omega) (fun k hk => by have := (hrg3.lt k hk).1; omega)
  clear hrg3 hr03 hg4 hB3
  go_wp2_with fail
  refine (heldStringS_any _ vg ts.length 1 _ (by omega) (by omega) (by omega) hrg4).mono ?_
  rintro e w5 ⟨rfl, hb5⟩
  have hrg5 := row_below hrg4 hb5
  have hr05 := row_below hr04 hb5
  have hB5 : Below w.heap.size w w5 := hB4.trans (hb5.mono hB4.size)
  clear hrg4 hr04 hb5 hB4
  go_wp2_with fail
  refine (HIm.out _ hs m ((hB5.cell (by exact hml)).trans HM.out)).mono ?_
  rintro e w6 ⟨vh, rfl, hrh, hb6⟩
  have hrg6 := row_below hrg5 hb6
  have hr06 := row_below hr05 hb6
  have hB6 : Below w.heap.size w w6 := hB5.trans (hb6.mono hB5.size)
  clear hrg5 hr05 hb6 hB5
  go_wp2_with fail
  refine (eqStringS_same _ _ vh v0 ts _ (by omega) hrh hr06).mono ?_
  rintro e w7 ⟨rfl, hb7⟩
  have hrg7 := row_below hrg6 hb7
  have hB7 : Below w.heap.size w w7 := hB6.trans (hb7.mono hB6.size)
  clear hrg6 hr06 hrh hb7 hB6
  go_wp2_with fail
  refine (heldStringS_any _ vg ts.length 1 _ (by omega) (by omega) (by omega) hrg7).mono ?_
  rintro e w8 ⟨rfl, hb8⟩
  have hB8 : Below w.heap.size w w8 := hB7.trans (hb8.mono hB7.size)
  clear hrg7 hb8 hB7
  go_wp2
  go_ret
  exact ⟨rfl, hB8⟩

theorem contract (H : Type) (enc : TypeId × Value → H) (W : World) (base : Nat) (args : Array Value) (ds gs : List (DataW H)) (before : List MemPlace)
    (hval : ∀ (j : Nat) t v, Tryd.f5.params[j]? = some t → args[j]? = some v → Value.okWide Tryd.prog W .any base t v)
    (hW : DataW.Whole enc Tryd.prog Tryd.f5.params.toList Rows.fnExactWordsSpec.vars false W args.toList ds gs before) (hsh : W.ShapedOpen Tryd.prog) :
    Calls Tryd.prog 5 args W fun e W' => ∃ v, e = .returned v ∧ Rows.fnExactWordsSpec.post enc Tryd.prog Tryd.f5 false true false false W args v W' := by
  have hW' := hW
  obtain ⟨p, q, hA0, hV, rfl, hfz, hnd⟩ := hW
  have hA : DataW.TrodAll enc Tryd.prog W 0 (fun _ => true) true Tryd.f5.params.toList args.toList ds p := hA0
  rw [Tryd.params5] at hA hval
  obtain ⟨v0, vs0, d0, ds0, p0, q0, hargs, rfl, rfl, h0, r0⟩ := trodAll_cons hA
  obtain ⟨rfl, rfl, rfl⟩ := trodAll_nil r0
  obtain rfl : args = #[v0] := by cases args; simp_all
  obtain ⟨rfl, rfl⟩ := trodVars_none hV
  obtain ⟨n, rfl, rfl, rfl, wn⟩ := Go.ChangeMaps.open_string Tryd.underlying9 (hval 0 9 v0 rfl rfl) h0
  clear hA0
  obtain ⟨m, hm⟩ := cell_of_shapedOpen_int (P := Tryd.prog) (g := 1) (t := 3) (zero := #[.int .i64 0]) hsh (of_decide_eq_true (by kernel_rfl)) (by kernel_rfl) rfl (by kernel_rfl) (by kernel_rfl) Tryd.underlying3
  refine (walk n wn W m hm).mono fun e W' ⟨he, bel⟩ => ?_
  subst he
  exact ⟨_, rfl, _, _, _, [], [], [], hW', trodAll_mk1 (shut_bool Tryd.underlying4 _), (trodAll_cons_mk (Go.ChangeMaps.shut_string Tryd.underlying9 wn) trodAll_mk0), rfl, bel.frame _, fun h => by cases h⟩

theorem laid_met (os : Os) : laidMet Tryd.prog Rows.fnExactWordsRow.laid ((laidWorld os).forCall (fun _ _ => 0) ⟨#[], #[.string ByteArray.empty], []⟩).memory :=
  laidMet_of_run' 8 (by kernel_rfl) (by kernel_rfl)
theorem reads (os : Os) {H : Type} (enc : TypeId × Value → H) : ∃ places, DataW.whole enc Tryd.prog ((laidWorld os).forCall (fun _ _ => 0) ⟨#[], #[.string ByteArray.empty], []⟩).memory Tryd.f5.params.toList Rows.fnExactWordsSpec.vars false #[Value.string ByteArray.empty].toList 8 = some ([.lit (.string [])], [], places) :=
  ⟨[], by kernel_rfl⟩

set_option maxRecDepth 100000 in
theorem lifted (os : Os) (started : os.Started) (H : Type) (enc : TypeId × Value → H) (F : Stop.Interp) :
    ReturnsInHanded {} Tryd.checked os 5 .any ((OpenSpec.ofChange Rows.fnExactWordsSpec).preRow enc Tryd.prog Tryd.f5 Rows.fnExactWordsRow.domain false Rows.fnExactWordsRow.laid) (((OpenSpec.ofChange Rows.fnExactWordsSpec).at F).post enc Tryd.prog Tryd.f5 false true false false) := by
  obtain ⟨places, hx⟩ := reads os enc
  refine returnsInHanded_of_row (C := Tryd.checked) (s := OpenSpec.ofChange Rows.fnExactWordsSpec) own started (by kernel_rfl) Tryd.func5
    (witness_row_at (enc := enc) (C := Tryd.checked) false (laidWorld os) #[.string ByteArray.empty] rfl (by kernel_rfl) (by kernel_rfl) (by kernel_rfl)
      (OpenSpec.preRow_of_cond 8 hx (by kernel_rfl) (fun k hk => by cases hk) (by kernel_rfl) (laid_met os))) ?_
  intro W base args ds gs before hval hW _ _ _ _ hsh _
  exact contract H enc W base args ds gs before hval hW hsh

theorem said : Rows.FnExactWordsSaid :=
  OpenClaim.holds_of_cond 5 Tryd.f5 rfl rfl rfl rfl rfl rfl rfl ⟨rfl, rfl, rfl, rfl, rfl⟩ rfl rfl rfl rfl rfl (by kernel_rfl) Tryd.func5 (by kernel_rfl)
    (of_decide_eq_true (by kernel_rfl)) (by unfold Func.isWrapper; first | (rw [if_pos (by decide +kernel)]; kernel_rfl) | (rw [if_neg (by decide +kernel)]; exact ⟨rfl, rfl⟩))
    (fun os started H enc _ F => by rw [OpenClaim.pre_eq_preRow]; exact lifted os started H enc F)

theorem plain (f : FuncId) (fn : Func) (hf : Tryd.pinned.checked.prog.funcNamed "loop.example/g00303/laws.FnExactWords" = some f) (hfn : Tryd.pinned.checked.prog.funcs[f]? = some fn) :
    false = Tryd.pinned.checked.prog.looks [] ∧ ∀ (j : Nat) t, fn.params[j]? = some t → Tryd.pinned.checked.prog.wantsStandIn t = false := by
  obtain rfl : f = 5 := Option.some.inj ((show Tryd.prog.funcNamed "loop.example/g00303/laws.FnExactWords" = some 5 by kernel_rfl).symm.trans hf) |>.symm
  obtain rfl : fn = Tryd.f5 := (Option.some.inj (Tryd.func5.symm.trans hfn)).symm
  refine ⟨by kernel_rfl, fun j t ht => ?_⟩
  rw [Tryd.params5] at ht
  obtain rfl : t = 9 := by simpa using Array.mem_of_getElem? ht
  exact (show Tryd.prog.wantsStandIn 9 = false by kernel_rfl)
end fnExactWords

theorem fnExactWords_holds : Rows.FnExactWordsCardSaid :=
  Claim7.holds_tied_plain_at .later [] _ _ _ _ fnExactWords.said (fun _ h => by cases h) (by kernel_rfl) (fun _ h => by cases h) fnExactWords_row_tie rfl ⟨rfl, rfl⟩ (by kernel_rfl) rfl fnExactWords.plain (by kernel_rfl)
#print axioms fnExactWords_holds
end Go.Proofs.YtfnnodaggjgkfadDoor
