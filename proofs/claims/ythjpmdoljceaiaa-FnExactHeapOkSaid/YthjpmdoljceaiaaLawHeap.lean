/-
  The law of HeapOk, for any program whose HeapOk answers as the plain words say.
-/
import Derived.Test.YthjpmdoljceaiaaCellsTo
import Derived.Test.YthjpmdoljceaiaaCellsEq
import Derived.Test.YthjpmdoljceaiaaCellsOpen
import Derived.Test.YthjpmdoljceaiaaSpecHeap
import Derived.ChangeOld
namespace Go.Proofs.Ythjpmdoljceaiaa.fnExactHeapOk
open Go.ChangeShapes Go.WideShapes Go.ChangeAt Go.RowKit Go.Joins

set_option maxRecDepth 100000

/-- What the program's function must fulfil. -/
def Impl : Prop := ∀ (v : Value) (es : List Ce) (p : Int) (n0 : Nat) (w : World), CellsAt w (fun b => n0 ≤ b ∧ Pl w b) v es → bulkL es ≤ 1048576 → inI64 p →
  Calls Try.prog 10 #[v, .int .i64 p] w fun e w' => e = .returned (.bool (heapOk es p)) ∧ Below w.heap.size w w'

set_option maxHeartbeats 6400000 in
theorem walk (himpl : Impl) (v : Value) (es : List Ce) (p : Int) (w : World) (h : CellsAt w (fun _ => True) v es) (hp : inI64 p) :
    Calls Try.prog 3 #[v, .int .i64 p] w fun e w' => e = .returned (.bool true) ∧ Below w.heap.size w w' := by
  have H1 : Hid (CellsAt w (fun _ => True) v es) := h
  have HI := (show Hid (_ ∧ _) from ⟨himpl, hp⟩)
  obtain ⟨a1, c1, rfl⟩ := h.form
  clear h himpl hp
  go_enter Try.func3, Try.ntmps3
  go_wp2_with fail
  refine (szCellS_any _ es _ _ _ H1.out (by omega) (by omega)).mono ?_
  rintro e w3 ⟨rfl, b3⟩
  by_cases hx : bulkL es ≤ 1048576
  · have hr : szR 1048576 (bulkL es) = 1048576 - bulkL es := by unfold szR; rw [if_pos (by omega)]
    rw [hr]
    have hr0 : ¬ (1048576 : Int) - bulkL es < 0 := by omega
    have hlen : es.length ≤ bulkL es := Nat.le_add_right _ _
    clear hr
    go_wp2_with fail
    refine (toCellS_any _ es _ _ (H1.out.below b3) hx).mono ?_
    rintro e w4 ⟨v4, rfl, p4, d4⟩
    have b4 : Below w.heap.size w w4 := b3.trans (d4.mono b3.size)
    obtain ⟨a4, c4, rfl⟩ := p4.form
    have HP4 := (show Hid (_ ∧ True) from ⟨p4, trivial⟩)
    clear d4 p4 b3
    go_wp2_with fail
    refine (specHeap_any _ es p _ _ HP4.out.1 (by omega)).mono ?_
    rintro e w5 ⟨rfl, d5⟩
    have b5 : Below w.heap.size w w5 := b4.trans (d5.mono b4.size)
    clear d5 HP4 b4
    go_wp2_with fail
    refine (toCellS_any _ es _ _ (H1.out.below b5) hx).mono ?_
    rintro e w6 ⟨v6, rfl, p6, d6⟩
    have b6 : Below w.heap.size w w6 := b5.trans (d6.mono b5.size)
    obtain ⟨a6, c6, rfl⟩ := p6.form
    have HP6 := (show Hid (_ ∧ _) from ⟨p6, b6⟩)
    clear d6 p6 b5 b6
    go_wp2_with fail
    refine (HI.out.1 _ es p _ _ HP6.out.1 hx HI.out.2).mono ?_
    rintro e w7 ⟨rfl, d7⟩
    have b7 : Below w.heap.size w w7 := HP6.out.2.trans (d7.mono HP6.out.2.size)
    have HE7 := (show Hid (_ ∧ _) from ⟨HP6.out.1.belowP d7, b7⟩)
    clear d7 b7 HP6
    have hnot := ex_not
    have hss : ((heapOk es p) != (heapOk es p)) = false := by simp
    generalize (heapOk es p) = q at *
    go_wp2_with fail
    refine (toCellS_any _ es _ _ (H1.out.below HE7.out.2) hx).mono ?_
    rintro e w8 ⟨v8, rfl, p8, d8⟩
    obtain ⟨a8, c8, rfl⟩ := p8.form
    have HP8 := (show Hid (_ ∧ _) from ⟨p8, d8⟩)
    clear p8 d8
    go_wp2_with fail
    refine (eqCellS_any _ _ es _ _ _ (HE7.out.1.below HP8.out.2) HP8.out.1 (by omega)).mono ?_
    rintro e w9 ⟨rfl, d9⟩
    have b8 : Below w.heap.size w w8 := HE7.out.2.trans (HP8.out.2.mono HE7.out.2.size)
    have b9 : Below w.heap.size w w9 := b8.trans (d9.mono b8.size)
    clear d9 b8
    go_wp2
    go_ret
    exact ⟨rfl, b9⟩
  · have hr : szR 1048576 (bulkL es) = -1 := by unfold szR; rw [if_neg (by omega)]
    rw [hr]
    go_wp2
    go_ret
    exact ⟨rfl, b3⟩

theorem own : ownKnob Try.prog.godebug = none := by kernel_rfl
theorem laidOut : laidOutB Try.prog = true := by kernel_rfl

theorem lifted (himpl : Impl) (os : Os) (started : os.Started) (H : Type) (enc : TypeId × Value → H) :
    ReturnsInHanded {} Try.checked os 3 .any (Rows.fnExactHeapOkSpec.pre6 enc Try.prog Try.f3 Rows.fnExactHeapOkRow.domain false) (Rows.fnExactHeapOkSpec.post enc Try.prog Try.f3 false true false false) := by
  refine returnsInHanded_of_change (C := Try.checked) own started (by kernel_rfl) Try.func3
    (ChangeSpec.witness6 (enc := enc) (C := Try.checked) false ⟨#[], #[.slice none 0 0, .int .i64 0], []⟩ 8 (by kernel_rfl) (by kernel_rfl) (by kernel_rfl) (by kernel_rfl)) ?_
  intro W base args ds gs before hval0 hW hcnd _
  have hval : ∀ (j : Nat) t v, Try.f3.params[j]? = some t → args[j]? = some v → Value.okWide Try.prog W .any base t v := hval0
  have hW' := hW
  obtain ⟨p, q, hA0, hV, rfl, hfz, hnd⟩ := hW
  have hA : DataW.TrodAll enc Try.prog W 0 (fun _ => true) true Try.f3.params.toList args.toList ds p := hA0
  rw [Try.params3] at hA hval
  obtain ⟨v0, vs0, d0, ds0, p0, q0, hargs, rfl, rfl, h0, r0⟩ := trodAll_cons hA
  obtain ⟨v1, vs1, d1, ds1, p1, q1, hargs1, rfl, rfl, h1, r1⟩ := trodAll_cons r0
  obtain ⟨rfl, rfl, rfl⟩ := trodAll_nil r1
  obtain rfl : args = #[v0, v1] := by cases args; simp_all
  obtain ⟨rfl, rfl⟩ := trodVars_none hV
  have k0 := h0
  have k1 := h1
  have lt0 : ∀ x ∈ p0, x.block < W.heap.size := by obtain ⟨m, hm⟩ := k0; exact DataW.trod_lt m _ _ _ hm
  have lt1 : ∀ x ∈ p1, x.block < W.heap.size := by obtain ⟨m, hm⟩ := k1; exact DataW.trod_lt m _ _ _ hm
  obtain ⟨a0, len0, cap0, rfl⟩ := okWide_slice Try.underlying22 (hval 0 22 v0 rfl rfl)
  obtain ⟨n1, rfl⟩ := okWide_int Try.underlying3 (hval 1 3 v1 rfl rfl)
  obtain ⟨m0, hm0⟩ := h0
  obtain ⟨m1, hm1⟩ := h1
  obtain ⟨v0', es, hv0, hes⟩ := open_cells m0 _ _ hm0
  obtain rfl : Value.slice a0 len0 cap0 = v0' := (List.cons.inj (show [Value.slice a0 len0 cap0] = [v0'] from hv0)).1
  obtain ⟨k, hk, _, wk⟩ := DataW.trod_int Try.underlying3 (show DataW.trod enc Try.prog W 0 (fun _ => true) true m1 3 [.int .i64 n1] = some (d1, p1) from hm1)
  obtain rfl : n1 = k := by simpa using hk
  clear hA0 hval0
  refine (walk himpl _ es n1 W hes (bounds_i64 wk)).mono fun e W' ⟨he, bel⟩ => ?_
  subst he
  exact ⟨_, rfl, _, _, _, [], _, [], hW', trodAll_mk1 (shut_bool Try.underlying4 _), (trodAll_cons_mk (Below.trod laidOut (by kernel_rfl) (of_decide_eq_true (by kernel_rfl)) k0 bel lt0) (trodAll_cons_mk (Below.trod laidOut (by kernel_rfl) (of_decide_eq_true (by kernel_rfl)) k1 bel lt1) trodAll_mk0)), rfl, bel.frame _, fun h => by cases h⟩

theorem over (himpl : Impl) : Rows.fnExactHeapOkRow.holds Try.pinned (OpenSpec.ofChange Rows.fnExactHeapOkSpec) :=
  OpenClaim.holds_of_wide 3 Try.f3 rfl rfl rfl rfl rfl rfl rfl ⟨rfl, rfl, rfl, rfl, rfl⟩ rfl rfl rfl rfl rfl (by kernel_rfl) Try.func3 (by kernel_rfl)
    (of_decide_eq_true (by kernel_rfl)) (by unfold Func.isWrapper; first | (rw [if_pos (by decide +kernel)]; kernel_rfl) | (rw [if_neg (by decide +kernel)]; exact ⟨rfl, rfl⟩))
    (fun os started H enc _ => lifted himpl os started H enc)
end Go.Proofs.Ythjpmdoljceaiaa.fnExactHeapOk
