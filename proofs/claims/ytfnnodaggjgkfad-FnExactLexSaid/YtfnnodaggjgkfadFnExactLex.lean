/-
  At every text the program's Lex answers as the specification's Lex, word by word, its answer lies in memory of its own and stands behind another call, and the law's call changes nothing that was there; for every text that can be read, with no further condition (above 1048576 bytes the law says true at once).
-/
import Derived.Test.YtfnnodaggjgkfadMarkTok
import Derived.ProofKit
import Derived.OpenShut
import Derived.ShutString
namespace Go.Proofs.Ytfnnodaggjgkfad.fnExactLex
open Go.ChangeShapes Go.WideShapes Go.ChangeAt Go.RowKit
open Go.ChangeMaps (open_string shut_string)

theorem own : ownKnob Try.prog.godebug = none := by kernel_rfl

theorem row_below {w w' : World} {base : Nat} {e : TypeId} {size : Nat} {v : Value} {n : Nat} {xs : List Value} (h : w.ownsRow base e size v n xs) (hb : Below w.heap.size w w') : w'.ownsRow base e size v n xs := row_none h (grown_of_below hb)

theorem row_apart {w w' : World} {B1 B2 : Nat} {e e' : TypeId} {size size' : Nat} {v v' : Value} {n n' : Nat} {xs xs' : List Value} (h : w.ownsRow B1 e size v n xs) (hlt : ∀ k, v.ownBlock = some k → k < B2) (h' : w.ownsRow B2 e' size' v' n' xs') (hg : w.grownBy w' v'.ownBlock) : w'.ownsRow B1 e size v n xs := by
  refine h.kept hg ?_
  cases hv : v.ownBlock with
  | none => exact .inl rfl
  | some k =>
    refine .inr (fun e1 => ?_)
    have h1 := hlt k hv
    have h2 := (h'.lt k e1.symm).1
    omega

theorem lexS_len (s : ByteArray) : ∀ (f i : Nat) (ln : Int) (acc : List Tok), (lexS s f i ln acc).1.length ≤ acc.length + f
  | 0, i, ln, acc => by simp [lexS]
  | f + 1, i, ln, acc => by
    have h1 := lexS_len s f (i + 1) ln acc
    have h2 := lexS_len s f (i + 1) (ln + 1) acc
    have h3 := lexS_len s f (i + (firstNx (s.extract i s.size)).len) ln (acc ++ [(firstNx (s.extract i s.size)).tok ln])
    rw [List.length_append, List.length_singleton] at h3
    rw [lexS]
    split
    · split
      · omega
      · split
        · omega
        · split
          · simp
          · omega
    · simp
theorem lexR_len (s : ByteArray) : (lexR s).1.length ≤ 2000 := by
  unfold lexR
  split
  · simp
  · have := lexS_len s s.size 0 1 []
    simp at this
    omega

set_option maxRecDepth 100000 in
set_option maxHeartbeats 3200000 in
theorem walk (a0 : ByteArray) (w0 : a0.size ≤ maxLen) (w : World) :
    Calls Try.prog 4 #[.string a0] w fun e w' => e = .returned (.bool true) ∧ Below w.heap.size w w' := by
  unfold maxLen at w0
  by_cases hb : (1048576 : Int) < (a0.size : Int)
  · go_enter Try.func4, Try.ntmps4
    go_wp2
    go_ret
    exact ⟨rfl, Below.refl _ _⟩
  have hs : a0.size ≤ 1048576 := by omega
  have hlen := lexR_len a0
  have hspec := specLex_any a0
  have himpl := Lex_any a0
  have hnot := hn_not
  generalize lexR a0 = R at *
  obtain ⟨ts, ln⟩ := R
  simp only at hlen hspec himpl
  have HSp := (show Hid (∀ w : World, a0.size ≤ 1048576 → _) from hspec)
  have HIm := (show Hid (∀ w : World, a0.size ≤ 1048576 → _) from himpl)
  clear hspec himpl
  have hne : (ln != ln) = false := by simp
  have hn1 : ¬ (1 + 4 * ((ts.length : Nat) : Int)) < 0 := by omega
  have hn2 : ((1 + 4 * ((ts.length : Nat) : Int)) != (1 + 4 * ((ts.length : Nat) : Int))) = false := by simp
  go_enter Try.func4, Try.ntmps4
  go_wp2_with fail
  refine (HSp.out _ hs).mono ?_
  rintro e w1 ⟨v0, rfl, hr0, hb1⟩
  go_wp2_with fail
  refine (HIm.out _ hs).mono ?_
  rintro e w2 ⟨vg, rfl, hrg, hb2⟩
  have hr0a := row_below hr0 hb2
  have hlt0 : ∀ k, v0.ownBlock = some k → k < w1.heap.size := fun k hk => (hr0.lt k hk).2
  clear hr0
  have hB2 : Below w.heap.size w w2 := hb1.trans (hb2.mono hb1.size)
  have hs1 := hb1.size
  have hs2 := hb2.size
  clear hb1 hb2
  go_wp2_with fail
  refine (eqTokenS_same _ _ vg v0 ts _ (by omega) hrg hr0a).mono ?_
  rintro e w3 ⟨rfl, hb3⟩
  have hrg3 := row_below hrg hb3
  have hr03 := row_below hr0a hb3
  have hB3 : Below w.heap.size w w3 := hB2.trans (hb3.mono hB2.size)
  have hs3 := hb3.size
  clear hrg hr0a hb3 hB2
  go_wp2_with fail
  refine (markTokenS_any _ vg ts.length _ 1 _ (by omega) (by omega) (by omega) hrg3).mono ?_
  rintro e w4 ⟨rfl, hrg4, hg4⟩
  have hr04 := row_apart hr03 hlt0 hrg3 hg4
  have hs4 := hg4.size
  have hB4 : Below w.heap.size w w4 := hB3.grown hg4 (by omega) (fun k hk => by have := (hrg3.lt k hk).1; omega)
  clear hrg3 hr03 hg4 hB3
  go_wp2_with fail
  refine (heldTokenS_any _ vg ts.length 1 _ (by omega) (by omega) (by omega) hrg4).mono ?_
  rintro e w5 ⟨rfl, hb5⟩
  have hrg5 := row_below hrg4 hb5
  have hr05 := row_below hr04 hb5
  have hB5 : Below w.heap.size w w5 := hB4.trans (hb5.mono hB4.size)
  clear hrg4 hr04 hb5 hB4
  go_wp2_with fail
  refine (HIm.out _ hs).mono ?_
  rintro e w6 ⟨vh, rfl, hrh, hb6⟩
  have hrg6 := row_below hrg5 hb6
  have hr06 := row_below hr05 hb6
  have hB6 : Below w.heap.size w w6 := hB5.trans (hb6.mono hB5.size)
  clear hrg5 hr05 hb6 hB5
  go_wp2_with fail
  refine (eqTokenS_same _ _ vh v0 ts _ (by omega) hrh hr06).mono ?_
  rintro e w7 ⟨rfl, hb7⟩
  have hrg7 := row_below hrg6 hb7
  have hB7 : Below w.heap.size w w7 := hB6.trans (hb7.mono hB6.size)
  clear hrg6 hr06 hrh hb7 hB6
  go_wp2_with fail
  refine (heldTokenS_any _ vg ts.length 1 _ (by omega) (by omega) (by omega) hrg7).mono ?_
  rintro e w8 ⟨rfl, hb8⟩
  have hB8 : Below w.heap.size w w8 := hB7.trans (hb8.mono hB7.size)
  clear hrg7 hb8 hB7
  go_wp2
  go_ret
  exact ⟨rfl, hB8⟩

set_option maxRecDepth 100000 in
theorem lifted (os : Os) (started : os.Started) (H : Type) (enc : TypeId × Value → H) :
    ReturnsInHanded {} Try.checked os 4 .any (Rows.fnExactLexSpec.pre6 enc Try.prog Try.f4 Rows.fnExactLexRow.domain false) (Rows.fnExactLexSpec.post enc Try.prog Try.f4 false true false false) := by
  refine returnsInHanded_of_change (C := Try.checked) own started (by kernel_rfl) Try.func4
    (ChangeSpec.witness6 (enc := enc) (C := Try.checked) false ⟨#[], #[.string ByteArray.empty], []⟩ 8 (by kernel_rfl) (by kernel_rfl) (by kernel_rfl) (by kernel_rfl)) ?_
  intro W base args ds gs before hval0 hW hcnd _
  have hval : ∀ (j : Nat) t v, Try.f4.params[j]? = some t → args[j]? = some v → Value.okWide Try.prog W .any base t v := hval0
  have hW' := hW
  obtain ⟨p, q, hA0, hV, rfl, hfz, hnd⟩ := hW
  have hA : DataW.TrodAll enc Try.prog W 0 (fun _ => true) true Try.f4.params.toList args.toList ds p := hA0
  rw [Try.params4] at hA hval
  obtain ⟨v0, vs0, d0, ds0, p0, q0, hargs, rfl, rfl, h0, r0⟩ := trodAll_cons hA
  obtain ⟨rfl, rfl, rfl⟩ := trodAll_nil r0
  obtain rfl : args = #[v0] := by cases args; simp_all
  obtain ⟨rfl, rfl⟩ := trodVars_none hV
  obtain ⟨a0, rfl, rfl, rfl, w0⟩ := open_string Try.underlying9 (hval 0 9 v0 rfl rfl) h0
  clear hA0 hval0
  refine (walk a0 w0 W).mono fun e W' ⟨he, bel⟩ => ?_
  subst he
  exact ⟨_, rfl, _, _, _, [], [], [], hW', trodAll_mk1 (shut_bool Try.underlying4 _), (trodAll_cons_mk (shut_string Try.underlying9 w0) trodAll_mk0), rfl, bel.frame _, fun h => by cases h⟩

theorem over : Rows.fnExactLexRow.holds Try.pinned (OpenSpec.ofChange Rows.fnExactLexSpec) :=
  OpenClaim.holds_of_wide 4 Try.f4 rfl rfl rfl rfl rfl rfl rfl ⟨rfl, rfl, rfl, rfl, rfl⟩ rfl rfl rfl rfl rfl (by kernel_rfl) Try.func4 (by kernel_rfl)
    (of_decide_eq_true (by kernel_rfl)) (by unfold Func.isWrapper; first | (rw [if_pos (by decide +kernel)]; kernel_rfl) | (rw [if_neg (by decide +kernel)]; exact ⟨rfl, rfl⟩))
    (fun os started H enc _ => lifted os started H enc)

end Go.Proofs.Ytfnnodaggjgkfad.fnExactLex
namespace Go.Proofs.Ytfnnodaggjgkfad
theorem fnExactLex_holds : Rows.FnExactLexSaid := fnExactLex.over
#print axioms fnExactLex_holds
end Go.Proofs.Ytfnnodaggjgkfad
