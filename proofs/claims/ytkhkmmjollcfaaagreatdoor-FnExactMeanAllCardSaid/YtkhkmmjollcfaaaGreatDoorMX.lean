/-
  What the program prints: the builder beside the evaluator.
  The program's print.
-/
import Derived.Test.YtkhkmmjollcfaaaGreatDoorRkAll
import Derived.Test.YtkhkmmjollcfaaaGreatDoorMW
import Derived.Test.YtkhkmmjollcfaaaGreatDoorImplDec
import Derived.Test.YtkhkmmjollcfaaaGreatDoorMK
namespace Go.Proofs.YtkhkmmjollcfaaaGreatDoor
open Go.RowKit Go.Joins

set_option maxRecDepth 100000

/-- A block that holds no bytes. -/
def NU (w : World) (k : Nat) : Prop := ∀ c fz, w.heap[k]? ≠ some (.cells c 5 fz)
/-- What stands when something is printed. -/
structure PI (w0 w : World) (S : Nat → Prop) (d rb tb B : Nat) (bv : Value) (P : List Ex) (l : List UInt8) : Prop where
  sv : SvI w S d rb bv P
  bl : BL B tb l w
  ntb : ¬ S tb
  bel : Below rb w0 w
  hB : B ≤ w.heap.size
  rbB : rb < B
  hw0 : w0.heap.size = rb
  tab : Lib.TabIs Tryz.prog w0 "internal/strconv.uint64pow10" .u64 Lib.pow10Tab
theorem BL.kb {B b rb : Nat} {l : List UInt8} {w w' : World} (h : BL B b l w) (hk : KB (· = rb) w w') (hrb : rb < B) : BL B b l w' := by
  have key : ∀ p, Lib.BuilderAtF 78 5 B b p (Lib.byteCells l) w → Lib.BuilderAtF 78 5 B b p (Lib.byteCells l) w' := by
    intro p h
    have hlt := h.lt
    obtain ⟨hB, v, hbk, hown, hne⟩ := h
    refine ⟨hB, v, (hk.block _ hlt (by omega)).trans hbk, hown.kept (row := some rb) ⟨hk.os, hk.tape, hk.output, hk.size, fun k hkl hn => hk.block k hkl (fun e => hn (by rw [e]))⟩ ?_, hne⟩
    cases hv : v.ownBlock with
    | none => exact .inl rfl
    | some k => exact .inr (fun e => by have := (hown.lt k hv).1; cases e; omega)
  exact h.elim (fun h => .inl (key _ h)) (fun h => .inr (key _ h))
theorem KB.belowRb {w0 w w' : World} {rb : Nat} (h : Below rb w0 w) (hk : KB (· = rb) w w') (hs : rb ≤ w.heap.size) : Below rb w0 w' :=
  h.trans ⟨hk.os, hk.tape, hk.output, hk.size, fun k hkl => hk.block k (by omega) (by omega)⟩
theorem PI.kb {w0 w w' : World} {S : Nat → Prop} {d rb tb B : Nat} {bv : Value} {P : List Ex} {l : List UInt8} (h : PI w0 w S d rb tb B bv P l) (hk : KB (· = rb) w w') : PI w0 w' S d rb tb B bv P l :=
  ⟨h.sv.move (Mv.kb hk (fun x hx hS => h.sv.rb (hx ▸ hS))) (fun x hx => h.sv.new x (by have := hk.size; omega)) h.sv.rb, h.bl.kb hk h.rbB, h.ntb, KB.belowRb h.bel hk (by have := h.hB; have := h.rbB; omega), by have := h.hB; have := hk.size; omega, h.rbB, h.hw0, h.tab⟩
theorem PI.tabW {w0 w : World} {S : Nat → Prop} {d rb tb B : Nat} {bv : Value} {P : List Ex} {l : List UInt8} (h : PI w0 w S d rb tb B bv P l) : Lib.TabIs Tryz.prog w "internal/strconv.uint64pow10" .u64 Lib.pow10Tab :=
  Lib.tabBelow_of_tabIs h.tab w (by rw [h.hw0]; exact h.bel)

/-- S, but no block that holds bytes now. -/
def nuS (rb : Nat) (w : World) (S : Nat → Prop) : Nat → Prop := fun x => S x ∧ (x < w.heap.size → x < rb ∨ NU w x)
theorem nu_of {w : World} {k : Nat} {cs : Array Value} {T : TypeId} {fz : Nat × Nat} (h : w.heap[k]? = some (.cells cs T fz)) (hT : T ≠ 5) : NU w k := fun c fz' e => by
  rw [h] at e
  simp only [Option.some.injEq, Obj.cells.injEq] at e
  exact hT e.2.1
theorem ExP.nu {w : World} {S : Nat → Prop} {d rb kb ko : Nat} {e : Ex} (h : ExP w S d rb kb ko e) : ExP w (nuS rb w S) d rb kb ko e := by
  obtain ⟨ka, kc, h1, h2, h3, h4, h5, h6, h7, h8⟩ := h
  exact ⟨ka, kc, ⟨h1, fun _ => Or.inl h8⟩, h2, h3, h4, h5, h6, h7.wide (fun b hb => ⟨⟨hb.1, fun _ => Or.inl hb.2⟩, hb.2⟩), h8⟩
theorem Cap.nu {w : World} {S : Nat → Prop} {d rb : Nat} {fv sv : Value} {e : Ex} (h : Cap w S d rb fv e sv) : Cap w (nuS rb w S) d rb fv e sv := by
  obtain ⟨b0, b1, b2, kb, ko, h1, ⟨s0, s1, s2⟩, l, c0, c1, c2, he⟩ := h
  exact ⟨b0, b1, b2, kb, ko, h1, ⟨⟨s0, fun _ => Or.inr (nu_of c0 (by decide))⟩, ⟨s1, fun _ => Or.inr (nu_of c1 (by decide))⟩, ⟨s2, fun _ => Or.inr (nu_of c2 (by decide))⟩⟩, l, c0, c1, c2, he.nu⟩
theorem ScAt.nu {w : World} {S : Nat → Prop} {d rb : Nat} : ∀ {m : Nat} {sv : Value} {env : List Clo}, ScAt w S d rb m sv env → ScAt w (nuS rb w S) d rb m sv env
  | 0, _, _, h => h.elim
  | m + 1, sv, env, h => by
    rcases h with h | ⟨env', c, sb, ov, fv, ev', h1, h2, h3, h4, h5, h6, h7⟩
    · exact Or.inl h
    · refine Or.inr ⟨env', c, sb, ov, fv, ev', h1, h2, ⟨h3, fun _ => Or.inr (nu_of h4 (by decide))⟩, h4, ScAt.nu h5, h6.nu, ?_⟩
      rcases h7 with h7 | ⟨h7, h8⟩
      · exact Or.inl h7
      · exact Or.inr ⟨h7, ScAt.nu h8⟩
theorem Ready.nu {w : World} {S : Nat → Prop} {d rb : Nat} {fv : Value} {c : Clo} (h : Ready w S d rb fv c) : Ready w (nuS rb w S) d rb fv c := by
  obtain ⟨ev', m, h1, h2⟩ := h
  exact ⟨ev', m, h1.nu, h2.nu⟩
/-- Something is written: what was delayed is as it was. -/
theorem PI.wrote {w0 w w' : World} {S : Nat → Prop} {d rb tb B : Nat} {bv : Value} {P : List Ex} {l l' : List UInt8} (h : PI w0 w S d rb tb B bv P l) (h1 : BL B tb l' w') (h2 : Below B w w') (h3 : Lib.OthersKept 5 (some tb) w w') :
    ∃ S', PI w0 w' S' d rb tb B bv P l' ∧ (∀ fv c, Ready w S d rb fv c → Ready w' S' d rb fv c) ∧ w'.heap[rb]? = w.heap[rb]? := by
  have g : Mv w w' (nuS rb w S) (fun x => nuS rb w S x ∧ ¬ (w.heap.size ≤ x ∧ x < w'.heap.size)) := by
    refine ⟨fun b hb hl => ?_, h2.size, fun b hb hl => ⟨hb, by omega⟩⟩
    rcases hb.2 hl with hlow | hnu
    · exact h2.block b (by have := h.rbB; omega)
    obtain ⟨o, ho⟩ : ∃ o, w.heap[b]? = some o := ⟨_, Array.getElem?_eq_getElem hl⟩
    rw [ho]
    exact h3 b o ho (fun e => h.ntb (by cases e; exact hb.1)) (fun c fz e => hnu c fz (by rw [ho, e]))
  refine ⟨_, ⟨⟨fun x hx => ⟨⟨h.sv.new x (by have := h2.size; omega), fun hl => by have := h2.size; omega⟩, by omega⟩, ?_, fun hk => h.sv.rb hk.1.1⟩, h1, fun hk => h.ntb hk.1.1, h.bel.trans (h2.mono (by have := h.rbB; omega)), by have := h.hB; have := h2.size; omega, h.rbB, h.hw0, h.tab⟩, fun fv c hrd => hrd.nu.move g, h2.block rb h.rbB⟩
  exact (h.sv.bodies.wide (fun b hb => (⟨⟨hb.1, fun _ => Or.inl hb.2⟩, hb.2⟩ : nuS rb w S b ∧ b < rb))).move (g.low rb)
end Go.Proofs.YtkhkmmjollcfaaaGreatDoor

namespace Go.Proofs.YtkhkmmjollcfaaaGreatDoor
open Go.RowKit Go.Joins

set_option maxRecDepth 100000

/-- What is printed of what was reckoned. -/
def prV (P : List Ex) (Bv b f : Nat) : Rs → Except Int (List UInt8) × Nat
  | .err k => (.error k, f)
  | .ok (.num n) => (.ok (Lib.itoa n), f)
  | .ok .nil => (.ok [91, 93], f)
  | .ok (.fn _ _ _) => (.ok [102, 117, 110], f)
  | .ok (.pair h t) =>
    match pr P Bv b f h with
    | (.error k, f1) => (.error k, f1)
    | (.ok s, f1) =>
      match pr P Bv b f1 t with
      | (.error k, f2) => (.error k, f2)
      | (.ok s', f2) => (.ok ([40] ++ s ++ [58] ++ s' ++ [41]), f2)
theorem pr_eq (P : List Ex) (Bv b f : Nat) (c : Clo) : pr P Bv (b + 1) f c = prV P Bv b (ev P Bv f c.ex c.scope).2 (ev P Bv f c.ex c.scope).1 := by
  rw [pr]
  generalize ev P Bv f c.ex c.scope = r
  obtain ⟨r, f'⟩ := r
  cases r with
  | err k => rfl
  | ok v => cases v <;> rfl
/-- What printing leaves. -/
structure PrA (w0 w w' : World) (S : Nat → Prop) (d rb tb B : Nat) (bv : Value) (P : List Ex) (l : List UInt8) (f : Nat) (R : Except Int (List UInt8) × Nat) : Prop where
  bel : Below rb w0 w'
  oth : ∀ k cs T fz, w.heap[k]? = some (.cells cs T fz) → T ≠ 5 → k ≠ rb → k ≠ tb → w'.heap[k]? = some (.cells cs T fz)
  err : ∀ k, R.1 = .error k → k ≠ 0
  ok : ∀ t, R.1 = .ok t → ∃ S', PI w0 w' S' d rb tb B bv P (l ++ t) ∧ (∀ fv c, Ready w S d rb fv c → Ready w' S' d rb fv c) ∧ RunI w' rb bv R.2 ∧ t.length + 30 * R.2 ≤ 30 * f + 21
def PrI (w0 : World) (d rb tb B Bv : Nat) (bv : Value) (P : List Ex) (b : Nat) : Prop := ∀ (S : Nat → Prop) (w : World) (v : Value) (r : Rs) (f : Nat) (l : List UInt8),
  (r.code = 0 → f < b ∧ f ≤ Bv ∧ RunI w rb bv f ∧ l.length + 30 * f ≤ 10000000) → VRI w S d rb P v r → PI w0 w S d rb tb B bv P l →
  Calls Tryz.prog 39 #[.pointer (some ⟨rb, 0, none⟩), .pointer (some ⟨tb, 0, none⟩), v] w fun e w' => e = .returned (.int .i64 (codeP (prV P Bv b f r).1)) ∧ PrA w0 w w' S d rb tb B bv P l f (prV P Bv b f r)
def PrPair (w0 : World) (d rb tb B Bv : Nat) (bv : Value) (P : List Ex) (b : Nat) : Prop := ∀ (S : Nat → Prop) (w : World) (fh ft : Value) (h t : Clo) (f : Nat) (l : List UInt8),
  f < b → f ≤ Bv → RunI w rb bv f → Ready w S d rb fh h → Ready w S d rb ft t → h.good (P.length : Int) → t.good (P.length : Int) → PI w0 w S d rb tb B bv P l → l.length + 30 * f ≤ 10000000 →
  Calls Tryz.prog 56 #[.pointer (some ⟨rb, 0, none⟩), .pointer (some ⟨tb, 0, none⟩), .agg #[fh, ft]] w fun e w' => e = .returned (.int .i64 (codeP (prV P Bv b f (.ok (.pair h t))).1)) ∧ PrA w0 w w' S d rb tb B bv P l f (prV P Bv b f (.ok (.pair h t)))
/-- A step that only makes new blocks. -/
theorem PI.below {w0 w w' : World} {S : Nat → Prop} {d rb tb B : Nat} {bv : Value} {P : List Ex} {l : List UInt8} (h : PI w0 w S d rb tb B bv P l) (hb : Below w.heap.size w w') : PI w0 w' S d rb tb B bv P l := h.kb (KB.of_below hb)
theorem Ready.below {w w' : World} {S : Nat → Prop} {d rb : Nat} {fv : Value} {c : Clo} (h : Ready w S d rb fv c) (hb : Below w.heap.size w w') : Ready w' S d rb fv c := h.move (Mv.kb (KB.of_below (X := fun _ => False) hb) (fun _ h => h.elim))

set_option maxHeartbeats 3200000 in
theorem print_of (w0 : World) (d rb tb B Bv : Nat) (bv : Value) (P : List Ex) (b : Nat) (hp : PrPair w0 d rb tb B Bv bv P b) : PrI w0 d rb tb B Bv bv P b := by
  intro S w v r f l hf hv hi
  obtain ⟨RR, hRR⟩ : ∃ RR, prV P Bv b f r = RR := ⟨_, rfl⟩
  rw [hRR]
  have tNumNum := asNumNum
  have tNumNil := asNumNil
  have tNumFun := asNumFun
  have tNumPair := asNumPair
  have tNumEnd := asNumEnd
  have tNilNum := asNilNum
  have tNilNil := asNilNil
  have tNilFun := asNilFun
  have tNilPair := asNilPair
  have tNilEnd := asNilEnd
  have tFunNum := asFunNum
  have tFunNil := asFunNil
  have tFunFun := asFunFun
  have tFunPair := asFunPair
  have tFunEnd := asFunEnd
  have tPairNum := asPairNum
  have tPairNil := asPairNil
  have tPairFun := asPairFun
  have tPairPair := asPairPair
  have tPairEnd := asPairEnd
  have tEndNum := asEndNum
  have tEndNil := asEndNil
  have tEndFun := asEndFun
  have tEndPair := asEndPair
  have tEndEnd := asEndEnd
  have hwr := fun (hl : l.length ≤ 10000000) (w1 : World) (h : PI w0 w1 S d rb tb B bv P l) (s : List UInt8) (hs : s.length ≤ 100) => write_any B tb l s w1 h.bl (by omega) h.hB
  have fin : ∀ (w1 w2 : World) (t : List UInt8), Below w.heap.size w w1 → RunI w rb bv f → BL B tb (l ++ t) w2 → Below B w1 w2 → Lib.OthersKept 5 (some tb) w1 w2 → t.length ≤ 21 → PrA w0 w w2 S d rb tb B bv P l f (.ok t, f) := by
    intro w1 w2 t b1 hr k1 k2 k3 ht
    obtain ⟨S', h1, h2, h3⟩ := (hi.below b1).wrote k1 k2 k3
    exact ⟨h1.bel, fun k cs T fz hk hT _ hn => k3 k _ ((b1.block k (lt_heap hk)).trans hk) (fun e => hn (by cases e; rfl)) (fun c fz' e => hT (by simp only [Obj.cells.injEq] at e; exact e.2.1)), fun k hk => (by cases hk), fun t' ht' => by cases ht'; exact ⟨S', h1, fun fv c hrd => h2 fv c (hrd.below b1), (hr.move (b1.block rb (lt_heap hr))).move h3, by show t.length + 30 * f ≤ _; omega⟩⟩
  cases r with
  | err k =>
    obtain ⟨rfl, hk⟩ := hv
    have HK := (show Hid (_ ∧ _ ∧ _) from ⟨hi, hk, hRR⟩)
    clear hi hk hRR fin hwr hp hf
    unfold endV
    go_enter Tryz.func39, Tryz.ntmps39
    go_wp2_with fail
    go_ret
    rw [← HK.out.2.2]
    exact ⟨rfl, (HK.out.1.below ((Below.refl _ w).alloc (Nat.le_refl _) _)).bel, fun k cs T fz hk _ _ _ => (Below.heap_alloc _ _ _ (lt_heap hk)).trans hk, fun k' hk' => by cases hk'; exact HK.out.2.1, fun t ht => by cases ht⟩
  | ok x =>
    obtain ⟨hf1, hf2, hrun, hl⟩ := hf rfl
    obtain ⟨hv, hg⟩ := hv
    cases x with
    | num n =>
      obtain rfl : v = .iface 102 (.int .i64 n) := hv
      have hgn : inI64 n := hg
      have hdec := DecText_any n w hgn.1 hgn.2 hi.tabW
      have HK := (show Hid (_ ∧ _ ∧ _ ∧ _ ∧ _ ∧ _ ∧ _) from ⟨hdec, hi, hrun, fin, hRR, hgn, hwr (by omega)⟩)
      clear hdec hi hrun fin hRR hg hwr hp hf hl hf1 hf2 hgn
      go_enter Tryz.func39, Tryz.ntmps39
      go_wp2_with fail
      refine HK.out.1.mono ?_
      rintro e w1 ⟨rfl, b1⟩
      have hw := HK.out.2.2.2.2.2.2 w1 (HK.out.2.1.below b1) (Lib.itoa n) (by have := itoa_len21 n HK.out.2.2.2.2.2.1; omega)
      have HW := (show Hid (_ ∧ _) from ⟨hw, b1⟩)
      clear hw b1
      go_wp2_with fail
      refine HW.out.1.mono ?_
      rintro e w2 ⟨rfl, k1, k2, k3⟩
      have HX := (show Hid (_ ∧ _ ∧ _) from ⟨k1, k2, k3⟩)
      clear k1 k2 k3
      go_wp2_with fail
      go_ret
      rw [← HK.out.2.2.2.2.1]
      exact ⟨rfl, HK.out.2.2.2.1 w1 w2 _ HW.out.2 HK.out.2.2.1 HX.out.1 HX.out.2.1 HX.out.2.2 (itoa_len21 n HK.out.2.2.2.2.2.1)⟩
    | nil =>
      obtain rfl : v = .iface 107 (.agg #[]) := hv
      have HK := (show Hid (_ ∧ _ ∧ _ ∧ _ ∧ _) from ⟨hi, hrun, fin, hRR, hwr (by omega)⟩)
      clear hi hrun fin hRR hg hwr hp hf hl hf1 hf2
      go_enter Tryz.func39, Tryz.ntmps39
      go_wp2_with fail
      refine (HK.out.2.2.2.2 _ (HK.out.1.below ((Below.refl _ w).alloc (Nat.le_refl _) _)) [91, 93] (by decide)).mono ?_
      rintro e w2 ⟨rfl, k1, k2, k3⟩
      have HX := (show Hid (_ ∧ _ ∧ _) from ⟨k1, k2, k3⟩)
      clear k1 k2 k3
      go_wp2_with fail
      go_ret
      rw [← HK.out.2.2.2.1]
      exact ⟨rfl, HK.out.2.2.1 _ w2 _ ((Below.refl _ w).alloc (Nat.le_refl _) _) HK.out.2.1 HX.out.1 HX.out.2.1 HX.out.2.2 (by decide)⟩
    | fn lk xx en =>
      obtain ⟨kb, ko, sv, m, rfl, -, hsc⟩ := hv
      have hsv : ∃ a, sv = .pointer a := by rcases hsc.form with ⟨-, rfl⟩ | ⟨_, _, _, _, _, -, rfl, -⟩ <;> exact ⟨_, rfl⟩
      obtain ⟨sa, rfl⟩ := hsv
      clear hsc
      have HK := (show Hid (_ ∧ _ ∧ _ ∧ _ ∧ _) from ⟨hi, hrun, fin, hRR, hwr (by omega)⟩)
      clear hi hrun fin hRR hg hwr hp hf hl hf1 hf2
      go_enter Tryz.func39, Tryz.ntmps39
      go_wp2_with fail
      refine (HK.out.2.2.2.2 _ (HK.out.1.below ((Below.refl _ w).alloc (Nat.le_refl _) _)) [102, 117, 110] (by decide)).mono ?_
      rintro e w2 ⟨rfl, k1, k2, k3⟩
      have HX := (show Hid (_ ∧ _ ∧ _) from ⟨k1, k2, k3⟩)
      clear k1 k2 k3
      go_wp2_with fail
      go_ret
      rw [← HK.out.2.2.2.1]
      exact ⟨rfl, HK.out.2.2.1 _ w2 _ ((Below.refl _ w).alloc (Nat.le_refl _) _) HK.out.2.1 HX.out.1 HX.out.2.1 HX.out.2.2 (by decide)⟩
    | pair h t =>
      obtain ⟨fh, ft, rfl, r1, r2, -, -⟩ := hv
      have hff : (∃ fn a c, fh = .func fn a c) ∧ ∃ fn a c, ft = .func fn a c := by obtain ⟨_, _, ⟨_, _, _, _, _, h, -⟩, -⟩ := r1; obtain ⟨_, _, ⟨_, _, _, _, _, h', -⟩, -⟩ := r2; exact ⟨⟨_, _, _, h⟩, ⟨_, _, _, h'⟩⟩
      obtain ⟨⟨fn1, a1, c1, rfl⟩, ⟨fn2, a2, c2, rfl⟩⟩ := hff
      obtain ⟨W1, hW1⟩ : ∃ W1, W1 = w.alloc (.cells #[.func fn1 a1 c1, .func fn2 a2 c2] 114) := ⟨_, rfl⟩
      have b1 : Below w.heap.size w W1 := by rw [hW1]; exact (Below.refl _ w).alloc (Nat.le_refl _) _
      have n1 : W1.heap[w.heap.size]? = some (.cells #[.func fn1 a1 c1, .func fn2 a2 c2] 114) := by rw [hW1]; exact block_alloc
      have hcall := hp S W1 (.func fn1 a1 c1) (.func fn2 a2 c2) h t f l hf1 hf2 (hrun.move (b1.block rb (lt_heap hrun))) (r1.below b1) (r2.below b1) hg.1 hg.2 (hi.below b1) hl
      rw [hRR] at hcall
      have x0 : W1.cell? ⟨w.heap.size, 0, none⟩ = some (.func fn1 a1 c1) := by rw [cell_of_block n1]; rfl
      have x1 : W1.cell? ⟨w.heap.size, 1, none⟩ = some (.func fn2 a2 c2) := by rw [cell_of_block n1]; rfl
      have HK := (show Hid (_ ∧ _) from ⟨hcall, b1⟩)
      have tS := fun (fn : Fn) (x y : Array Value) (a : Addr) (w : World) => run_store Tryz.prog w a (.func fn x y) .plain rfl
      clear hcall b1 n1 hi hrun fin hRR hg hwr hp hf hl hf1 hf2 r1 r2
      go_enter Tryz.func39, Tryz.ntmps39
      go_upto_region 13 with fail
      rw [← hW1]
      clear hW1
      go_wp2_with fail
      refine HK.out.1.mono ?_
      rintro e w2 ⟨rfl, hA⟩
      have HA := (show Hid _ from hA)
      clear hA
      go_wp2_with fail
      go_ret
      exact ⟨rfl, HA.out.bel, fun k cs T fz hk hT h1 h2 => HA.out.oth k cs T fz ((HK.out.2.block k (lt_heap hk)).trans hk) hT h1 h2, HA.out.err, fun t' ht' => by
        obtain ⟨S', h1, h2, h3⟩ := HA.out.ok t' ht'
        exact ⟨S', h1, fun fv c hrd => h2 fv c (hrd.below HK.out.2), h3⟩⟩
end Go.Proofs.YtkhkmmjollcfaaaGreatDoor
