/-
  Why a run ends: one of two reasons.
  The specification's MeanAll.
  The program's MeanAll.
-/
import Derived.Test.YtkhkmmjollcfaaaGreatDoorMeanTop
import Derived.Test.YtkhkmmjollcfaaaGreatDoorMZd
import Derived.Test.YtkhkmmjollcfaaaGreatDoorMZa
import Derived.Laws.MakeOwn
namespace Go.Proofs.YtkhkmmjollcfaaaGreatDoor
open Go.RowKit Go.Joins

set_option maxRecDepth 100000

def cOk (r : Rs × Nat) : Prop := ∀ c, r.1 = .err c → c = 1 ∨ c = 2
theorem cOk_ok (v : Vl) (f : Nat) : cOk (.ok v, f) := fun c h => by cases h
theorem cOk_one (f : Nat) : cOk (.err 1, f) := fun c h => by cases h; exact Or.inl rfl
theorem cOk_two (f : Nat) : cOk (.err 2, f) := fun c h => by cases h; exact Or.inr rfl
theorem ite_c {c : Prop} [Decidable c] {a b : Rs × Nat} (ha : cOk a) (hb : cOk b) : cOk (if c then a else b) := by
  split
  · exact ha
  · exact hb
theorem onNum_c {r : Rs × Nat} {k : Int → Nat → Rs × Nat} (h : cOk r) (hk : ∀ n f, cOk (k n f)) : cOk (onNum r k) := by
  obtain ⟨r, f⟩ := r
  cases r with
  | err c => exact fun q hq => by cases hq; exact h c rfl
  | ok v => cases v <;> first | exact hk _ _ | exact cOk_two _
theorem onFn_c {r : Rs × Nat} {k : Int → Ex → List Clo → Nat → Rs × Nat} (h : cOk r) (hk : ∀ l x en f, cOk (k l x en f)) : cOk (onFn r k) := by
  obtain ⟨r, f⟩ := r
  cases r with
  | err c => exact fun q hq => by cases hq; exact h c rfl
  | ok v => cases v <;> first | exact hk _ _ _ _ | exact cOk_two _
theorem onList_c {r : Rs × Nat} {k0 : Nat → Rs × Nat} {k1 : Clo → Clo → Nat → Rs × Nat} (h : cOk r) (hk0 : ∀ f, cOk (k0 f)) (hk1 : ∀ a b f, cOk (k1 a b f)) : cOk (onList r k0 k1) := by
  obtain ⟨r, f⟩ := r
  cases r with
  | err c => exact fun q hq => by cases hq; exact h c rfl
  | ok v => cases v <;> first | exact hk0 _ | exact hk1 _ _ _ | exact cOk_two _
theorem ev_c (P : List Ex) : ∀ (b f : Nat) (e : Ex) (env : List Clo), cOk (ev P b f e env)
  | 0, f, _, _ => cOk_one f
  | b + 1, f, e, env => by
    have ih : ∀ f' e env, cOk (ev P b f' e env) := fun f' e env => ev_c P b f' e env
    rw [ev]
    refine ite_c (cOk_one _) (ite_c (cOk_ok _ _) (ite_c ?_ (ite_c (ih _ _ _) (ite_c (cOk_ok _ _) (ite_c ?_ (ite_c (ih _ _ _) (ite_c ?_ (ite_c (cOk_ok _ _) (ite_c (cOk_ok _ _) (ite_c ?_ (ite_c ?_ (ih _ _ _))))))))))))
    · cases env[e.n.toNat]? with
      | none => exact cOk_two _
      | some c => exact ih _ _ _
    · exact onFn_c (ih _ _ _) fun l x en f' => ite_c (cOk_ok _ _) (ih _ _ _)
    · exact onNum_c (ih _ _ _) fun n f' => ite_c (ih _ _ _) (ih _ _ _)
    · exact onList_c (ih _ _ _) (fun f' => ih _ _ _) (fun a b f' => ih _ _ _)
    · exact onNum_c (ih _ _ _) fun x f' => onNum_c (ih _ _ _) fun y f'' => cOk_ok _ _
theorem pr_c (P : List Ex) (B : Nat) : ∀ (b f : Nat) (c : Clo) (k : Int), (pr P B b f c).1 = .error k → k = 1 ∨ k = 2
  | 0, f, c, k, h => by rw [pr] at h; cases h; exact Or.inl rfl
  | b + 1, f, c, k, h => by
    have he := ev_c P B f c.ex c.scope
    rw [pr] at h
    generalize ev P B f c.ex c.scope = R at h he
    obtain ⟨R, f'⟩ := R
    cases R with
    | err q => cases h; exact he _ rfl
    | ok v =>
      cases v with
      | num n => cases h
      | nil => cases h
      | fn l x en => cases h
      | pair hd tl =>
        have h1 := pr_c P B b f' hd
        simp only [] at h
        generalize pr P B b f' hd = R1 at h h1
        obtain ⟨R1, f1⟩ := R1
        cases R1 with
        | error q => cases h; exact h1 _ rfl
        | ok s =>
          have h2 := pr_c P B b f1 tl
          simp only [] at h
          generalize pr P B b f1 tl = R2 at h h2
          obtain ⟨R2, f2⟩ := R2
          cases R2 with
          | error q => cases h; exact h2 _ rfl
          | ok s' => cases h
theorem ofC_small (P : List Ex) (i F : Nat) : 0 ≤ ofC P i F ∧ ofC P i F ≤ 3 := by
  unfold ofC
  have h := pr_c P F (F + 1) F (.mk (P.getD i exZ) [] false)
  generalize pr P F (F + 1) F (.mk (P.getD i exZ) [] false) = R at h
  obtain ⟨R, f⟩ := R
  cases R with
  | ok s => exact ⟨Int.le_refl _, by show (0 : Int) ≤ 3; decide⟩
  | error k => show 0 ≤ k ∧ k ≤ 3; rcases h k rfl with rfl | rfl <;> decide
end Go.Proofs.YtkhkmmjollcfaaaGreatDoor

namespace Go.Proofs.YtkhkmmjollcfaaaGreatDoor
open Go.RowKit Go.Joins

set_option maxRecDepth 100000

def aOk (p : Pr) (F : Int) : Prop := p.ok = true ∧ 0 ≤ F ∧ F ≤ 100000
/-- What MeanAll tells of definition i. -/
noncomputable def aC (p : Pr) (F : Int) (i : Nat) : Int := open Classical in if aOk p F then ofC p.bodies i F.toNat else 3
noncomputable def allC (p : Pr) (F : Int) (k : Nat) : List Int := (List.range k).map (aC p F)
theorem allC_succ (p : Pr) (F : Int) (k : Nat) : allC p F (k + 1) = allC p F k ++ [aC p F k] := by unfold allC; rw [List.range_succ, List.map_append]; rfl
theorem allC_len (p : Pr) (F : Int) (k : Nat) : (allC p F k).length = k := by unfold allC; simp
theorem aC_ok {p : Pr} {F : Int} (h : aOk p F) (i : Nat) : aC p F i = ofC p.bodies i F.toNat := by unfold aC; rw [if_pos h]
theorem aC_no {p : Pr} {F : Int} (h : ¬ aOk p F) (i : Nat) : aC p F i = 3 := by unfold aC; rw [if_neg h]

theorem int_lit (w : World) (z : Int) (h : inI64 z) : IntsAt (w.alloc (.cells #[.int .i64 z] 3)) (fun _ => True) (.slice (some ⟨w.heap.size, 0, none⟩) 1 1) [z] := by
  refine ⟨_, _, rfl, by simp [maxLen], fun i t hi => ?_⟩
  cases i with
  | succ i => simp at hi
  | zero =>
    obtain rfl : z = t := by simpa using hi
    exact ⟨w.heap.size, 0, rfl, trivial, by simp, by rw [cell_of_block block_alloc]; rfl, h⟩
set_option maxHeartbeats 3200000 in
theorem specMeanAll_any (d : Nat) (v : Value) (p : Pr) (S : Nat → Prop) (F : Int) (w : World) (h : PrAt w S d v p) (hl : p.names.length ≤ 1048576) :
    Calls Tryz.prog 10 #[v, .int .i64 F] w fun r w' => ∃ v', r = .returned v' ∧ w'.ownsRow w.heap.size 3 1 v' p.names.length ((allC p F p.names.length).map (fun z => Value.int .i64 z)) ∧ Below w.heap.size w w' := by
  have hnot : ∀ (x : Bool) (w : World), (Op.unary .not (.bool x)).run Tryz.prog w = .ok (.bool (!x)) w := fun _ _ => rfl
  have H0 := (show Hid (PrAt w S d v p ∧ True) from ⟨h, trivial⟩)
  obtain ⟨nv, bv, rfl, hn, hk⟩ := h
  have hn0 := hn
  obtain ⟨a1, cap1, rfl, -, -⟩ := hn0
  obtain ⟨a2, cap2, rfl⟩ := hk.form
  obtain ⟨W1, hW1⟩ : ∃ W1, W1 = (w.alloc (.cells #[.slice a1 p.names.length cap1, .slice a2 p.bodies.length cap2] 31)).alloc (.cells #[] 3) := ⟨_, rfl⟩
  have b1 : Below w.heap.size w W1 := by rw [hW1]; exact ((Below.refl _ w).alloc (Nat.le_refl _) _).alloc (by simp) _
  have q1 : W1.heap[w.heap.size]? = some (.cells #[.slice a1 p.names.length cap1, .slice a2 p.bodies.length cap2] 31) := by rw [hW1, Below.heap_alloc _ _ _ (by simp)]; exact block_alloc
  have hrow : W1.ownsRow (w.heap.size + 1) 3 1 (.slice (some ⟨w.heap.size + 1, 0, none⟩) 0 0) 0 [] := by
    rw [hW1]
    have := ow_empty (w.alloc (.cells #[.slice a1 p.names.length cap1, .slice a2 p.bodies.length cap2] 31)) (w.heap.size + 1) 3 (by simp)
    simpa using this
  have s1 : W1.heap.size = w.heap.size + 2 := by rw [hW1]; simp
  have hof := fun (w2 : World) (k : Nat) (hb : Below W1.heap.size w2 w2) (hbw : Below w.heap.size w w2) (ho : aOk p F) (hk2 : k < p.names.length) => l03Of_any p.bodies k F.toNat d S a1 p.names.length cap1 (.slice a2 p.bodies.length cap2) w2 (ok_bodies ho.1) (by have := (p.ok_iff.1 ho.1).1; omega) (by have := ho.2; omega) (hk.below hbw)
  have HI := (show Hid (_ ∧ _ ∧ _ ∧ _ ∧ _ ∧ _ ∧ _) from ⟨H0.out.1, hof, b1, q1, hrow, s1, hW1⟩)
  clear hn hk H0 b1 q1 hrow s1 hW1 hof
  go_enter Tryz.func10, Tryz.ntmps10
  go_upto_region 2 with fail
  rw [← HI.out.2.2.2.2.2.2]
  go_wp2_with fail
  go_loopw [5, 6] (fun ov i wr => ∃ k : Nat, k ≤ p.names.length ∧ i = .int .i64 k ∧ wr.ownsRow (w.heap.size + 1) 3 1 ov k ((allC p F k).map (fun z => Value.int .i64 z)) ∧ Below (w.heap.size + 1) W1 wr) (fun _ i _ => p.names.length - (intOf i).toNat)
  case atStart => exact ⟨0, Nat.zero_le _, rfl, HI.out.2.2.2.2.1, Below.refl _ _⟩
  case round =>
    obtain ⟨k, hk, rfl, hrow, hbw⟩ := hrel
    obtain ⟨oa, oc, rfl⟩ := own_form hrow
    have hsw := hbw.size
    have q2 : wr.heap[w.heap.size]? = some (.cells #[.slice a1 p.names.length cap1, .slice a2 p.bodies.length cap2] 31) := (hbw.block _ (by omega)).trans HI.out.2.2.2.1
    have hb0 : Below w.heap.size w wr := HI.out.2.2.1.trans (hbw.mono (by omega))
    have x0 : wr.cell? ⟨w.heap.size, 0, none⟩ = some (.slice a1 p.names.length cap1) := by rw [cell_of_block q2]; rfl
    have x1 : wr.cell? ⟨w.heap.size, 1, none⟩ = some (.slice a2 p.bodies.length cap2) := by rw [cell_of_block q2]; rfl
    by_cases hkl : k < p.names.length
    · have hlt' : ((k : Nat) : Int) < ((p.names.length : Nat) : Int) := by omega
      have hpr := specProg_any d _ p S wr (HI.out.1.below hb0)
      have HR := (show Hid (_ ∧ _ ∧ _ ∧ _ ∧ _) from ⟨hpr, hrow, hbw, q2, hb0⟩)
      clear hpr hrow hbw q2 hb0 hsw
      go_wp2_with fail
      refine HR.out.1.mono ?_
      rintro r w2 ⟨rfl, b2⟩
      have hrow2 := own_moved HR.out.2.1 (fun g hg => b2.block g (own_lt HR.out.2.1 g hg))
      have y0 := (b2.cell (p := ⟨w.heap.size, 0, none⟩) (lt_heap HR.out.2.2.2.1)).trans x0
      have y1 := (b2.cell (p := ⟨w.heap.size, 1, none⟩) (lt_heap HR.out.2.2.2.1)).trans x1
      have b12 : Below (w.heap.size + 1) W1 w2 := HR.out.2.2.1.trans (b2.mono (by have := lt_heap HR.out.2.2.2.1; omega))
      have H2 := (show Hid (_ ∧ _ ∧ _) from ⟨hrow2, b12, (HR.out.2.2.2.2.trans (b2.mono HR.out.2.2.2.2.size) : Below w.heap.size w w2)⟩)
      clear hrow2 b12 b2 x0 x1
      by_cases ho : aOk p F
      · have hok : p.ok = true := ho.1
        have hin := fun w => specIn_is F 0 100000 true (by unfold inB; have := ho.2; simp [this.1, this.2]) w
        obtain ⟨Fi, hFi⟩ : ∃ Fi : Nat, F = (Fi : Int) := ⟨F.toNat, by have := ho.2; omega⟩
        have hof := HI.out.2.1 w2 k (Below.refl _ _) H2.out.2.2 ho hkl
        have hac := aC_ok ho k
        subst hFi
        simp only [Int.toNat_natCast] at hof hac
        have HO := (show Hid (_ ∧ _ ∧ _) from ⟨hin, hof, hac⟩)
        clear ho hin hof hac
        rw [hok]
        go_wp2_with fail
        refine (HO.out.1 _).mono ?_
        rintro r w3 ⟨rfl, rfl⟩
        go_wp2_with fail
        refine HO.out.2.1.mono ?_
        rintro r w4 ⟨rfl, b4⟩
        have hrow4 := own_moved H2.out.1 (fun g hg => b4.block g (own_lt H2.out.1 g hg))
        have b14 : Below (w.heap.size + 1) W1 w4 := H2.out.2.1.trans (b4.mono (by have := H2.out.2.1.size; have := HI.out.2.2.2.2.2.1; omega))
        obtain ⟨cz, hcz⟩ : ∃ cz, ofC p.bodies k Fi = cz := ⟨_, rfl⟩
        have hsm := ofC_small p.bodies k Fi
        have hsrc := int_lit w4 cz (by rw [← hcz]; unfold inI64; omega)
        have H4 := (show Hid (_ ∧ _ ∧ _ ∧ _) from ⟨hrow4.alloc (.cells #[.int .i64 cz] 3), b14.alloc (by have := b14.size; have := HI.out.2.2.2.2.2.1; omega) (.cells #[.int .i64 cz] 3), hsrc, (by rw [HO.out.2.2, hcz] : aC p (Fi : Int) k = cz)⟩)
        clear hrow4 b14 b4 hsm hsrc
        rw [hcz]
        clear hcz
        go_wp2_with (first
          | (at_builtin; refine wpList_append_ints rfl _ _ rfl (w.heap.size + 1) _ k _ rfl H4.out.1 _ [cz] _ rfl H4.out.2.2.1 (by simp; omega) (by have := H4.out.2.1.size; have := HI.out.2.2.2.2.2.1; omega) ?_; intro v5 w5 hown5 hgrow5 hat5; have H5 := (show Hid (_ ∧ _) from ⟨hown5, hgrow5⟩); clear hown5 hgrow5 hat5))
        refine ⟨⟨k + 1, by omega, by go_num, ?_, ?_⟩, by simp [intOf]; omega⟩
        · have := H5.out.1
          rw [allC_succ, List.map_append, H4.out.2.2.2]
          simpa using this
        · exact H4.out.2.1.grown H5.out.2 (by have := H4.out.2.1.size; have := HI.out.2.2.2.2.2.1; omega) (fun g hg => (H4.out.1.lt g hg).1)
      · have hac := aC_no ho k
        have HNO := (show Hid (_ ∧ _) from ⟨ho, hac⟩)
        have hrow4 : ∀ w4 : World, w4 = w2 → (w4.alloc (.cells #[.int .i64 3] 3)).ownsRow (w.heap.size + 1) 3 1 (.slice oa k oc) k ((allC p F k).map (fun z => Value.int .i64 z)) := fun w4 h => by rw [h]; exact H2.out.1.alloc _
        have H4 := (show Hid (_ ∧ _ ∧ _) from ⟨hrow4 w2 rfl, H2.out.2.1.alloc (by have := H2.out.2.1.size; have := HI.out.2.2.2.2.2.1; omega) (.cells #[.int .i64 3] 3), int_lit w2 3 (by unfold inI64; decide)⟩)
        clear hrow4 hac
        have fin : ∀ v5 w5, w5.ownsRow (w.heap.size + 1) 3 1 v5 (k + [(3 : Int)].length) ((allC p F k).map (fun z => Value.int .i64 z) ++ [(3 : Int)].map (fun z => Value.int .i64 z)) → (w2.alloc (.cells #[.int .i64 3] 3)).grownBy w5 (Value.slice oa k oc).ownBlock → w5.ownsRow (w.heap.size + 1) 3 1 v5 (k + 1) ((allC p F (k + 1)).map (fun z => Value.int .i64 z)) ∧ Below (w.heap.size + 1) W1 w5 := fun v5 w5 h1 h2 => by
          refine ⟨?_, H4.out.2.1.grown h2 (by have := H4.out.2.1.size; have := HI.out.2.2.2.2.2.1; omega) (fun g hg => (H4.out.1.lt g hg).1)⟩
          rw [allC_succ, List.map_append, HNO.out.2]
          simpa using h1
        have HFN := (show Hid (_ ∧ True) from ⟨fin, trivial⟩)
        clear fin ho
        cases hok : p.ok with
        | false =>
          go_wp2_with (first
            | (at_builtin; refine wpList_append_ints rfl _ _ rfl (w.heap.size + 1) _ k _ rfl H4.out.1 _ [3] _ rfl H4.out.2.2 (by simp; omega) (by have := H4.out.2.1.size; have := HI.out.2.2.2.2.2.1; omega) ?_; intro v5 w5 hown5 hgrow5 hat5; have H5 := (show Hid (_ ∧ _) from HFN.out.1 v5 w5 hown5 hgrow5); clear hown5 hgrow5 hat5))
          exact ⟨⟨k + 1, by omega, by go_num, H5.out.1, H5.out.2⟩, by simp [intOf]; omega⟩
        | true =>
          have hin := fun w => specIn_is F 0 100000 false (by
            unfold inB
            by_cases h1 : 0 ≤ F <;> by_cases h2 : F ≤ 100000 <;> simp [h1, h2]
            exact absurd ⟨hok, h1, h2⟩ HNO.out.1) w
          have HE := (show Hid (_ ∧ True) from ⟨hin, trivial⟩)
          clear hin
          go_wp2_with fail
          refine (HE.out.1 _).mono ?_
          rintro r w3 ⟨rfl, rfl⟩
          go_wp2_with (first
            | (at_builtin; refine wpList_append_ints rfl _ _ rfl (w.heap.size + 1) _ k _ rfl H4.out.1 _ [3] _ rfl H4.out.2.2 (by simp; omega) (by have := H4.out.2.1.size; have := HI.out.2.2.2.2.2.1; omega) ?_; intro v5 w5 hown5 hgrow5 hat5; have H5 := (show Hid (_ ∧ _) from HFN.out.1 v5 w5 hown5 hgrow5); clear hown5 hgrow5 hat5))
          exact ⟨⟨k + 1, by omega, by go_num, H5.out.1, H5.out.2⟩, by simp [intOf]; omega⟩
    · obtain rfl : k = p.names.length := by omega
      have HX := (show Hid (_ ∧ _) from ⟨own_mono hrow (Nat.le_succ _), hb0⟩)
      clear hrow hbw q2 hb0
      go_wp2_with fail
      go_ret
      exact ⟨_, rfl, HX.out.1, HX.out.2⟩
end Go.Proofs.YtkhkmmjollcfaaaGreatDoor

namespace Go.Proofs.YtkhkmmjollcfaaaGreatDoor
open Go.RowKit Go.Joins

set_option maxRecDepth 100000

theorem made_rowA (w : World) (base : Nat) (e : TypeId) (zc : Array Value) (size n : Nat) (hb : base ≤ w.heap.size) (hn : n ≤ maxLen) : (w.alloc (.cells (madeCells zc (n * size)) e)).ownsRow base e size (.slice (some ⟨w.heap.size, 0, none⟩) n n) n (madeCells zc (n * size)).toList := by
  have hs : (madeCells zc (n * size)).size = n * size := size_madeCells _ _
  refine ⟨by rw [Array.length_toList, hs], .inr ⟨w.heap.size, n, _, rfl, hb, (MapKept.heap_alloc w _).1, Nat.le_refl _, hn, hs, ?_⟩⟩
  exact List.take_of_length_le (by rw [Array.length_toList, hs]; exact Nat.le_refl _)
theorem makeI_rowA (n : Nat) (hn : n ≤ 4194304) (w : World) : (Instr.makeSlice 35 (.int .i64 (n : Int)) (.int .i64 (n : Int))).run Tryz.prog w = .ok (.slice (some ⟨w.heap.size, 0, none⟩) n n) (w.alloc (.cells (madeCells #[.int .i64 0] n) 3)) := by
  obtain ⟨i0, hi, hz0, hz1, hz2⟩ := info_parts infoCdI
  have h := run_make (P := Tryz.prog) w 35 3 i0 (.int .i64 0) Tryz.underlying35 hi hz0 .i64 .i64 n n (by omega) (Int.le_refl _) (by rw [hz2]; omega) (by omega)
  rw [hz1] at h
  simp only [Int.toNat_natCast, Nat.mul_one] at h
  exact h
theorem row_frozenA {w : World} {b g cap n size : Nat} {e : TypeId} {xs : List Value} (h : w.ownsRow b e size (.slice (some ⟨g, 0, none⟩) n cap) n xs) (i : Nat) : w.frozen? ⟨g, i, none⟩ = false := by
  rcases h.2 with ⟨h', _⟩ | ⟨g', cap', cur, h', _, hc', _⟩
  · simp at h'
  · simp only [Value.slice.injEq, Option.some.injEq, Addr.mk.injEq, and_true] at h'
    obtain ⟨rfl, _⟩ := h'
    exact unfrozen_of_block hc' _

theorem allC_at (p : Pr) (F : Int) (n j : Nat) (h : j < n) : ((allC p F n).map (fun z => Value.int .i64 z))[j]? = some (.int .i64 (aC p F j)) := by
  unfold allC
  rw [List.getElem?_map, List.getElem?_map, List.getElem?_range h]
  rfl
set_option maxHeartbeats 3200000 in
theorem implMeanAll_any (d : Nat) (v : Value) (p : Pr) (F : Int) (w : World) (h : PrAt w (Pl w) d v p) (hl : p.names.length ≤ 1048576) (htab : Lib.TabIs Tryz.prog w "internal/strconv.uint64pow10" .u64 Lib.pow10Tab) :
    Calls Tryz.prog 11 #[v, .int .i64 F] w fun r w' => ∃ v', r = .returned v' ∧ w'.ownsRow w.heap.size 3 1 v' p.names.length ((allC p F p.names.length).map (fun z => Value.int .i64 z)) ∧ Below w.heap.size w w' := by
  have H0 := (show Hid (PrAt w (Pl w) d v p ∧ True) from ⟨h, trivial⟩)
  obtain ⟨nv, bv, rfl, hn, hk⟩ := h
  have hn0 := hn
  obtain ⟨a1, cap1, rfl, -, -⟩ := hn0
  obtain ⟨a2, cap2, rfl⟩ := hk.form
  obtain ⟨W1, hW1⟩ : ∃ W1, W1 = (w.alloc (.cells #[.slice a1 p.names.length cap1, .slice a2 p.bodies.length cap2] 31)).alloc (.cells (madeCells #[.int .i64 0] p.names.length) 3) := ⟨_, rfl⟩
  have b1 : Below w.heap.size w W1 := by rw [hW1]; exact ((Below.refl _ w).alloc (Nat.le_refl _) _).alloc (by simp) _
  have q1 : W1.heap[w.heap.size]? = some (.cells #[.slice a1 p.names.length cap1, .slice a2 p.bodies.length cap2] 31) := by rw [hW1, Below.heap_alloc _ _ _ (by simp)]; exact block_alloc
  have s1 : W1.heap.size = w.heap.size + 2 := by rw [hW1]; simp
  have hrow : W1.ownsRow (w.heap.size + 1) 3 1 (.slice (some ⟨w.heap.size + 1, 0, none⟩) p.names.length p.names.length) p.names.length (madeCells #[.int .i64 0] p.names.length).toList := by
    rw [hW1]
    have := made_rowA (w.alloc (.cells #[.slice a1 p.names.length cap1, .slice a2 p.bodies.length cap2] 31)) (w.heap.size + 1) 3 #[.int .i64 0] 1 p.names.length (by simp) (by unfold maxLen; omega)
    simpa using this
  have hmk := makeI_rowA p.names.length (by omega)
  have hcan := fun (w2 : World) (hb : Below w.heap.size w w2) => canReckon_any d _ p F w2 (prAt_pl H0.out.1 hb)
  have hof := fun (w2 : World) (k : Nat) (hbw : Below w.heap.size w w2) (ho : aOk p F) (hk2 : k < p.names.length) => meanOf_any p.bodies k F.toNat d (Pl w) a1 p.names.length cap1 (.slice a2 p.bodies.length cap2) w2 (ok_bodies ho.1) (by have := (p.ok_iff.1 ho.1).1; omega) (by have := ho.2; omega) (hk.below hbw) (Lib.tabBelow_of_tabIs htab w2 hbw)
  have x0 : W1.cell? ⟨w.heap.size, 0, none⟩ = some (.slice a1 p.names.length cap1) := by rw [cell_of_block q1]; rfl
  have x1 : W1.cell? ⟨w.heap.size, 1, none⟩ = some (.slice a2 p.bodies.length cap2) := by rw [cell_of_block q1]; rfl
  have HI := (show Hid (_ ∧ _ ∧ _ ∧ _ ∧ _ ∧ _ ∧ _) from ⟨hcan, hof, b1, q1, hrow, s1, hW1⟩)
  clear hn hk H0 b1 q1 hrow s1 hW1 hof hcan htab
  go_enter Tryz.func11, Tryz.ntmps11
  go_upto_region 2 with fail
  rw [← HI.out.2.2.2.2.2.2]
  clear hmk
  go_wp2_with fail
  refine (HI.out.1 _ HI.out.2.2.1).mono ?_
  rintro r w2 ⟨rfl, b2⟩
  have hrow2 := own_moved HI.out.2.2.2.2.1 (fun g hg => b2.block g (own_lt HI.out.2.2.2.2.1 g hg))
  have q2 := (b2.block _ (lt_heap HI.out.2.2.2.1)).trans HI.out.2.2.2.1
  have H2 := (show Hid (_ ∧ _ ∧ _) from ⟨hrow2, q2, (HI.out.2.2.1.trans (b2.mono HI.out.2.2.1.size) : Below w.heap.size w w2)⟩)
  have hs2 : w.heap.size + 2 ≤ w2.heap.size := by have := b2.size; have := HI.out.2.2.2.2.2.1; omega
  have HS := (show Hid _ from hs2)
  clear b2 hrow2 q2 x0 x1 hs2
  obtain ⟨cn, hcn⟩ : ∃ cn, (inB F 0 100000 && p.ok) = cn := ⟨_, rfl⟩
  rw [hcn]
  have hao : cn = true ↔ aOk p F := by
    rw [← hcn, Bool.and_eq_true]
    unfold inB aOk
    simp only [Bool.and_eq_true, decide_eq_true_eq]
    exact ⟨fun h => ⟨h.2, h.1⟩, fun h => ⟨h.2, h.1⟩⟩
  have HA := (show Hid (_ ∧ True) from ⟨hao, trivial⟩)
  clear hao hcn
  go_wp2_with fail
  go_loopw [17] (fun i wr => ∃ (k : Nat) (xs : List Value), k ≤ p.names.length ∧ i = .int .i64 k ∧ (∀ j : Nat, j < k → xs[j]? = some (.int .i64 (aC p F j))) ∧ wr.ownsRow (w.heap.size + 1) 3 1 (.slice (some ⟨w.heap.size + 1, 0, none⟩) p.names.length p.names.length) p.names.length xs ∧ Below (w.heap.size + 1) w2 wr) (fun i _ => p.names.length - (intOf i).toNat)
  case atStart => exact ⟨0, _, Nat.zero_le _, rfl, fun j hj => by omega, H2.out.1, Below.refl _ _⟩
  case round =>
    obtain ⟨k, xs, hk, rfl, hxs, hrow, hbw⟩ := hrel
    have hxl := hrow.1
    rw [Nat.mul_one] at hxl
    have hsw := hbw.size
    have q3 := (hbw.block w.heap.size (by omega)).trans H2.out.2.1
    have x0 : wr.cell? ⟨w.heap.size, 0, none⟩ = some (.slice a1 p.names.length cap1) := by rw [cell_of_block q3]; rfl
    have x1 : wr.cell? ⟨w.heap.size, 1, none⟩ = some (.slice a2 p.bodies.length cap2) := by rw [cell_of_block q3]; rfl
    have hb0 : Below w.heap.size w wr := H2.out.2.2.trans (hbw.mono (by omega))
    by_cases hkl : k < p.names.length
    · have hlt' : ((k : Nat) : Int) < ((p.names.length : Nat) : Int) := by omega
      have d0 : ∃ u, wr.cell? ⟨w.heap.size + 1, k, none⟩ = some u := by
        rw [hrow.cellAt k (by omega)]
        exact ⟨_, List.getElem?_eq_getElem (by omega)⟩
      obtain ⟨u0, d0⟩ := d0
      have f0 := row_frozenA hrow k
      have hst := (hrow.stored k (.int .i64 3)).1
      have hb1 : Below (w.heap.size + 1) w2 (wr.setCell ⟨w.heap.size + 1, k, none⟩ (.int .i64 3)) := hbw.setCell (p := ⟨w.heap.size + 1, k, none⟩) (Nat.le_refl _) _
      obtain ⟨W4, hW4⟩ : ∃ W4, W4 = wr.setCell ⟨w.heap.size + 1, k, none⟩ (.int .i64 3) := ⟨_, rfl⟩
      rw [← hW4] at hst hb1
      have hb04 : Below w.heap.size w W4 := H2.out.2.2.trans (hb1.mono (by omega))
      have q4 := (hb1.block w.heap.size (by omega)).trans H2.out.2.1
      have HR := (show Hid (_ ∧ _ ∧ _ ∧ _ ∧ _ ∧ _) from ⟨hxs, hxl, hst, hb1, hb04, q4⟩)
      clear hxs hrow hbw hsw q3 hb0 hst hb1 hb04 q4 hxl
      cases cn with
      | false =>
        have hno : ¬ aOk p F := fun h => by have := HA.out.1.2 h; cases this
        have hac := aC_no hno k
        have HN := (show Hid _ from hac)
        clear hno hac
        go_upto_region 7 with fail
        rw [← hW4]
        clear hW4 x0 x1 d0 f0
        go_wp2_with fail
        refine ⟨⟨k + 1, _, by omega, by go_num, fun j hj => ?_, HR.out.2.2.1, HR.out.2.2.2.1⟩, by simp [intOf]; omega⟩
        by_cases hjk : j = k
        · subst hjk
          rw [List.getElem?_set_self (by rw [HR.out.2.1]; exact hkl), HN.out]
        · rw [List.getElem?_set_ne (fun e => hjk e.symm)]
          exact HR.out.1 j (by omega)
      | true =>
        have ho : aOk p F := HA.out.1.1 rfl
        obtain ⟨Fi, hFi⟩ : ∃ Fi : Nat, F = (Fi : Int) := ⟨F.toNat, by have := ho.2; omega⟩
        have hof := HI.out.2.1 W4 k HR.out.2.2.2.2.1 ho hkl
        have hac := aC_ok ho k
        rw [hFi] at hof hac
        simp only [Int.toNat_natCast] at hof hac
        obtain ⟨cz, hcz⟩ : ∃ cz, ofC p.bodies k Fi = cz := ⟨_, rfl⟩
        obtain ⟨tz, htz⟩ : ∃ tz, ofB p.bodies k Fi = tz := ⟨_, rfl⟩
        rw [hcz, htz] at hof
        rw [hcz] at hac
        have y0 : W4.cell? ⟨w.heap.size, 0, none⟩ = some (.slice a1 p.names.length cap1) := by rw [cell_of_block HR.out.2.2.2.2.2]; rfl
        have y1 : W4.cell? ⟨w.heap.size, 1, none⟩ = some (.slice a2 p.bodies.length cap2) := by rw [cell_of_block HR.out.2.2.2.2.2]; rfl
        have HO := (show Hid (_ ∧ _) from ⟨hof, hac⟩)
        have HF := (show Hid (_ ∧ True) from ⟨hFi, trivial⟩)
        clear ho hof hac hcz htz
        go_upto_region 7 with fail
        rw [← hW4]
        clear hW4 x0 x1 d0 f0 hFi
        go_wp2_with fail
        have hc := HO.out.1
        rw [← HF.out.1] at hc
        refine hc.mono ?_
        rintro r w5 ⟨rfl, b5⟩
        clear hc
        have hrow5 := own_moved HR.out.2.2.1 (fun g hg => b5.block g (own_lt HR.out.2.2.1 g hg))
        have hl5 := hrow5.1
        rw [Nat.mul_one] at hl5
        have d5 : ∃ u, w5.cell? ⟨w.heap.size + 1, k, none⟩ = some u := by
          rw [hrow5.cellAt k (by omega)]
          exact ⟨_, List.getElem?_eq_getElem (by omega)⟩
        obtain ⟨u5, d5⟩ := d5
        have f5 := row_frozenA hrow5 k
        have hst5 := (hrow5.stored k (.int .i64 cz)).1
        have hb5 : Below (w.heap.size + 1) w2 (w5.setCell ⟨w.heap.size + 1, k, none⟩ (.int .i64 cz)) := (HR.out.2.2.2.1.trans (b5.mono (by have := HR.out.2.2.2.1.size; have := HS.out; omega))).setCell (p := ⟨w.heap.size + 1, k, none⟩) (Nat.le_refl _) _
        have H5 := (show Hid (_ ∧ _) from ⟨hst5, hb5⟩)
        clear hrow5 hl5 hst5 hb5 b5
        go_wp2_with fail
        refine ⟨⟨k + 1, _, by omega, by go_num, fun j hj => ?_, H5.out.1, H5.out.2⟩, by simp [intOf]; omega⟩
        by_cases hjk : j = k
        · subst hjk
          rw [List.getElem?_set_self (by rw [List.length_set, HR.out.2.1]; exact hkl), HF.out.1, HO.out.2]
        · rw [List.getElem?_set_ne (fun e => hjk e.symm), List.getElem?_set_ne (fun e => hjk e.symm)]
          exact HR.out.1 j (by omega)
    · obtain rfl : k = p.names.length := by omega
      have hall : xs = (allC p F p.names.length).map (fun z => Value.int .i64 z) := by
        apply List.ext_getElem?
        intro j
        by_cases hj : j < p.names.length
        · rw [hxs j hj, allC_at p F _ j hj]
        · rw [List.getElem?_eq_none (by omega), List.getElem?_eq_none (by rw [List.length_map, allC_len]; omega)]
      have HX := (show Hid (_ ∧ _) from ⟨hall ▸ own_mono hrow (Nat.le_succ _), hb0⟩)
      clear hrow hbw q3 hb0 hall hxs
      go_wp2_with fail
      go_ret
      exact ⟨_, rfl, HX.out.1, HX.out.2⟩
end Go.Proofs.YtkhkmmjollcfaaaGreatDoor
