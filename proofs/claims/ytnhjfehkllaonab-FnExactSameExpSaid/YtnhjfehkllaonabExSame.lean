/-
  The specification's SameExp.
-/
import Derived.Test.YtnhjfehkllaonabExEq
namespace Go.Proofs.Ytnhjfehkllaonab
open Go.RowKit Go.Joins

set_option maxRecDepth 100000

theorem sameL_iff : ∀ (xs ys : List Ex), Ex.sameL xs ys = true ↔ xs.length = ys.length ∧ ∀ (i : Nat) (x y : Ex), xs[i]? = some x → ys[i]? = some y → x.same y = true
  | [], [] => by rw [Ex.sameL]; simp
  | [], y :: ys => ⟨fun h => by simp [Ex.sameL] at h, fun h => by simp at h⟩
  | x :: xs, [] => ⟨fun h => by simp [Ex.sameL] at h, fun h => by simp at h⟩
  | x :: xs, y :: ys => by
    rw [Ex.sameL, Bool.and_eq_true, sameL_iff xs ys]
    constructor
    · rintro ⟨h0, h1, h2⟩
      refine ⟨by simp [h1], fun i a b ha hb => ?_⟩
      cases i with
      | zero => simp at ha hb; subst ha; subst hb; exact h0
      | succ i => exact h2 i a b (by simpa using ha) (by simpa using hb)
    · rintro ⟨h1, h2⟩
      exact ⟨h2 0 x y rfl rfl, by simpa using h1, fun i a b ha hb => h2 (i + 1) a b (by simpa using ha) (by simpa using hb)⟩

def SameExp (d : Nat) : Prop := ∀ (v1 v2 : Value) (x y : Ex) (S1 S2 : Nat → Prop) (w : World), ExAt w S1 d v1 x → ExAt w S2 d v2 y → x.bulk ≤ 1048576 → y.bulk ≤ 1048576 →
  Calls Try.prog 6 #[v1, v2] w fun e w' => e = .returned (.bool (x.same y)) ∧ Below w.heap.size w w'

theorem bool_ret {a b : Bool} (h : a = b) : Ending.returned (.bool a) = .returned (.bool b) := by rw [h]

set_option maxHeartbeats 12800000 in
theorem specSame_of (d : Nat) (hE : SameExp d) : SameExp (d + 1) := by
  intro v1 v2 x y S1 S2 w h1 h2 hb1 hb2
  have hbe1 := Ex.bulk_eq x
  have hbe2 := Ex.bulk_eq y
  have hlen1 := bulk_len x.kids
  have hlen2 := bulk_len y.kids
  have hBA1 := @bulk_at x.kids
  have hBA2 := @bulk_at y.kids
  have hsame := Ex.same_eq x y
  have hiff := sameL_iff x.kids y.kids
  obtain ⟨kv1, rfl, -, -, -, k1⟩ := h1
  obtain ⟨kv2, rfl, -, -, -, k2⟩ := h2
  obtain ⟨a1, cap1, rfl, -, hc1⟩ := k1
  obtain ⟨a2, cap2, rfl, -, hc2⟩ := k2
  have B0 : Below w.heap.size w ((w.alloc (.cells #[.int .i64 x.kind, .int .i64 x.n, .string x.text, .slice a1 x.kids.length cap1] 29)).alloc (.cells #[.int .i64 y.kind, .int .i64 y.n, .string y.text, .slice a2 y.kids.length cap2] 29)) :=
    ((Below.refl _ w).alloc (Nat.le_refl _) _).alloc (by simp) _
  have HC1 := (show Hid (_ ∧ True) from ⟨hc1, trivial⟩)
  have HC2 := (show Hid (_ ∧ True) from ⟨hc2, trivial⟩)
  have HE : Hid (SameExp d) := hE
  have HB0 := (show Hid (_ ∧ True) from ⟨B0, trivial⟩)
  have hnot := ex_not
  clear hc1 hc2 hE B0
  by_cases q1 : x.kind = y.kind
  · by_cases q2 : x.n = y.n
    · by_cases q3 : (x.text.toList == y.text.toList) = true
      · by_cases q4 : x.kids.length = y.kids.length
        · have hs2 : x.same y = Ex.sameL x.kids y.kids := by rw [hsame, q1, q2, q3]; simp
          have e1 : (x.kind != y.kind) = false := by simp [q1]
          have e2 : (x.n != y.n) = false := by simp [q2]
          have e4 : (((x.kids.length : Nat) : Int) != ((y.kids.length : Nat) : Int)) = false := by simp [q4]
          have Q4 : Hid (x.kids.length = y.kids.length) := q4
          have HIff : Hid (Ex.sameL x.kids y.kids = true ↔ x.kids.length = y.kids.length ∧ ∀ (i : Nat) (a b : Ex), x.kids[i]? = some a → y.kids[i]? = some b → a.same b = true) := hiff
          have HBA1 := (show Hid (_ ∧ True) from ⟨@hBA1, trivial⟩)
          have HBA2 := (show Hid (_ ∧ True) from ⟨@hBA2, trivial⟩)
          have P1 : ((w.alloc (.cells #[.int .i64 x.kind, .int .i64 x.n, .string x.text, .slice a1 x.kids.length cap1] 29)).alloc (.cells #[.int .i64 y.kind, .int .i64 y.n, .string y.text, .slice a2 y.kids.length cap2] 29)).cell? ⟨w.heap.size, 3, none⟩ = some (.slice a1 x.kids.length cap1) := by
            rw [cell_of_block ((Below.heap_alloc _ _ _ (by simp)).trans (MapKept.heap_alloc w _).1)]; rfl
          have P2 : ((w.alloc (.cells #[.int .i64 x.kind, .int .i64 x.n, .string x.text, .slice a1 x.kids.length cap1] 29)).alloc (.cells #[.int .i64 y.kind, .int .i64 y.n, .string y.text, .slice a2 y.kids.length cap2] 29)).cell? ⟨w.heap.size + 1, 3, none⟩ = some (.slice a2 y.kids.length cap2) := by
            have := (MapKept.heap_alloc (w.alloc (.cells #[.int .i64 x.kind, .int .i64 x.n, .string x.text, .slice a1 x.kids.length cap1] 29)) (.cells #[.int .i64 y.kind, .int .i64 y.n, .string y.text, .slice a2 y.kids.length cap2] 29)).1
            rw [cell_of_block (by simpa using this)]; rfl
          have P3 : ((w.alloc (.cells #[.int .i64 x.kind, .int .i64 x.n, .string x.text, .slice a1 x.kids.length cap1] 29)).alloc (.cells #[.int .i64 y.kind, .int .i64 y.n, .string y.text, .slice a2 y.kids.length cap2] 29)).heap.size = w.heap.size + 2 := by simp
          clear hsame hiff q1 q2 q4 hBA1 hBA2
          go_enter Try.func6, Try.ntmps6
          go_wp2
          generalize ((w.alloc (.cells #[.int .i64 x.kind, .int .i64 x.n, .string x.text, .slice a1 x.kids.length cap1] 29)).alloc (.cells #[.int .i64 y.kind, .int .i64 y.n, .string y.text, .slice a2 y.kids.length cap2] 29)) = w2 at *
          go_loopw [5] (fun i wr => ∃ k : Nat, k ≤ x.kids.length ∧ i = .int .i64 k ∧ (∀ (i : Nat) (a b : Ex), i < k → x.kids[i]? = some a → y.kids[i]? = some b → a.same b = true) ∧ Below w2.heap.size w2 wr) (fun i _ => x.kids.length - (intOf i).toNat)
          case atStart => exact ⟨0, Nat.zero_le _, rfl, fun i _ _ h => by omega, Below.refl _ _⟩
          case round =>
            obtain ⟨k, hk, rfl, hall, hbw⟩ := hrel
            have HAll := (show Hid (_ ∧ True) from ⟨hall, trivial⟩)
            clear hall
            have P1r : wr.cell? ⟨w.heap.size, 3, none⟩ = some (.slice a1 x.kids.length cap1) := (hbw.cell (by simp; omega)).trans P1
            have P2r : wr.cell? ⟨w.heap.size + 1, 3, none⟩ = some (.slice a2 y.kids.length cap2) := (hbw.cell (by simp; omega)).trans P2
            have hbw0 : Below w.heap.size w wr := HB0.out.1.trans (hbw.mono HB0.out.1.size)
            by_cases hkl : k < x.kids.length
            · have he1 := List.getElem?_eq_getElem hkl
              have he2 := List.getElem?_eq_getElem (show k < y.kids.length by have := Q4.out; omega)
              have hb1k := HBA1.out.1 he1
              have hb2k := HBA2.out.1 he2
              generalize x.kids[k] = x' at *
              generalize y.kids[k]'(by have := Q4.out; omega) = y' at *
              obtain ⟨b1, off1, kv1, rfl, -, hl1, c0, c1, c2, c3, r1, r2, r3, k1⟩ := HC1.out.1 k x' he1
              obtain ⟨b2, off2, kv2, rfl, -, hl2, d0, d1, d2, d3, s1, s2, s3, k2⟩ := HC2.out.1 k y' he2
              rw [← hbw0.cell (by exact hl1)] at c0 c1 c2 c3
              rw [← hbw0.cell (by exact hl2)] at d0 d1 d2 d3
              have HX1 : Hid (∀ wx : World, Below w.heap.size w wx → ExAt wx S1 d (.agg #[.int .i64 x'.kind, .int .i64 x'.n, .string x'.text, kv1]) x') := fun wx hx => ⟨kv1, rfl, r1, r2, r3, k1.below hx⟩
              have HX2 : Hid (∀ wx : World, Below w.heap.size w wx → ExAt wx S2 d (.agg #[.int .i64 y'.kind, .int .i64 y'.n, .string y'.text, kv2]) y') := fun wx hx => ⟨kv2, rfl, s1, s2, s3, k2.below hx⟩
              obtain ⟨ka1, kc1, rfl⟩ := k1.form
              obtain ⟨ka2, kc2, rfl⟩ := k2.form
              have HE1 : Hid (x.kids[k]? = some x') := he1
              have HE2 : Hid (y.kids[k]? = some y') := he2
              clear k1 k2 he1 he2 HC1 HC2 r1 r2 r3 s1 s2 s3
              have hlt' : ((k : Nat) : Int) < ((x.kids.length : Nat) : Int) := by omega
              have hlt2' : ((k : Nat) : Int) < ((y.kids.length : Nat) : Int) := by have := Q4.out; omega
              have hsz := hbw.size
              cases hxy : x'.same y' with
              | true =>
                go_wp2
                go_region_with (go_at_call 6; refine (HE.out _ _ x' y' S1 S2 _ (HX1.out _ hbw0.drew) (HX2.out _ hbw0.drew) (by omega) (by omega)).mono ?_; rintro e w3 ⟨rfl, b3⟩; rw [hxy])
                all_goals
                  have hbw2 : Below w2.heap.size w2 w3 := hbw.drew.trans (b3.mono hsz)
                  clear b3
                  go_wp2
                  refine ⟨⟨k + 1, by omega, by go_num, fun i a b hi ha hb => ?_, hbw2⟩, by simp [intOf]; omega⟩
                  by_cases hik : i < k
                  · exact HAll.out.1 i a b hik ha hb
                  · obtain rfl : i = k := by omega
                    rw [HE1.out] at ha
                    rw [HE2.out] at hb
                    cases ha
                    cases hb
                    exact hxy
              | false =>
                have hno : x.same y = false := by
                  rw [hs2]
                  cases hz : Ex.sameL x.kids y.kids with
                  | false => rfl
                  | true => exact absurd ((HIff.out.1 hz).2 k x' y' HE1.out HE2.out) (by rw [hxy]; exact Bool.false_ne_true)
                go_wp2
                go_region_with (go_at_call 6; refine (HE.out _ _ x' y' S1 S2 _ (HX1.out _ hbw0.drew) (HX2.out _ hbw0.drew) (by omega) (by omega)).mono ?_; rintro e w3 ⟨rfl, b3⟩; rw [hxy])
                all_goals
                  have hbw2 : Below w.heap.size w w3 := hbw0.drew.trans (b3.mono hbw0.size)
                  clear b3
                  go_wp2
                  go_ret
                  exact ⟨bool_ret hno.symm, hbw2⟩
            · have hyes : x.same y = true := by
                rw [hs2]
                exact HIff.out.2 ⟨Q4.out, fun i a b ha hb => HAll.out.1 i a b (by have := (List.getElem?_eq_some_iff.1 ha).1; omega) ha hb⟩
              clear HC1 HC2 HE
              go_wp2
              go_ret
              exact ⟨bool_ret hyes.symm, hbw0⟩
        · have hs2 : x.same y = false := by
            rw [hsame]
            cases hz : Ex.sameL x.kids y.kids with
            | false => simp
            | true => exact absurd (hiff.1 hz).1 q4
          have e1 : (x.kind != y.kind) = false := by simp [q1]
          have e2 : (x.n != y.n) = false := by simp [q2]
          have e4 : (((x.kids.length : Nat) : Int) != ((y.kids.length : Nat) : Int)) = true := by simp; omega
          clear hsame hiff HC1 HC2 HE q1 q2 q4
          go_enter Try.func6, Try.ntmps6
          go_wp2
          go_ret
          exact ⟨bool_ret hs2.symm, ((Below.refl _ w).alloc (Nat.le_refl _) _).alloc (by simp) _⟩
      · have hs2 : x.same y = false := by rw [hsame]; simp only [Bool.not_eq_true] at q3; rw [q3]; simp
        have e1 : (x.kind != y.kind) = false := by simp [q1]
        have e2 : (x.n != y.n) = false := by simp [q2]
        have e3 : (x.text.toList == y.text.toList) = false := by simpa using q3
        clear hsame hiff HC1 HC2 HE q1 q2 q3
        go_enter Try.func6, Try.ntmps6
        go_wp2
        go_ret
        exact ⟨bool_ret hs2.symm, ((Below.refl _ w).alloc (Nat.le_refl _) _).alloc (by simp) _⟩
    · have hs2 : x.same y = false := by rw [hsame]; simp [q2]
      have e1 : (x.kind != y.kind) = false := by simp [q1]
      have e2 : (x.n != y.n) = true := by simp [q2]
      clear hsame hiff HC1 HC2 HE q1 q2
      go_enter Try.func6, Try.ntmps6
      go_wp2
      go_ret
      exact ⟨bool_ret hs2.symm, ((Below.refl _ w).alloc (Nat.le_refl _) _).alloc (by simp) _⟩
  · have hs2 : x.same y = false := by rw [hsame]; simp [q1]
    have e1 : (x.kind != y.kind) = true := by simp [q1]
    clear hsame hiff HC1 HC2 HE q1
    go_enter Try.func6, Try.ntmps6
    go_wp2
    go_ret
    exact ⟨bool_ret hs2.symm, ((Below.refl _ w).alloc (Nat.le_refl _) _).alloc (by simp) _⟩

theorem specSame_any : ∀ d, SameExp d
  | 0 => fun _ _ _ _ _ _ _ ⟨_, _, _, _, _, h⟩ => h.elim
  | d + 1 => specSame_of d (specSame_any d)
end Go.Proofs.Ytnhjfehkllaonab
