/-
  The laws' look whether two expressions are the same: of one expression in two places it says yes.
-/
import Derived.Test.YtkhkmmjollcfaaaGreatDoorMB
import Derived.RegionTactic
namespace Go.Proofs.YtkhkmmjollcfaaaGreatDoor
open Go.RowKit Go.Joins

set_option maxRecDepth 100000

def EqExpS (d : Nat) : Prop := ∀ (v1 v2 : Value) (es : List Ex) (S1 S2 : Nat → Prop) (w : World), KidsAt w S1 d v1 es → KidsAt w S2 d v2 es → Ex.bulkL es ≤ 1048576 →
  Calls Tryz.prog 28 #[v1, v2] w fun e w' => e = .returned (.bool true) ∧ Below w.heap.size w w'
def EqExp (d : Nat) : Prop := ∀ (v1 v2 : Value) (x : Ex) (S1 S2 : Nat → Prop) (w : World), ExAt w S1 d v1 x → ExAt w S2 d v2 x → x.bulk ≤ 1048576 →
  Calls Tryz.prog 42 #[v1, v2] w fun e w' => e = .returned (.bool true) ∧ Below w.heap.size w w'

set_option maxHeartbeats 3200000 in
theorem eqExp_of (d : Nat) (hS : EqExpS d) : EqExp d := by
  intro v1 v2 x S1 S2 w h1 h2 hb
  have hbe := Ex.bulk_eq x
  obtain ⟨kv1, rfl, -, -, -, k1⟩ := h1
  obtain ⟨kv2, rfl, -, -, -, k2⟩ := h2
  obtain ⟨a1, c1, rfl⟩ := k1.form
  obtain ⟨a2, c2, rfl⟩ := k2.form
  have e1 : (x.kind != x.kind) = false := by simp
  have e2 : (x.n != x.n) = false := by simp
  have e3 : (x.text.toList != x.text.toList) = false := by simp
  have e3' : (x.text.toList == x.text.toList) = true := by simp
  have B0 : Below w.heap.size w ((w.alloc (.cells #[.int .i64 x.kind, .int .i64 x.n, .string x.text, .slice a1 x.kids.length c1] 58)).alloc (.cells #[.int .i64 x.kind, .int .i64 x.n, .string x.text, .slice a2 x.kids.length c2] 58)) :=
    ((Below.refl _ w).alloc (Nat.le_refl _) _).alloc (by simp) _
  have HK1 := (show Hid (_ ∧ True) from ⟨k1.below B0, trivial⟩)
  have HK2 := (show Hid (_ ∧ True) from ⟨k2.below B0, trivial⟩)
  have HB0 := (show Hid (_ ∧ True) from ⟨B0, trivial⟩)
  have HS : Hid (EqExpS d) := hS
  have hnot := ex_not
  clear k1 k2 hS B0
  go_enter Tryz.func42, Tryz.ntmps42
  go_wp2_with fail
  refine (HS.out _ _ x.kids S1 S2 _ HK1.out.1 HK2.out.1 (by omega)).mono ?_
  rintro e w1 ⟨rfl, b1⟩
  have B1 : Below w.heap.size w w1 := HB0.out.1.trans (b1.mono HB0.out.1.size)
  clear b1 HB0 HK1 HK2 HS
  go_wp2
  go_ret
  exact ⟨rfl, B1⟩

set_option maxHeartbeats 6400000 in
theorem eqExpS_of (d : Nat) (hE : EqExp d) : EqExpS (d + 1) := by
  intro v1 v2 es S1 S2 w h1 h2 hb
  have hlen := bulk_len es
  have hBA := @bulk_at es
  obtain ⟨a1, cap1, rfl, -, hc1⟩ := h1
  obtain ⟨a2, cap2, rfl, -, hc2⟩ := h2
  have HC1 := (show Hid (_ ∧ True) from ⟨hc1, trivial⟩)
  have HC2 := (show Hid (_ ∧ True) from ⟨hc2, trivial⟩)
  have HE : Hid (EqExp d) := hE
  clear hc1 hc2 hE
  have hnot := ex_not
  have hne : (((es.length : Nat) : Int) != ((es.length : Nat) : Int)) = false := by simp
  go_enter Tryz.func28, Tryz.ntmps28
  go_wp2
  go_loopw [5] (fun i wr => ∃ k : Nat, k ≤ es.length ∧ i = .int .i64 k ∧ Below w.heap.size w wr) (fun i _ => es.length - (intOf i).toNat)
  case atStart => exact ⟨0, Nat.zero_le _, rfl, Below.refl _ _⟩
  case round =>
    obtain ⟨k, hk, rfl, hbw⟩ := hrel
    by_cases hkl : k < es.length
    · have he := List.getElem?_eq_getElem hkl
      have hbk := hBA he
      generalize es[k] = x at *
      obtain ⟨b1, off1, kv1, rfl, -, hl1, c0, c1, c2, c3, r1, r2, r3, k1⟩ := HC1.out.1 k x he
      obtain ⟨b2, off2, kv2, rfl, -, hl2, d0, d1, d2, d3, -, -, -, k2⟩ := HC2.out.1 k x he
      rw [← hbw.cell (by exact hl1)] at c0 c1 c2 c3
      rw [← hbw.cell (by exact hl2)] at d0 d1 d2 d3
      have HX1 : Hid (∀ wx : World, Below w.heap.size w wx → ExAt wx S1 d (.agg #[.int .i64 x.kind, .int .i64 x.n, .string x.text, kv1]) x) := fun wx hx => ⟨kv1, rfl, r1, r2, r3, k1.below hx⟩
      have HX2 : Hid (∀ wx : World, Below w.heap.size w wx → ExAt wx S2 d (.agg #[.int .i64 x.kind, .int .i64 x.n, .string x.text, kv2]) x) := fun wx hx => ⟨kv2, rfl, r1, r2, r3, k2.below hx⟩
      obtain ⟨ka1, kc1, rfl⟩ := k1.form
      obtain ⟨ka2, kc2, rfl⟩ := k2.form
      clear k1 k2 he HC1 HC2 hBA r1 r2 r3
      have hlt' : ((k : Nat) : Int) < ((es.length : Nat) : Int) := by omega
      have hsz := hbw.size
      go_wp2
      go_region_with (go_at_call 42; refine (HE.out _ _ x S1 S2 _ (HX1.out _ hbw.drew) (HX2.out _ hbw.drew) (by omega)).mono ?_; rintro e w1 ⟨rfl, b1⟩)
      all_goals
        have hbw2 : Below w.heap.size w w1 := hbw.drew.trans (b1.mono hsz)
        clear b1
        go_wp2
        go_roundw
        case rel => exact ⟨k + 1, by omega, by go_num, hbw2⟩
        case measure => simp [intOf]; omega
    · clear HC1 HC2 HE
      go_wp2
      go_ret
      exact ⟨rfl, hbw⟩

theorem eqExpS_any : ∀ d, EqExpS d
  | 0 => fun _ _ _ _ _ _ h => h.elim
  | d + 1 => eqExpS_of d (eqExp_of d (eqExpS_any d))
theorem eqExp_any (d : Nat) : EqExp d := eqExp_of d (eqExpS_any d)
end Go.Proofs.YtkhkmmjollcfaaaGreatDoor
