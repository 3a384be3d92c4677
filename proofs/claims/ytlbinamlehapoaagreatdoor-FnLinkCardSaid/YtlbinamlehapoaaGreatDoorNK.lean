/-
  One of what was sent, as a row.
  The program's looks at a link's parts.
-/
import Derived.Test.YtlbinamlehapoaaGreatDoorMB
import Derived.Test.YtlbinamlehapoaaGreatDoorMK
import Derived.Test.YtlbinamlehapoaaGreatDoorMD
namespace Go.Proofs.YtlbinamlehapoaaGreatDoor

abbrev Sn.row (s : Sn) : Array Value := #[.int .i64 s.seq, .int .i64 s.dst, .string s.body]
end Go.Proofs.YtlbinamlehapoaaGreatDoor

namespace Go.Proofs.YtlbinamlehapoaaGreatDoor
open Go.RowKit Go.Joins

set_option maxRecDepth 100000

theorem isAmong_r (a b : Int) (r : Bool) (h : amongB a b = r) (w : World) : Calls Tryz.prog 42 #[.int .i64 a, .int .i64 b] w fun e w' => e = .returned (.bool r) ∧ w' = w := by
  subst h
  unfold amongB
  cases h0 : decide (b ≤ 31) with
  | false =>
    go_enter Tryz.func42, Tryz.ntmps42
    go_wp2
    go_ret
    exact ⟨rfl, rfl⟩
  | true =>
    cases h1 : decide (0 ≤ a) with
    | false =>
      go_enter Tryz.func42, Tryz.ntmps42
      go_wp2
      go_ret
      exact ⟨rfl, rfl⟩
    | true =>
      go_enter Tryz.func42, Tryz.ntmps42
      go_wp2
      go_ret
      exact ⟨by simp, rfl⟩

set_option maxHeartbeats 1600000 in
theorem ascend_any (kv : Value) (zs : List Int) (a b : Int) (S : Nat → Prop) (w : World) (h : IntsAt w S kv zs) (hb : b ≤ 1000000) :
    Calls Tryz.prog 77 #[kv, .int .i64 a, .int .i64 b] w fun e w' => e = .returned (.bool (ascB zs a b)) ∧ w' = w := by
  obtain ⟨ka, kcap, rfl, hkm, hkc⟩ := h
  unfold maxLen at hkm
  have hnot := ex_not
  have HC := (show Hid (_ ∧ True) from ⟨hkc, trivial⟩)
  clear hkc
  go_enter Tryz.func77, Tryz.ntmps77
  go_wp2
  go_loopw [1, 11] (fun lv i wr => ∃ k : Nat, k ≤ zs.length ∧ i = .int .i64 k ∧ lv = .int .i64 (lastI a (zs.take k)) ∧ ascB (zs.take k) a b = true ∧ wr = w) (fun _ i _ => zs.length - (intOf i).toNat)
  case atStart => exact ⟨0, Nat.zero_le _, rfl, rfl, by simp [ascB], rfl⟩
  case round =>
    obtain ⟨k, hk, rfl, rfl, hasc, rfl⟩ := hrel
    have HA := (show Hid (_ ∧ True) from ⟨hasc, trivial⟩)
    clear hasc
    by_cases hkl : k < zs.length
    · have he := List.getElem?_eq_getElem hkl
      generalize zs[k] = x at *
      obtain ⟨b0, off, rfl, hSb, hlt2, c0, r0⟩ := HC.out.1 k x he
      have hlt' : ((k : Nat) : Int) < ((zs.length : Nat) : Int) := by omega
      cases hin : inB x (lastI a (zs.take k)) b with
      | true =>
        have HN := (show Hid (_ ∧ _) from ⟨(asc_next HA.out.1 he).trans hin, (by
          have hz := (List.getElem?_eq_some_iff.1 he).1
          rw [List.take_succ_eq_append_getElem hz, lastI_app, (List.getElem?_eq_some_iff.1 he).2] : lastI a (zs.take (k + 1)) = x + 1)⟩)
        have hxb : x ≤ 1000000 := by
          have := hin
          unfold inB at this
          simp only [Bool.and_eq_true, decide_eq_true_eq] at this
          omega
        have hx0 := r0.1
        clear he HC HA
        generalize lastI a (zs.take k) = la at *
        go_wp2_with (go_at_call 45; refine (within_r _ _ _ true hin _).mono ?_; rintro e w1 ⟨rfl, rfl⟩)
        refine ⟨⟨k + 1, by omega, by go_num, by rw [HN.out.2], HN.out.1, trivial⟩, by simp [intOf]; omega⟩
      | false =>
        have HN := (show Hid (_ ∧ True) from ⟨asc_not he hin, trivial⟩)
        clear he HC HA
        generalize lastI a (zs.take k) = la at *
        go_wp2_with (go_at_call 45; refine (within_r _ _ _ false hin _).mono ?_; rintro e w1 ⟨rfl, rfl⟩)
        go_ret
        exact ⟨by rw [HN.out.1]; rfl, rfl⟩
    · obtain rfl : k = zs.length := by omega
      have HALL := (show Hid (_ ∧ True) from ⟨(by rw [← HA.out.1, List.take_length] : ascB zs a b = true), trivial⟩)
      clear HC HA
      generalize lastI a (zs.take zs.length) = la at *
      go_wp2
      go_ret
      exact ⟨by rw [HALL.out.1]; rfl, rfl⟩

set_option maxHeartbeats 1600000 in
theorem seenFits_any (kv : Value) (x : Se) (S : Nat → Prop) (w : World) (hk : IntsAt w S kv x.ids) :
    Calls Tryz.prog 48 #[.agg #[.int .i64 x.low, kv]] w fun e w' => e = .returned (.bool x.ok) ∧ Below w.heap.size w w' := by
  have hkl := hk.len
  obtain ⟨a, cap, rfl⟩ := hk.form
  have B0 : Below w.heap.size w (w.alloc (.cells #[.int .i64 x.low, .slice a x.ids.length cap] 76)) := (Below.refl _ w).alloc (Nat.le_refl _) _
  have hA := ascend_any _ x.ids x.low 999999 S _ (hk.below B0) (by decide)
  have H0 := (show Hid (_ ∧ _) from ⟨hA, B0⟩)
  clear hk B0 hA
  unfold Se.ok
  cases h0 : inB x.low 1 1000000 with
  | false =>
    go_enter Tryz.func48, Tryz.ntmps48
    go_wp2_with (go_at_call 45; refine (within_r _ _ _ _ h0 _).mono ?_; rintro e w1 ⟨rfl, rfl⟩)
    go_ret
    exact ⟨rfl, H0.out.2⟩
  | true =>
    cases h1 : decide ((x.ids.length : Int) ≤ 60) with
    | false =>
      go_enter Tryz.func48, Tryz.ntmps48
      go_wp2_with (go_at_call 45; refine (within_r _ _ _ _ h0 _).mono ?_; rintro e w1 ⟨rfl, rfl⟩)
      go_ret
      exact ⟨rfl, H0.out.2⟩
    | true =>
      go_enter Tryz.func48, Tryz.ntmps48
      go_wp2_with (first
        | (go_at_call 45; refine (within_r _ _ _ _ h0 _).mono ?_; rintro e w1 ⟨rfl, rfl⟩)
        | (go_at_call 77; refine H0.out.1.mono ?_; rintro e w1 ⟨rfl, rfl⟩))
      go_ret
      exact ⟨by simp, H0.out.2⟩

set_option maxHeartbeats 1600000 in
theorem allSeen_any (kv : Value) (es : List Se) (S : Nat → Prop) (w : World) (h : SeensAt w S kv es) :
    Calls Tryz.prog 47 #[kv, .func (.func 48) #[] #[]] w fun e w' => e = .returned (.bool (es.all Se.ok)) ∧ Below w.heap.size w w' := by
  obtain ⟨ka, kcap, rfl, hkm, hkc⟩ := h
  unfold maxLen at hkm
  have hnot := ex_not
  have HC := (show Hid (_ ∧ True) from ⟨hkc, trivial⟩)
  clear hkc
  go_enter Tryz.func47, Tryz.ntmps47
  go_wp2
  go_loopw [9] (fun i wr => ∃ k : Nat, k ≤ es.length ∧ i = .int .i64 k ∧ (es.take k).all Se.ok = true ∧ Below w.heap.size w wr) (fun i _ => es.length - (intOf i).toNat)
  case atStart => exact ⟨0, Nat.zero_le _, rfl, by simp, Below.refl _ _⟩
  case round =>
    obtain ⟨k, hk, rfl, hall, hbw⟩ := hrel
    have hsz := hbw.size
    have HA := (show Hid (_ ∧ _) from ⟨hall, hbw⟩)
    clear hall
    by_cases hkl : k < es.length
    · have he := List.getElem?_eq_getElem hkl
      generalize es[k] = x at *
      obtain ⟨b, off, kv, rfl, hSb, hlt2, c0, c1, r0, hkk⟩ := HC.out.1 k x he
      rw [← hbw.cell (by exact hlt2)] at c0 c1
      obtain ⟨xa, xc, rfl⟩ := hkk.form
      have hlt3 : b < wr.heap.size := Nat.lt_of_lt_of_le hlt2 hsz
      have HX := (show Hid (_ ∧ _) from ⟨he, fun (wx : World) (hx : Below w.heap.size w wx) => seenFits_any (.slice xa x.ids.length xc) x S wx (hkk.below hx)⟩)
      have hlt' : ((k : Nat) : Int) < ((es.length : Nat) : Int) := by omega
      clear he HC hkk hbw
      cases hin : x.ok with
      | true =>
        have HN := (show Hid (_ ∧ True) from ⟨allT Se.ok es k HX.out.1 HA.out.1 hin, trivial⟩)
        go_wp2_with (go_at_call 48; refine (HX.out.2 _ (HA.out.2.alloc hsz _)).mono ?_; rw [hin]; rintro e w1 ⟨rfl, b1⟩; have hb1 : Below w.heap.size w w1 := (HA.out.2.alloc hsz _).trans (b1.mono (by simp; omega)))
        refine ⟨⟨k + 1, by omega, by go_num, HN.out.1, hb1⟩, by simp [intOf]; omega⟩
      | false =>
        have HN := (show Hid (_ ∧ True) from ⟨allF Se.ok es HX.out.1 hin, trivial⟩)
        go_wp2_with (go_at_call 48; refine (HX.out.2 _ (HA.out.2.alloc hsz _)).mono ?_; rw [hin]; rintro e w1 ⟨rfl, b1⟩; have hb1 : Below w.heap.size w w1 := (HA.out.2.alloc hsz _).trans (b1.mono (by simp; omega)))
        go_ret
        exact ⟨by rw [HN.out.1]; rfl, hb1⟩
    · obtain rfl : k = es.length := by omega
      have HALL := (show Hid (_ ∧ _) from ⟨(by rw [← HA.out.1, List.take_length] : es.all Se.ok = true), hbw⟩)
      clear HC HA hbw
      go_wp2
      go_ret
      exact ⟨by rw [HALL.out.1]; rfl, HALL.out.2⟩
end Go.Proofs.YtlbinamlehapoaaGreatDoor
