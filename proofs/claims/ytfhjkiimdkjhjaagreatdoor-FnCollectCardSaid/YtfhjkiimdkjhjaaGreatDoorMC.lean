/-
  The program's HeapOk.
  The program's HeapOk as a whole.
-/
import Derived.Test.YtfhjkiimdkjhjaaGreatDoorImplHeap0
import Derived.Test.YtfhjkiimdkjhjaaGreatDoorSpecHeap
import Derived.BigQuiet
import Derived.Deep.QuietTactic
namespace Go.Proofs.YtfhjkiimdkjhjaaGreatDoor
open Go.RowKit Go.Joins

set_option maxRecDepth 100000

set_option maxHeartbeats 3200000 in
theorem arePlaces_any (v kv : Value) (zs : List Int) (S : Nat → Prop) (w : World) (a : Option Addr) (n cap : Nat) (hv : v = .slice a n cap) (h : IntsAt w S kv zs) (hn : n ≤ 4194304) :
    Calls Tryz.prog 42 #[v, kv] w fun e w' => e = .returned (.bool (zs.all (fun k => inB k 0 ((n : Int) - 1)))) ∧ w' = w := by
  subst hv
  obtain ⟨ka, kcap, rfl, hkm, hkc⟩ := h
  unfold maxLen at hkm
  have HC := (show Hid (_ ∧ True) from ⟨hkc, trivial⟩)
  clear hkc
  generalize hP : (fun k => inB k 0 ((n : Int) - 1)) = P
  have hPx : ∀ x, P x = inB x 0 ((n : Int) - 1) := fun x => by rw [← hP]
  clear hP
  go_enter Tryz.func42, Tryz.ntmps42
  go_wp2
  go_loopw [9] (fun i wr => ∃ k : Nat, k ≤ zs.length ∧ i = .int .i64 k ∧ (zs.take k).all P = true ∧ wr = w) (fun i _ => zs.length - (intOf i).toNat)
  case atStart => exact ⟨0, Nat.zero_le _, rfl, by simp, rfl⟩
  case round =>
    obtain ⟨k, hk, rfl, hall, rfl⟩ := hrel
    have HA := (show Hid (_ ∧ True) from ⟨hall, trivial⟩)
    clear hall
    by_cases hkl : k < zs.length
    · have he := List.getElem?_eq_getElem hkl
      generalize zs[k] = x at *
      obtain ⟨b, off, rfl, hSb, hlt2, c0, r0⟩ := HC.out.1 k x he
      have HE := (show Hid (_ ∧ True) from ⟨he, trivial⟩)
      have hlt' : ((k : Nat) : Int) < ((zs.length : Nat) : Int) := by omega
      clear he HC
      cases hin : inB x 0 ((n : Int) - 1) with
      | true =>
        have HN := (show Hid (_ ∧ True) from ⟨all_take P zs k HE.out.1 HA.out.1 ((hPx x).trans hin), trivial⟩)
        clear hPx HE HA
        go_wp2_with (go_at_call 37; refine (isPlace_is _ _ _ _ true hin _ hn).mono ?_; rintro e w1 ⟨rfl, rfl⟩)
        refine ⟨⟨k + 1, by omega, by go_num, HN.out.1, trivial⟩, by simp [intOf]; omega⟩
      | false =>
        have HN := (show Hid (_ ∧ True) from ⟨all_not P zs k HE.out.1 ((hPx x).trans hin), trivial⟩)
        clear hPx HE HA
        go_wp2_with (go_at_call 37; refine (isPlace_is _ _ _ _ false hin _ hn).mono ?_; rintro e w1 ⟨rfl, rfl⟩)
        go_ret
        exact ⟨by rw [HN.out.1]; rfl, rfl⟩
    · obtain rfl : k = zs.length := by omega
      have HALL := (show Hid (_ ∧ True) from ⟨(by rw [← HA.out.1, List.take_length] : zs.all P = true), trivial⟩)
      clear HC hPx HA
      go_wp2
      go_ret
      exact ⟨by rw [HALL.out.1]; rfl, rfl⟩

theorem isCode_any (p codes : Int) (w : World) : Calls Tryz.prog 59 #[.int .i64 p, .int .i64 codes] w fun e w' => e = .returned (.bool (decide (0 ≤ p) && decide (p < codes))) ∧ w' = w := by
  by_cases h1 : 0 ≤ p
  · have d1 : decide (0 ≤ p) = true := by simpa using h1
    go_enter Tryz.func59, Tryz.ntmps59
    go_wp2
    go_ret
    exact ⟨by simp [h1], rfl⟩
  · have d1 : decide (0 ≤ p) = false := by simpa using h1
    go_enter Tryz.func59, Tryz.ntmps59
    go_wp2
    go_ret
    exact ⟨by simp, rfl⟩
/-- Whether a far cell's fields are right. -/
def Ce.far (c : Ce) : Bool := if c.n = -1 then c.pos == 0 else inB c.n 0 30 && decide (0 ≤ c.pos)
set_option maxHeartbeats 3200000 in
theorem farFits_any (v : Value) (c : Ce) (S : Nat → Prop) (w : World) (h : CeAt w S v c) :
    Calls Tryz.prog 60 #[v] w fun e w' => e = .returned (.bool c.far) ∧ Below w.heap.size w w' := by
  obtain ⟨kv, rfl, r1, r2, r3, hk⟩ := h
  obtain ⟨a, cap, rfl⟩ := hk.form
  have B0 : Below w.heap.size w (w.alloc (.cells #[.int .i64 c.kind, .int .i64 c.n, .int .i64 c.pos, .slice a c.kids.length cap] 32)) := (Below.refl _ w).alloc (Nat.le_refl _) _
  unfold Ce.far
  clear hk r1 r2 r3
  by_cases hm : c.n = -1
  · have g : (c.n == -1) = true := by simpa using hm
    rw [if_pos hm]
    clear hm
    cases b1 : (c.pos == 0) <;>
    ( go_enter Tryz.func60, Tryz.ntmps60
      go_wp2
      go_ret
      exact ⟨rfl, B0⟩ )
  · have g : (c.n == -1) = false := by simpa using hm
    rw [if_neg hm]
    clear hm
    cases b0 : inB c.n 0 30 <;> cases b1 : decide (0 ≤ c.pos) <;>
    ( go_enter Tryz.func60, Tryz.ntmps60
      go_wp2_with (go_at_call 45; refine (within_r _ _ _ _ b0 _).mono ?_; rintro e w1 ⟨rfl, rfl⟩)
      go_ret
      exact ⟨by simp, B0⟩ )
theorem far_is (c : Ce) : (c.far && ((c.kids.length : Int) == 0)) = (((inB c.n (-1) 30 && decide (0 ≤ c.pos)) && ((c.kids.length : Int) == 0)) && (decide (0 ≤ c.n) || (c.pos == 0))) := by
  unfold Ce.far inB
  by_cases h1 : c.n = -1
  · rw [if_pos h1, h1]
    by_cases h2 : c.pos = 0
    · rw [h2]; simp
    · have : (c.pos == 0) = false := by simpa using h2
      rw [this]; simp
  · rw [if_neg h1]
    by_cases h2 : 0 ≤ c.n
    · have e1 : decide (-1 ≤ c.n) = true := by simp; omega
      rw [e1]; simp [h2]
    · have e1 : decide (-1 ≤ c.n) = false := by simp; omega
      rw [e1]; simp [h2]

set_option maxHeartbeats 12800000 in
theorem fieldsFit_any (v : Value) (c : Ce) (codes : Int) (S : Nat → Prop) (w : World) (h : CeAt w S v c) :
    Calls Tryz.prog 43 #[v, .int .i64 codes] w fun e w' => e = .returned (.bool (c.fields codes)) ∧ Below w.heap.size w w' := by
  have H0 : Hid (CeAt w S v c) := h
  obtain ⟨kv, rfl, r1, r2, r3, hk⟩ := h
  obtain ⟨a, cap, rfl⟩ := hk.form
  have B0 : Below w.heap.size w (w.alloc (.cells #[.int .i64 c.kind, .int .i64 c.n, .int .i64 c.pos, .slice a c.kids.length cap] 32)) := (Below.refl _ w).alloc (Nat.le_refl _) _
  have H1 : Hid (CeAt (w.alloc (.cells #[.int .i64 c.kind, .int .i64 c.n, .int .i64 c.pos, .slice a c.kids.length cap] 32)) S (.agg #[.int .i64 c.kind, .int .i64 c.n, .int .i64 c.pos, .slice a c.kids.length cap]) c) := ⟨_, rfl, r1, r2, r3, hk.below B0⟩
  clear H0 hk r1 r2 r3
  have hfar := (show Hid (_ ∧ True) from ⟨far_is c, trivial⟩)
  have hFo := (show Hid (_ ∧ True) from ⟨fun h => fields_other c codes h, trivial⟩)
  generalize hFF : c.fields codes = F at *
  have HFF := (show Hid (_ ∧ True) from ⟨hFF, trivial⟩)
  clear hFF
  by_cases hkd : 0 ≤ c.kind ∧ c.kind ≤ 7
  · clear hFo
    have hcs : c.kind = 0 ∨ c.kind = 1 ∨ c.kind = 2 ∨ c.kind = 3 ∨ c.kind = 4 ∨ c.kind = 5 ∨ c.kind = 6 ∨ c.kind = 7 := by omega
    clear hkd
    obtain ⟨kind, n, pos, kids⟩ := c
    simp only [] at *
    have hkm : ∀ k : Nat, IntKind.i64.wrap (kids.length : Int) = kids.length ∨ True := fun _ => .inr trivial
    clear hkm
    rcases hcs with rfl | rfl | rfl | rfl | rfl | rfl | rfl | rfl
    · have HF2 : Hid (F = ((pos == 0) && ((kids.length : Int) == 0))) := by
        show F = ((pos == 0) && ((kids.length : Int) == 0))
        rw [← HFF.out.1]; rfl
      clear HFF H1 hfar
      cases b0 : (pos == 0) <;> cases b1 : ((kids.length : Int) == 0) <;>
      ( go_enter Tryz.func43, Tryz.ntmps43
        go_wp2
        go_ret
        exact ⟨by rw [HF2.out]; simp [b0, b1], B0⟩ )
    · have HF2 : Hid (F = (((n == 0) && (pos == 0)) && ((kids.length : Int) == 0))) := by
        show F = (((n == 0) && (pos == 0)) && ((kids.length : Int) == 0))
        rw [← HFF.out.1]; rfl
      clear HFF H1 hfar
      cases b0 : (n == 0) <;> cases b1 : (pos == 0) <;> cases b2 : ((kids.length : Int) == 0) <;>
      ( go_enter Tryz.func43, Tryz.ntmps43
        go_wp2
        go_ret
        exact ⟨by rw [HF2.out]; simp [b0, b1, b2], B0⟩ )
    · have HF2 : Hid (F = (((n == 0) && (pos == 0)) && ((kids.length : Int) == 2))) := by
        show F = (((n == 0) && (pos == 0)) && ((kids.length : Int) == 2))
        rw [← HFF.out.1]; rfl
      clear HFF H1 hfar
      cases b0 : (n == 0) <;> cases b1 : (pos == 0) <;> cases b2 : ((kids.length : Int) == 2) <;>
      ( go_enter Tryz.func43, Tryz.ntmps43
        go_wp2
        go_ret
        exact ⟨by rw [HF2.out]; simp [b0, b1, b2], B0⟩ )
    · have HF2 : Hid (F = (inB n 1 6 && (decide (0 ≤ pos) && decide (pos < codes)))) := by
        show F = (inB n 1 6 && (decide (0 ≤ pos) && decide (pos < codes)))
        rw [← HFF.out.1, ← Bool.and_assoc]; rfl
      clear HFF H1 hfar
      generalize hC : (decide (0 ≤ pos) && decide (pos < codes)) = C at *
      have hcode : ∀ w, Calls Tryz.prog 59 #[.int .i64 pos, .int .i64 codes] w fun e w' => e = .returned (.bool C) ∧ w' = w := fun w => by rw [← hC]; exact isCode_any pos codes w
      clear hC
      cases b0 : inB n 1 6 <;> cases C <;>
      ( go_enter Tryz.func43, Tryz.ntmps43
        go_wp2_with (first
          | (go_at_call 45; refine (within_r _ _ _ _ b0 _).mono ?_; rintro e w1 ⟨rfl, rfl⟩)
          | (go_at_call 59; refine (hcode _).mono ?_; rintro e w2 ⟨rfl, rfl⟩))
        go_ret
        exact ⟨by rw [HF2.out]; simp [b0], B0⟩ )
    · have HF2 : Hid (F = ((n == 0) && (decide (0 ≤ pos) && decide (pos < codes)))) := by
        show F = ((n == 0) && (decide (0 ≤ pos) && decide (pos < codes)))
        rw [← HFF.out.1, ← Bool.and_assoc]; rfl
      clear HFF H1 hfar
      generalize hC : (decide (0 ≤ pos) && decide (pos < codes)) = C at *
      have hcode : ∀ w, Calls Tryz.prog 59 #[.int .i64 pos, .int .i64 codes] w fun e w' => e = .returned (.bool C) ∧ w' = w := fun w => by rw [← hC]; exact isCode_any pos codes w
      clear hC
      cases b0 : (n == 0) <;> cases C <;>
      ( go_enter Tryz.func43, Tryz.ntmps43
        go_wp2_with (go_at_call 59; refine (hcode _).mono ?_; rintro e w2 ⟨rfl, rfl⟩)
        go_ret
        exact ⟨by rw [HF2.out]; simp [b0], B0⟩ )
    · have HF2 : Hid (F = (((n == 0) && (pos == 0)) && ((kids.length : Int) == 0))) := by
        show F = (((n == 0) && (pos == 0)) && ((kids.length : Int) == 0))
        rw [← HFF.out.1]; rfl
      clear HFF H1 hfar
      cases b0 : (n == 0) <;> cases b1 : (pos == 0) <;> cases b2 : ((kids.length : Int) == 0) <;>
      ( go_enter Tryz.func43, Tryz.ntmps43
        go_wp2
        go_ret
        exact ⟨by rw [HF2.out]; simp [b0, b1, b2], B0⟩ )
    · have HF2 : Hid (F = (((n == 0) && (pos == 0)) && ((kids.length : Int) == 1))) := by
        show F = (((n == 0) && (pos == 0)) && ((kids.length : Int) == 1))
        rw [← HFF.out.1]; rfl
      clear HFF H1 hfar
      cases b0 : (n == 0) <;> cases b1 : (pos == 0) <;> cases b2 : ((kids.length : Int) == 1) <;>
      ( go_enter Tryz.func43, Tryz.ntmps43
        go_wp2
        go_ret
        exact ⟨by rw [HF2.out]; simp [b0, b1, b2], B0⟩ )
    · have HF2 : Hid (F = ((Ce.far ⟨7, n, pos, kids⟩) && ((kids.length : Int) == 0))) := by
        show F = ((Ce.far ⟨7, n, pos, kids⟩) && ((kids.length : Int) == 0))
        rw [← HFF.out.1, hfar.out.1]; rfl
      clear HFF hfar
      have hf := (farFits_any _ _ S _ H1.out)
      generalize hC : Ce.far ⟨7, n, pos, kids⟩ = C at *
      have HW := (show Hid (_ ∧ True) from ⟨hf, trivial⟩)
      clear hC H1 hf
      cases b0 : ((kids.length : Int) == 0) <;> cases C <;>
      ( go_enter Tryz.func43, Tryz.ntmps43
        go_wp2_with (go_at_call 60; refine HW.out.1.mono ?_; rintro e w2 ⟨rfl, b2⟩)
        go_ret
        exact ⟨by rw [HF2.out]; simp [b0], B0.trans (b2.mono B0.size)⟩ )
  · have hFf := hFo.out.1 hkd
    subst hFf
    have g0 : (c.kind == 0) = false := by simp; omega
    have g1 : (c.kind == 1) = false := by simp; omega
    have g2 : (c.kind == 2) = false := by simp; omega
    have g3 : (c.kind == 3) = false := by simp; omega
    have g4 : (c.kind == 4) = false := by simp; omega
    have g5 : (c.kind == 5) = false := by simp; omega
    have g6 : (c.kind == 6) = false := by simp; omega
    have g7 : (c.kind == 7) = false := by simp; omega
    clear hFo hfar HFF hkd H1
    go_enter Tryz.func43, Tryz.ntmps43
    go_wp2
    go_ret
    exact ⟨rfl, B0⟩
end Go.Proofs.YtfhjkiimdkjhjaaGreatDoor

namespace Go.Proofs.YtfhjkiimdkjhjaaGreatDoor
open Go.RowKit Go.Joins

set_option maxRecDepth 100000

set_option maxHeartbeats 6400000 in
theorem implHeapOk_any (v : Value) (es : List Ce) (codes : Int) (S : Nat → Prop) (w : World) (h : CellsAt w S v es) (hn : es.length ≤ 4194304) :
    Calls Tryz.prog 18 #[v, .int .i64 codes] w fun e w' => e = .returned (.bool (heapOk es codes)) ∧ Below w.heap.size w w' := by
  obtain ⟨a, cap, rfl, hl, hc⟩ := h
  clear hl
  have HC := (show Hid (_ ∧ True) from ⟨hc, trivial⟩)
  clear hc
  unfold heapOk
  generalize hP : (fun c : Ce => c.right es.length codes) = P
  have hPx : ∀ x, P x = x.right es.length codes := fun x => by rw [← hP]
  clear hP
  by_cases hbig : 3000 < es.length
  · have hd : decide (es.length ≤ 3000) = false := by simp; omega
    rw [hd, Bool.and_false]
    clear HC hPx
    have hbi : (3000 : Int) < (es.length : Int) := by omega
    go_enter Tryz.func18, Tryz.ntmps18
    go_wp2
    go_ret
    exact ⟨rfl, Below.refl _ _⟩
  · have hd : decide (es.length ≤ 3000) = true := by simp; omega
    rw [hd, Bool.and_true]
    have hbi : ¬ (3000 : Int) < (es.length : Int) := by omega
    go_enter Tryz.func18, Tryz.ntmps18
    go_wp2
    go_loopw [12] (fun i wr => ∃ k : Nat, k ≤ es.length ∧ i = .int .i64 k ∧ (es.take k).all P = true ∧ Below w.heap.size w wr) (fun i _ => es.length - (intOf i).toNat)
    case atStart => exact ⟨0, Nat.zero_le _, rfl, by simp, Below.refl _ _⟩
    case round =>
      obtain ⟨k, hk, rfl, hall, hbw⟩ := hrel
      have HA := (show Hid (_ ∧ True) from ⟨hall, trivial⟩)
      clear hall
      by_cases hkl : k < es.length
      · have he := List.getElem?_eq_getElem hkl
        generalize es[k] = x at *
        obtain ⟨b, off, kv, rfl, hSb, hlt2, c0, c1, c2, c3, r1, r2, r3, hkk⟩ := HC.out.1 k x he
        rw [← hbw.cell (by exact hlt2)] at c0 c1 c2 c3
        obtain ⟨ka, kc, rfl⟩ := hkk.form
        have hszw := hbw.size
        have hbl : b < wr.heap.size := by omega
        have hbn : ¬ b = wr.heap.size := by omega
        have hbw : Below w.heap.size w (wr.alloc (.cells #[.int .i64 x.kind, .int .i64 x.n, .int .i64 x.pos, .slice ka x.kids.length kc] 32)) := hbw.alloc hszw _
        have HX : Hid (CeAt (wr.alloc (.cells #[.int .i64 x.kind, .int .i64 x.n, .int .i64 x.pos, .slice ka x.kids.length kc] 32)) S (.agg #[.int .i64 x.kind, .int .i64 x.n, .int .i64 x.pos, .slice ka x.kids.length kc]) x) := ⟨_, rfl, r1, r2, r3, hkk.below hbw⟩
        have HI : Hid (IntsAt (wr.alloc (.cells #[.int .i64 x.kind, .int .i64 x.n, .int .i64 x.pos, .slice ka x.kids.length kc] 32)) S (.slice ka x.kids.length kc) x.kids) := hkk.below hbw
        have HE := (show Hid (_ ∧ True) from ⟨he, trivial⟩)
        have hlt' : ((k : Nat) : Int) < ((es.length : Nat) : Int) := by omega
        have hrt : x.right es.length codes = (x.kids.all (fun k => inB k 0 ((es.length : Int) - 1)) && x.fields codes) := rfl
        have HP := fun w => fieldsFit_any (.agg #[.int .i64 x.kind, .int .i64 x.n, .int .i64 x.pos, .slice ka x.kids.length kc]) x codes S w
        have HQ := arePlaces_any (.slice (some ⟨b, off, none⟩) es.length cap) _ x.kids S _ (some ⟨b, off, none⟩) es.length cap rfl HI.out hn
        have HPQ := (show Hid (_ ∧ _) from ⟨HP, HQ⟩)
        generalize hq1 : x.kids.all (fun k => inB k 0 ((es.length : Int) - 1)) = B1 at *
        generalize hq2 : x.fields codes = B2 at *
        have HRT := (show Hid (_ ∧ True) from ⟨hrt, trivial⟩)
        clear hkk he HC r1 r2 r3 HP HQ hrt hq1 hq2
        cases B1 with
        | false =>
          have HN := (show Hid (_ ∧ True) from ⟨all_not P es k HE.out.1 ((hPx x).trans HRT.out.1), trivial⟩)
          clear hPx HE HA
          go_wp2_with (go_at_call 42; refine HPQ.out.2.mono ?_; rintro e w1 ⟨rfl, rfl⟩)
          go_ret
          exact ⟨by rw [HN.out.1]; rfl, hbw⟩
        | true =>
          cases B2 with
          | false =>
            have HN := (show Hid (_ ∧ True) from ⟨all_not P es k HE.out.1 ((hPx x).trans HRT.out.1), trivial⟩)
            clear hPx HE HA
            go_wp2_with (first
              | (go_at_call 42; refine HPQ.out.2.mono ?_; rintro e w1 ⟨rfl, rfl⟩)
              | (go_at_call 43; refine (HPQ.out.1 _ HX.out).mono ?_; rintro e w2 ⟨rfl, b2⟩))
            go_ret
            exact ⟨by rw [HN.out.1]; rfl, hbw.trans (b2.mono hbw.size)⟩
          | true =>
            have HN := (show Hid (_ ∧ True) from ⟨all_take P es k HE.out.1 HA.out.1 ((hPx x).trans HRT.out.1), trivial⟩)
            clear hPx HE HA
            go_wp2_with (first
              | (go_at_call 42; refine HPQ.out.2.mono ?_; rintro e w1 ⟨rfl, rfl⟩)
              | (go_at_call 43; refine (HPQ.out.1 _ HX.out).mono ?_; rintro e w2 ⟨rfl, b2⟩))
            refine ⟨⟨k + 1, by omega, by go_num, HN.out.1, hbw.trans (b2.mono hbw.size)⟩, by simp [intOf]; omega⟩
      · obtain rfl : k = es.length := by omega
        have HALL := (show Hid (_ ∧ True) from ⟨(by rw [← HA.out.1, List.take_length] : es.all P = true), trivial⟩)
        clear HC hPx HA
        go_wp2
        go_ret
        exact ⟨by rw [HALL.out.1]; rfl, hbw⟩
end Go.Proofs.YtfhjkiimdkjhjaaGreatDoor
