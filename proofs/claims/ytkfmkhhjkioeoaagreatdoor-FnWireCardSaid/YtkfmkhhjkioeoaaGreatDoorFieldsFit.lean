/-
  The program's look at a cell's fields.
-/
import Derived.Test.YtkfmkhhjkioeoaaGreatDoorMC
import Derived.Test.YtkfmkhhjkioeoaaGreatDoorMD
import Derived.BigQuiet
import Derived.Deep.QuietTactic
namespace Go.Proofs.YtkfmkhhjkioeoaaGreatDoor
open Go.RowKit Go.Joins

set_option maxRecDepth 100000

theorem isCode_any (p codes : Int) (w : World) : Calls Tryz.prog 89 #[.int .i64 p, .int .i64 codes] w fun e w' => e = .returned (.bool (decide (0 ≤ p) && decide (p < codes))) ∧ w' = w := by
  by_cases h1 : 0 ≤ p
  · have d1 : decide (0 ≤ p) = true := by simpa using h1
    go_enter Tryz.func89, Tryz.ntmps89
    go_wp2
    go_ret
    exact ⟨by simp [h1], rfl⟩
  · have d1 : decide (0 ≤ p) = false := by simpa using h1
    go_enter Tryz.func89, Tryz.ntmps89
    go_wp2
    go_ret
    exact ⟨by simp, rfl⟩
/-- Whether a far cell's fields are right. -/
def Ce.far (c : Ce) : Bool := if c.n = -1 then c.pos == 0 else inB c.n 0 30 && decide (0 ≤ c.pos)
set_option maxHeartbeats 3200000 in
theorem farFits_any (v : Value) (c : Ce) (S : Nat → Prop) (w : World) (h : CeAt w S v c) :
    Calls Tryz.prog 90 #[v] w fun e w' => e = .returned (.bool c.far) ∧ Below w.heap.size w w' := by
  obtain ⟨kv, rfl, r1, r2, r3, hk⟩ := h
  obtain ⟨a, cap, rfl⟩ := hk.form
  have B0 : Below w.heap.size w (w.alloc (.cells #[.int .i64 c.kind, .int .i64 c.n, .int .i64 c.pos, .slice a c.kids.length cap] 26)) := (Below.refl _ w).alloc (Nat.le_refl _) _
  unfold Ce.far
  clear hk r1 r2 r3
  by_cases hm : c.n = -1
  · have g : (c.n == -1) = true := by simpa using hm
    rw [if_pos hm]
    clear hm
    cases b1 : (c.pos == 0) <;>
    ( go_enter Tryz.func90, Tryz.ntmps90
      go_wp2
      go_ret
      exact ⟨rfl, B0⟩ )
  · have g : (c.n == -1) = false := by simpa using hm
    rw [if_neg hm]
    clear hm
    cases b0 : inB c.n 0 30 <;> cases b1 : decide (0 ≤ c.pos) <;>
    ( go_enter Tryz.func90, Tryz.ntmps90
      go_wp2_with (go_at_call 49; refine (within_r _ _ _ _ b0 _).mono ?_; rintro e w1 ⟨rfl, rfl⟩)
      go_ret
      exact ⟨by simp, B0⟩ )
theorem far_is (c : Ce) : (c.far && ((c.kids.length : Int) == 0)) = (((inB c.n (-1) 30 && decide (0 ≤ c.pos)) && ((c.kids.length : Int) == 0)) && (decide (0 ≤ c.n) || (c.pos == 0))) := by
  unfold Ce.far inB
  by_cases h1 : c.n = -1
  · rw [if_pos h1, h1]
    by_cases h2 : c.pos = 0
    · rw [h2]; simp
    · have : (c.pos == 0) = false := by simpa using h2
      rw [this]; simp
  · rw [if_neg h1]
    by_cases h2 : 0 ≤ c.n
    · have e1 : decide (-1 ≤ c.n) = true := by simp; omega
      rw [e1]; simp [h2]
    · have e1 : decide (-1 ≤ c.n) = false := by simp; omega
      rw [e1]; simp [h2]

set_option maxHeartbeats 12800000 in
theorem fieldsFit_any (v : Value) (c : Ce) (codes : Int) (S : Nat → Prop) (w : World) (h : CeAt w S v c) :
    Calls Tryz.prog 81 #[v, .int .i64 codes] w fun e w' => e = .returned (.bool (c.fields codes)) ∧ Below w.heap.size w w' := by
  have H0 : Hid (CeAt w S v c) := h
  obtain ⟨kv, rfl, r1, r2, r3, hk⟩ := h
  obtain ⟨a, cap, rfl⟩ := hk.form
  have B0 : Below w.heap.size w (w.alloc (.cells #[.int .i64 c.kind, .int .i64 c.n, .int .i64 c.pos, .slice a c.kids.length cap] 26)) := (Below.refl _ w).alloc (Nat.le_refl _) _
  have H1 : Hid (CeAt (w.alloc (.cells #[.int .i64 c.kind, .int .i64 c.n, .int .i64 c.pos, .slice a c.kids.length cap] 26)) S (.agg #[.int .i64 c.kind, .int .i64 c.n, .int .i64 c.pos, .slice a c.kids.length cap]) c) := ⟨_, rfl, r1, r2, r3, hk.below B0⟩
  clear H0 hk r1 r2 r3
  have hfar := (show Hid (_ ∧ True) from ⟨far_is c, trivial⟩)
  have hFo := (show Hid (_ ∧ True) from ⟨fun h => fields_other c codes h, trivial⟩)
  generalize hFF : c.fields codes = F at *
  have HFF := (show Hid (_ ∧ True) from ⟨hFF, trivial⟩)
  clear hFF
  by_cases hkd : 0 ≤ c.kind ∧ c.kind ≤ 7
  · clear hFo
    have hcs : c.kind = 0 ∨ c.kind = 1 ∨ c.kind = 2 ∨ c.kind = 3 ∨ c.kind = 4 ∨ c.kind = 5 ∨ c.kind = 6 ∨ c.kind = 7 := by omega
    clear hkd
    obtain ⟨kind, n, pos, kids⟩ := c
    simp only [] at *
    have hkm : ∀ k : Nat, IntKind.i64.wrap (kids.length : Int) = kids.length ∨ True := fun _ => .inr trivial
    clear hkm
    rcases hcs with rfl | rfl | rfl | rfl | rfl | rfl | rfl | rfl
    · have HF2 : Hid (F = ((pos == 0) && ((kids.length : Int) == 0))) := by
        show F = ((pos == 0) && ((kids.length : Int) == 0))
        rw [← HFF.out.1]; rfl
      clear HFF H1 hfar
      cases b0 : (pos == 0) <;> cases b1 : ((kids.length : Int) == 0) <;>
      ( go_enter Tryz.func81, Tryz.ntmps81
        go_wp2
        go_ret
        exact ⟨by rw [HF2.out]; simp [b0, b1], B0⟩ )
    · have HF2 : Hid (F = (((n == 0) && (pos == 0)) && ((kids.length : Int) == 0))) := by
        show F = (((n == 0) && (pos == 0)) && ((kids.length : Int) == 0))
        rw [← HFF.out.1]; rfl
      clear HFF H1 hfar
      cases b0 : (n == 0) <;> cases b1 : (pos == 0) <;> cases b2 : ((kids.length : Int) == 0) <;>
      ( go_enter Tryz.func81, Tryz.ntmps81
        go_wp2
        go_ret
        exact ⟨by rw [HF2.out]; simp [b0, b1, b2], B0⟩ )
    · have HF2 : Hid (F = (((n == 0) && (pos == 0)) && ((kids.length : Int) == 2))) := by
        show F = (((n == 0) && (pos == 0)) && ((kids.length : Int) == 2))
        rw [← HFF.out.1]; rfl
      clear HFF H1 hfar
      cases b0 : (n == 0) <;> cases b1 : (pos == 0) <;> cases b2 : ((kids.length : Int) == 2) <;>
      ( go_enter Tryz.func81, Tryz.ntmps81
        go_wp2
        go_ret
        exact ⟨by rw [HF2.out]; simp [b0, b1, b2], B0⟩ )
    · have HF2 : Hid (F = (inB n 1 6 && (decide (0 ≤ pos) && decide (pos < codes)))) := by
        show F = (inB n 1 6 && (decide (0 ≤ pos) && decide (pos < codes)))
        rw [← HFF.out.1, ← Bool.and_assoc]; rfl
      clear HFF H1 hfar
      generalize hC : (decide (0 ≤ pos) && decide (pos < codes)) = C at *
      have hcode : ∀ w, Calls Tryz.prog 89 #[.int .i64 pos, .int .i64 codes] w fun e w' => e = .returned (.bool C) ∧ w' = w := fun w => by rw [← hC]; exact isCode_any pos codes w
      clear hC
      cases b0 : inB n 1 6 <;> cases C <;>
      ( go_enter Tryz.func81, Tryz.ntmps81
        go_wp2_with (first
          | (go_at_call 49; refine (within_r _ _ _ _ b0 _).mono ?_; rintro e w1 ⟨rfl, rfl⟩)
          | (go_at_call 89; refine (hcode _).mono ?_; rintro e w2 ⟨rfl, rfl⟩))
        go_ret
        exact ⟨by rw [HF2.out]; simp [b0], B0⟩ )
    · have HF2 : Hid (F = ((n == 0) && (decide (0 ≤ pos) && decide (pos < codes)))) := by
        show F = ((n == 0) && (decide (0 ≤ pos) && decide (pos < codes)))
        rw [← HFF.out.1, ← Bool.and_assoc]; rfl
      clear HFF H1 hfar
      generalize hC : (decide (0 ≤ pos) && decide (pos < codes)) = C at *
      have hcode : ∀ w, Calls Tryz.prog 89 #[.int .i64 pos, .int .i64 codes] w fun e w' => e = .returned (.bool C) ∧ w' = w := fun w => by rw [← hC]; exact isCode_any pos codes w
      clear hC
      cases b0 : (n == 0) <;> cases C <;>
      ( go_enter Tryz.func81, Tryz.ntmps81
        go_wp2_with (go_at_call 89; refine (hcode _).mono ?_; rintro e w2 ⟨rfl, rfl⟩)
        go_ret
        exact ⟨by rw [HF2.out]; simp [b0], B0⟩ )
    · have HF2 : Hid (F = (((n == 0) && (pos == 0)) && ((kids.length : Int) == 0))) := by
        show F = (((n == 0) && (pos == 0)) && ((kids.length : Int) == 0))
        rw [← HFF.out.1]; rfl
      clear HFF H1 hfar
      cases b0 : (n == 0) <;> cases b1 : (pos == 0) <;> cases b2 : ((kids.length : Int) == 0) <;>
      ( go_enter Tryz.func81, Tryz.ntmps81
        go_wp2
        go_ret
        exact ⟨by rw [HF2.out]; simp [b0, b1, b2], B0⟩ )
    · have HF2 : Hid (F = (((n == 0) && (pos == 0)) && ((kids.length : Int) == 1))) := by
        show F = (((n == 0) && (pos == 0)) && ((kids.length : Int) == 1))
        rw [← HFF.out.1]; rfl
      clear HFF H1 hfar
      cases b0 : (n == 0) <;> cases b1 : (pos == 0) <;> cases b2 : ((kids.length : Int) == 1) <;>
      ( go_enter Tryz.func81, Tryz.ntmps81
        go_wp2
        go_ret
        exact ⟨by rw [HF2.out]; simp [b0, b1, b2], B0⟩ )
    · have HF2 : Hid (F = ((Ce.far ⟨7, n, pos, kids⟩) && ((kids.length : Int) == 0))) := by
        show F = ((Ce.far ⟨7, n, pos, kids⟩) && ((kids.length : Int) == 0))
        rw [← HFF.out.1, hfar.out.1]; rfl
      clear HFF hfar
      have hf := (farFits_any _ _ S _ H1.out)
      generalize hC : Ce.far ⟨7, n, pos, kids⟩ = C at *
      have HW := (show Hid (_ ∧ True) from ⟨hf, trivial⟩)
      clear hC H1 hf
      cases b0 : ((kids.length : Int) == 0) <;> cases C <;>
      ( go_enter Tryz.func81, Tryz.ntmps81
        go_wp2_with (go_at_call 90; refine HW.out.1.mono ?_; rintro e w2 ⟨rfl, b2⟩)
        go_ret
        exact ⟨by rw [HF2.out]; simp [b0], B0.trans (b2.mono B0.size)⟩ )
  · have hFf := hFo.out.1 hkd
    subst hFf
    have g0 : (c.kind == 0) = false := by simp; omega
    have g1 : (c.kind == 1) = false := by simp; omega
    have g2 : (c.kind == 2) = false := by simp; omega
    have g3 : (c.kind == 3) = false := by simp; omega
    have g4 : (c.kind == 4) = false := by simp; omega
    have g5 : (c.kind == 5) = false := by simp; omega
    have g6 : (c.kind == 6) = false := by simp; omega
    have g7 : (c.kind == 7) = false := by simp; omega
    clear hFo hfar HFF hkd H1
    go_enter Tryz.func81, Tryz.ntmps81
    go_wp2
    go_ret
    exact ⟨rfl, B0⟩
end Go.Proofs.YtkfmkhhjkioeoaaGreatDoor
