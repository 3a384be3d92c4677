/-
  The program's MsgOk.
-/
import Derived.Test.YtkfmkhhjkioeoaaGreatDoorSpecMsgOk
import Derived.Test.YtkfmkhhjkioeoaaGreatDoorImplMsg0
namespace Go.Proofs.YtkfmkhhjkioeoaaGreatDoor
open Go.RowKit Go.Joins

set_option maxRecDepth 100000

theorem numOk_is (z : Int) : numOk z = (decide (0 ≤ z) && decide (z < 1000000)) := by
  unfold numOk inB
  congr 1
  simp only [decide_eq_decide]
  omega
theorem len_zero {c : Ce} (h : ((c.kids.length : Int) == 0) = true) : decide ((c.kids.length : Int) ≤ 100) = true := by simp at h; simp [h]
theorem len_two {c : Ce} (h : ((c.kids.length : Int) == 2) = true) : decide ((c.kids.length : Int) ≤ 100) = true := by simp at h; simp; omega
theorem may_give (c : Ce) : c.may false = (valueKind c.kind && c.travels) := by
  unfold Ce.may valueKind Ce.travels Ce.fields
  simp only [Bool.false_eq_true, if_false, numOk_is c.pos]
  by_cases k0 : c.kind = 0
  · cases hl : ((c.kids.length : Int) == 0) with
    | false => simp [k0]
    | true => have := len_zero hl; simp [k0, this]
  by_cases k1 : c.kind = 1
  · cases hl : ((c.kids.length : Int) == 0) with
    | false => simp [k1]
    | true => have := len_zero hl; simp [k1, this]
  by_cases k2 : c.kind = 2
  · cases hl : ((c.kids.length : Int) == 2) with
    | false => simp [k2]
    | true => have := len_two hl; simp [k2, this]
  by_cases k3 : c.kind = 3
  · cases decide ((c.kids.length : Int) ≤ 100) <;> cases c.kids.all numOk <;> simp [k3, Bool.and_assoc]
  · have g0 : (c.kind == 0) = false := by simpa using k0
    have g1 : (c.kind == 1) = false := by simpa using k1
    have g2 : (c.kind == 2) = false := by simpa using k2
    have g3 : (c.kind == 3) = false := by simpa using k3
    rw [if_neg k0, if_neg k1, if_neg k2, g0, g1, g2, g3]
    simp
theorem may_work (c : Ce) : c.may true = ((c.kind == 4) && c.travels) := by
  unfold Ce.may Ce.travels Ce.fields
  simp only [if_true, numOk_is c.pos]
  by_cases k4 : c.kind = 4
  · cases decide ((c.kids.length : Int) ≤ 100) <;> cases c.kids.all numOk <;> simp [k4, Bool.and_assoc]
  · have g4 : (c.kind == 4) = false := by simpa using k4
    rw [g4]
    simp
/-- A right message as the program asks for it. -/
def Ms.okI (m : Ms) : Bool := apartB m.frm m.dst &&
  (if m.kind = 0 then (numOk m.id && numOk m.want) && m.cell.isNone
   else if m.kind = 1 then ((numOk m.id && (m.want == 0)) && valueKind m.cell.kind) && m.cell.travels
   else if m.kind = 2 then ((m.id == 0) && (m.want == 0)) && m.cell.isNone
   else if m.kind = 3 then ((numOk m.id && (m.want == 0)) && (m.cell.kind == 4)) && m.cell.travels
   else false)
theorem Ms.okI_is (m : Ms) : m.okI = m.ok := by
  unfold Ms.okI Ms.ok apartB
  rw [may_give, may_work]
  generalize m.cell.travels = T
  generalize m.cell.isNone = Z
  generalize valueKind m.cell.kind = V
  generalize (m.cell.kind == 4) = F
  by_cases hw : m.want = 0
  · by_cases hi : m.id = 0
    · rw [hw, hi]
      simp only [numOk_zero]
      cases nodeOk m.frm <;> cases nodeOk m.dst <;> cases (m.frm == m.dst) <;> simp
    · have hi' : (m.id == 0) = false := by simpa using hi
      rw [hw, hi']
      simp only [numOk_zero]
      cases nodeOk m.frm <;> cases nodeOk m.dst <;> cases (m.frm == m.dst) <;> cases numOk m.id <;> simp
  · have hw' : (m.want == 0) = false := by simpa using hw
    rw [hw']
    cases nodeOk m.frm <;> cases nodeOk m.dst <;> cases (m.frm == m.dst) <;> cases numOk m.id <;> cases numOk m.want <;> simp

set_option maxHeartbeats 6400000 in
theorem implMsgOk_any (v : Value) (m : Ms) (S : Nat → Prop) (w : World) (h : MsAt w S v m) :
    Calls Tryz.prog 28 #[v] w fun e w' => e = .returned (.bool m.ok) ∧ Below w.heap.size w w' := by
  rw [← m.okI_is]
  unfold Ms.okI
  obtain ⟨a, c, rfl⟩ := h.form
  have B0 : Below w.heap.size w (w.alloc (.cells (m.row (.slice a m.cell.kids.length c)) 28)) := (Below.refl _ w).alloc (Nat.le_refl _) _
  have HC := (show Hid (_ ∧ _ ∧ _) from ⟨isZeroCell_any (.agg #[.int .i64 m.cell.kind, .int .i64 m.cell.n, .int .i64 m.cell.pos, .slice a m.cell.kids.length c]) m.cell S _ (h.cellAt.belowM B0), cellTravels_any (.agg #[.int .i64 m.cell.kind, .int .i64 m.cell.n, .int .i64 m.cell.pos, .slice a m.cell.kids.length c]) m.cell S _ (h.cellAt.belowM B0), B0⟩)
  clear h B0
  have hnot := ex_not
  cases h0 : apartB m.frm m.dst with
  | false =>
    go_enter Tryz.func28, Tryz.ntmps28
    go_wp2_with (go_at_call 58; refine (areApart_r _ _ _ h0 _).mono ?_; rintro e w1 ⟨rfl, rfl⟩)
    all_goals (go_ret; exact ⟨rfl, HC.out.2.2⟩)
  | true =>
    by_cases k0 : m.kind = 0
    · rw [if_pos k0]
      cases h1 : numOk m.id with
      | false =>
        go_enter Tryz.func28, Tryz.ntmps28
        go_wp2_with (first
          | (go_at_call 58; refine (areApart_r _ _ _ h0 _).mono ?_; rintro e w1 ⟨rfl, rfl⟩)
          | (go_at_call 59; refine (isId_r _ _ h1 _).mono ?_; rintro e w1 ⟨rfl, rfl⟩))
        go_ret
        exact ⟨rfl, HC.out.2.2⟩
      | true =>
        cases h2 : numOk m.want with
        | false =>
          go_enter Tryz.func28, Tryz.ntmps28
          go_wp2_with (first
            | (go_at_call 58; refine (areApart_r _ _ _ h0 _).mono ?_; rintro e w1 ⟨rfl, rfl⟩)
            | (go_at_call 59; refine (isId_r _ _ h1 _).mono ?_; rintro e w1 ⟨rfl, rfl⟩)
            | (go_at_call 59; refine (isId_r _ _ h2 _).mono ?_; rintro e w1 ⟨rfl, rfl⟩))
          go_ret
          exact ⟨rfl, HC.out.2.2⟩
        | true =>
          go_enter Tryz.func28, Tryz.ntmps28
          go_wp2_with (first
            | (go_at_call 58; refine (areApart_r _ _ _ h0 _).mono ?_; rintro e w1 ⟨rfl, rfl⟩)
            | (go_at_call 59; refine (isId_r _ _ h1 _).mono ?_; rintro e w1 ⟨rfl, rfl⟩)
            | (go_at_call 59; refine (isId_r _ _ h2 _).mono ?_; rintro e w1 ⟨rfl, rfl⟩)
            | (go_at_call 60; refine HC.out.1.mono ?_; rintro e w2 ⟨rfl, b2⟩))
          go_ret
          exact ⟨rfl, HC.out.2.2.trans (b2.mono HC.out.2.2.size)⟩
    rw [if_neg k0]
    have g0 : (m.kind == 0) = false := by simpa using k0
    by_cases k1 : m.kind = 1
    · rw [if_pos k1]
      cases h1 : numOk m.id with
      | false =>
        go_enter Tryz.func28, Tryz.ntmps28
        go_wp2_with (first
          | (go_at_call 58; refine (areApart_r _ _ _ h0 _).mono ?_; rintro e w1 ⟨rfl, rfl⟩)
          | (go_at_call 59; refine (isId_r _ _ h1 _).mono ?_; rintro e w1 ⟨rfl, rfl⟩))
        go_ret
        exact ⟨rfl, HC.out.2.2⟩
      | true =>
        cases h2 : (m.want == 0) with
        | false =>
          go_enter Tryz.func28, Tryz.ntmps28
          go_wp2_with (first
            | (go_at_call 58; refine (areApart_r _ _ _ h0 _).mono ?_; rintro e w1 ⟨rfl, rfl⟩)
            | (go_at_call 59; refine (isId_r _ _ h1 _).mono ?_; rintro e w1 ⟨rfl, rfl⟩))
          go_ret
          exact ⟨rfl, HC.out.2.2⟩
        | true =>
          cases h3 : valueKind m.cell.kind with
          | false =>
            go_enter Tryz.func28, Tryz.ntmps28
            go_wp2_with (first
              | (go_at_call 58; refine (areApart_r _ _ _ h0 _).mono ?_; rintro e w1 ⟨rfl, rfl⟩)
              | (go_at_call 59; refine (isId_r _ _ h1 _).mono ?_; rintro e w1 ⟨rfl, rfl⟩)
              | (go_at_call 61; refine (isValueKind_r _ _ h3 _).mono ?_; rintro e w1 ⟨rfl, rfl⟩))
            go_ret
            exact ⟨rfl, HC.out.2.2⟩
          | true =>
            go_enter Tryz.func28, Tryz.ntmps28
            go_wp2_with (first
              | (go_at_call 58; refine (areApart_r _ _ _ h0 _).mono ?_; rintro e w1 ⟨rfl, rfl⟩)
              | (go_at_call 59; refine (isId_r _ _ h1 _).mono ?_; rintro e w1 ⟨rfl, rfl⟩)
              | (go_at_call 61; refine (isValueKind_r _ _ h3 _).mono ?_; rintro e w1 ⟨rfl, rfl⟩)
              | (go_at_call 62; refine HC.out.2.1.mono ?_; rintro e w2 ⟨rfl, b2⟩))
            go_ret
            exact ⟨rfl, HC.out.2.2.trans (b2.mono HC.out.2.2.size)⟩
    rw [if_neg k1]
    have g1 : (m.kind == 1) = false := by simpa using k1
    by_cases k2 : m.kind = 2
    · rw [if_pos k2]
      cases h1 : (m.id == 0) with
      | false =>
        go_enter Tryz.func28, Tryz.ntmps28
        go_wp2_with (go_at_call 58; refine (areApart_r _ _ _ h0 _).mono ?_; rintro e w1 ⟨rfl, rfl⟩)
        go_ret
        exact ⟨rfl, HC.out.2.2⟩
      | true =>
        cases h2 : (m.want == 0) with
        | false =>
          go_enter Tryz.func28, Tryz.ntmps28
          go_wp2_with (go_at_call 58; refine (areApart_r _ _ _ h0 _).mono ?_; rintro e w1 ⟨rfl, rfl⟩)
          go_ret
          exact ⟨rfl, HC.out.2.2⟩
        | true =>
          go_enter Tryz.func28, Tryz.ntmps28
          go_wp2_with (first
            | (go_at_call 58; refine (areApart_r _ _ _ h0 _).mono ?_; rintro e w1 ⟨rfl, rfl⟩)
            | (go_at_call 60; refine HC.out.1.mono ?_; rintro e w2 ⟨rfl, b2⟩))
          go_ret
          exact ⟨rfl, HC.out.2.2.trans (b2.mono HC.out.2.2.size)⟩
    rw [if_neg k2]
    have g2 : (m.kind == 2) = false := by simpa using k2
    by_cases k3 : m.kind = 3
    · rw [if_pos k3]
      cases h1 : numOk m.id with
      | false =>
        go_enter Tryz.func28, Tryz.ntmps28
        go_wp2_with (first
          | (go_at_call 58; refine (areApart_r _ _ _ h0 _).mono ?_; rintro e w1 ⟨rfl, rfl⟩)
          | (go_at_call 59; refine (isId_r _ _ h1 _).mono ?_; rintro e w1 ⟨rfl, rfl⟩))
        go_ret
        exact ⟨rfl, HC.out.2.2⟩
      | true =>
        cases h2 : (m.want == 0) with
        | false =>
          go_enter Tryz.func28, Tryz.ntmps28
          go_wp2_with (first
            | (go_at_call 58; refine (areApart_r _ _ _ h0 _).mono ?_; rintro e w1 ⟨rfl, rfl⟩)
            | (go_at_call 59; refine (isId_r _ _ h1 _).mono ?_; rintro e w1 ⟨rfl, rfl⟩))
          go_ret
          exact ⟨rfl, HC.out.2.2⟩
        | true =>
          cases h3 : (m.cell.kind == 4) with
          | false =>
            go_enter Tryz.func28, Tryz.ntmps28
            go_wp2_with (first
              | (go_at_call 58; refine (areApart_r _ _ _ h0 _).mono ?_; rintro e w1 ⟨rfl, rfl⟩)
              | (go_at_call 59; refine (isId_r _ _ h1 _).mono ?_; rintro e w1 ⟨rfl, rfl⟩))
            go_ret
            exact ⟨rfl, HC.out.2.2⟩
          | true =>
            go_enter Tryz.func28, Tryz.ntmps28
            go_wp2_with (first
              | (go_at_call 58; refine (areApart_r _ _ _ h0 _).mono ?_; rintro e w1 ⟨rfl, rfl⟩)
              | (go_at_call 59; refine (isId_r _ _ h1 _).mono ?_; rintro e w1 ⟨rfl, rfl⟩)
              | (go_at_call 62; refine HC.out.2.1.mono ?_; rintro e w2 ⟨rfl, b2⟩))
            go_ret
            exact ⟨rfl, HC.out.2.2.trans (b2.mono HC.out.2.2.size)⟩
    rw [if_neg k3]
    have g3 : (m.kind == 3) = false := by simpa using k3
    go_enter Tryz.func28, Tryz.ntmps28
    go_wp2_with (go_at_call 58; refine (areApart_r _ _ _ h0 _).mono ?_; rintro e w1 ⟨rfl, rfl⟩)
    go_ret
    exact ⟨rfl, HC.out.2.2⟩
end Go.Proofs.YtkfmkhhjkioeoaaGreatDoor
