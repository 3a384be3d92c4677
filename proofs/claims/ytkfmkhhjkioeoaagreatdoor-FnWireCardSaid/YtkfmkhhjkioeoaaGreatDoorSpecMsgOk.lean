/-
  The specification's MsgOk.
-/
import Derived.Test.YtkfmkhhjkioeoaaGreatDoorSpecMsg0
namespace Go.Proofs.YtkfmkhhjkioeoaaGreatDoor
open Go.RowKit Go.Joins

set_option maxRecDepth 100000

theorem numOk_zero : numOk 0 = true := by decide
theorem Ms.ok_not {m : Ms} (h : ¬ (nodeOk m.frm = true ∧ nodeOk m.dst = true ∧ m.frm ≠ m.dst ∧ numOk m.id = true ∧ numOk m.want = true)) : m.ok = false := by
  unfold Ms.ok
  cases h1 : nodeOk m.frm <;> cases h2 : nodeOk m.dst <;> cases h3 : numOk m.id <;> cases h4 : numOk m.want <;> simp_all
theorem Ms.ok_is {m : Ms} {r : Bool} (h1 : nodeOk m.frm = true) (h2 : nodeOk m.dst = true) (h3 : m.frm ≠ m.dst) (h4 : numOk m.id = true) (h5 : numOk m.want = true)
    (hr : (if m.kind = 0 then m.cell.isNone
   else if m.kind = 1 then (m.want == 0 && m.cell.may false)
   else if m.kind = 2 then (m.id == 0 && m.want == 0 && m.cell.isNone)
   else if m.kind = 3 then (m.want == 0 && m.cell.may true)
   else false) = r) : m.ok = r := by
  unfold Ms.ok
  rw [h1, h2, h4, h5, hr]
  simp [h3]

set_option maxHeartbeats 6400000 in
theorem specMsgOk_any (v : Value) (m : Ms) (S : Nat → Prop) (w : World) (h : MsAt w S v m) (hl : m.cell.kids.length ≤ 4194304) :
    Calls Tryz.prog 29 #[v] w fun e w' => e = .returned (.bool m.ok) ∧ Below w.heap.size w w' := by
  obtain ⟨a, c, rfl⟩ := h.form
  have B0 : Below w.heap.size w (w.alloc (.cells (m.row (.slice a m.cell.kids.length c)) 28)) := (Below.refl _ w).alloc (Nat.le_refl _) _
  have H0 := (show Hid (_ ∧ _) from ⟨h.cellAt.belowM B0, B0⟩)
  clear h B0
  have hnot := ex_not
  by_cases hall : nodeOk m.frm = true ∧ nodeOk m.dst = true ∧ m.frm ≠ m.dst ∧ numOk m.id = true ∧ numOk m.want = true
  · obtain ⟨h1, h2, h3, h4, h5⟩ := hall
    have HR := (show Hid (∀ r, _ → m.ok = r) from fun r hr => Ms.ok_is h1 h2 h3 h4 h5 hr)
    have HN := l07None_any (.agg #[.int .i64 m.cell.kind, .int .i64 m.cell.n, .int .i64 m.cell.pos, .slice a m.cell.kids.length c]) m.cell S _ H0.out.1
    have HY := fun work => l07Cell_any (.agg #[.int .i64 m.cell.kind, .int .i64 m.cell.n, .int .i64 m.cell.pos, .slice a m.cell.kids.length c]) m.cell work S _ H0.out.1 hl
    have HC := (show Hid (_ ∧ _) from ⟨HN, HY⟩)
    clear HN HY
    by_cases k0 : m.kind = 0
    · have HV := (show Hid (_ ∧ True) from ⟨HR.out m.cell.isNone (by simp [k0]), trivial⟩)
      go_enter Tryz.func29, Tryz.ntmps29
      go_wp2_with (first
        | (go_at_call 63; refine (l07Node_any _ _ h1 _).mono ?_; rintro e w1 ⟨rfl, rfl⟩)
        | (go_at_call 63; refine (l07Node_any _ _ h2 _).mono ?_; rintro e w1 ⟨rfl, rfl⟩)
        | (go_at_call 64; refine (l07Num_any _ _ h4 _).mono ?_; rintro e w1 ⟨rfl, rfl⟩)
        | (go_at_call 64; refine (l07Num_any _ _ h5 _).mono ?_; rintro e w1 ⟨rfl, rfl⟩)
        | (go_at_call 64; refine (l07Num_any _ _ numOk_zero _).mono ?_; rintro e w1 ⟨rfl, rfl⟩)
        | (go_at_call 65; refine HC.out.1.mono ?_; rintro e w2 ⟨rfl, b2⟩))
      go_ret
      exact ⟨ret_b (HV.out.1).symm, H0.out.2.trans (b2.mono H0.out.2.size)⟩
    by_cases k1 : m.kind = 1
    · by_cases hw : m.want = 0
      · have HV := (show Hid (_ ∧ True) from ⟨HR.out (m.cell.may false) (by simp [k1, hw]), trivial⟩)
        go_enter Tryz.func29, Tryz.ntmps29
        go_wp2_with (first
          | (go_at_call 63; refine (l07Node_any _ _ h1 _).mono ?_; rintro e w1 ⟨rfl, rfl⟩)
          | (go_at_call 63; refine (l07Node_any _ _ h2 _).mono ?_; rintro e w1 ⟨rfl, rfl⟩)
          | (go_at_call 64; refine (l07Num_any _ _ h4 _).mono ?_; rintro e w1 ⟨rfl, rfl⟩)
          | (go_at_call 64; refine (l07Num_any _ _ h5 _).mono ?_; rintro e w1 ⟨rfl, rfl⟩)
          | (go_at_call 64; refine (l07Num_any _ _ numOk_zero _).mono ?_; rintro e w1 ⟨rfl, rfl⟩)
          | (go_at_call 66; refine (HC.out.2 false).mono ?_; rintro e w2 ⟨rfl, b2⟩))
        go_ret
        exact ⟨ret_b (HV.out.1).symm, H0.out.2.trans (b2.mono H0.out.2.size)⟩
      · have HV := (show Hid (_ ∧ True) from ⟨HR.out false (by simp [k1, hw]), trivial⟩)
        go_enter Tryz.func29, Tryz.ntmps29
        go_wp2_with (first
          | (go_at_call 63; refine (l07Node_any _ _ h1 _).mono ?_; rintro e w1 ⟨rfl, rfl⟩)
          | (go_at_call 63; refine (l07Node_any _ _ h2 _).mono ?_; rintro e w1 ⟨rfl, rfl⟩)
          | (go_at_call 64; refine (l07Num_any _ _ h4 _).mono ?_; rintro e w1 ⟨rfl, rfl⟩)
          | (go_at_call 64; refine (l07Num_any _ _ h5 _).mono ?_; rintro e w1 ⟨rfl, rfl⟩)
          | (go_at_call 64; refine (l07Num_any _ _ numOk_zero _).mono ?_; rintro e w1 ⟨rfl, rfl⟩))
        go_ret
        exact ⟨ret_b (HV.out.1).symm, H0.out.2⟩
    by_cases k2 : m.kind = 2
    · by_cases hi : m.id = 0
      · by_cases hw : m.want = 0
        · have HV := (show Hid (_ ∧ True) from ⟨HR.out m.cell.isNone (by simp [k2, hw, hi]), trivial⟩)
          go_enter Tryz.func29, Tryz.ntmps29
          go_wp2_with (first
            | (go_at_call 63; refine (l07Node_any _ _ h1 _).mono ?_; rintro e w1 ⟨rfl, rfl⟩)
            | (go_at_call 63; refine (l07Node_any _ _ h2 _).mono ?_; rintro e w1 ⟨rfl, rfl⟩)
            | (go_at_call 64; refine (l07Num_any _ _ h4 _).mono ?_; rintro e w1 ⟨rfl, rfl⟩)
            | (go_at_call 64; refine (l07Num_any _ _ h5 _).mono ?_; rintro e w1 ⟨rfl, rfl⟩)
            | (go_at_call 64; refine (l07Num_any _ _ numOk_zero _).mono ?_; rintro e w1 ⟨rfl, rfl⟩)
            | (go_at_call 65; refine HC.out.1.mono ?_; rintro e w2 ⟨rfl, b2⟩))
          go_ret
          exact ⟨ret_b (HV.out.1).symm, H0.out.2.trans (b2.mono H0.out.2.size)⟩
        · have HV := (show Hid (_ ∧ True) from ⟨HR.out false (by simp [k2, hw, hi]), trivial⟩)
          go_enter Tryz.func29, Tryz.ntmps29
          go_wp2_with (first
            | (go_at_call 63; refine (l07Node_any _ _ h1 _).mono ?_; rintro e w1 ⟨rfl, rfl⟩)
            | (go_at_call 63; refine (l07Node_any _ _ h2 _).mono ?_; rintro e w1 ⟨rfl, rfl⟩)
            | (go_at_call 64; refine (l07Num_any _ _ h4 _).mono ?_; rintro e w1 ⟨rfl, rfl⟩)
            | (go_at_call 64; refine (l07Num_any _ _ h5 _).mono ?_; rintro e w1 ⟨rfl, rfl⟩)
            | (go_at_call 64; refine (l07Num_any _ _ numOk_zero _).mono ?_; rintro e w1 ⟨rfl, rfl⟩))
          go_ret
          exact ⟨ret_b (HV.out.1).symm, H0.out.2⟩
      · have HV := (show Hid (_ ∧ True) from ⟨HR.out false (by simp [k2, hi]), trivial⟩)
        go_enter Tryz.func29, Tryz.ntmps29
        go_wp2_with (first
          | (go_at_call 63; refine (l07Node_any _ _ h1 _).mono ?_; rintro e w1 ⟨rfl, rfl⟩)
          | (go_at_call 63; refine (l07Node_any _ _ h2 _).mono ?_; rintro e w1 ⟨rfl, rfl⟩)
          | (go_at_call 64; refine (l07Num_any _ _ h4 _).mono ?_; rintro e w1 ⟨rfl, rfl⟩)
          | (go_at_call 64; refine (l07Num_any _ _ h5 _).mono ?_; rintro e w1 ⟨rfl, rfl⟩)
          | (go_at_call 64; refine (l07Num_any _ _ numOk_zero _).mono ?_; rintro e w1 ⟨rfl, rfl⟩))
        go_ret
        exact ⟨ret_b (HV.out.1).symm, H0.out.2⟩
    by_cases k3 : m.kind = 3
    · by_cases hw : m.want = 0
      · have HV := (show Hid (_ ∧ True) from ⟨HR.out (m.cell.may true) (by simp [k3, hw]), trivial⟩)
        go_enter Tryz.func29, Tryz.ntmps29
        go_wp2_with (first
          | (go_at_call 63; refine (l07Node_any _ _ h1 _).mono ?_; rintro e w1 ⟨rfl, rfl⟩)
          | (go_at_call 63; refine (l07Node_any _ _ h2 _).mono ?_; rintro e w1 ⟨rfl, rfl⟩)
          | (go_at_call 64; refine (l07Num_any _ _ h4 _).mono ?_; rintro e w1 ⟨rfl, rfl⟩)
          | (go_at_call 64; refine (l07Num_any _ _ h5 _).mono ?_; rintro e w1 ⟨rfl, rfl⟩)
          | (go_at_call 64; refine (l07Num_any _ _ numOk_zero _).mono ?_; rintro e w1 ⟨rfl, rfl⟩)
          | (go_at_call 66; refine (HC.out.2 true).mono ?_; rintro e w2 ⟨rfl, b2⟩))
        go_ret
        exact ⟨ret_b (HV.out.1).symm, H0.out.2.trans (b2.mono H0.out.2.size)⟩
      · have HV := (show Hid (_ ∧ True) from ⟨HR.out false (by simp [k3, hw]), trivial⟩)
        go_enter Tryz.func29, Tryz.ntmps29
        go_wp2_with (first
          | (go_at_call 63; refine (l07Node_any _ _ h1 _).mono ?_; rintro e w1 ⟨rfl, rfl⟩)
          | (go_at_call 63; refine (l07Node_any _ _ h2 _).mono ?_; rintro e w1 ⟨rfl, rfl⟩)
          | (go_at_call 64; refine (l07Num_any _ _ h4 _).mono ?_; rintro e w1 ⟨rfl, rfl⟩)
          | (go_at_call 64; refine (l07Num_any _ _ h5 _).mono ?_; rintro e w1 ⟨rfl, rfl⟩)
          | (go_at_call 64; refine (l07Num_any _ _ numOk_zero _).mono ?_; rintro e w1 ⟨rfl, rfl⟩))
        go_ret
        exact ⟨ret_b (HV.out.1).symm, H0.out.2⟩
    have HV := (show Hid (_ ∧ True) from ⟨HR.out false (by simp [k0, k1, k2, k3]), trivial⟩)
    go_enter Tryz.func29, Tryz.ntmps29
    go_wp2_with (first
      | (go_at_call 63; refine (l07Node_any _ _ h1 _).mono ?_; rintro e w1 ⟨rfl, rfl⟩)
      | (go_at_call 63; refine (l07Node_any _ _ h2 _).mono ?_; rintro e w1 ⟨rfl, rfl⟩)
      | (go_at_call 64; refine (l07Num_any _ _ h4 _).mono ?_; rintro e w1 ⟨rfl, rfl⟩)
      | (go_at_call 64; refine (l07Num_any _ _ h5 _).mono ?_; rintro e w1 ⟨rfl, rfl⟩)
      | (go_at_call 64; refine (l07Num_any _ _ numOk_zero _).mono ?_; rintro e w1 ⟨rfl, rfl⟩))
    go_ret
    exact ⟨ret_b (HV.out.1).symm, H0.out.2⟩
  · have HV := (show Hid (_ ∧ True) from ⟨Ms.ok_not hall, trivial⟩)
    cases h1 : nodeOk m.frm with
    | false =>
      go_enter Tryz.func29, Tryz.ntmps29
      go_wp2_with (first
        | (go_at_call 63; refine (l07Node_any _ _ h1 _).mono ?_; rintro e w1 ⟨rfl, rfl⟩)
        | (go_at_call 63; refine (l07Node_any _ _ h1 _).mono ?_; rintro e w1 ⟨rfl, rfl⟩)
        | (go_at_call 64; refine (l07Num_any _ _ h1 _).mono ?_; rintro e w1 ⟨rfl, rfl⟩)
        | (go_at_call 64; refine (l07Num_any _ _ h1 _).mono ?_; rintro e w1 ⟨rfl, rfl⟩))
      go_ret
      exact ⟨ret_b (HV.out.1).symm, H0.out.2⟩
    | true =>
    cases h2 : nodeOk m.dst with
    | false =>
      go_enter Tryz.func29, Tryz.ntmps29
      go_wp2_with (first
        | (go_at_call 63; refine (l07Node_any _ _ h1 _).mono ?_; rintro e w1 ⟨rfl, rfl⟩)
        | (go_at_call 63; refine (l07Node_any _ _ h2 _).mono ?_; rintro e w1 ⟨rfl, rfl⟩)
        | (go_at_call 64; refine (l07Num_any _ _ h1 _).mono ?_; rintro e w1 ⟨rfl, rfl⟩)
        | (go_at_call 64; refine (l07Num_any _ _ h1 _).mono ?_; rintro e w1 ⟨rfl, rfl⟩))
      go_ret
      exact ⟨ret_b (HV.out.1).symm, H0.out.2⟩
    | true =>
    by_cases h3 : m.frm = m.dst
    · have h3b : (m.frm == m.dst) = true := by simp [h3]
      have h1' := h2
      rw [← h3] at h1'
      go_enter Tryz.func29, Tryz.ntmps29
      go_wp2_with (first
        | (go_at_call 63; refine (l07Node_any _ _ h1 _).mono ?_; rintro e w1 ⟨rfl, rfl⟩)
        | (go_at_call 63; refine (l07Node_any _ _ h2 _).mono ?_; rintro e w1 ⟨rfl, rfl⟩)
        | (go_at_call 64; refine (l07Num_any _ _ h1 _).mono ?_; rintro e w1 ⟨rfl, rfl⟩)
        | (go_at_call 64; refine (l07Num_any _ _ h1' _).mono ?_; rintro e w1 ⟨rfl, rfl⟩))
      go_ret
      exact ⟨ret_b (HV.out.1).symm, H0.out.2⟩
    cases h4 : numOk m.id with
    | false =>
      go_enter Tryz.func29, Tryz.ntmps29
      go_wp2_with (first
        | (go_at_call 63; refine (l07Node_any _ _ h1 _).mono ?_; rintro e w1 ⟨rfl, rfl⟩)
        | (go_at_call 63; refine (l07Node_any _ _ h2 _).mono ?_; rintro e w1 ⟨rfl, rfl⟩)
        | (go_at_call 64; refine (l07Num_any _ _ h4 _).mono ?_; rintro e w1 ⟨rfl, rfl⟩)
        | (go_at_call 64; refine (l07Num_any _ _ h4 _).mono ?_; rintro e w1 ⟨rfl, rfl⟩))
      go_ret
      exact ⟨ret_b (HV.out.1).symm, H0.out.2⟩
    | true =>
    cases h5 : numOk m.want with
    | false =>
      go_enter Tryz.func29, Tryz.ntmps29
      go_wp2_with (first
        | (go_at_call 63; refine (l07Node_any _ _ h1 _).mono ?_; rintro e w1 ⟨rfl, rfl⟩)
        | (go_at_call 63; refine (l07Node_any _ _ h2 _).mono ?_; rintro e w1 ⟨rfl, rfl⟩)
        | (go_at_call 64; refine (l07Num_any _ _ h4 _).mono ?_; rintro e w1 ⟨rfl, rfl⟩)
        | (go_at_call 64; refine (l07Num_any _ _ h5 _).mono ?_; rintro e w1 ⟨rfl, rfl⟩)
        | (go_at_call 64; refine (l07Num_any _ _ numOk_zero _).mono ?_; rintro e w1 ⟨rfl, rfl⟩))
      go_ret
      exact ⟨ret_b (HV.out.1).symm, H0.out.2⟩
    | true => exact absurd ⟨h1, h2, h3, h4, h5⟩ hall
end Go.Proofs.YtkfmkhhjkioeoaaGreatDoor
