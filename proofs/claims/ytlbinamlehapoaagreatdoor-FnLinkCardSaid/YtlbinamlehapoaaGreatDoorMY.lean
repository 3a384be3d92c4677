/-
  A pack in memory, and when it is right, in plain words.
  The specification's PackOk.
-/
import Derived.Test.YtlbinamlehapoaaGreatDoorSpecGetMsg
namespace Go.Proofs.YtlbinamlehapoaaGreatDoor
open Go.RowKit Go.Joins

set_option maxRecDepth 100000

/-- A pack. -/
structure Pa where
  kind : Int
  frm : Int
  dst : Int
  seq : Int
  low : Int
  body : ByteArray
abbrev Pa.row (p : Pa) : Array Value := #[.int .i64 p.kind, .int .i64 p.frm, .int .i64 p.dst, .int .i64 p.seq, .int .i64 p.low, .string p.body]
/-- The message in its body. -/
def Pa.msg (p : Pa) : Ms := msgRes p.body.data.toList
/-- What a pack that holds a message must fulfil. -/
def Pa.data (p : Pa) : Bool := ((msgFit p.body.data.toList && (p.msg.frm == p.frm)) && (p.msg.dst == p.dst)) && inB p.low 1 p.seq
/-- A right pack. -/
def Pa.ok (p : Pa) : Bool := (apartB p.frm p.dst && inB p.seq 1 999999) && (if p.kind = 0 then p.data else if p.kind = 1 then (p.low == 0) && p.body.toList.isEmpty else false)
theorem pbox {W : World} {b : Nat} {p : Pa} {t : TypeId} (h : W.heap[b]? = some (.cells p.row t)) : W.cell? ⟨b, 1, none⟩ = some (.int .i64 p.frm) ∧ W.cell? ⟨b, 2, none⟩ = some (.int .i64 p.dst) ∧ W.cell? ⟨b, 3, none⟩ = some (.int .i64 p.seq) ∧ W.cell? ⟨b, 4, none⟩ = some (.int .i64 p.low) :=
  ⟨(cell_of_block h 1).trans rfl, (cell_of_block h 2).trans rfl, (cell_of_block h 3).trans rfl, (cell_of_block h 4).trans rfl⟩

set_option maxHeartbeats 1600000 in
theorem implPackOk_any (p : Pa) (w : World) (hs : p.body.size ≤ 1048576) (hg : ET w) :
    Calls Tryz.prog 69 #[.agg p.row] w fun e w' => e = .returned (.bool p.ok) ∧ Below w.heap.size w w' := by
  have hnot := ex_not
  obtain ⟨W0, hW0⟩ : ∃ W0, W0 = w.alloc (.cells p.row 38) := ⟨_, rfl⟩
  have B0 : Below w.heap.size w W0 := by rw [hW0]; exact (Below.refl _ w).alloc (Nat.le_refl _) _
  have H0 := (show Hid (_ ∧ _) from ⟨hg.below B0, B0⟩)
  subst hW0
  clear hg B0
  unfold Pa.ok
  cases h0 : apartB p.frm p.dst with
  | false =>
    go_enter Tryz.func69, Tryz.ntmps69
    go_wp2_with (go_at_call 83; refine (areApart_r _ _ _ h0 _).mono ?_; rintro e w1 ⟨rfl, rfl⟩)
    all_goals (go_ret; exact ⟨rfl, H0.out.2⟩)
  | true =>
    cases h1 : inB p.seq 1 999999 with
    | false =>
      go_enter Tryz.func69, Tryz.ntmps69
      go_wp2_with (first
        | (go_at_call 83; refine (areApart_r _ _ _ h0 _).mono ?_; rintro e w1 ⟨rfl, rfl⟩)
        | (go_at_call 45; refine (within_r _ _ _ _ h1 _).mono ?_; rintro e w1 ⟨rfl, rfl⟩))
      all_goals (go_ret; exact ⟨rfl, H0.out.2⟩)
    | true =>
      by_cases k0 : p.kind = 0
      · rw [if_pos k0]
        have hI := implGetMsg_any p.body _ hs H0.out.1
        have HI := (show Hid (_ ∧ True) from ⟨hI, trivial⟩)
        clear hI
        unfold Pa.data Pa.msg
        generalize msgRes p.body.data.toList = m at *
        generalize msgFit p.body.data.toList = f at *
        cases f with
        | false =>
          go_enter Tryz.func69, Tryz.ntmps69
          go_wp2_with (first
            | (go_at_call 83; refine (areApart_r _ _ _ h0 _).mono ?_; rintro e w1 ⟨rfl, rfl⟩)
            | (go_at_call 45; refine (within_r _ _ _ _ h1 _).mono ?_; rintro e w1 ⟨rfl, rfl⟩)
            | (go_at_call 76; refine HI.out.1.mono ?_; rintro e w2 ⟨mv, rfl, A2, b2⟩; obtain ⟨kv, rfl, h2, -⟩ := A2; obtain ⟨oa, oc, rfl⟩ := own_form h2; clear h2))
          all_goals (go_ret; exact ⟨rfl, H0.out.2.trans ((b2.alloc b2.size _).mono H0.out.2.size)⟩)
        | true =>
          cases h3 : (m.frm == p.frm) with
          | false =>
            go_enter Tryz.func69, Tryz.ntmps69
            go_wp2_with (first
              | (go_at_call 83; refine (areApart_r _ _ _ h0 _).mono ?_; rintro e w1 ⟨rfl, rfl⟩)
              | (go_at_call 45; refine (within_r _ _ _ _ h1 _).mono ?_; rintro e w1 ⟨rfl, rfl⟩)
              | (go_at_call 76; refine HI.out.1.mono ?_; rintro e w2 ⟨mv, rfl, A2, b2⟩; obtain ⟨kv, rfl, h2, -⟩ := A2; obtain ⟨oa, oc, rfl⟩ := own_form h2; clear h2; have P2 := (b2.block w.heap.size (lt_heap (MapKept.heap_alloc w (.cells p.row 38)).1)).trans (MapKept.heap_alloc w (.cells p.row 38)).1; obtain ⟨q1, q2, q3, q4⟩ := pbox P2; have hlt2 : w.heap.size < w2.heap.size := lt_heap P2; clear P2))
            all_goals (go_ret; exact ⟨rfl, H0.out.2.trans ((b2.alloc b2.size _).mono H0.out.2.size)⟩)
          | true =>
            cases h4 : (m.dst == p.dst) with
            | false =>
              go_enter Tryz.func69, Tryz.ntmps69
              go_wp2_with (first
                | (go_at_call 83; refine (areApart_r _ _ _ h0 _).mono ?_; rintro e w1 ⟨rfl, rfl⟩)
                | (go_at_call 45; refine (within_r _ _ _ _ h1 _).mono ?_; rintro e w1 ⟨rfl, rfl⟩)
                | (go_at_call 76; refine HI.out.1.mono ?_; rintro e w2 ⟨mv, rfl, A2, b2⟩; obtain ⟨kv, rfl, h2, -⟩ := A2; obtain ⟨oa, oc, rfl⟩ := own_form h2; clear h2; have P2 := (b2.block w.heap.size (lt_heap (MapKept.heap_alloc w (.cells p.row 38)).1)).trans (MapKept.heap_alloc w (.cells p.row 38)).1; obtain ⟨q1, q2, q3, q4⟩ := pbox P2; have hlt2 : w.heap.size < w2.heap.size := lt_heap P2; clear P2))
              all_goals (go_ret; exact ⟨rfl, H0.out.2.trans ((b2.alloc b2.size _).mono H0.out.2.size)⟩)
            | true =>
              obtain ⟨f2, hf2⟩ : ∃ f2, inB p.low 1 p.seq = f2 := ⟨_, rfl⟩
              rw [hf2]
              go_enter Tryz.func69, Tryz.ntmps69
              go_wp2_with (first
                | (go_at_call 83; refine (areApart_r _ _ _ h0 _).mono ?_; rintro e w1 ⟨rfl, rfl⟩)
                | (go_at_call 45; refine (within_any _ _ _ _).mono ?_; simp only [h1, hf2]; rintro e w1 ⟨rfl, rfl⟩)
                | (go_at_call 76; refine HI.out.1.mono ?_; rintro e w2 ⟨mv, rfl, A2, b2⟩; obtain ⟨kv, rfl, h2, -⟩ := A2; obtain ⟨oa, oc, rfl⟩ := own_form h2; clear h2; have P2 := (b2.block w.heap.size (lt_heap (MapKept.heap_alloc w (.cells p.row 38)).1)).trans (MapKept.heap_alloc w (.cells p.row 38)).1; obtain ⟨q1, q2, q3, q4⟩ := pbox P2; have hlt2 : w.heap.size < w2.heap.size := lt_heap P2; clear P2))
              all_goals (go_ret; exact ⟨by simp, H0.out.2.trans ((b2.alloc b2.size _).mono H0.out.2.size)⟩)
      · rw [if_neg k0]
        have g0 : (p.kind == 0) = false := by simpa using k0
        by_cases k1 : p.kind = 1
        · rw [if_pos k1]
          cases h2 : (p.low == 0) with
          | false =>
            go_enter Tryz.func69, Tryz.ntmps69
            go_wp2_with (first
              | (go_at_call 83; refine (areApart_r _ _ _ h0 _).mono ?_; rintro e w1 ⟨rfl, rfl⟩)
              | (go_at_call 45; refine (within_r _ _ _ _ h1 _).mono ?_; rintro e w1 ⟨rfl, rfl⟩))
            go_ret
            exact ⟨rfl, H0.out.2⟩
          | true =>
            go_enter Tryz.func69, Tryz.ntmps69
            go_wp2_with (first
              | (go_at_call 83; refine (areApart_r _ _ _ h0 _).mono ?_; rintro e w1 ⟨rfl, rfl⟩)
              | (go_at_call 45; refine (within_r _ _ _ _ h1 _).mono ?_; rintro e w1 ⟨rfl, rfl⟩))
            go_ret
            exact ⟨by simp, H0.out.2⟩
        · rw [if_neg k1]
          have g1 : (p.kind == 1) = false := by simpa using k1
          go_enter Tryz.func69, Tryz.ntmps69
          go_wp2_with (first
            | (go_at_call 83; refine (areApart_r _ _ _ h0 _).mono ?_; rintro e w1 ⟨rfl, rfl⟩)
            | (go_at_call 45; refine (within_r _ _ _ _ h1 _).mono ?_; rintro e w1 ⟨rfl, rfl⟩))
          go_ret
          exact ⟨rfl, H0.out.2⟩
end Go.Proofs.YtlbinamlehapoaaGreatDoor

namespace Go.Proofs.YtlbinamlehapoaaGreatDoor
open Go.RowKit Go.Joins

set_option maxRecDepth 100000

theorem Pa.ok_no {p : Pa} (h : ¬ (nodeOk p.frm = true ∧ nodeOk p.dst = true ∧ p.frm ≠ p.dst ∧ inB p.seq 1 999999 = true)) : p.ok = false := by
  unfold Pa.ok apartB
  cases h1 : nodeOk p.frm <;> cases h2 : nodeOk p.dst <;> cases h3 : inB p.seq 1 999999 <;> simp_all
theorem Pa.ok_yes {p : Pa} (h1 : nodeOk p.frm = true) (h2 : nodeOk p.dst = true) (h3 : p.frm ≠ p.dst) (h4 : inB p.seq 1 999999 = true) : p.ok = (if p.kind = 0 then p.data else if p.kind = 1 then (p.low == 0) && p.body.toList.isEmpty else false) := by
  unfold Pa.ok apartB
  rw [h1, h2, h4]
  simp [h3]
theorem pbox6 {W : World} {b : Nat} {p : Pa} {t : TypeId} (h : W.heap[b]? = some (.cells p.row t)) : W.cell? ⟨b, 0, none⟩ = some (.int .i64 p.kind) ∧ W.cell? ⟨b, 1, none⟩ = some (.int .i64 p.frm) ∧ W.cell? ⟨b, 2, none⟩ = some (.int .i64 p.dst) ∧ W.cell? ⟨b, 3, none⟩ = some (.int .i64 p.seq) ∧ W.cell? ⟨b, 4, none⟩ = some (.int .i64 p.low) ∧ W.cell? ⟨b, 5, none⟩ = some (.string p.body) :=
  ⟨(cell_of_block h 0).trans rfl, (cell_of_block h 1).trans rfl, (cell_of_block h 2).trans rfl, (cell_of_block h 3).trans rfl, (cell_of_block h 4).trans rfl, (cell_of_block h 5).trans rfl⟩

set_option maxHeartbeats 1600000 in
theorem specPackOk_any (p : Pa) (w : World) (hs : p.body.size ≤ 1048576) :
    Calls Tryz.prog 38 #[.agg p.row] w fun e w' => e = .returned (.bool p.ok) ∧ Below w.heap.size w w' := by
  have hnot := ex_not
  have B0 : Below w.heap.size w (w.alloc (.cells p.row 38)) := (Below.refl _ w).alloc (Nat.le_refl _) _
  have H0 := (show Hid (_ ∧ True) from ⟨B0, trivial⟩)
  clear B0
  by_cases hall : nodeOk p.frm = true ∧ nodeOk p.dst = true ∧ p.frm ≠ p.dst ∧ inB p.seq 1 999999 = true
  case neg =>
    rw [Pa.ok_no hall]
    cases h1 : nodeOk p.frm with
    | false =>
      go_enter Tryz.func38, Tryz.ntmps38
      go_wp2_with (go_at_call 62; refine (l07Node_any _ _ h1 _).mono ?_; rintro e w1 ⟨rfl, rfl⟩)
      all_goals (go_ret; exact ⟨rfl, H0.out.1⟩)
    | true =>
      cases h2 : nodeOk p.dst with
      | false =>
        go_enter Tryz.func38, Tryz.ntmps38
        go_wp2_with (first
          | (go_at_call 62; refine (l07Node_any _ _ h1 _).mono ?_; rintro e w1 ⟨rfl, rfl⟩)
          | (go_at_call 62; refine (l07Node_any _ _ h2 _).mono ?_; rintro e w1 ⟨rfl, rfl⟩))
        all_goals (go_ret; exact ⟨rfl, H0.out.1⟩)
      | true =>
        by_cases h3 : p.frm = p.dst
        · have h3' : (p.frm == p.dst) = true := by simpa using h3
          go_enter Tryz.func38, Tryz.ntmps38
          go_wp2_with (first
            | (go_at_call 62; refine (l07Node_any _ _ h1 _).mono ?_; rintro e w1 ⟨rfl, rfl⟩)
            | (go_at_call 62; refine (l07Node_any _ _ h2 _).mono ?_; rintro e w1 ⟨rfl, rfl⟩))
          all_goals (go_ret; exact ⟨rfl, H0.out.1⟩)
        · have h3' : (p.frm == p.dst) = false := by simpa using h3
          have h4 : inB p.seq 1 999999 = false := by
            cases h : inB p.seq 1 999999 with
            | false => rfl
            | true => exact absurd ⟨h1, h2, h3, h⟩ hall
          clear hall
          go_enter Tryz.func38, Tryz.ntmps38
          go_wp2_with (first
            | (go_at_call 62; refine (l07Node_any _ _ h1 _).mono ?_; rintro e w1 ⟨rfl, rfl⟩)
            | (go_at_call 62; refine (l07Node_any _ _ h2 _).mono ?_; rintro e w1 ⟨rfl, rfl⟩)
            | (go_at_call 49; refine (specIn_any _ _ _ _).mono ?_; rw [h4]; rintro e w1 ⟨rfl, rfl⟩))
          all_goals (go_ret; exact ⟨rfl, H0.out.1⟩)
  obtain ⟨h1, h2, h3, h4⟩ := hall
  have h3' : (p.frm == p.dst) = false := by simpa using h3
  have HOK := (show Hid (_ ∧ True) from ⟨Pa.ok_yes h1 h2 h3 h4, trivial⟩)
  clear h3
  by_cases k1 : p.kind = 1
  · have HV : Hid (p.ok = ((p.low == 0) && p.body.toList.isEmpty)) := by
      show _ = _
      rw [HOK.out.1, k1]
      rfl
    cases h5 : (p.low == 0) with
    | false =>
      go_enter Tryz.func38, Tryz.ntmps38
      go_wp2_with (first
        | (go_at_call 62; refine (l07Node_any _ _ h1 _).mono ?_; rintro e w1 ⟨rfl, rfl⟩)
        | (go_at_call 62; refine (l07Node_any _ _ h2 _).mono ?_; rintro e w1 ⟨rfl, rfl⟩)
        | (go_at_call 49; refine (specIn_any _ _ _ _).mono ?_; rw [h4]; rintro e w1 ⟨rfl, rfl⟩))
      go_ret
      exact ⟨by rw [HV.out, h5]; rfl, H0.out.1⟩
    | true =>
      go_enter Tryz.func38, Tryz.ntmps38
      go_wp2_with (first
        | (go_at_call 62; refine (l07Node_any _ _ h1 _).mono ?_; rintro e w1 ⟨rfl, rfl⟩)
        | (go_at_call 62; refine (l07Node_any _ _ h2 _).mono ?_; rintro e w1 ⟨rfl, rfl⟩)
        | (go_at_call 49; refine (specIn_any _ _ _ _).mono ?_; rw [h4]; rintro e w1 ⟨rfl, rfl⟩))
      go_ret
      exact ⟨by rw [HV.out, h5]; simp, H0.out.1⟩
  have g1 : (p.kind == 1) = false := by simpa using k1
  have HI := (show Hid (_ ∧ True) from ⟨specGetMsg_any p.body (w.alloc (.cells p.row 38)) hs, trivial⟩)
  by_cases k0 : p.kind = 0
  case neg =>
    have g0 : (p.kind == 0) = false := by simpa using k0
    have HV : Hid (p.ok = false) := by
      show _ = _
      rw [HOK.out.1, if_neg k0, if_neg k1]
    go_enter Tryz.func38, Tryz.ntmps38
    go_wp2_with (first
      | (go_at_call 62; refine (l07Node_any _ _ h1 _).mono ?_; rintro e w1 ⟨rfl, rfl⟩)
      | (go_at_call 62; refine (l07Node_any _ _ h2 _).mono ?_; rintro e w1 ⟨rfl, rfl⟩)
      | (go_at_call 49; refine (specIn_any _ _ _ _).mono ?_; rw [h4]; rintro e w1 ⟨rfl, rfl⟩)
      | (go_at_call 50; refine HI.out.1.mono ?_; rintro e w2 ⟨mv, rfl, A2, b2⟩; obtain ⟨kv, rfl, h2', -⟩ := A2; obtain ⟨oa, oc, rfl⟩ := own_form h2'; clear h2'; have P2 := (b2.block w.heap.size (lt_heap (MapKept.heap_alloc w (.cells p.row 38)).1)).trans (MapKept.heap_alloc w (.cells p.row 38)).1; obtain ⟨q0, q1, q2, q3, q4, q5⟩ := pbox6 P2; have hlt2 : w.heap.size < w2.heap.size := lt_heap P2; clear P2))
    go_ret
    exact ⟨by rw [HV.out]; rfl, H0.out.1.trans ((b2.alloc b2.size _).mono H0.out.1.size)⟩
  have HV : Hid (p.ok = p.data) := by
    show _ = _
    rw [HOK.out.1, if_pos k0]
  clear HOK
  unfold Pa.data Pa.msg at HV
  generalize msgRes p.body.data.toList = m at *
  generalize msgFit p.body.data.toList = f at *
  obtain ⟨f2, hf2⟩ : ∃ f2, inB p.low 1 p.seq = f2 := ⟨_, rfl⟩
  rw [hf2] at HV
  cases f2 with
  | false =>
    go_enter Tryz.func38, Tryz.ntmps38
    go_wp2_with (first
      | (go_at_call 62; refine (l07Node_any _ _ h1 _).mono ?_; rintro e w1 ⟨rfl, rfl⟩)
      | (go_at_call 62; refine (l07Node_any _ _ h2 _).mono ?_; rintro e w1 ⟨rfl, rfl⟩)
      | (go_at_call 49; refine (specIn_any _ _ _ _).mono ?_; simp only [h4, hf2]; rintro e w1 ⟨rfl, rfl⟩)
      | (go_at_call 50; refine HI.out.1.mono ?_; rintro e w2 ⟨mv, rfl, A2, b2⟩; obtain ⟨kv, rfl, h2', -⟩ := A2; obtain ⟨oa, oc, rfl⟩ := own_form h2'; clear h2'; have P2 := (b2.block w.heap.size (lt_heap (MapKept.heap_alloc w (.cells p.row 38)).1)).trans (MapKept.heap_alloc w (.cells p.row 38)).1; obtain ⟨q0, q1, q2, q3, q4, q5⟩ := pbox6 P2; have hlt2 : w.heap.size < w2.heap.size := lt_heap P2; clear P2))
    all_goals (go_ret; exact ⟨by rw [HV.out]; simp, H0.out.1.trans ((b2.alloc b2.size _).mono H0.out.1.size)⟩)
  | true =>
    cases f with
    | false =>
      go_enter Tryz.func38, Tryz.ntmps38
      go_wp2_with (first
        | (go_at_call 62; refine (l07Node_any _ _ h1 _).mono ?_; rintro e w1 ⟨rfl, rfl⟩)
        | (go_at_call 62; refine (l07Node_any _ _ h2 _).mono ?_; rintro e w1 ⟨rfl, rfl⟩)
        | (go_at_call 49; refine (specIn_any _ _ _ _).mono ?_; simp only [h4, hf2]; rintro e w1 ⟨rfl, rfl⟩)
        | (go_at_call 50; refine HI.out.1.mono ?_; rintro e w2 ⟨mv, rfl, A2, b2⟩; obtain ⟨kv, rfl, h2', -⟩ := A2; obtain ⟨oa, oc, rfl⟩ := own_form h2'; clear h2'; have P2 := (b2.block w.heap.size (lt_heap (MapKept.heap_alloc w (.cells p.row 38)).1)).trans (MapKept.heap_alloc w (.cells p.row 38)).1; obtain ⟨q0, q1, q2, q3, q4, q5⟩ := pbox6 P2; have hlt2 : w.heap.size < w2.heap.size := lt_heap P2; clear P2))
      all_goals (go_ret; exact ⟨by rw [HV.out]; simp, H0.out.1.trans ((b2.alloc b2.size _).mono H0.out.1.size)⟩)
    | true =>
      cases h5 : (m.frm == p.frm) with
      | false =>
        go_enter Tryz.func38, Tryz.ntmps38
        go_wp2_with (first
          | (go_at_call 62; refine (l07Node_any _ _ h1 _).mono ?_; rintro e w1 ⟨rfl, rfl⟩)
          | (go_at_call 62; refine (l07Node_any _ _ h2 _).mono ?_; rintro e w1 ⟨rfl, rfl⟩)
          | (go_at_call 49; refine (specIn_any _ _ _ _).mono ?_; simp only [h4, hf2]; rintro e w1 ⟨rfl, rfl⟩)
          | (go_at_call 50; refine HI.out.1.mono ?_; rintro e w2 ⟨mv, rfl, A2, b2⟩; obtain ⟨kv, rfl, h2', -⟩ := A2; obtain ⟨oa, oc, rfl⟩ := own_form h2'; clear h2'; have P2 := (b2.block w.heap.size (lt_heap (MapKept.heap_alloc w (.cells p.row 38)).1)).trans (MapKept.heap_alloc w (.cells p.row 38)).1; obtain ⟨q0, q1, q2, q3, q4, q5⟩ := pbox6 P2; have hlt2 : w.heap.size < w2.heap.size := lt_heap P2; clear P2))
        all_goals (go_ret; exact ⟨by rw [HV.out, h5]; simp, H0.out.1.trans ((b2.alloc b2.size _).mono H0.out.1.size)⟩)
      | true =>
        go_enter Tryz.func38, Tryz.ntmps38
        go_wp2_with (first
          | (go_at_call 62; refine (l07Node_any _ _ h1 _).mono ?_; rintro e w1 ⟨rfl, rfl⟩)
          | (go_at_call 62; refine (l07Node_any _ _ h2 _).mono ?_; rintro e w1 ⟨rfl, rfl⟩)
          | (go_at_call 49; refine (specIn_any _ _ _ _).mono ?_; simp only [h4, hf2]; rintro e w1 ⟨rfl, rfl⟩)
          | (go_at_call 50; refine HI.out.1.mono ?_; rintro e w2 ⟨mv, rfl, A2, b2⟩; obtain ⟨kv, rfl, h2', -⟩ := A2; obtain ⟨oa, oc, rfl⟩ := own_form h2'; clear h2'; have P2 := (b2.block w.heap.size (lt_heap (MapKept.heap_alloc w (.cells p.row 38)).1)).trans (MapKept.heap_alloc w (.cells p.row 38)).1; obtain ⟨q0, q1, q2, q3, q4, q5⟩ := pbox6 P2; have hlt2 : w.heap.size < w2.heap.size := lt_heap P2; clear P2))
        all_goals (go_ret; exact ⟨by rw [HV.out, h5]; simp, H0.out.1.trans ((b2.alloc b2.size _).mono H0.out.1.size)⟩)
end Go.Proofs.YtlbinamlehapoaaGreatDoor
