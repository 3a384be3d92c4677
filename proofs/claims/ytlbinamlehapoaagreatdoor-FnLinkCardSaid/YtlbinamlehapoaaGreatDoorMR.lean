/-
  The specification's looks at a message's parts: numbers, nodes, cells that may be sent.
  The specification's MsgOk.
-/
import Derived.Test.YtlbinamlehapoaaGreatDoorME
import Derived.Test.YtlbinamlehapoaaGreatDoorMD
import Derived.BigQuiet
import Derived.Deep.QuietTactic
namespace Go.Proofs.YtlbinamlehapoaaGreatDoor
open Go.RowKit Go.Joins

set_option maxRecDepth 100000

theorem ret_b {a b : Bool} (h : a = b) : Ending.returned (.bool a) = .returned (.bool b) := by rw [h]
/-- A number that may be sent. -/
def numOk (n : Int) : Bool := inB n 0 999999
/-- A node. -/
def nodeOk (n : Int) : Bool := inB n 0 30
/-- A cell that may be sent: work, or something that is given. -/
def Ce.may (c : Ce) (work : Bool) : Bool := c.kids.all numOk &&
  (if work then (c.kind == 4 && c.n == 0 && numOk c.pos && decide ((c.kids.length : Int) ≤ 100))
   else if c.kind = 0 then (c.pos == 0 && (c.kids.length : Int) == 0)
   else if c.kind = 1 then (c.n == 0 && c.pos == 0 && (c.kids.length : Int) == 0)
   else if c.kind = 2 then (c.n == 0 && c.pos == 0 && (c.kids.length : Int) == 2)
   else (c.kind == 3 && inB c.n 1 6 && numOk c.pos && decide ((c.kids.length : Int) ≤ 100)))
/-- No cell. -/
def Ce.isNone (c : Ce) : Bool := c.kind == 0 && c.n == 0 && c.pos == 0 && (c.kids.length : Int) == 0
/-- A right message. -/
def Ms.ok (m : Ms) : Bool := nodeOk m.frm && nodeOk m.dst && !(m.frm == m.dst) && numOk m.id && numOk m.want &&
  (if m.kind = 0 then m.cell.isNone
   else if m.kind = 1 then (m.want == 0 && m.cell.may false)
   else if m.kind = 2 then (m.id == 0 && m.want == 0 && m.cell.isNone)
   else if m.kind = 3 then (m.want == 0 && m.cell.may true)
   else false)

theorem l07Num_any (n : Int) (b : Bool) (hb : numOk n = b) (w : World) : Calls Tryz.prog 63 #[.int .i64 n] w fun e w' => e = .returned (.bool b) ∧ w' = w := by
  subst hb
  go_enter Tryz.func63, Tryz.ntmps63
  go_wp2_with (go_at_call 49; refine (specIn_any _ _ _ _).mono ?_; rintro e w1 ⟨rfl, rfl⟩)
  go_ret
  exact ⟨rfl, rfl⟩
theorem l07Node_any (n : Int) (b : Bool) (hb : nodeOk n = b) (w : World) : Calls Tryz.prog 62 #[.int .i64 n] w fun e w' => e = .returned (.bool b) ∧ w' = w := by
  subst hb
  go_enter Tryz.func62, Tryz.ntmps62
  go_wp2_with (go_at_call 49; refine (specIn_any _ _ _ _).mono ?_; rintro e w1 ⟨rfl, rfl⟩)
  go_ret
  exact ⟨rfl, rfl⟩

set_option maxHeartbeats 1600000 in
theorem l07None_any (v : Value) (c : Ce) (S : Nat → Prop) (w : World) (h : CeAt w S v c) :
    Calls Tryz.prog 64 #[v] w fun e w' => e = .returned (.bool c.isNone) ∧ Below w.heap.size w w' := by
  obtain ⟨kv, rfl, -, -, -, hk⟩ := h
  obtain ⟨a, cap, rfl⟩ := hk.form
  have hkl := hk.len
  clear hk
  have B0 : Hid (∀ o : Obj, Below w.heap.size w (w.alloc o)) := fun o => (Below.refl _ w).alloc (Nat.le_refl _) o
  by_cases h1 : c.kind = 0
  · by_cases h2 : c.n = 0
    · by_cases h3 : c.pos = 0
      · by_cases h4 : c.kids.length = 0
        · have hr : c.isNone = true := by unfold Ce.isNone; rw [h1, h2, h3, h4]; rfl
          rw [hr]
          have h4' : ((c.kids.length : Nat) : Int) = 0 := by omega
          go_enter Tryz.func64, Tryz.ntmps64
          go_wp2
          go_ret
          exact ⟨rfl, B0.out _⟩
        · have h4' : ¬ ((c.kids.length : Nat) : Int) = 0 := by omega
          have h4b : (((c.kids.length : Nat) : Int) == 0) = false := by simpa using h4'
          have hr : c.isNone = false := by unfold Ce.isNone; rw [h4b]; simp
          rw [hr]
          go_enter Tryz.func64, Tryz.ntmps64
          go_wp2
          go_ret
          exact ⟨rfl, B0.out _⟩
      · have hr : c.isNone = false := by unfold Ce.isNone; simp [h3]
        rw [hr]
        go_enter Tryz.func64, Tryz.ntmps64
        go_wp2
        go_ret
        exact ⟨rfl, B0.out _⟩
    · have hr : c.isNone = false := by unfold Ce.isNone; simp [h2]
      rw [hr]
      go_enter Tryz.func64, Tryz.ntmps64
      go_wp2
      go_ret
      exact ⟨rfl, B0.out _⟩
  · have hr : c.isNone = false := by unfold Ce.isNone; simp [h1]
    rw [hr]
    go_enter Tryz.func64, Tryz.ntmps64
    go_wp2
    go_ret
    exact ⟨rfl, B0.out _⟩

theorem all_take_succ {P : Int → Bool} {l : List Int} {k : Nat} {x : Int} (hx : l[k]? = some x) (h : (l.take k).all P = true) (hp : P x = true) : (l.take (k + 1)).all P = true := by
  have hk := (List.getElem?_eq_some_iff.1 hx).1
  rw [List.take_succ_eq_append_getElem hk, List.all_append, h, (List.getElem?_eq_some_iff.1 hx).2]
  simp [hp]
theorem all_at {P : Int → Bool} {l : List Int} {k : Nat} {x : Int} (hx : l[k]? = some x) (hp : P x = false) : l.all P = false := List.all_eq_false.2 ⟨x, List.mem_of_getElem? hx, by rw [hp]; simp⟩

set_option maxHeartbeats 3200000 in
theorem l07Cell_any (v : Value) (c : Ce) (work : Bool) (S : Nat → Prop) (w : World) (h : CeAt w S v c) (hl : c.kids.length ≤ 4194304) :
    Calls Tryz.prog 65 #[v, .bool work] w fun e w' => e = .returned (.bool (c.may work)) ∧ Below w.heap.size w w' := by
  obtain ⟨kv, rfl, -, -, -, hk⟩ := h
  obtain ⟨a, cap, rfl⟩ := hk.form
  have B0 : Below w.heap.size w (w.alloc (.cells #[.int .i64 c.kind, .int .i64 c.n, .int .i64 c.pos, .slice a c.kids.length cap] 30)) := (Below.refl _ w).alloc (Nat.le_refl _) _
  have O0 : (w.alloc (.cells #[.int .i64 c.kind, .int .i64 c.n, .int .i64 c.pos, .slice a c.kids.length cap] 30)).heap[w.heap.size]? = some (.cells #[.int .i64 c.kind, .int .i64 c.n, .int .i64 c.pos, .slice a c.kids.length cap] 30) := (MapKept.heap_alloc w _).1
  have H0 := (show Hid (_ ∧ _ ∧ _) from ⟨hk, B0, O0⟩)
  clear hk B0 O0
  have hnot := ex_not
  go_enter Tryz.func65, Tryz.ntmps65
  go_wp2_with fail
  go_loopw [5] (fun i wr => ∃ k : Nat, k ≤ c.kids.length ∧ i = .int .i64 k ∧ (c.kids.take k).all numOk = true ∧ Below w.heap.size w wr ∧ wr.heap[w.heap.size]? = some (.cells #[.int .i64 c.kind, .int .i64 c.n, .int .i64 c.pos, .slice a c.kids.length cap] 30)) (fun i _ => c.kids.length - (intOf i).toNat)
  case atStart => exact ⟨0, Nat.zero_le _, rfl, rfl, H0.out.2.1, H0.out.2.2⟩
  case round =>
    obtain ⟨k, hk, rfl, hall, hb, hO⟩ := hrel
    have y0 : wr.cell? ⟨w.heap.size, 0, none⟩ = some (.int .i64 c.kind) := (cell_of_block hO 0).trans rfl
    have y1 : wr.cell? ⟨w.heap.size, 1, none⟩ = some (.int .i64 c.n) := (cell_of_block hO 1).trans rfl
    have y2 : wr.cell? ⟨w.heap.size, 2, none⟩ = some (.int .i64 c.pos) := (cell_of_block hO 2).trans rfl
    have y3 : wr.cell? ⟨w.heap.size, 3, none⟩ = some (.slice a c.kids.length cap) := (cell_of_block hO 3).trans rfl
    have HH := (show Hid (_ ∧ _ ∧ _) from ⟨hall, hb, hO⟩)
    clear hall hb hO
    by_cases hlt : k < c.kids.length
    · have hlt' : ((k : Nat) : Int) < ((c.kids.length : Nat) : Int) := by omega
      have hx := List.getElem?_eq_getElem hlt
      generalize c.kids[k] = x at hx
      obtain ⟨a', cap', hv, _, hc⟩ := H0.out.1
      obtain ⟨b, off, ha, -, hbl, hcell, -⟩ := hc k x hx
      have : a = some ⟨b, off, none⟩ := by simp at hv; exact hv.1.trans ha
      subst this
      rw [← HH.out.2.1.cell (by exact hbl)] at hcell
      have HX := (show Hid (_ ∧ True) from ⟨hx, trivial⟩)
      clear hx hc hv ha
      cases hn : numOk x with
      | true =>
        go_wp2_with (go_at_call 63; refine (l07Num_any _ true hn _).mono ?_; rintro e w1 ⟨rfl, rfl⟩)
        exact ⟨⟨k + 1, by omega, by go_num, all_take_succ HX.out.1 HH.out.1 hn, HH.out.2.1, HH.out.2.2⟩, by simp [intOf]; omega⟩
      | false =>
        have HR : Hid (c.may work = false) := by unfold Ce.may; rw [all_at HX.out.1 hn]; exact rfl
        go_wp2_with (go_at_call 63; refine (l07Num_any _ false hn _).mono ?_; rintro e w1 ⟨rfl, rfl⟩)
        go_ret
        exact ⟨ret_b HR.out.symm, HH.out.2.1⟩
    · obtain rfl : k = c.kids.length := by omega
      have hal : c.kids.all numOk = true := by have := HH.out.1; rwa [List.take_length] at this
      have HB : Hid (Below w.heap.size w wr) := HH.out.2.1
      have HM : Hid (∀ r, (if work then (c.kind == 4 && c.n == 0 && numOk c.pos && decide ((c.kids.length : Int) ≤ 100))
           else if c.kind = 0 then (c.pos == 0 && (c.kids.length : Int) == 0)
           else if c.kind = 1 then (c.n == 0 && c.pos == 0 && (c.kids.length : Int) == 0)
           else if c.kind = 2 then (c.n == 0 && c.pos == 0 && (c.kids.length : Int) == 2)
           else (c.kind == 3 && inB c.n 1 6 && numOk c.pos && decide ((c.kids.length : Int) ≤ 100))) = r → c.may work = r) := fun r hr => by unfold Ce.may; rw [hal, hr]; exact rfl
      clear hal H0 HH
      cases work with
      | true =>
        by_cases h1 : c.kind = 4
        · by_cases h2 : c.n = 0
          · cases h3 : numOk c.pos with
            | true =>
              go_wp2_with (go_at_call 63; refine (l07Num_any _ true h3 _).mono ?_; rintro e w1 ⟨rfl, rfl⟩)
              go_ret
              exact ⟨ret_b (HM.out _ (by rw [h1, h2, h3]; simp)).symm, HB.out⟩
            | false =>
              go_wp2_with (go_at_call 63; refine (l07Num_any _ false h3 _).mono ?_; rintro e w1 ⟨rfl, rfl⟩)
              go_ret
              exact ⟨ret_b (HM.out _ (by rw [h1, h2, h3]; simp)).symm, HB.out⟩
          · go_wp2
            go_ret
            exact ⟨ret_b (HM.out _ (by simp [h2])).symm, HB.out⟩
        · go_wp2
          go_ret
          exact ⟨ret_b (HM.out _ (by simp [h1])).symm, HB.out⟩
      | false =>
        by_cases h0 : c.kind = 0
        · by_cases h2 : c.pos = 0
          · go_wp2
            go_ret
            exact ⟨ret_b (HM.out _ (by simp [h0, h2])).symm, HB.out⟩
          · go_wp2
            go_ret
            exact ⟨ret_b (HM.out _ (by simp [h0, h2])).symm, HB.out⟩
        by_cases h1 : c.kind = 1
        · by_cases h2 : c.n = 0
          · by_cases h3 : c.pos = 0
            · go_wp2
              go_ret
              exact ⟨ret_b (HM.out _ (by simp [h1, h2, h3])).symm, HB.out⟩
            · go_wp2
              go_ret
              exact ⟨ret_b (HM.out _ (by simp [h1, h2, h3])).symm, HB.out⟩
          · go_wp2
            go_ret
            exact ⟨ret_b (HM.out _ (by simp [h1, h2])).symm, HB.out⟩
        by_cases h2 : c.kind = 2
        · by_cases h3 : c.n = 0
          · by_cases h4 : c.pos = 0
            · go_wp2
              go_ret
              exact ⟨ret_b (HM.out _ (by simp [h2, h3, h4])).symm, HB.out⟩
            · go_wp2
              go_ret
              exact ⟨ret_b (HM.out _ (by simp [h2, h3, h4])).symm, HB.out⟩
          · go_wp2
            go_ret
            exact ⟨ret_b (HM.out _ (by simp [h2, h3])).symm, HB.out⟩
        by_cases h3 : c.kind = 3
        · cases h4 : inB c.n 1 6 with
          | false =>
            go_wp2_with (go_at_call 49; refine (specIn_any _ _ _ _).mono ?_; rintro e w1 ⟨rfl, rfl⟩; rw [h4])
            go_ret
            exact ⟨ret_b (HM.out _ (by simp [h3, h4])).symm, HB.out⟩
          | true =>
            cases h5 : numOk c.pos with
            | true =>
              go_wp2_with (first
                | (go_at_call 49; refine (specIn_any _ _ _ _).mono ?_; rintro e w1 ⟨rfl, rfl⟩; rw [h4])
                | (go_at_call 63; refine (l07Num_any _ true h5 _).mono ?_; rintro e w1 ⟨rfl, rfl⟩))
              go_ret
              exact ⟨ret_b (HM.out _ (by simp [h3, h4, h5])).symm, HB.out⟩
            | false =>
              go_wp2_with (first
                | (go_at_call 49; refine (specIn_any _ _ _ _).mono ?_; rintro e w1 ⟨rfl, rfl⟩; rw [h4])
                | (go_at_call 63; refine (l07Num_any _ false h5 _).mono ?_; rintro e w1 ⟨rfl, rfl⟩))
              go_ret
              exact ⟨ret_b (HM.out _ (by simp [h3, h4, h5])).symm, HB.out⟩
        · go_wp2
          go_ret
          exact ⟨ret_b (HM.out _ (by simp [h0, h1, h2, h3])).symm, HB.out⟩
end Go.Proofs.YtlbinamlehapoaaGreatDoor

namespace Go.Proofs.YtlbinamlehapoaaGreatDoor
open Go.RowKit Go.Joins

set_option maxRecDepth 100000

theorem numOk_zero : numOk 0 = true := by decide
theorem Ms.ok_not {m : Ms} (h : ¬ (nodeOk m.frm = true ∧ nodeOk m.dst = true ∧ m.frm ≠ m.dst ∧ numOk m.id = true ∧ numOk m.want = true)) : m.ok = false := by
  unfold Ms.ok
  cases h1 : nodeOk m.frm <;> cases h2 : nodeOk m.dst <;> cases h3 : numOk m.id <;> cases h4 : numOk m.want <;> simp_all
theorem Ms.ok_is {m : Ms} {r : Bool} (h1 : nodeOk m.frm = true) (h2 : nodeOk m.dst = true) (h3 : m.frm ≠ m.dst) (h4 : numOk m.id = true) (h5 : numOk m.want = true)
    (hr : (if m.kind = 0 then m.cell.isNone
   else if m.kind = 1 then (m.want == 0 && m.cell.may false)
   else if m.kind = 2 then (m.id == 0 && m.want == 0 && m.cell.isNone)
   else if m.kind = 3 then (m.want == 0 && m.cell.may true)
   else false) = r) : m.ok = r := by
  unfold Ms.ok
  rw [h1, h2, h4, h5, hr]
  simp [h3]

set_option maxHeartbeats 6400000 in
theorem specMsgOk_any (v : Value) (m : Ms) (S : Nat → Prop) (w : World) (h : MsAt w S v m) (hl : m.cell.kids.length ≤ 4194304) :
    Calls Tryz.prog 33 #[v] w fun e w' => e = .returned (.bool m.ok) ∧ Below w.heap.size w w' := by
  obtain ⟨a, c, rfl⟩ := h.form
  have B0 : Below w.heap.size w (w.alloc (.cells (m.row (.slice a m.cell.kids.length c)) 32)) := (Below.refl _ w).alloc (Nat.le_refl _) _
  have H0 := (show Hid (_ ∧ _) from ⟨h.cellAt.belowM B0, B0⟩)
  clear h B0
  have hnot := ex_not
  by_cases hall : nodeOk m.frm = true ∧ nodeOk m.dst = true ∧ m.frm ≠ m.dst ∧ numOk m.id = true ∧ numOk m.want = true
  · obtain ⟨h1, h2, h3, h4, h5⟩ := hall
    have HR := (show Hid (∀ r, _ → m.ok = r) from fun r hr => Ms.ok_is h1 h2 h3 h4 h5 hr)
    have HN := l07None_any (.agg #[.int .i64 m.cell.kind, .int .i64 m.cell.n, .int .i64 m.cell.pos, .slice a m.cell.kids.length c]) m.cell S _ H0.out.1
    have HY := fun work => l07Cell_any (.agg #[.int .i64 m.cell.kind, .int .i64 m.cell.n, .int .i64 m.cell.pos, .slice a m.cell.kids.length c]) m.cell work S _ H0.out.1 hl
    have HC := (show Hid (_ ∧ _) from ⟨HN, HY⟩)
    clear HN HY
    by_cases k0 : m.kind = 0
    · have HV := (show Hid (_ ∧ True) from ⟨HR.out m.cell.isNone (by simp [k0]), trivial⟩)
      go_enter Tryz.func33, Tryz.ntmps33
      go_wp2_with (first
        | (go_at_call 62; refine (l07Node_any _ _ h1 _).mono ?_; rintro e w1 ⟨rfl, rfl⟩)
        | (go_at_call 62; refine (l07Node_any _ _ h2 _).mono ?_; rintro e w1 ⟨rfl, rfl⟩)
        | (go_at_call 63; refine (l07Num_any _ _ h4 _).mono ?_; rintro e w1 ⟨rfl, rfl⟩)
        | (go_at_call 63; refine (l07Num_any _ _ h5 _).mono ?_; rintro e w1 ⟨rfl, rfl⟩)
        | (go_at_call 63; refine (l07Num_any _ _ numOk_zero _).mono ?_; rintro e w1 ⟨rfl, rfl⟩)
        | (go_at_call 64; refine HC.out.1.mono ?_; rintro e w2 ⟨rfl, b2⟩))
      go_ret
      exact ⟨ret_b (HV.out.1).symm, H0.out.2.trans (b2.mono H0.out.2.size)⟩
    by_cases k1 : m.kind = 1
    · by_cases hw : m.want = 0
      · have HV := (show Hid (_ ∧ True) from ⟨HR.out (m.cell.may false) (by simp [k1, hw]), trivial⟩)
        go_enter Tryz.func33, Tryz.ntmps33
        go_wp2_with (first
          | (go_at_call 62; refine (l07Node_any _ _ h1 _).mono ?_; rintro e w1 ⟨rfl, rfl⟩)
          | (go_at_call 62; refine (l07Node_any _ _ h2 _).mono ?_; rintro e w1 ⟨rfl, rfl⟩)
          | (go_at_call 63; refine (l07Num_any _ _ h4 _).mono ?_; rintro e w1 ⟨rfl, rfl⟩)
          | (go_at_call 63; refine (l07Num_any _ _ h5 _).mono ?_; rintro e w1 ⟨rfl, rfl⟩)
          | (go_at_call 63; refine (l07Num_any _ _ numOk_zero _).mono ?_; rintro e w1 ⟨rfl, rfl⟩)
          | (go_at_call 65; refine (HC.out.2 false).mono ?_; rintro e w2 ⟨rfl, b2⟩))
        go_ret
        exact ⟨ret_b (HV.out.1).symm, H0.out.2.trans (b2.mono H0.out.2.size)⟩
      · have HV := (show Hid (_ ∧ True) from ⟨HR.out false (by simp [k1, hw]), trivial⟩)
        go_enter Tryz.func33, Tryz.ntmps33
        go_wp2_with (first
          | (go_at_call 62; refine (l07Node_any _ _ h1 _).mono ?_; rintro e w1 ⟨rfl, rfl⟩)
          | (go_at_call 62; refine (l07Node_any _ _ h2 _).mono ?_; rintro e w1 ⟨rfl, rfl⟩)
          | (go_at_call 63; refine (l07Num_any _ _ h4 _).mono ?_; rintro e w1 ⟨rfl, rfl⟩)
          | (go_at_call 63; refine (l07Num_any _ _ h5 _).mono ?_; rintro e w1 ⟨rfl, rfl⟩)
          | (go_at_call 63; refine (l07Num_any _ _ numOk_zero _).mono ?_; rintro e w1 ⟨rfl, rfl⟩))
        go_ret
        exact ⟨ret_b (HV.out.1).symm, H0.out.2⟩
    by_cases k2 : m.kind = 2
    · by_cases hi : m.id = 0
      · by_cases hw : m.want = 0
        · have HV := (show Hid (_ ∧ True) from ⟨HR.out m.cell.isNone (by simp [k2, hw, hi]), trivial⟩)
          go_enter Tryz.func33, Tryz.ntmps33
          go_wp2_with (first
            | (go_at_call 62; refine (l07Node_any _ _ h1 _).mono ?_; rintro e w1 ⟨rfl, rfl⟩)
            | (go_at_call 62; refine (l07Node_any _ _ h2 _).mono ?_; rintro e w1 ⟨rfl, rfl⟩)
            | (go_at_call 63; refine (l07Num_any _ _ h4 _).mono ?_; rintro e w1 ⟨rfl, rfl⟩)
            | (go_at_call 63; refine (l07Num_any _ _ h5 _).mono ?_; rintro e w1 ⟨rfl, rfl⟩)
            | (go_at_call 63; refine (l07Num_any _ _ numOk_zero _).mono ?_; rintro e w1 ⟨rfl, rfl⟩)
            | (go_at_call 64; refine HC.out.1.mono ?_; rintro e w2 ⟨rfl, b2⟩))
          go_ret
          exact ⟨ret_b (HV.out.1).symm, H0.out.2.trans (b2.mono H0.out.2.size)⟩
        · have HV := (show Hid (_ ∧ True) from ⟨HR.out false (by simp [k2, hw, hi]), trivial⟩)
          go_enter Tryz.func33, Tryz.ntmps33
          go_wp2_with (first
            | (go_at_call 62; refine (l07Node_any _ _ h1 _).mono ?_; rintro e w1 ⟨rfl, rfl⟩)
            | (go_at_call 62; refine (l07Node_any _ _ h2 _).mono ?_; rintro e w1 ⟨rfl, rfl⟩)
            | (go_at_call 63; refine (l07Num_any _ _ h4 _).mono ?_; rintro e w1 ⟨rfl, rfl⟩)
            | (go_at_call 63; refine (l07Num_any _ _ h5 _).mono ?_; rintro e w1 ⟨rfl, rfl⟩)
            | (go_at_call 63; refine (l07Num_any _ _ numOk_zero _).mono ?_; rintro e w1 ⟨rfl, rfl⟩))
          go_ret
          exact ⟨ret_b (HV.out.1).symm, H0.out.2⟩
      · have HV := (show Hid (_ ∧ True) from ⟨HR.out false (by simp [k2, hi]), trivial⟩)
        go_enter Tryz.func33, Tryz.ntmps33
        go_wp2_with (first
          | (go_at_call 62; refine (l07Node_any _ _ h1 _).mono ?_; rintro e w1 ⟨rfl, rfl⟩)
          | (go_at_call 62; refine (l07Node_any _ _ h2 _).mono ?_; rintro e w1 ⟨rfl, rfl⟩)
          | (go_at_call 63; refine (l07Num_any _ _ h4 _).mono ?_; rintro e w1 ⟨rfl, rfl⟩)
          | (go_at_call 63; refine (l07Num_any _ _ h5 _).mono ?_; rintro e w1 ⟨rfl, rfl⟩)
          | (go_at_call 63; refine (l07Num_any _ _ numOk_zero _).mono ?_; rintro e w1 ⟨rfl, rfl⟩))
        go_ret
        exact ⟨ret_b (HV.out.1).symm, H0.out.2⟩
    by_cases k3 : m.kind = 3
    · by_cases hw : m.want = 0
      · have HV := (show Hid (_ ∧ True) from ⟨HR.out (m.cell.may true) (by simp [k3, hw]), trivial⟩)
        go_enter Tryz.func33, Tryz.ntmps33
        go_wp2_with (first
          | (go_at_call 62; refine (l07Node_any _ _ h1 _).mono ?_; rintro e w1 ⟨rfl, rfl⟩)
          | (go_at_call 62; refine (l07Node_any _ _ h2 _).mono ?_; rintro e w1 ⟨rfl, rfl⟩)
          | (go_at_call 63; refine (l07Num_any _ _ h4 _).mono ?_; rintro e w1 ⟨rfl, rfl⟩)
          | (go_at_call 63; refine (l07Num_any _ _ h5 _).mono ?_; rintro e w1 ⟨rfl, rfl⟩)
          | (go_at_call 63; refine (l07Num_any _ _ numOk_zero _).mono ?_; rintro e w1 ⟨rfl, rfl⟩)
          | (go_at_call 65; refine (HC.out.2 true).mono ?_; rintro e w2 ⟨rfl, b2⟩))
        go_ret
        exact ⟨ret_b (HV.out.1).symm, H0.out.2.trans (b2.mono H0.out.2.size)⟩
      · have HV := (show Hid (_ ∧ True) from ⟨HR.out false (by simp [k3, hw]), trivial⟩)
        go_enter Tryz.func33, Tryz.ntmps33
        go_wp2_with (first
          | (go_at_call 62; refine (l07Node_any _ _ h1 _).mono ?_; rintro e w1 ⟨rfl, rfl⟩)
          | (go_at_call 62; refine (l07Node_any _ _ h2 _).mono ?_; rintro e w1 ⟨rfl, rfl⟩)
          | (go_at_call 63; refine (l07Num_any _ _ h4 _).mono ?_; rintro e w1 ⟨rfl, rfl⟩)
          | (go_at_call 63; refine (l07Num_any _ _ h5 _).mono ?_; rintro e w1 ⟨rfl, rfl⟩)
          | (go_at_call 63; refine (l07Num_any _ _ numOk_zero _).mono ?_; rintro e w1 ⟨rfl, rfl⟩))
        go_ret
        exact ⟨ret_b (HV.out.1).symm, H0.out.2⟩
    have HV := (show Hid (_ ∧ True) from ⟨HR.out false (by simp [k0, k1, k2, k3]), trivial⟩)
    go_enter Tryz.func33, Tryz.ntmps33
    go_wp2_with (first
      | (go_at_call 62; refine (l07Node_any _ _ h1 _).mono ?_; rintro e w1 ⟨rfl, rfl⟩)
      | (go_at_call 62; refine (l07Node_any _ _ h2 _).mono ?_; rintro e w1 ⟨rfl, rfl⟩)
      | (go_at_call 63; refine (l07Num_any _ _ h4 _).mono ?_; rintro e w1 ⟨rfl, rfl⟩)
      | (go_at_call 63; refine (l07Num_any _ _ h5 _).mono ?_; rintro e w1 ⟨rfl, rfl⟩)
      | (go_at_call 63; refine (l07Num_any _ _ numOk_zero _).mono ?_; rintro e w1 ⟨rfl, rfl⟩))
    go_ret
    exact ⟨ret_b (HV.out.1).symm, H0.out.2⟩
  · have HV := (show Hid (_ ∧ True) from ⟨Ms.ok_not hall, trivial⟩)
    cases h1 : nodeOk m.frm with
    | false =>
      go_enter Tryz.func33, Tryz.ntmps33
      go_wp2_with (first
        | (go_at_call 62; refine (l07Node_any _ _ h1 _).mono ?_; rintro e w1 ⟨rfl, rfl⟩)
        | (go_at_call 62; refine (l07Node_any _ _ h1 _).mono ?_; rintro e w1 ⟨rfl, rfl⟩)
        | (go_at_call 63; refine (l07Num_any _ _ h1 _).mono ?_; rintro e w1 ⟨rfl, rfl⟩)
        | (go_at_call 63; refine (l07Num_any _ _ h1 _).mono ?_; rintro e w1 ⟨rfl, rfl⟩))
      go_ret
      exact ⟨ret_b (HV.out.1).symm, H0.out.2⟩
    | true =>
    cases h2 : nodeOk m.dst with
    | false =>
      go_enter Tryz.func33, Tryz.ntmps33
      go_wp2_with (first
        | (go_at_call 62; refine (l07Node_any _ _ h1 _).mono ?_; rintro e w1 ⟨rfl, rfl⟩)
        | (go_at_call 62; refine (l07Node_any _ _ h2 _).mono ?_; rintro e w1 ⟨rfl, rfl⟩)
        | (go_at_call 63; refine (l07Num_any _ _ h1 _).mono ?_; rintro e w1 ⟨rfl, rfl⟩)
        | (go_at_call 63; refine (l07Num_any _ _ h1 _).mono ?_; rintro e w1 ⟨rfl, rfl⟩))
      go_ret
      exact ⟨ret_b (HV.out.1).symm, H0.out.2⟩
    | true =>
    by_cases h3 : m.frm = m.dst
    · have h3b : (m.frm == m.dst) = true := by simp [h3]
      have h1' := h2
      rw [← h3] at h1'
      go_enter Tryz.func33, Tryz.ntmps33
      go_wp2_with (first
        | (go_at_call 62; refine (l07Node_any _ _ h1 _).mono ?_; rintro e w1 ⟨rfl, rfl⟩)
        | (go_at_call 62; refine (l07Node_any _ _ h2 _).mono ?_; rintro e w1 ⟨rfl, rfl⟩)
        | (go_at_call 63; refine (l07Num_any _ _ h1 _).mono ?_; rintro e w1 ⟨rfl, rfl⟩)
        | (go_at_call 63; refine (l07Num_any _ _ h1' _).mono ?_; rintro e w1 ⟨rfl, rfl⟩))
      go_ret
      exact ⟨ret_b (HV.out.1).symm, H0.out.2⟩
    cases h4 : numOk m.id with
    | false =>
      go_enter Tryz.func33, Tryz.ntmps33
      go_wp2_with (first
        | (go_at_call 62; refine (l07Node_any _ _ h1 _).mono ?_; rintro e w1 ⟨rfl, rfl⟩)
        | (go_at_call 62; refine (l07Node_any _ _ h2 _).mono ?_; rintro e w1 ⟨rfl, rfl⟩)
        | (go_at_call 63; refine (l07Num_any _ _ h4 _).mono ?_; rintro e w1 ⟨rfl, rfl⟩)
        | (go_at_call 63; refine (l07Num_any _ _ h4 _).mono ?_; rintro e w1 ⟨rfl, rfl⟩))
      go_ret
      exact ⟨ret_b (HV.out.1).symm, H0.out.2⟩
    | true =>
    cases h5 : numOk m.want with
    | false =>
      go_enter Tryz.func33, Tryz.ntmps33
      go_wp2_with (first
        | (go_at_call 62; refine (l07Node_any _ _ h1 _).mono ?_; rintro e w1 ⟨rfl, rfl⟩)
        | (go_at_call 62; refine (l07Node_any _ _ h2 _).mono ?_; rintro e w1 ⟨rfl, rfl⟩)
        | (go_at_call 63; refine (l07Num_any _ _ h4 _).mono ?_; rintro e w1 ⟨rfl, rfl⟩)
        | (go_at_call 63; refine (l07Num_any _ _ h5 _).mono ?_; rintro e w1 ⟨rfl, rfl⟩)
        | (go_at_call 63; refine (l07Num_any _ _ numOk_zero _).mono ?_; rintro e w1 ⟨rfl, rfl⟩))
      go_ret
      exact ⟨ret_b (HV.out.1).symm, H0.out.2⟩
    | true => exact absurd ⟨h1, h2, h3, h4, h5⟩ hall
end Go.Proofs.YtlbinamlehapoaaGreatDoor
