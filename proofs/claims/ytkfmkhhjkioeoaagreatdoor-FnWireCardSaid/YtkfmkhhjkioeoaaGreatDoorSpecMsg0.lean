/-
  The specification's looks at a message's parts: numbers, nodes, cells that may be sent.
-/
import Derived.Test.YtkfmkhhjkioeoaaGreatDoorME
import Derived.Test.YtkfmkhhjkioeoaaGreatDoorMD
import Derived.BigQuiet
import Derived.Deep.QuietTactic
namespace Go.Proofs.YtkfmkhhjkioeoaaGreatDoor
open Go.RowKit Go.Joins

set_option maxRecDepth 100000

theorem ret_b {a b : Bool} (h : a = b) : Ending.returned (.bool a) = .returned (.bool b) := by rw [h]
/-- A number that may be sent. -/
def numOk (n : Int) : Bool := inB n 0 999999
/-- A node. -/
def nodeOk (n : Int) : Bool := inB n 0 30
/-- A cell that may be sent: work, or something that is given. -/
def Ce.may (c : Ce) (work : Bool) : Bool := c.kids.all numOk &&
  (if work then (c.kind == 4 && c.n == 0 && numOk c.pos && decide ((c.kids.length : Int) ≤ 100))
   else if c.kind = 0 then (c.pos == 0 && (c.kids.length : Int) == 0)
   else if c.kind = 1 then (c.n == 0 && c.pos == 0 && (c.kids.length : Int) == 0)
   else if c.kind = 2 then (c.n == 0 && c.pos == 0 && (c.kids.length : Int) == 2)
   else (c.kind == 3 && inB c.n 1 6 && numOk c.pos && decide ((c.kids.length : Int) ≤ 100)))
/-- No cell. -/
def Ce.isNone (c : Ce) : Bool := c.kind == 0 && c.n == 0 && c.pos == 0 && (c.kids.length : Int) == 0
/-- A right message. -/
def Ms.ok (m : Ms) : Bool := nodeOk m.frm && nodeOk m.dst && !(m.frm == m.dst) && numOk m.id && numOk m.want &&
  (if m.kind = 0 then m.cell.isNone
   else if m.kind = 1 then (m.want == 0 && m.cell.may false)
   else if m.kind = 2 then (m.id == 0 && m.want == 0 && m.cell.isNone)
   else if m.kind = 3 then (m.want == 0 && m.cell.may true)
   else false)

theorem l07Num_any (n : Int) (b : Bool) (hb : numOk n = b) (w : World) : Calls Tryz.prog 64 #[.int .i64 n] w fun e w' => e = .returned (.bool b) ∧ w' = w := by
  subst hb
  go_enter Tryz.func64, Tryz.ntmps64
  go_wp2_with (go_at_call 43; refine (specIn_any _ _ _ _).mono ?_; rintro e w1 ⟨rfl, rfl⟩)
  go_ret
  exact ⟨rfl, rfl⟩
theorem l07Node_any (n : Int) (b : Bool) (hb : nodeOk n = b) (w : World) : Calls Tryz.prog 63 #[.int .i64 n] w fun e w' => e = .returned (.bool b) ∧ w' = w := by
  subst hb
  go_enter Tryz.func63, Tryz.ntmps63
  go_wp2_with (go_at_call 43; refine (specIn_any _ _ _ _).mono ?_; rintro e w1 ⟨rfl, rfl⟩)
  go_ret
  exact ⟨rfl, rfl⟩

set_option maxHeartbeats 1600000 in
theorem l07None_any (v : Value) (c : Ce) (S : Nat → Prop) (w : World) (h : CeAt w S v c) :
    Calls Tryz.prog 65 #[v] w fun e w' => e = .returned (.bool c.isNone) ∧ Below w.heap.size w w' := by
  obtain ⟨kv, rfl, -, -, -, hk⟩ := h
  obtain ⟨a, cap, rfl⟩ := hk.form
  have hkl := hk.len
  clear hk
  have B0 : Hid (∀ o : Obj, Below w.heap.size w (w.alloc o)) := fun o => (Below.refl _ w).alloc (Nat.le_refl _) o
  by_cases h1 : c.kind = 0
  · by_cases h2 : c.n = 0
    · by_cases h3 : c.pos = 0
      · by_cases h4 : c.kids.length = 0
        · have hr : c.isNone = true := by unfold Ce.isNone; rw [h1, h2, h3, h4]; rfl
          rw [hr]
          have h4' : ((c.kids.length : Nat) : Int) = 0 := by omega
          go_enter Tryz.func65, Tryz.ntmps65
          go_wp2
          go_ret
          exact ⟨rfl, B0.out _⟩
        · have h4' : ¬ ((c.kids.length : Nat) : Int) = 0 := by omega
          have h4b : (((c.kids.length : Nat) : Int) == 0) = false := by simpa using h4'
          have hr : c.isNone = false := by unfold Ce.isNone; rw [h4b]; simp
          rw [hr]
          go_enter Tryz.func65, Tryz.ntmps65
          go_wp2
          go_ret
          exact ⟨rfl, B0.out _⟩
      · have hr : c.isNone = false := by unfold Ce.isNone; simp [h3]
        rw [hr]
        go_enter Tryz.func65, Tryz.ntmps65
        go_wp2
        go_ret
        exact ⟨rfl, B0.out _⟩
    · have hr : c.isNone = false := by unfold Ce.isNone; simp [h2]
      rw [hr]
      go_enter Tryz.func65, Tryz.ntmps65
      go_wp2
      go_ret
      exact ⟨rfl, B0.out _⟩
  · have hr : c.isNone = false := by unfold Ce.isNone; simp [h1]
    rw [hr]
    go_enter Tryz.func65, Tryz.ntmps65
    go_wp2
    go_ret
    exact ⟨rfl, B0.out _⟩

theorem all_take_succ {P : Int → Bool} {l : List Int} {k : Nat} {x : Int} (hx : l[k]? = some x) (h : (l.take k).all P = true) (hp : P x = true) : (l.take (k + 1)).all P = true := by
  have hk := (List.getElem?_eq_some_iff.1 hx).1
  rw [List.take_succ_eq_append_getElem hk, List.all_append, h, (List.getElem?_eq_some_iff.1 hx).2]
  simp [hp]
theorem all_at {P : Int → Bool} {l : List Int} {k : Nat} {x : Int} (hx : l[k]? = some x) (hp : P x = false) : l.all P = false := List.all_eq_false.2 ⟨x, List.mem_of_getElem? hx, by rw [hp]; simp⟩

set_option maxHeartbeats 3200000 in
theorem l07Cell_any (v : Value) (c : Ce) (work : Bool) (S : Nat → Prop) (w : World) (h : CeAt w S v c) (hl : c.kids.length ≤ 4194304) :
    Calls Tryz.prog 66 #[v, .bool work] w fun e w' => e = .returned (.bool (c.may work)) ∧ Below w.heap.size w w' := by
  obtain ⟨kv, rfl, -, -, -, hk⟩ := h
  obtain ⟨a, cap, rfl⟩ := hk.form
  have B0 : Below w.heap.size w (w.alloc (.cells #[.int .i64 c.kind, .int .i64 c.n, .int .i64 c.pos, .slice a c.kids.length cap] 26)) := (Below.refl _ w).alloc (Nat.le_refl _) _
  have O0 : (w.alloc (.cells #[.int .i64 c.kind, .int .i64 c.n, .int .i64 c.pos, .slice a c.kids.length cap] 26)).heap[w.heap.size]? = some (.cells #[.int .i64 c.kind, .int .i64 c.n, .int .i64 c.pos, .slice a c.kids.length cap] 26) := (MapKept.heap_alloc w _).1
  have H0 := (show Hid (_ ∧ _ ∧ _) from ⟨hk, B0, O0⟩)
  clear hk B0 O0
  have hnot := ex_not
  go_enter Tryz.func66, Tryz.ntmps66
  go_wp2_with fail
  go_loopw [5] (fun i wr => ∃ k : Nat, k ≤ c.kids.length ∧ i = .int .i64 k ∧ (c.kids.take k).all numOk = true ∧ Below w.heap.size w wr ∧ wr.heap[w.heap.size]? = some (.cells #[.int .i64 c.kind, .int .i64 c.n, .int .i64 c.pos, .slice a c.kids.length cap] 26)) (fun i _ => c.kids.length - (intOf i).toNat)
  case atStart => exact ⟨0, Nat.zero_le _, rfl, rfl, H0.out.2.1, H0.out.2.2⟩
  case round =>
    obtain ⟨k, hk, rfl, hall, hb, hO⟩ := hrel
    have y0 : wr.cell? ⟨w.heap.size, 0, none⟩ = some (.int .i64 c.kind) := (cell_of_block hO 0).trans rfl
    have y1 : wr.cell? ⟨w.heap.size, 1, none⟩ = some (.int .i64 c.n) := (cell_of_block hO 1).trans rfl
    have y2 : wr.cell? ⟨w.heap.size, 2, none⟩ = some (.int .i64 c.pos) := (cell_of_block hO 2).trans rfl
    have y3 : wr.cell? ⟨w.heap.size, 3, none⟩ = some (.slice a c.kids.length cap) := (cell_of_block hO 3).trans rfl
    have HH := (show Hid (_ ∧ _ ∧ _) from ⟨hall, hb, hO⟩)
    clear hall hb hO
    by_cases hlt : k < c.kids.length
    · have hlt' : ((k : Nat) : Int) < ((c.kids.length : Nat) : Int) := by omega
      have hx := List.getElem?_eq_getElem hlt
      generalize c.kids[k] = x at hx
      obtain ⟨a', cap', hv, _, hc⟩ := H0.out.1
      obtain ⟨b, off, ha, -, hbl, hcell, -⟩ := hc k x hx
      have : a = some ⟨b, off, none⟩ := by simp at hv; exact hv.1.trans ha
      subst this
      rw [← HH.out.2.1.cell (by exact hbl)] at hcell
      have HX := (show Hid (_ ∧ True) from ⟨hx, trivial⟩)
      clear hx hc hv ha
      cases hn : numOk x with
      | true =>
        go_wp2_with (go_at_call 64; refine (l07Num_any _ true hn _).mono ?_; rintro e w1 ⟨rfl, rfl⟩)
        exact ⟨⟨k + 1, by omega, by go_num, all_take_succ HX.out.1 HH.out.1 hn, HH.out.2.1, HH.out.2.2⟩, by simp [intOf]; omega⟩
      | false =>
        have HR : Hid (c.may work = false) := by unfold Ce.may; rw [all_at HX.out.1 hn]; exact rfl
        go_wp2_with (go_at_call 64; refine (l07Num_any _ false hn _).mono ?_; rintro e w1 ⟨rfl, rfl⟩)
        go_ret
        exact ⟨ret_b HR.out.symm, HH.out.2.1⟩
    · obtain rfl : k = c.kids.length := by omega
      have hal : c.kids.all numOk = true := by have := HH.out.1; rwa [List.take_length] at this
      have HB : Hid (Below w.heap.size w wr) := HH.out.2.1
      have HM : Hid (∀ r, (if work then (c.kind == 4 && c.n == 0 && numOk c.pos && decide ((c.kids.length : Int) ≤ 100))
           else if c.kind = 0 then (c.pos == 0 && (c.kids.length : Int) == 0)
           else if c.kind = 1 then (c.n == 0 && c.pos == 0 && (c.kids.length : Int) == 0)
           else if c.kind = 2 then (c.n == 0 && c.pos == 0 && (c.kids.length : Int) == 2)
           else (c.kind == 3 && inB c.n 1 6 && numOk c.pos && decide ((c.kids.length : Int) ≤ 100))) = r → c.may work = r) := fun r hr => by unfold Ce.may; rw [hal, hr]; exact rfl
      clear hal H0 HH
      cases work with
      | true =>
        by_cases h1 : c.kind = 4
        · by_cases h2 : c.n = 0
          · cases h3 : numOk c.pos with
            | true =>
              go_wp2_with (go_at_call 64; refine (l07Num_any _ true h3 _).mono ?_; rintro e w1 ⟨rfl, rfl⟩)
              go_ret
              exact ⟨ret_b (HM.out _ (by rw [h1, h2, h3]; simp)).symm, HB.out⟩
            | false =>
              go_wp2_with (go_at_call 64; refine (l07Num_any _ false h3 _).mono ?_; rintro e w1 ⟨rfl, rfl⟩)
              go_ret
              exact ⟨ret_b (HM.out _ (by rw [h1, h2, h3]; simp)).symm, HB.out⟩
          · go_wp2
            go_ret
            exact ⟨ret_b (HM.out _ (by simp [h2])).symm, HB.out⟩
        · go_wp2
          go_ret
          exact ⟨ret_b (HM.out _ (by simp [h1])).symm, HB.out⟩
      | false =>
        by_cases h0 : c.kind = 0
        · by_cases h2 : c.pos = 0
          · go_wp2
            go_ret
            exact ⟨ret_b (HM.out _ (by simp [h0, h2])).symm, HB.out⟩
          · go_wp2
            go_ret
            exact ⟨ret_b (HM.out _ (by simp [h0, h2])).symm, HB.out⟩
        by_cases h1 : c.kind = 1
        · by_cases h2 : c.n = 0
          · by_cases h3 : c.pos = 0
            · go_wp2
              go_ret
              exact ⟨ret_b (HM.out _ (by simp [h1, h2, h3])).symm, HB.out⟩
            · go_wp2
              go_ret
              exact ⟨ret_b (HM.out _ (by simp [h1, h2, h3])).symm, HB.out⟩
          · go_wp2
            go_ret
            exact ⟨ret_b (HM.out _ (by simp [h1, h2])).symm, HB.out⟩
        by_cases h2 : c.kind = 2
        · by_cases h3 : c.n = 0
          · by_cases h4 : c.pos = 0
            · go_wp2
              go_ret
              exact ⟨ret_b (HM.out _ (by simp [h2, h3, h4])).symm, HB.out⟩
            · go_wp2
              go_ret
              exact ⟨ret_b (HM.out _ (by simp [h2, h3, h4])).symm, HB.out⟩
          · go_wp2
            go_ret
            exact ⟨ret_b (HM.out _ (by simp [h2, h3])).symm, HB.out⟩
        by_cases h3 : c.kind = 3
        · cases h4 : inB c.n 1 6 with
          | false =>
            go_wp2_with (go_at_call 43; refine (specIn_any _ _ _ _).mono ?_; rintro e w1 ⟨rfl, rfl⟩; rw [h4])
            go_ret
            exact ⟨ret_b (HM.out _ (by simp [h3, h4])).symm, HB.out⟩
          | true =>
            cases h5 : numOk c.pos with
            | true =>
              go_wp2_with (first
                | (go_at_call 43; refine (specIn_any _ _ _ _).mono ?_; rintro e w1 ⟨rfl, rfl⟩; rw [h4])
                | (go_at_call 64; refine (l07Num_any _ true h5 _).mono ?_; rintro e w1 ⟨rfl, rfl⟩))
              go_ret
              exact ⟨ret_b (HM.out _ (by simp [h3, h4, h5])).symm, HB.out⟩
            | false =>
              go_wp2_with (first
                | (go_at_call 43; refine (specIn_any _ _ _ _).mono ?_; rintro e w1 ⟨rfl, rfl⟩; rw [h4])
                | (go_at_call 64; refine (l07Num_any _ false h5 _).mono ?_; rintro e w1 ⟨rfl, rfl⟩))
              go_ret
              exact ⟨ret_b (HM.out _ (by simp [h3, h4, h5])).symm, HB.out⟩
        · go_wp2
          go_ret
          exact ⟨ret_b (HM.out _ (by simp [h0, h1, h2, h3])).symm, HB.out⟩
end Go.Proofs.YtkfmkhhjkioeoaaGreatDoor
