/-
  The program's looks at a message's parts: numbers, nodes, cells that may be sent.
-/
import Derived.Test.YtkfmkhhjkioeoaaGreatDoorSpecMsg0
import Derived.Test.YtkfmkhhjkioeoaaGreatDoorFieldsFit
namespace Go.Proofs.YtkfmkhhjkioeoaaGreatDoor
open Go.RowKit Go.Joins

set_option maxRecDepth 100000

theorem isId_r (n : Int) (b : Bool) (hb : numOk n = b) (w : World) : Calls Tryz.prog 59 #[.int .i64 n] w fun e w' => e = .returned (.bool b) ∧ w' = w := by
  go_enter Tryz.func59, Tryz.ntmps59
  go_wp2_with (go_at_call 49; refine (within_r _ _ _ b hb _).mono ?_; rintro e w1 ⟨rfl, rfl⟩)
  go_ret
  exact ⟨rfl, rfl⟩
theorem isNode_r (n : Int) (b : Bool) (hb : nodeOk n = b) (w : World) : Calls Tryz.prog 79 #[.int .i64 n] w fun e w' => e = .returned (.bool b) ∧ w' = w := by
  go_enter Tryz.func79, Tryz.ntmps79
  go_wp2_with (go_at_call 49; refine (within_r _ _ _ b hb _).mono ?_; rintro e w1 ⟨rfl, rfl⟩)
  go_ret
  exact ⟨rfl, rfl⟩
/-- Two nodes that are not one. -/
def apartB (x y : Int) : Bool := nodeOk x && nodeOk y && !(x == y)
set_option maxHeartbeats 3200000 in
theorem areApart_r (x y : Int) (b : Bool) (hb : apartB x y = b) (w : World) : Calls Tryz.prog 58 #[.int .i64 x, .int .i64 y] w fun e w' => e = .returned (.bool b) ∧ w' = w := by
  subst hb
  unfold apartB
  cases h1 : nodeOk x with
  | false =>
    go_enter Tryz.func58, Tryz.ntmps58
    go_wp2_with (go_at_call 79; refine (isNode_r _ false h1 _).mono ?_; rintro e w1 ⟨rfl, rfl⟩)
    go_ret
    exact ⟨rfl, rfl⟩
  | true =>
    cases h2 : nodeOk y with
    | false =>
      go_enter Tryz.func58, Tryz.ntmps58
      go_wp2_with (first
        | (go_at_call 79; refine (isNode_r _ true h1 _).mono ?_; rintro e w1 ⟨rfl, rfl⟩)
        | (go_at_call 79; refine (isNode_r _ false h2 _).mono ?_; rintro e w1 ⟨rfl, rfl⟩))
      go_ret
      exact ⟨rfl, rfl⟩
    | true =>
      cases h3 : (x == y) with
      | true =>
        have h3' : (x != y) = false := by simp [bne, h3]
        go_enter Tryz.func58, Tryz.ntmps58
        go_wp2_with (first
          | (go_at_call 79; refine (isNode_r _ true h1 _).mono ?_; rintro e w1 ⟨rfl, rfl⟩)
          | (go_at_call 79; refine (isNode_r _ true h2 _).mono ?_; rintro e w1 ⟨rfl, rfl⟩))
        go_ret
        exact ⟨rfl, rfl⟩
      | false =>
        have h3' : (x != y) = true := by simp [bne, h3]
        go_enter Tryz.func58, Tryz.ntmps58
        go_wp2_with (first
          | (go_at_call 79; refine (isNode_r _ true h1 _).mono ?_; rintro e w1 ⟨rfl, rfl⟩)
          | (go_at_call 79; refine (isNode_r _ true h2 _).mono ?_; rintro e w1 ⟨rfl, rfl⟩))
        go_ret
        exact ⟨rfl, rfl⟩

set_option maxHeartbeats 1600000 in
theorem isZeroCell_any (v : Value) (c : Ce) (S : Nat → Prop) (w : World) (h : CeAt w S v c) :
    Calls Tryz.prog 60 #[v] w fun e w' => e = .returned (.bool c.isNone) ∧ Below w.heap.size w w' := by
  obtain ⟨kv, rfl, -, -, -, hk⟩ := h
  obtain ⟨a, cap, rfl⟩ := hk.form
  have hkl := hk.len
  clear hk
  have B0 : Hid (∀ o : Obj, Below w.heap.size w (w.alloc o)) := fun o => (Below.refl _ w).alloc (Nat.le_refl _) o
  by_cases h1 : c.kind = 0
  · by_cases h2 : c.n = 0
    · by_cases h3 : c.pos = 0
      · by_cases h4 : c.kids.length = 0
        · have hr : c.isNone = true := by unfold Ce.isNone; rw [h1, h2, h3, h4]; rfl
          rw [hr]
          have h4' : ((c.kids.length : Nat) : Int) = 0 := by omega
          go_enter Tryz.func60, Tryz.ntmps60
          go_wp2
          go_ret
          exact ⟨rfl, B0.out _⟩
        · have h4' : ¬ ((c.kids.length : Nat) : Int) = 0 := by omega
          have h4b : (((c.kids.length : Nat) : Int) == 0) = false := by simpa using h4'
          have hr : c.isNone = false := by unfold Ce.isNone; rw [h4b]; simp
          rw [hr]
          go_enter Tryz.func60, Tryz.ntmps60
          go_wp2
          go_ret
          exact ⟨rfl, B0.out _⟩
      · have hr : c.isNone = false := by unfold Ce.isNone; simp [h3]
        rw [hr]
        go_enter Tryz.func60, Tryz.ntmps60
        go_wp2
        go_ret
        exact ⟨rfl, B0.out _⟩
    · have hr : c.isNone = false := by unfold Ce.isNone; simp [h2]
      rw [hr]
      go_enter Tryz.func60, Tryz.ntmps60
      go_wp2
      go_ret
      exact ⟨rfl, B0.out _⟩
  · have hr : c.isNone = false := by unfold Ce.isNone; simp [h1]
    rw [hr]
    go_enter Tryz.func60, Tryz.ntmps60
    go_wp2
    go_ret
    exact ⟨rfl, B0.out _⟩

/-- A kind of something that is given. -/
def valueKind (k : Int) : Bool := k == 0 || k == 1 || k == 2 || k == 3
theorem isValueKind_r (k : Int) (b : Bool) (hb : valueKind k = b) (w : World) : Calls Tryz.prog 61 #[.int .i64 k] w fun e w' => e = .returned (.bool b) ∧ w' = w := by
  subst hb
  unfold valueKind
  cases h0 : (k == 0) with
  | true =>
    go_enter Tryz.func61, Tryz.ntmps61
    go_wp2
    go_ret
    exact ⟨rfl, rfl⟩
  | false =>
    cases h1 : (k == 1) with
    | true =>
      go_enter Tryz.func61, Tryz.ntmps61
      go_wp2
      go_ret
      exact ⟨rfl, rfl⟩
    | false =>
      cases h2 : (k == 2) with
      | true =>
        go_enter Tryz.func61, Tryz.ntmps61
        go_wp2
        go_ret
        exact ⟨rfl, rfl⟩
      | false =>
        cases h3 : (k == 3) with
        | true =>
          go_enter Tryz.func61, Tryz.ntmps61
          go_wp2
          go_ret
          exact ⟨rfl, rfl⟩
        | false =>
          go_enter Tryz.func61, Tryz.ntmps61
          go_wp2
          go_ret
          exact ⟨rfl, rfl⟩

set_option maxHeartbeats 3200000 in
theorem allFit_any (kv : Value) (zs : List Int) (S : Nat → Prop) (w : World) (h : IntsAt w S kv zs) :
    Calls Tryz.prog 80 #[kv, .func (.func 59) #[] #[]] w fun e w' => e = .returned (.bool (zs.all numOk)) ∧ w' = w := by
  obtain ⟨ka, kcap, rfl, hkm, hkc⟩ := h
  unfold maxLen at hkm
  have hnot := ex_not
  have HC := (show Hid (_ ∧ True) from ⟨hkc, trivial⟩)
  clear hkc
  go_enter Tryz.func80, Tryz.ntmps80
  go_wp2
  go_loopw [9] (fun i wr => ∃ k : Nat, k ≤ zs.length ∧ i = .int .i64 k ∧ (zs.take k).all numOk = true ∧ wr = w) (fun i _ => zs.length - (intOf i).toNat)
  case atStart => exact ⟨0, Nat.zero_le _, rfl, by simp, rfl⟩
  case round =>
    obtain ⟨k, hk, rfl, hall, rfl⟩ := hrel
    have HA := (show Hid (_ ∧ True) from ⟨hall, trivial⟩)
    clear hall
    by_cases hkl : k < zs.length
    · have he := List.getElem?_eq_getElem hkl
      generalize zs[k] = x at *
      obtain ⟨b, off, rfl, hSb, hlt2, c0, r0⟩ := HC.out.1 k x he
      have HE := (show Hid (_ ∧ True) from ⟨he, trivial⟩)
      have hlt' : ((k : Nat) : Int) < ((zs.length : Nat) : Int) := by omega
      clear he HC
      cases hin : numOk x with
      | true =>
        have HN := (show Hid (_ ∧ True) from ⟨all_take numOk zs k HE.out.1 HA.out.1 hin, trivial⟩)
        clear HE HA
        go_wp2_with (go_at_call 59; refine (isId_r _ true hin _).mono ?_; rintro e w1 ⟨rfl, rfl⟩)
        refine ⟨⟨k + 1, by omega, by go_num, HN.out.1, trivial⟩, by simp [intOf]; omega⟩
      | false =>
        have HN := (show Hid (_ ∧ True) from ⟨all_not numOk zs k HE.out.1 hin, trivial⟩)
        clear HE HA
        go_wp2_with (go_at_call 59; refine (isId_r _ false hin _).mono ?_; rintro e w1 ⟨rfl, rfl⟩)
        go_ret
        exact ⟨by rw [HN.out.1]; rfl, rfl⟩
    · obtain rfl : k = zs.length := by omega
      have HALL := (show Hid (_ ∧ True) from ⟨(by rw [← HA.out.1, List.take_length] : zs.all numOk = true), trivial⟩)
      clear HC HA
      go_wp2
      go_ret
      exact ⟨by rw [HALL.out.1]; rfl, rfl⟩

/-- A cell that may travel, whatever its kind. -/
def Ce.travels (c : Ce) : Bool := decide ((c.kids.length : Int) ≤ 100) && c.kids.all numOk && c.fields 1000000
set_option maxHeartbeats 3200000 in
theorem cellTravels_any (v : Value) (c : Ce) (S : Nat → Prop) (w : World) (h : CeAt w S v c) :
    Calls Tryz.prog 62 #[v] w fun e w' => e = .returned (.bool c.travels) ∧ Below w.heap.size w w' := by
  obtain ⟨kv, rfl, r1, r2, r3, hk⟩ := h
  obtain ⟨a, cap, rfl⟩ := hk.form
  have hkl := hk.len
  obtain ⟨W0, hW0⟩ : ∃ W0, W0 = w.alloc (.cells #[.int .i64 c.kind, .int .i64 c.n, .int .i64 c.pos, .slice a c.kids.length cap] 26) := ⟨_, rfl⟩
  have B0 : Below w.heap.size w W0 := by rw [hW0]; exact (Below.refl _ w).alloc (Nat.le_refl _) _
  have HA := allFit_any _ c.kids S W0 (hk.below B0)
  have HF := fieldsFit_any (.agg #[.int .i64 c.kind, .int .i64 c.n, .int .i64 c.pos, .slice a c.kids.length cap]) c 1000000 S W0 ⟨_, rfl, r1, r2, r3, hk.below B0⟩
  subst hW0
  have HH := (show Hid (_ ∧ _ ∧ _) from ⟨HA, HF, B0⟩)
  clear HA HF B0 hk r1 r2 r3
  unfold Ce.travels
  cases d0 : decide (((c.kids.length : Nat) : Int) ≤ 100) with
  | false =>
    go_enter Tryz.func62, Tryz.ntmps62
    go_wp2
    go_ret
    exact ⟨rfl, HH.out.2.2⟩
  | true =>
    cases d1 : c.kids.all numOk with
    | false =>
      go_enter Tryz.func62, Tryz.ntmps62
      go_wp2_with (go_at_call 80; refine HH.out.1.mono ?_; rw [d1]; rintro e w1 ⟨rfl, rfl⟩)
      go_ret
      exact ⟨rfl, HH.out.2.2⟩
    | true =>
      go_enter Tryz.func62, Tryz.ntmps62
      go_wp2_with (first
        | (go_at_call 80; refine HH.out.1.mono ?_; rw [d1]; rintro e w1 ⟨rfl, rfl⟩)
        | (go_at_call 81; refine HH.out.2.1.mono ?_; rintro e w2 ⟨rfl, b2⟩))
      go_ret
      exact ⟨rfl, HH.out.2.2.trans (b2.mono HH.out.2.2.size)⟩
end Go.Proofs.YtkfmkhhjkioeoaaGreatDoor
