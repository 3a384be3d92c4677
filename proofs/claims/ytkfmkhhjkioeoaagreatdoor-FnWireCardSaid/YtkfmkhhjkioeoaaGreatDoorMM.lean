/-
  A region that draws its order, walked once in the order of the text, over the class of all worlds of which something is known (whatever its callees keep).
  The laws' comparisons of rows of numbers and of cells, at two that are alike.
  The laws' comparison of messages, at two that are alike.
-/
import Derived.Deep.QuietTactic
import Derived.BigQuiet
import Derived.Test.YtkfmkhhjkioeoaaGreatDoorRows
import Derived.Test.YtkfmkhhjkioeoaaGreatDoorME
namespace Go.Proofs.YtkfmkhhjkioeoaaGreatDoor
open Go Go.RowKit

/-- A world of which this is known. -/
structure WIn (Good : World → Prop) where
  w : World
  ok : Good w

theorem wp_region_good {Good : World → Prop} {P : Program} {id : Nat} {Q : Exit → Act → World → Prop} {a : Act} {w : World} {l : List Oper} (hm : P.follows .mixedOrders = true) (hB : Region.lexB .any l.toArray = true) (h0 : Good w.drew)
    (h : wpQuiet P l.toArray (fun w' => ∃ p : WIn Good, w' = p.w) (fun a' => ∀ w', (∃ p : WIn Good, w' = p.w) → Q .normal a' w') l a) : (Code.region id l.toArray true).wp P Q a w :=
  wp_region_quiet (C := fun w' => ∃ p : WIn Good, w' = p.w) hm hB ⟨⟨w.drew, h0⟩, rfl⟩ (by simpa using h)

theorem calls_good {Good : World → Prop} {P : Program} {f : FuncId} {args : Array Value} {p : WIn Good} {v : Value}
    (h : Calls P f args p.w fun e w' => e = .returned v ∧ Good w') : Calls P f args p.w fun e w'' => e = .returned v ∧ ∃ q : WIn Good, w'' = q.w :=
  h.mono fun _ w' ⟨he, hw⟩ => ⟨he, ⟨w', hw⟩, rfl⟩
theorem calls_good_same {Good : World → Prop} {P : Program} {f : FuncId} {args : Array Value} {p : WIn Good} {v : Value}
    (h : Calls P f args p.w fun e w' => e = .returned v ∧ w' = p.w) : Calls P f args p.w fun e w'' => e = .returned v ∧ ∃ q : WIn Good, w'' = q.w :=
  h.mono fun _ _ ⟨he, hw⟩ => ⟨he, p, hw⟩
end Go.Proofs.YtkfmkhhjkioeoaaGreatDoor

namespace Go.Proofs.YtkfmkhhjkioeoaaGreatDoor
open Go.RowKit Go.Joins

set_option maxRecDepth 100000

set_option maxHeartbeats 3200000 in
theorem sameInts_same (v1 v2 : Value) (ts : List Int) (S1 S2 : Nat → Prop) (w : World) (h1 : IntsAt w S1 v1 ts) (h2 : IntsAt w S2 v2 ts) :
    Calls Tryz.prog 75 #[v1, v2] w fun e w' => e = .returned (.bool true) ∧ Below w.heap.size w w' := by
  obtain ⟨a1, cap1, rfl, hm1, hc1⟩ := h1
  obtain ⟨a2, cap2, rfl, hm2, hc2⟩ := h2
  unfold maxLen at hm1 hm2
  have HC1 := (show Hid (_ ∧ True) from ⟨hc1, trivial⟩)
  have HC2 := (show Hid (_ ∧ True) from ⟨hc2, trivial⟩)
  clear hc1 hc2
  have hne : (((ts.length : Nat) : Int) != ((ts.length : Nat) : Int)) = false := by simp
  go_enter Tryz.func75, Tryz.ntmps75
  go_wp2
  go_loopw [5] (fun i wr => ∃ k : Nat, k ≤ ts.length ∧ i = .int .i64 k ∧ Below w.heap.size w wr) (fun i _ => ts.length - (intOf i).toNat)
  case atStart => exact ⟨0, Nat.zero_le _, rfl, Below.refl _ _⟩
  case round =>
    obtain ⟨k, hk, rfl, hbw⟩ := hrel
    by_cases hkl : k < ts.length
    · have he := List.getElem?_eq_getElem hkl
      generalize ts[k] = x at *
      obtain ⟨b1, off1, rfl, -, hl1, c0, -⟩ := HC1.out.1 k x he
      obtain ⟨b2, off2, rfl, -, hl2, d0, -⟩ := HC2.out.1 k x he
      rw [← hbw.cell (by exact hl1)] at c0
      rw [← hbw.cell (by exact hl2)] at d0
      clear he HC1 HC2
      have hlt' : ((k : Nat) : Int) < ((ts.length : Nat) : Int) := by omega
      have hst : (x == x) = true := by simp
      have hsn : (x != x) = false := by simp
      go_wp2
      go_quiet (fail)
      go_wp2
      go_roundw
      case rel => exact ⟨k + 1, by omega, by go_num, drewN_below hbw _⟩
      case measure => simp [intOf]; omega
    · clear HC1 HC2
      go_wp2
      go_ret
      exact ⟨rfl, hbw⟩

set_option maxHeartbeats 3200000 in
theorem sameCell_same (v1 v2 : Value) (x : Ce) (S1 S2 : Nat → Prop) (w : World) (h1 : CeAt w S1 v1 x) (h2 : CeAt w S2 v2 x) :
    Calls Tryz.prog 52 #[v1, v2] w fun e w' => e = .returned (.bool true) ∧ Below w.heap.size w w' := by
  obtain ⟨kv1, rfl, -, -, -, k1⟩ := h1
  obtain ⟨kv2, rfl, -, -, -, k2⟩ := h2
  obtain ⟨a1, c1, rfl⟩ := k1.form
  obtain ⟨a2, c2, rfl⟩ := k2.form
  have e1 : (x.kind == x.kind) = true := by simp
  have e2 : (x.n == x.n) = true := by simp
  have e3 : (x.pos == x.pos) = true := by simp
  have B0 : Below w.heap.size w ((w.alloc (.cells #[.int .i64 x.kind, .int .i64 x.n, .int .i64 x.pos, .slice a1 x.kids.length c1] 26)).alloc (.cells #[.int .i64 x.kind, .int .i64 x.n, .int .i64 x.pos, .slice a2 x.kids.length c2] 26)) :=
    ((Below.refl _ w).alloc (Nat.le_refl _) _).alloc (by simp) _
  have HK1 := (show Hid (_ ∧ True) from ⟨k1.below B0, trivial⟩)
  have HK2 := (show Hid (_ ∧ True) from ⟨k2.below B0, trivial⟩)
  have HB0 := (show Hid (_ ∧ True) from ⟨B0, trivial⟩)
  clear k1 k2 B0
  go_enter Tryz.func52, Tryz.ntmps52
  go_wp2_with (go_at_call 75; refine (sameInts_same _ _ x.kids S1 S2 _ HK1.out.1 HK2.out.1).mono ?_; rintro e w1 ⟨rfl, b1⟩)
  go_ret
  exact ⟨rfl, HB0.out.1.trans (b1.mono HB0.out.1.size)⟩

end Go.Proofs.YtkfmkhhjkioeoaaGreatDoor

namespace Go.Proofs.YtkfmkhhjkioeoaaGreatDoor
open Go.RowKit Go.Joins

set_option maxRecDepth 100000

set_option maxHeartbeats 3200000 in
theorem sameMsg_same (v1 v2 : Value) (m : Ms) (S1 S2 : Nat → Prop) (w : World) (h1 : MsAt w S1 v1 m) (h2 : MsAt w S2 v2 m) :
    Calls Tryz.prog 20 #[v1, v2] w fun e w' => e = .returned (.bool true) ∧ Below w.heap.size w w' := by
  obtain ⟨a1, c1, rfl⟩ := h1.form
  obtain ⟨a2, c2, rfl⟩ := h2.form
  have e1 : (m.kind == m.kind) = true := by simp
  have e2 : (m.frm == m.frm) = true := by simp
  have e3 : (m.dst == m.dst) = true := by simp
  have e4 : (m.id == m.id) = true := by simp
  have e5 : (m.want == m.want) = true := by simp
  have B0 : Below w.heap.size w ((w.alloc (.cells (m.row (.slice a1 m.cell.kids.length c1)) 28)).alloc (.cells (m.row (.slice a2 m.cell.kids.length c2)) 28)) :=
    ((Below.refl _ w).alloc (Nat.le_refl _) _).alloc (by simp) _
  have HB := (show Hid (_ ∧ _ ∧ _) from ⟨(h1.below B0).cellAt, (h2.below B0).cellAt, B0⟩)
  clear h1 h2 B0
  go_enter Tryz.func20, Tryz.ntmps20
  go_wp2_with (go_at_call 52; refine (sameCell_same _ _ m.cell S1 S2 _ HB.out.1 HB.out.2.1).mono ?_; rintro e w1 ⟨rfl, b1⟩)
  go_ret
  exact ⟨rfl, HB.out.2.2.trans (b1.mono HB.out.2.2.size)⟩
end Go.Proofs.YtkfmkhhjkioeoaaGreatDoor
