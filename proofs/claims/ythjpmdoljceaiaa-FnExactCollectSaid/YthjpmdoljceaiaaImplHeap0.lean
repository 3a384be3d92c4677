/-
  The program's looks at places of a heap.
-/
import Derived.Test.YthjpmdoljceaiaaCellsPure
namespace Go.Proofs.Ythjpmdoljceaiaa
open Go.RowKit Go.Joins

set_option maxRecDepth 100000

theorem within_any (n a b : Int) (w : World) : Calls Try.prog 44 #[.int .i64 n, .int .i64 a, .int .i64 b] w fun e w' => e = .returned (.bool (inB n a b)) ∧ w' = w := by
  unfold inB
  by_cases h1 : a ≤ n
  · have d1 : decide (a ≤ n) = true := by simpa using h1
    go_enter Try.func44, Try.ntmps44
    go_wp2
    go_ret
    exact ⟨by simp [h1], rfl⟩
  · have d1 : decide (a ≤ n) = false := by simpa using h1
    go_enter Try.func44, Try.ntmps44
    go_wp2
    go_ret
    exact ⟨by simp, rfl⟩
theorem within_r (n a b : Int) (r : Bool) (h : inB n a b = r) (w : World) : Calls Try.prog 44 #[.int .i64 n, .int .i64 a, .int .i64 b] w fun e w' => e = .returned (.bool r) ∧ w' = w := by
  rw [← h]; exact within_any n a b w
theorem isPlace_is (a : Option Addr) (cap n : Nat) (p : Int) (r : Bool) (h : inB p 0 ((n : Int) - 1) = r) (w : World) (hn : n ≤ 4194304) :
    Calls Try.prog 31 #[.slice a n cap, .int .i64 p] w fun e w' => e = .returned (.bool r) ∧ w' = w := by
  go_enter Try.func31, Try.ntmps31
  go_wp2_with fail
  refine (within_r _ _ _ r h _).mono ?_
  rintro e w1 ⟨rfl, rfl⟩
  go_wp2
  go_ret
  exact ⟨rfl, rfl⟩
/-- Whether one who follows stays at a cell. -/
def Ce.isEnd (c : Ce) : Bool := (c.kind != 6) || ((c.kids.length : Int) == 0)
set_option maxHeartbeats 1600000 in
theorem isEnd_any (v : Value) (c : Ce) (S : Nat → Prop) (w : World) (h : CeAt w S v c) :
    Calls Try.prog 32 #[v] w fun e w' => e = .returned (.bool c.isEnd) ∧ Below w.heap.size w w' := by
  obtain ⟨kv, rfl, r1, r2, r3, hk⟩ := h
  obtain ⟨a, cap, rfl⟩ := hk.form
  have B0 : Below w.heap.size w (w.alloc (.cells #[.int .i64 c.kind, .int .i64 c.n, .int .i64 c.pos, .slice a c.kids.length cap] 42)) := (Below.refl _ w).alloc (Nat.le_refl _) _
  unfold Ce.isEnd
  clear hk r1 r2 r3
  cases b0 : (c.kind != 6) <;> cases b1 : ((c.kids.length : Int) == 0) <;>
  ( go_enter Try.func32, Try.ntmps32
    go_wp2
    go_ret
    exact ⟨by simp, B0⟩ )
end Go.Proofs.Ythjpmdoljceaiaa
