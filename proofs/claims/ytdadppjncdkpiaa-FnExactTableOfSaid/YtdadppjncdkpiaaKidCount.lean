/-
  The program's kidCount.
-/
import Derived.Test.YtdadppjncdkpiaaRightPure
import Derived.BigQuiet
import Derived.Deep.QuietTactic
namespace Go.Proofs.Ytdadppjncdkpiaa
open Go.RowKit Go.Joins

set_option maxRecDepth 100000

theorem beqI (k c : Int) (h : ¬ k = c) : (k == c) = false := by simp [h]

set_option maxHeartbeats 1600000 in
theorem kidCount_any (k : Int) (w : World) : Calls Try.prog 104 #[.int .i64 k] w fun e w' => e = .returned (.int .i64 (kidsOf k)) ∧ w' = w := by
  go_enter Try.func104, Try.ntmps104
  by_cases h0 : k = 0
  · subst h0; go_wp2; go_ret; exact ⟨rfl, rfl⟩
  have g0 := beqI _ _ h0
  by_cases h1 : k = 1
  · subst h1; go_wp2; go_ret; exact ⟨rfl, rfl⟩
  have g1 := beqI _ _ h1
  by_cases h2 : k = 2
  · subst h2; go_wp2; go_ret; exact ⟨rfl, rfl⟩
  have g2 := beqI _ _ h2
  by_cases h7 : k = 7
  · subst h7; go_wp2; go_ret; exact ⟨rfl, rfl⟩
  have g7 := beqI _ _ h7
  by_cases h3 : k = 3
  · subst h3; go_wp2; go_ret; exact ⟨rfl, rfl⟩
  have g3 := beqI _ _ h3
  by_cases h4 : k = 4
  · subst h4; go_wp2; go_ret; exact ⟨rfl, rfl⟩
  have g4 := beqI _ _ h4
  by_cases h5 : k = 5
  · subst h5; go_wp2; go_ret; exact ⟨rfl, rfl⟩
  have g5 := beqI _ _ h5
  by_cases h8 : k = 8
  · subst h8; go_wp2; go_ret; exact ⟨rfl, rfl⟩
  have g8 := beqI _ _ h8
  by_cases h10 : k = 10
  · subst h10; go_wp2; go_ret; exact ⟨rfl, rfl⟩
  have g10 := beqI _ _ h10
  by_cases h11 : k = 11
  · subst h11; go_wp2; go_ret; exact ⟨rfl, rfl⟩
  have g11 := beqI _ _ h11
  by_cases h6 : k = 6
  · subst h6; go_wp2; go_ret; exact ⟨rfl, rfl⟩
  have g6 := beqI _ _ h6
  by_cases h9 : k = 9
  · subst h9; go_wp2; go_ret; exact ⟨rfl, rfl⟩
  have g9 := beqI _ _ h9
  have hr : kidsOf k = -1 := by unfold kidsOf; simp [h0, h1, h2, h7, h3, h4, h5, h8, h10, h11, h6, h9]
  rw [hr]
  go_wp2
  go_ret
  exact ⟨rfl, rfl⟩
end Go.Proofs.Ytdadppjncdkpiaa
