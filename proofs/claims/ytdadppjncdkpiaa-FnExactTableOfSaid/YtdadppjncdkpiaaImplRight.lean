/-
  The program's ProgramOk: the small functions below it.
-/
import Derived.Test.YtdadppjncdkpiaaKidCount
import Derived.BigQuiet
import Derived.Deep.QuietTactic
namespace Go.Proofs.Ytdadppjncdkpiaa
open Go.RowKit Go.Joins

set_option maxRecDepth 100000

theorem within_is (n a b : Int) (w : World) : Calls Try.prog 89 #[.int .i64 n, .int .i64 a, .int .i64 b] w fun e w' => e = .returned (.bool (inR n a b)) ∧ w' = w := by
  by_cases h1 : a ≤ n
  · by_cases h2 : n ≤ b
    · have hr : inR n a b = true := by unfold inR; simp [h1, h2]
      rw [hr]
      go_enter Try.func89, Try.ntmps89
      go_wp2
      go_ret
      exact ⟨rfl, rfl⟩
    · have hr : inR n a b = false := by unfold inR; simp [h2]
      rw [hr]
      go_enter Try.func89, Try.ntmps89
      go_wp2
      go_ret
      exact ⟨rfl, rfl⟩
  · have hr : inR n a b = false := by unfold inR; simp [h1]
    rw [hr]
    go_enter Try.func89, Try.ntmps89
    go_wp2
    go_ret
    exact ⟨rfl, rfl⟩

end Go.Proofs.Ytdadppjncdkpiaa
