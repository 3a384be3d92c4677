/-
  slices.Grow of a row that is none, of numbers.
-/
import Derived.Test.YtdadppjncdkpiaaOwnRow
import Derived.Test.YtdadppjncdkpiaaPkMore
import Derived.Laws.MakeOwn
import Derived.Deep.RegionLaw
namespace Go.Proofs.Ytdadppjncdkpiaa
open Go.RowKit Go.Joins

set_option maxRecDepth 100000

theorem growMade (n : Nat) (hn : n ≤ 4194304) (w : World) : (Instr.makeSlice 23 (.int .i64 (n : Int)) (.int .i64 (n : Int))).run Try.prog w = .ok (.slice (some ⟨w.heap.size, 0, none⟩) n n) (w.alloc (.cells (madeCells #[.int .i64 0] n) 3)) := by
  obtain ⟨i0, hi, hz0, hz1, hz2⟩ := info_parts infoCdI
  have h := run_make (P := Try.prog) w 23 3 i0 (.int .i64 0) Try.underlying23 hi hz0 .i64 .i64 n n (by omega) (Int.le_refl _) (by rw [hz2]; omega) (by omega)
  rw [hz1] at h
  simp only [Int.toNat_natCast, Nat.mul_one] at h
  exact h
set_option maxHeartbeats 3200000 in
theorem grow_nil (n : Nat) (hn : n ≤ 3) (w : World) : Calls Try.prog 110 #[.slice none 0 0, .int .i64 (n : Int)] w fun e w' => ∃ gv, e = .returned gv ∧ w'.ownsRow w.heap.size 3 1 gv 0 [] ∧ Below w.heap.size w w' := by
  obtain ⟨i0, hi, hz0, hz1, hz2⟩ := info_parts infoCdI
  have hmk := growMade n (by omega)
  by_cases h0 : n = 0
  · subst h0
    clear hmk
    go_enter Try.func110, Try.ntmps110
    go_wp2
    go_ret
    exact ⟨_, rfl, ⟨rfl, .inl ⟨rfl, rfl⟩⟩, Below.refl _ _⟩
  · have hg : (0 : Int) < (n : Int) := by omega
    have hgn : 0 < n := by omega
    have hby : Try.t3.bytes = 8 := by kernel_rfl
    have hcap : ¬ 281474976710656 < Builtin.nextslicecap n 0 * Try.t3.bytes := by
      rw [hby]
      obtain rfl | rfl | rfl : n = 1 ∨ n = 2 ∨ n = 3 := by omega
      · decide
      · decide
      · decide
    have hlen1 : (n : Int) * (Try.t3.bytes : Int) ≤ 281474976710656 := by rw [hby]; omega
    have hgc := grownCap_ge w n 0 3
    have hgm := grownCap_le_maxLen w n 0 3 (by unfold maxLen; omega)
    have hrow : ((w.alloc (.cells (Builtin.zeroCells #[.int .i64 0] n ++ Builtin.zeroCells #[.int .i64 0] (grownCap w n 0 3 - n)) 3)).drew).ownsRow w.heap.size 3 1 (.slice (some ⟨w.heap.size, 0, none⟩) 0 (grownCap w n 0 3)) 0 [] := by
      refine ⟨rfl, .inr ⟨w.heap.size, _, _, rfl, Nat.le_refl _, (MapKept.heap_alloc w _).1, Nat.zero_le _, hgm, ?_, ?_⟩⟩
      · simp [Builtin.zeroCells]
        omega
      · simp
    have HR := (show Hid (_ ∧ _) from ⟨hrow, ((Below.refl w.heap.size w).alloc (Nat.le_refl _) (.cells (Builtin.zeroCells #[.int .i64 0] n ++ Builtin.zeroCells #[.int .i64 0] (grownCap w n 0 3 - n)) 3)).drew⟩)
    clear hrow hgc hgm hby hmk
    go_enter Try.func110, Try.ntmps110
    go_wp2
    go_ret
    exact ⟨_, rfl, HR.out.1, HR.out.2⟩
end Go.Proofs.Ytdadppjncdkpiaa
