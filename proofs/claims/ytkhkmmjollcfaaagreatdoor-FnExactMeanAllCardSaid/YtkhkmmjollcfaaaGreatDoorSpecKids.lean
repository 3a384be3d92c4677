/-
  The specification's ProgramOk: how many kids a kind has.
-/
import Derived.Test.YtkhkmmjollcfaaaGreatDoorMA
import Derived.Test.YtkhkmmjollcfaaaGreatDoorMM
namespace Go.Proofs.YtkhkmmjollcfaaaGreatDoor
open Go.RowKit Go.Joins

set_option maxRecDepth 100000

set_option maxHeartbeats 3200000 in
theorem l02Kids_any (k : Int) (w : World) : Calls Tryz.prog 47 #[.int .i64 k] w fun e w' => e = .returned (.int .i64 (kidsOf k)) ∧ Below w.heap.size w w' := by
  by_cases h : 0 ≤ k ∧ k ≤ 11
  · have hin : inB k 0 11 = true := by unfold inB; simp [h.1, h.2]
    obtain ⟨n, rfl⟩ : ∃ n : Nat, k = n := ⟨k.toNat, by omega⟩
    have hn : n < 12 := by omega
    match n, hn with
    | 0, _ =>
      go_enter Tryz.func47, Tryz.ntmps47
      go_wp2_with fail
      refine (specIn_is _ _ _ true hin _).mono ?_
      rintro e w1 ⟨rfl, rfl⟩
      go_wp2
      go_ret
      exact ⟨rfl, (Below.refl w1.heap.size w1).alloc (Nat.le_refl _) _⟩
    | 1, _ =>
      go_enter Tryz.func47, Tryz.ntmps47
      go_wp2_with fail
      refine (specIn_is _ _ _ true hin _).mono ?_
      rintro e w1 ⟨rfl, rfl⟩
      go_wp2
      go_ret
      exact ⟨rfl, (Below.refl w1.heap.size w1).alloc (Nat.le_refl _) _⟩
    | 2, _ =>
      go_enter Tryz.func47, Tryz.ntmps47
      go_wp2_with fail
      refine (specIn_is _ _ _ true hin _).mono ?_
      rintro e w1 ⟨rfl, rfl⟩
      go_wp2
      go_ret
      exact ⟨rfl, (Below.refl w1.heap.size w1).alloc (Nat.le_refl _) _⟩
    | 3, _ =>
      go_enter Tryz.func47, Tryz.ntmps47
      go_wp2_with fail
      refine (specIn_is _ _ _ true hin _).mono ?_
      rintro e w1 ⟨rfl, rfl⟩
      go_wp2
      go_ret
      exact ⟨rfl, (Below.refl w1.heap.size w1).alloc (Nat.le_refl _) _⟩
    | 4, _ =>
      go_enter Tryz.func47, Tryz.ntmps47
      go_wp2_with fail
      refine (specIn_is _ _ _ true hin _).mono ?_
      rintro e w1 ⟨rfl, rfl⟩
      go_wp2
      go_ret
      exact ⟨rfl, (Below.refl w1.heap.size w1).alloc (Nat.le_refl _) _⟩
    | 5, _ =>
      go_enter Tryz.func47, Tryz.ntmps47
      go_wp2_with fail
      refine (specIn_is _ _ _ true hin _).mono ?_
      rintro e w1 ⟨rfl, rfl⟩
      go_wp2
      go_ret
      exact ⟨rfl, (Below.refl w1.heap.size w1).alloc (Nat.le_refl _) _⟩
    | 6, _ =>
      go_enter Tryz.func47, Tryz.ntmps47
      go_wp2_with fail
      refine (specIn_is _ _ _ true hin _).mono ?_
      rintro e w1 ⟨rfl, rfl⟩
      go_wp2
      go_ret
      exact ⟨rfl, (Below.refl w1.heap.size w1).alloc (Nat.le_refl _) _⟩
    | 7, _ =>
      go_enter Tryz.func47, Tryz.ntmps47
      go_wp2_with fail
      refine (specIn_is _ _ _ true hin _).mono ?_
      rintro e w1 ⟨rfl, rfl⟩
      go_wp2
      go_ret
      exact ⟨rfl, (Below.refl w1.heap.size w1).alloc (Nat.le_refl _) _⟩
    | 8, _ =>
      go_enter Tryz.func47, Tryz.ntmps47
      go_wp2_with fail
      refine (specIn_is _ _ _ true hin _).mono ?_
      rintro e w1 ⟨rfl, rfl⟩
      go_wp2
      go_ret
      exact ⟨rfl, (Below.refl w1.heap.size w1).alloc (Nat.le_refl _) _⟩
    | 9, _ =>
      go_enter Tryz.func47, Tryz.ntmps47
      go_wp2_with fail
      refine (specIn_is _ _ _ true hin _).mono ?_
      rintro e w1 ⟨rfl, rfl⟩
      go_wp2
      go_ret
      exact ⟨rfl, (Below.refl w1.heap.size w1).alloc (Nat.le_refl _) _⟩
    | 10, _ =>
      go_enter Tryz.func47, Tryz.ntmps47
      go_wp2_with fail
      refine (specIn_is _ _ _ true hin _).mono ?_
      rintro e w1 ⟨rfl, rfl⟩
      go_wp2
      go_ret
      exact ⟨rfl, (Below.refl w1.heap.size w1).alloc (Nat.le_refl _) _⟩
    | 11, _ =>
      go_enter Tryz.func47, Tryz.ntmps47
      go_wp2_with fail
      refine (specIn_is _ _ _ true hin _).mono ?_
      rintro e w1 ⟨rfl, rfl⟩
      go_wp2
      go_ret
      exact ⟨rfl, (Below.refl w1.heap.size w1).alloc (Nat.le_refl _) _⟩
  · have hin : inB k 0 11 = false := by
      unfold inB
      by_cases h0 : 0 ≤ k
      · have : ¬ k ≤ 11 := fun h1 => h ⟨h0, h1⟩
        simp [this]
      · simp [h0]
    have hr : kidsOf k = -1 := by unfold kidsOf; rw [if_neg (by omega), if_neg (by omega), if_neg (by omega), if_neg (by omega)]
    rw [hr]
    go_enter Tryz.func47, Tryz.ntmps47
    go_wp2_with fail
    refine (specIn_is _ _ _ false hin _).mono ?_
    rintro e w1 ⟨rfl, rfl⟩
    go_wp2
    go_ret
    exact ⟨rfl, Below.refl _ _⟩
end Go.Proofs.YtkhkmmjollcfaaaGreatDoor
