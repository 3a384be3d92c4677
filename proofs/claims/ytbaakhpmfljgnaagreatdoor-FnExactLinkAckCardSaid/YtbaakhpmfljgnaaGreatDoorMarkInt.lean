/-
  The laws' marking of a row of numbers, and their look whether the marks still stand.
-/
import Derived.Test.YtbaakhpmfljgnaaGreatDoorMA
namespace Go.Proofs.YtbaakhpmfljgnaaGreatDoor
open Go.RowKit Go.Joins

set_option maxRecDepth 100000

def marksI (k : Int) (n : Nat) : List Int := (List.range n).map (fun i : Nat => k + (i : Int))
theorem marksI_len (k : Int) (n : Nat) : (marksI k n).length = n := by simp [marksI]
theorem marksI_succ (k : Int) (n : Nat) : marksI k (n + 1) = marksI k n ++ [k + (n : Int)] := by simp [marksI, List.range_succ]
theorem marksI_at (k : Int) (n j : Nat) (h : j < n) : (marksI k n)[j]? = some (k + (j : Int)) := by simp [marksI, h]

theorem row_nil {w : World} {B size n : Nat} {e : TypeId} {v : Value} {xs : List Value} (h : w.ownsRow B e size v n xs) (hn : n = 0) : ∃ a c, v = .slice a 0 c := by
  subst hn
  exact own_form h
theorem set_one (xs : Array Value) (k : Nat) (u : Value) (L : List Value) (hs : k + 1 ≤ xs.size) (ht : xs.toList.take k = L) : (xs.setIfInBounds k u).toList.take (k + 1) = L ++ [u] := by
  obtain ⟨l⟩ := xs
  simp only [List.setIfInBounds_toArray] at *
  have hl : k + 1 ≤ l.length := by simpa using hs
  have hL : L.length = k := by rw [← ht]; simp; omega
  apply List.ext_getElem?
  intro j
  rcases Nat.lt_trichotomy j k with h | h | h
  · rw [List.getElem?_append_left (by omega), ← ht, List.getElem?_take_of_lt (by omega), List.getElem?_take_of_lt (by omega), List.getElem?_set_ne (by omega)]
  · subst h
    rw [List.getElem?_take_of_lt (by omega), List.getElem?_append_right (by omega), hL, Nat.sub_self, List.getElem?_set_self (by omega)]
    rfl
  · rw [List.getElem?_eq_none (by simp; omega), List.getElem?_eq_none (by simp; omega)]

set_option maxHeartbeats 3200000 in
theorem markIntS_any (B : Nat) (v : Value) (n : Nat) (xs : List Value) (k0 : Int) (w : World) (hk0 : 0 ≤ k0) (hk1 : k0 ≤ 100000000) (hn : n ≤ 100000000) (hrow : w.ownsRow B 3 1 v n xs) :
    Calls Tryz.prog 85 #[v, .int .i64 k0] w fun e w' => e = .returned (.int .i64 (k0 + n)) ∧ w'.ownsRow B 3 1 v n (intVs (marksI k0 n)) ∧ w.grownBy w' v.ownBlock := by
  by_cases hz : n = 0
  · subst hz
    obtain ⟨a1, c1, hv⟩ := row_nil hrow rfl
    have hrow' : w.ownsRow B 3 1 v 0 (intVs (marksI k0 0)) := by
      have e1 : xs = [] := List.eq_nil_of_length_eq_zero (by simpa using hrow.1)
      rw [e1] at hrow
      exact hrow
    have HR : Hid (w.ownsRow B 3 1 v 0 (intVs (marksI k0 0))) := hrow'
    clear hrow hrow'
    rw [hv] at HR ⊢
    go_enter Tryz.func85, Tryz.ntmps85
    go_wp2
    refine wp_loop_rounds 1 ?_
    rw [rounds_succ]
    go_wp2
    go_ret
    exact ⟨int_ret (by simp), HR.out, World.grownBy.refl _ _⟩
  rcases hrow.2 with ⟨_, h0⟩ | ⟨g, cap, cur, rfl, hb, hg, hnc, hcm, hcs, htake⟩
  · omega
  have HG : Hid (w.heap[g]? = some (.cells cur 3 (0, 0))) := hg
  clear hg hrow htake
  go_enter Tryz.func85, Tryz.ntmps85
  go_wp2
  go_loopw [1, 5] (fun kv i wr => ∃ k : Nat, k ≤ n ∧ i = .int .i64 k ∧ kv = .int .i64 (k0 + k) ∧ Hid (∃ cur', wr.heap[g]? = some (.cells cur' 3 (0, 0)) ∧ cur'.size = cap * 1 ∧ cur'.toList.take k = intVs (marksI k0 k)) ∧ Hid (w.grownBy wr (some g))) (fun _ i _ => n - (intOf i).toNat)
  case atStart => exact ⟨0, Nat.zero_le _, rfl, by simp, ⟨cur, HG.out, hcs, by simp [marksI]⟩, World.grownBy.refl _ _⟩
  case round =>
    obtain ⟨k, hk, rfl, rfl, ⟨cur', hg', hcs', ht'⟩, hgw⟩ := hrel
    have HC : Hid (wr.heap[g]? = some (.cells cur' 3 (0, 0))) := hg'
    have HT : Hid (cur'.toList.take k = intVs (marksI k0 k)) := ht'
    have HS : Hid (cur'.size = cap * 1) := hcs'
    clear hg' ht' hcs'
    by_cases hlt : k < n
    · have x0 : wr.cell? ⟨g, k, none⟩ = some (cur'[k]'(by have := HS.out; omega)) := by rw [cell_of_block HC.out]; exact Array.getElem?_eq_getElem _
      generalize cur'[k]'(by have := HS.out; omega) = y0 at x0
      have f0 : wr.frozen? ⟨g, k, none⟩ = false := unfrozen_of_block HC.out _
      have hlt' : ((k : Nat) : Int) < ((n : Nat) : Int) := by omega
      go_wp2
      refine ⟨⟨k + 1, by omega, by go_num, int_eqv (by omega), ⟨_, block_setCell HC.out _, by simp only [Array.size_setIfInBounds]; exact HS.out, ?_⟩, hgw.out.trans (Go.Lib.grownBy_setCell _ g _ _)⟩, by simp [intOf]; omega⟩
      rw [marksI_succ]
      unfold intVs
      rw [List.map_append]
      exact set_one cur' k _ _ (by have := HS.out; omega) HT.out
    · obtain rfl : k = n := by omega
      go_wp2
      go_ret
      refine ⟨rfl, ⟨by rw [List.length_map, marksI_len]; omega, .inr ⟨g, cap, cur', rfl, hb, HC.out, hnc, hcm, HS.out, ?_⟩⟩, hgw.out⟩
      rw [Nat.mul_one]
      exact HT.out

set_option maxHeartbeats 3200000 in
theorem heldIntS_any (B : Nat) (v : Value) (n : Nat) (k0 : Int) (w : World) (hk0 : 0 ≤ k0) (hk1 : k0 ≤ 100000000) (hn : n ≤ 100000000) (hrow : w.ownsRow B 3 1 v n (intVs (marksI k0 n))) :
    Calls Tryz.prog 86 #[v, .int .i64 k0] w fun e w' => e = .returned (.int .i64 (k0 + n)) ∧ Below w.heap.size w w' := by
  by_cases hz : n = 0
  · subst hz
    obtain ⟨a1, c1, rfl⟩ := row_nil hrow rfl
    clear hrow
    go_enter Tryz.func86, Tryz.ntmps86
    go_wp2
    refine wp_loop_rounds 1 ?_
    rw [rounds_succ]
    go_wp2
    go_ret
    exact ⟨int_ret (by simp), Below.refl _ _⟩
  obtain ⟨g, cap, rfl⟩ := own_some hrow (by omega)
  have hca : ∀ j, j < n → w.cell? ⟨g, j, none⟩ = some (.int .i64 (k0 + (j : Int))) := fun j hj => by
    have := hrow.cells (g := g) rfl j (.int .i64 (k0 + (j : Int))) (by rw [List.getElem?_map, marksI_at _ _ _ hj]; rfl)
    rw [addr_addI, Nat.zero_add] at this
    exact this
  have hlg := own_lt hrow g rfl
  clear hrow
  go_enter Tryz.func86, Tryz.ntmps86
  go_wp2
  go_loopw [1, 5] (fun kv i wr => ∃ k : Nat, k ≤ n ∧ i = .int .i64 k ∧ kv = .int .i64 (k0 + k) ∧ Below w.heap.size w wr) (fun _ i _ => n - (intOf i).toNat)
  case atStart => exact ⟨0, Nat.zero_le _, rfl, by simp, Below.refl _ _⟩
  case round =>
    obtain ⟨k, hk, rfl, rfl, hbw⟩ := hrel
    by_cases hlt : k < n
    · have a0 := hca k hlt
      rw [← hbw.cell (by exact hlg)] at a0
      have hlt' : ((k : Nat) : Int) < ((n : Nat) : Int) := by omega
      have e0 : (k0 + (k : Int) != k0 + (k : Int)) = false := by simp
      clear hca
      go_wp2
      refine ⟨⟨k + 1, by omega, by go_num, int_eqv (by omega), hbw⟩, by simp [intOf]; omega⟩
    · clear hca
      obtain rfl : k = n := by omega
      go_wp2
      go_ret
      exact ⟨rfl, hbw⟩
end Go.Proofs.YtbaakhpmfljgnaaGreatDoor
