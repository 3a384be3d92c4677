/-
  The laws' marking of a row of words, and their look whether the marks still stand.
-/
import Derived.Test.YtfnnodaggjgkfadEqTok
namespace Go.Proofs.Ytfnnodaggjgkfad
open Go.RowKit Go.Maps Go.Joins Go.WideMaps

def markAt (k0 : Int) (j : Nat) : Tok := ⟨k0 + 4 * j, markT (k0 + 4 * j + 1), k0 + 4 * j + 1 + 1, k0 + 4 * j + 1 + 1 + 1⟩
def marks (k0 : Int) (n : Nat) : List Tok := (List.range n).map (markAt k0)
theorem marks_succ (k0 : Int) (n : Nat) : marks k0 (n + 1) = marks k0 n ++ [markAt k0 n] := by simp [marks, List.range_succ]
theorem marks_length (k0 : Int) (n : Nat) : (marks k0 n).length = n := by simp [marks]
theorem marks_at (k0 : Int) (n k : Nat) (h : k < n) : (marks k0 n)[k]? = some (markAt k0 k) := by simp [marks, h]

theorem set_four (xs : Array Value) (k : Nat) (a b c d : Value) (L : List Value) (hs : (k + 1) * 4 ≤ xs.size) (ht : xs.toList.take (k * 4) = L) :
    ((((xs.setIfInBounds (k * 4) a).setIfInBounds (k * 4 + 1) b).setIfInBounds (k * 4 + 2) c).setIfInBounds (k * 4 + 3) d).toList.take ((k + 1) * 4) = L ++ [a, b, c, d] := by
  obtain ⟨l⟩ := xs
  simp only [List.setIfInBounds_toArray] at *
  have hl : (k + 1) * 4 ≤ l.length := by simpa using hs
  have hL : L.length = k * 4 := by rw [← ht]; simp; omega
  apply List.ext_getElem?
  intro j
  rcases Nat.lt_or_ge j (k * 4) with h | h
  · rw [List.getElem?_append_left (by omega), ← ht, List.getElem?_take_of_lt (by omega), List.getElem?_take_of_lt (by omega)]
    simp only [List.getElem?_set]
    rw [if_neg (by omega), if_neg (by omega), if_neg (by omega), if_neg (by omega)]
  · rcases Nat.lt_or_ge j ((k + 1) * 4) with h2 | h2
    · rw [List.getElem?_take_of_lt h2, List.getElem?_append_right (by omega), hL]
      simp only [List.getElem?_set, List.length_set]
      obtain h3 | h3 | h3 | h3 : j = k * 4 ∨ j = k * 4 + 1 ∨ j = k * 4 + 2 ∨ j = k * 4 + 3 := by omega
      · subst h3; simp; omega
      · subst h3; simp; omega
      · subst h3; simp; omega
      · subst h3; simp; omega
    · rw [List.getElem?_eq_none (by simp; omega), List.getElem?_eq_none (by simp; omega)]

set_option maxRecDepth 100000 in
set_option maxHeartbeats 3200000 in
theorem markTokenS_any (base : Nat) (v : Value) (n : Nat) (xs : List Value) (k0 : Int) (w : World) (hk0 : 0 ≤ k0) (hk1 : k0 ≤ 100000000) (hn : n ≤ 1048576) (hrow : w.ownsRow base 46 4 v n xs) :
    Calls Try.prog 10 #[v, .int .i64 k0] w fun e w' => e = .returned (.int .i64 (k0 + 4 * n)) ∧ w'.ownsRow base 46 4 v n (toksCells (marks k0 n)) ∧ w.grownBy w' v.ownBlock := by
  by_cases hz : n = 0
  · subst hz
    obtain ⟨a1, c1, hv⟩ := row_zero hrow rfl
    have hrow' : w.ownsRow base 46 4 v 0 (toksCells (marks k0 0)) := by
      have e1 : xs = [] := List.eq_nil_of_length_eq_zero (by simpa using hrow.1)
      rw [e1] at hrow
      exact hrow
    have HR : Hid (w.ownsRow base 46 4 v 0 (toksCells (marks k0 0))) := hrow'
    clear hrow hrow'
    rw [hv] at HR ⊢
    go_enter Try.func10, Try.ntmps10
    go_wp2
    refine wp_loop_rounds 1 ?_
    rw [rounds_succ]
    go_wp2
    go_ret
    exact ⟨ret_int (by simp), HR.out, World.grownBy.refl _ _⟩
  rcases hrow.2 with ⟨_, h0⟩ | ⟨g, cap, cur, rfl, hb, hg, hnc, hcm, hcs, htake⟩
  · omega
  have hlg := (Array.getElem?_eq_some_iff.1 hg).1
  have HG : Hid (w.heap[g]? = some (.cells cur 46 (0, 0))) := hg
  clear hg hrow htake
  go_enter Try.func10, Try.ntmps10
  go_wp2
  go_loopw [1, 5] (fun kv i wr => ∃ k : Nat, k ≤ n ∧ i = .int .i64 k ∧ kv = .int .i64 (k0 + 4 * k) ∧ Hid (∃ cur', wr.heap[g]? = some (.cells cur' 46 (0, 0)) ∧ cur'.size = cap * 4 ∧ cur'.toList.take (k * 4) = toksCells (marks k0 k)) ∧ Hid (w.grownBy wr (some g))) (fun _ i _ => n - (intOf i).toNat)
  case atStart => exact ⟨0, Nat.zero_le _, rfl, by simp, ⟨cur, HG.out, hcs, by simp [marks, toksCells]⟩, World.grownBy.refl _ _⟩
  case round =>
    obtain ⟨k, hk, rfl, rfl, ⟨cur', hg', hcs', ht'⟩, hgw⟩ := hrel
    have hlg' := (Array.getElem?_eq_some_iff.1 hg').1
    have HC : Hid (wr.heap[g]? = some (.cells cur' 46 (0, 0))) := hg'
    have HT : Hid (cur'.toList.take (k * 4) = toksCells (marks k0 k)) := ht'
    have HS : Hid (cur'.size = cap * 4) := hcs'
    clear hg' ht' hcs'
    by_cases hlt : k < n
    · have x0 : wr.cell? ⟨g, k * 4, none⟩ = some (cur'[k * 4]'(by have := HS.out; omega)) := by rw [cell_of_block HC.out]; exact Array.getElem?_eq_getElem _
      generalize cur'[k * 4]'(by have := HS.out; omega) = y0 at x0
      have f0 : wr.frozen? ⟨g, k * 4, none⟩ = false := unfrozen_of_block HC.out _
      have hlt' : ((k : Nat) : Int) < ((n : Nat) : Int) := by omega
      go_wp2_with fail
      refine (markText_any _ _ (by omega)).mono ?_
      rintro e w1 ⟨rfl, hb1⟩
      have HC1 : Hid (w1.heap[g]? = some (.cells (cur'.setIfInBounds (k * 4) (.int .i64 (k0 + 4 * k))) 46 (0, 0))) := (hb1.block g (by simpa using hlg')).trans (block_setCell HC.out _)
      have hgw1 : Hid (w.grownBy w1 (some g)) := hgw.out.trans ((Go.Lib.grownBy_setCell wr g (k * 4) _).trans (grown_of_below hb1))
      have HS1 : Hid ((cur'.setIfInBounds (k * 4) (.int .i64 (k0 + 4 * k))).size = cap * 4) := by rw [Array.size_setIfInBounds]; exact HS.out
      have x1 : w1.cell? ⟨g, k * 4 + 1, none⟩ = some ((cur'.setIfInBounds (k * 4) (.int .i64 (k0 + 4 * k)))[k * 4 + 1]'(by have := HS1.out; omega)) := by rw [cell_of_block HC1.out]; exact Array.getElem?_eq_getElem _
      have x2 : w1.cell? ⟨g, k * 4 + 2, none⟩ = some ((cur'.setIfInBounds (k * 4) (.int .i64 (k0 + 4 * k)))[k * 4 + 2]'(by have := HS1.out; omega)) := by rw [cell_of_block HC1.out]; exact Array.getElem?_eq_getElem _
      have x3 : w1.cell? ⟨g, k * 4 + 3, none⟩ = some ((cur'.setIfInBounds (k * 4) (.int .i64 (k0 + 4 * k)))[k * 4 + 3]'(by have := HS1.out; omega)) := by rw [cell_of_block HC1.out]; exact Array.getElem?_eq_getElem _
      generalize (cur'.setIfInBounds (k * 4) (.int .i64 (k0 + 4 * k)))[k * 4 + 1]'(by have := HS1.out; omega) = y1 at x1
      generalize (cur'.setIfInBounds (k * 4) (.int .i64 (k0 + 4 * k)))[k * 4 + 2]'(by have := HS1.out; omega) = y2 at x2
      generalize (cur'.setIfInBounds (k * 4) (.int .i64 (k0 + 4 * k)))[k * 4 + 3]'(by have := HS1.out; omega) = y3 at x3
      have f1 : w1.frozen? ⟨g, k * 4 + 1, none⟩ = false := unfrozen_of_block HC1.out _
      have f2 : w1.frozen? ⟨g, k * 4 + 2, none⟩ = false := unfrozen_of_block HC1.out _
      have f3 : w1.frozen? ⟨g, k * 4 + 3, none⟩ = false := unfrozen_of_block HC1.out _
      clear hb1
      go_wp2
      refine ⟨⟨k + 1, by omega, by go_num, int_eq (by omega), ⟨_, block_setCell (block_setCell (block_setCell HC1.out _) _) _, ?_, ?_⟩, hgw1.out.trans ((Go.Lib.grownBy_setCell _ g _ _).trans ((Go.Lib.grownBy_setCell _ g _ _).trans (Go.Lib.grownBy_setCell _ g _ _)))⟩, by simp [intOf]; omega⟩
      · simp only [Array.size_setIfInBounds]; exact HS.out
      · rw [marks_succ, toksCells_snoc]
        exact set_four cur' k _ _ _ _ _ (by have := HS.out; omega) HT.out
    · obtain rfl : k = n := by omega
      go_wp2
      go_ret
      refine ⟨rfl, ⟨by rw [toksCells_length, marks_length], .inr ⟨g, cap, cur', rfl, hb, HC.out, hnc, hcm, HS.out, HT.out⟩⟩, hgw.out⟩

set_option maxRecDepth 100000 in
set_option maxHeartbeats 3200000 in
theorem heldTokenS_any (base : Nat) (v : Value) (n : Nat) (k0 : Int) (w : World) (hk0 : 0 ≤ k0) (hk1 : k0 ≤ 100000000) (hn : n ≤ 1048576) (hrow : w.ownsRow base 46 4 v n (toksCells (marks k0 n))) :
    Calls Try.prog 11 #[v, .int .i64 k0] w fun e w' => e = .returned (.int .i64 (k0 + 4 * n)) ∧ Below w.heap.size w w' := by
  by_cases hz : n = 0
  · subst hz
    obtain ⟨a1, c1, rfl⟩ := row_zero hrow rfl
    clear hrow
    go_enter Try.func11, Try.ntmps11
    go_wp2
    refine wp_loop_rounds 1 ?_
    rw [rounds_succ]
    go_wp2
    go_ret
    exact ⟨ret_int (by simp), Below.refl _ _⟩
  have hml := marks_length k0 n
  have hrow2 : w.ownsRow base 46 4 v (marks k0 n).length (toksCells (marks k0 n)) := by rw [hml]; exact hrow
  obtain ⟨g, cap, hv, _, hlg, hc⟩ := row_cell hrow2 (by omega)
  rw [hml] at hv
  subst hv
  have hca := fun k (hk : k < n) => hc k (markAt k0 k) (marks_at k0 n k hk)
  clear hrow hrow2 hc hml
  go_enter Try.func11, Try.ntmps11
  go_wp2
  go_loopw [1, 5] (fun kv i wr => ∃ k : Nat, k ≤ n ∧ i = .int .i64 k ∧ kv = .int .i64 (k0 + 4 * k) ∧ Below w.heap.size w wr) (fun _ i _ => n - (intOf i).toNat)
  case atStart => exact ⟨0, Nat.zero_le _, rfl, by simp, Below.refl _ _⟩
  case round =>
    obtain ⟨k, hk, rfl, rfl, hbw⟩ := hrel
    by_cases hlt : k < n
    · obtain ⟨a0, a1, a2, a3⟩ := hca k hlt
      rw [← hbw.cell (by exact hlg)] at a0 a1 a2 a3
      simp only [markAt] at a0 a1 a2 a3
      have hlt' : ((k : Nat) : Int) < ((n : Nat) : Int) := by omega
      have hsz := hbw.size
      have e0 : (k0 + 4 * (k : Int) != k0 + 4 * (k : Int)) = false := by simp
      have e2 : (k0 + 4 * (k : Int) + 1 + 1 != k0 + 4 * (k : Int) + 1 + 1) = false := by simp
      have e3 : (k0 + 4 * (k : Int) + 1 + 1 + 1 != k0 + 4 * (k : Int) + 1 + 1 + 1) = false := by simp
      have e1 : ((markT (k0 + 4 * (k : Int) + 1)).toList != (markT (k0 + 4 * (k : Int) + 1)).toList) = false := by simp
      clear hca
      go_wp2
      go_region_with (go_at_call 20; refine (markText_any _ _ (by omega)).mono ?_; rintro e w1 ⟨rfl, hb1⟩; have b1 : w1.cell? ⟨g, k * 4 + 1, none⟩ = some (.string (markT (k0 + 4 * (k : Int) + 1))) := (hb1.cell (p := ⟨g, k * 4 + 1, none⟩) (by exact Nat.lt_of_lt_of_le hlg hsz)).trans (by exact a1))
      all_goals
        have b2 : w1.cell? ⟨g, k * 4 + 2, none⟩ = some (.int .i64 (k0 + 4 * (k : Int) + 1 + 1)) := (hb1.cell (p := ⟨g, k * 4 + 2, none⟩) (by exact Nat.lt_of_lt_of_le hlg hsz)).trans (by exact a2)
        have b3 : w1.cell? ⟨g, k * 4 + 3, none⟩ = some (.int .i64 (k0 + 4 * (k : Int) + 1 + 1 + 1)) := (hb1.cell (p := ⟨g, k * 4 + 3, none⟩) (by exact Nat.lt_of_lt_of_le hlg hsz)).trans (by exact a3)
        have hbw2 : Below w.heap.size w w1 := hbw.drew.trans (hb1.mono hsz)
        clear hb1
        go_wp2
        refine ⟨⟨k + 1, by omega, by go_num, int_eq (by omega), hbw2⟩, by simp [intOf]; omega⟩
    · clear hca
      obtain rfl : k = n := by omega
      go_wp2
      go_ret
      exact ⟨rfl, hbw⟩
end Go.Proofs.Ytfnnodaggjgkfad
