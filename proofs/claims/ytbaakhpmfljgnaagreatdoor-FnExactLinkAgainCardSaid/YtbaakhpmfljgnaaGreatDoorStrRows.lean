/-
  The laws' looks at rows of texts: the same, marked, the marks still standing.
-/
import Derived.Test.YtbaakhpmfljgnaaGreatDoorMA
import Derived.Lib.Strings
import Derived.Test.YtbaakhpmfljgnaaGreatDoorMark
import Derived.Deep.RegionWith
import Derived.RegionTactic
namespace Go.Proofs.YtbaakhpmfljgnaaGreatDoor
open Go.RowKit Go.Joins

set_option maxRecDepth 100000

theorem srow_cell {w : World} {base : Nat} {e : TypeId} {v : Value} {ts : List ByteArray} {n : Nat} (h : w.ownsRow base e 1 v n (ts.map Value.string)) (hn : 0 < n) (hts : n = ts.length) :
    ∃ g cap, v = .slice (some ⟨g, 0, none⟩) n cap ∧ base ≤ g ∧ g < w.heap.size ∧ ∀ k t, ts[k]? = some t → w.cell? ⟨g, k, none⟩ = some (.string t) := by
  rcases h.2 with ⟨_, h0⟩ | ⟨g, cap, cur, hv, hb, hg, _, _, _, htake⟩
  · omega
  refine ⟨g, cap, hv, hb, (Array.getElem?_eq_some_iff.1 hg).1, fun k t ht => ?_⟩
  have hk : k < ts.length := (List.getElem?_eq_some_iff.1 ht).1
  have : (cur.toList.take (n * 1))[k]? = some (.string t) := by rw [htake, List.getElem?_map, ht]; rfl
  rw [List.getElem?_take_of_lt (by omega)] at this
  rw [cell_of_block hg, ← Array.getElem?_toList]
  exact this

theorem srow_zero {w : World} {base : Nat} {e : TypeId} {size : Nat} {v : Value} {n : Nat} {xs : List Value} (h : w.ownsRow base e size v n xs) (hn : n = 0) : ∃ a c, v = .slice a 0 c := by
  rcases h.2 with ⟨rfl, _⟩ | ⟨g, cap, cur, rfl, _⟩
  · exact ⟨none, 0, rfl⟩
  · exact ⟨some ⟨g, 0, none⟩, cap, by rw [hn]⟩

theorem sint_eq {a b : Int} (h : a = b) : Value.int .i64 a = .int .i64 b := by rw [h]
theorem sret_int {k : IntKind} {a b : Int} (h : a = b) : Ending.returned (.int k a) = .returned (.int k b) := by rw [h]

theorem s_not (x : Bool) (w : World) : (Op.unary .not (.bool x)).run Tryz.prog w = .ok (.bool (!x)) w := rfl

set_option maxHeartbeats 1600000 in
theorem eqStringS_same (base1 base2 : Nat) (v1 v2 : Value) (ts : List ByteArray) (w : World) (hn : ts.length ≤ 1048577) (h1 : w.ownsRow base1 9 1 v1 ts.length (ts.map Value.string)) (h2 : w.ownsRow base2 9 1 v2 ts.length (ts.map Value.string)) :
    Calls Tryz.prog 20 #[v1, v2] w fun e w' => e = .returned (.bool true) ∧ Below w.heap.size w w' := by
  by_cases hz : ts.length = 0
  · obtain ⟨a1, c1, rfl⟩ := srow_zero h1 hz
    obtain ⟨a2, c2, rfl⟩ := srow_zero h2 hz
    clear h1 h2 hz hn
    go_enter Tryz.func20, Tryz.ntmps20
    go_wp2
    refine wp_loop_rounds 1 ?_
    rw [rounds_succ]
    go_wp2
    go_ret
    exact ⟨rfl, Below.refl _ _⟩
  obtain ⟨g1, cap1, rfl, _, hl1, hc1⟩ := srow_cell h1 (by omega) rfl
  obtain ⟨g2, cap2, rfl, _, hl2, hc2⟩ := srow_cell h2 (by omega) rfl
  have hne : (((ts.length : Nat) : Int) != ((ts.length : Nat) : Int)) = false := by simp
  go_enter Tryz.func20, Tryz.ntmps20
  go_wp2
  go_loopw [5] (fun i wr => ∃ k : Nat, k ≤ ts.length ∧ i = .int .i64 k ∧ Below w.heap.size w wr) (fun i _ => ts.length - (intOf i).toNat)
  case atStart => exact ⟨0, Nat.zero_le _, rfl, Below.refl _ _⟩
  case round =>
    obtain ⟨k, hk, rfl, hbw⟩ := hrel
    by_cases hlt : k < ts.length
    · have a0 := hc1 k ts[k] (List.getElem?_eq_getElem hlt)
      have b0 := hc2 k ts[k] (List.getElem?_eq_getElem hlt)
      generalize ts[k] = t at *
      have hlt' : ((k : Nat) : Int) < ((ts.length : Nat) : Int) := by omega
      have hst : (t.toList == t.toList) = true := by simp
      rw [← hbw.cell (by exact hl1)] at a0
      rw [← hbw.cell (by exact hl2)] at b0
      clear hc1 hc2 h1 h2
      go_wp2
      go_region
      all_goals
        go_wp2
        go_roundw
        case rel => exact ⟨k + 1, by omega, by go_num, hbw.drew⟩
        case measure => simp [intOf]; omega
    · clear hc1 hc2 h1 h2
      go_wp2
      go_ret
      exact ⟨rfl, hbw⟩

def smarks (k0 : Int) (n : Nat) : List ByteArray := (List.range n).map (fun j : Nat => markT (k0 + j))
theorem smarks_succ (k0 : Int) (n : Nat) : smarks k0 (n + 1) = smarks k0 n ++ [markT (k0 + n)] := by simp [smarks, List.range_succ]
theorem smarks_length (k0 : Int) (n : Nat) : (smarks k0 n).length = n := by simp [smarks]
theorem smarks_at (k0 : Int) (n k : Nat) (h : k < n) : (smarks k0 n)[k]? = some (markT (k0 + k)) := by simp [smarks, h]

theorem set_oneS (xs : Array Value) (k : Nat) (a : Value) (L : List Value) (hs : k + 1 ≤ xs.size) (ht : xs.toList.take k = L) : (xs.setIfInBounds k a).toList.take (k + 1) = L ++ [a] := by
  obtain ⟨l⟩ := xs
  simp only [List.setIfInBounds_toArray] at *
  have hl : k + 1 ≤ l.length := by simpa using hs
  rw [List.take_succ_eq_append_getElem (by simp; omega), List.take_set_of_le (Nat.le_refl _), ht]
  simp

theorem sgrown_of_below {w w' : World} {row : Option Nat} (h : Below w.heap.size w w') : w.grownBy w' row := ⟨h.os, h.tape, h.output, h.size, fun k hk _ => h.block k hk⟩

set_option maxHeartbeats 1600000 in
theorem markStringS_any (base : Nat) (v : Value) (n : Nat) (xs : List Value) (k0 : Int) (w : World) (hk0 : 0 ≤ k0) (hk1 : k0 ≤ 100000000) (hn : n ≤ 1048577) (hrow : w.ownsRow base 9 1 v n xs) :
    Calls Tryz.prog 21 #[v, .int .i64 k0] w fun e w' => e = .returned (.int .i64 (k0 + n)) ∧ w'.ownsRow base 9 1 v n ((smarks k0 n).map Value.string) ∧ w.grownBy w' v.ownBlock := by
  by_cases hz : n = 0
  · subst hz
    obtain ⟨a1, c1, hv⟩ := srow_zero hrow rfl
    have HR : Hid (w.ownsRow base 9 1 v 0 ((smarks k0 0).map Value.string)) := by
      have e1 : xs = [] := List.eq_nil_of_length_eq_zero (by simpa using hrow.1)
      rw [e1] at hrow
      exact hrow
    clear hrow
    rw [hv] at HR ⊢
    go_enter Tryz.func21, Tryz.ntmps21
    go_wp2
    refine wp_loop_rounds 1 ?_
    rw [rounds_succ]
    go_wp2
    go_ret
    exact ⟨sret_int (by simp), HR.out, World.grownBy.refl _ _⟩
  rcases hrow.2 with ⟨_, h0⟩ | ⟨g, cap, cur, rfl, hb, hg, hnc, hcm, hcs, htake⟩
  · omega
  have HG : Hid (w.heap[g]? = some (.cells cur 9 (0, 0))) := hg
  clear hg hrow htake
  go_enter Tryz.func21, Tryz.ntmps21
  go_wp2
  go_loopw [1, 5] (fun kv i wr => ∃ k : Nat, k ≤ n ∧ i = .int .i64 k ∧ kv = .int .i64 (k0 + k) ∧ Hid (∃ cur', wr.heap[g]? = some (.cells cur' 9 (0, 0)) ∧ cur'.size = cap * 1 ∧ cur'.toList.take k = (smarks k0 k).map Value.string) ∧ Hid (w.grownBy wr (some g))) (fun _ i _ => n - (intOf i).toNat)
  case atStart => exact ⟨0, Nat.zero_le _, rfl, by simp, ⟨cur, HG.out, hcs, by simp [smarks]⟩, World.grownBy.refl _ _⟩
  case round =>
    obtain ⟨k, hk, rfl, rfl, ⟨cur', hg', hcs', ht'⟩, hgw⟩ := hrel
    have hlg' := (Array.getElem?_eq_some_iff.1 hg').1
    have HC : Hid (wr.heap[g]? = some (.cells cur' 9 (0, 0))) := hg'
    have HT : Hid (cur'.toList.take k = (smarks k0 k).map Value.string) := ht'
    have HS : Hid (cur'.size = cap * 1) := hcs'
    clear hg' ht' hcs'
    by_cases hlt : k < n
    · have hlt' : ((k : Nat) : Int) < ((n : Nat) : Int) := by omega
      go_wp2_with fail
      refine (markText_any _ _ (by omega)).mono ?_
      rintro e w1 ⟨rfl, hb1⟩
      have HC1 : Hid (w1.heap[g]? = some (.cells cur' 9 (0, 0))) := (hb1.block g hlg').trans HC.out
      have hgw1 : Hid (w.grownBy w1 (some g)) := hgw.out.trans (sgrown_of_below hb1)
      have x0 : w1.cell? ⟨g, k, none⟩ = some (cur'[k]'(by have := HS.out; omega)) := by rw [cell_of_block HC1.out]; exact Array.getElem?_eq_getElem _
      generalize cur'[k]'(by have := HS.out; omega) = y0 at x0
      have f0 : w1.frozen? ⟨g, k, none⟩ = false := unfrozen_of_block HC1.out _
      clear hb1
      go_wp2
      refine ⟨⟨k + 1, by omega, by go_num, sint_eq (by omega), ⟨_, block_setCell HC1.out _, ?_, ?_⟩, hgw1.out.trans (Go.Lib.grownBy_setCell _ g _ _)⟩, by simp [intOf]; omega⟩
      · rw [Array.size_setIfInBounds]; exact HS.out
      · rw [smarks_succ, List.map_append]
        exact set_oneS cur' k _ _ (by have := HS.out; omega) HT.out
    · obtain rfl : k = n := by omega
      go_wp2
      go_ret
      refine ⟨rfl, ⟨by rw [List.length_map, smarks_length, Nat.mul_one], .inr ⟨g, cap, cur', rfl, hb, HC.out, hnc, hcm, HS.out, by rw [Nat.mul_one]; exact HT.out⟩⟩, hgw.out⟩

set_option maxHeartbeats 1600000 in
theorem heldStringS_any (base : Nat) (v : Value) (n : Nat) (k0 : Int) (w : World) (hk0 : 0 ≤ k0) (hk1 : k0 ≤ 100000000) (hn : n ≤ 1048577) (hrow : w.ownsRow base 9 1 v n ((smarks k0 n).map Value.string)) :
    Calls Tryz.prog 22 #[v, .int .i64 k0] w fun e w' => e = .returned (.int .i64 (k0 + n)) ∧ Below w.heap.size w w' := by
  by_cases hz : n = 0
  · subst hz
    obtain ⟨a1, c1, rfl⟩ := srow_zero hrow rfl
    clear hrow
    go_enter Tryz.func22, Tryz.ntmps22
    go_wp2
    refine wp_loop_rounds 1 ?_
    rw [rounds_succ]
    go_wp2
    go_ret
    exact ⟨sret_int (by simp), Below.refl _ _⟩
  obtain ⟨g, cap, rfl, _, hlg, hc⟩ := srow_cell hrow (by omega) (smarks_length k0 n).symm
  have hca := fun k (hk : k < n) => hc k (markT (k0 + k)) (smarks_at k0 n k hk)
  clear hrow hc
  go_enter Tryz.func22, Tryz.ntmps22
  go_wp2
  go_loopw [1, 5] (fun kv i wr => ∃ k : Nat, k ≤ n ∧ i = .int .i64 k ∧ kv = .int .i64 (k0 + k) ∧ Below w.heap.size w wr) (fun _ i _ => n - (intOf i).toNat)
  case atStart => exact ⟨0, Nat.zero_le _, rfl, by simp, Below.refl _ _⟩
  case round =>
    obtain ⟨k, hk, rfl, rfl, hbw⟩ := hrel
    by_cases hlt : k < n
    · have a1 := hca k hlt
      rw [← hbw.cell (by exact hlg)] at a1
      have hlt' : ((k : Nat) : Int) < ((n : Nat) : Int) := by omega
      have hsz := hbw.size
      have e1 : ((markT (k0 + (k : Int))).toList == (markT (k0 + (k : Int))).toList) = true := by simp
      clear hca
      go_wp2
      go_region_with (go_at_call 53; refine (markText_any _ _ (by omega)).mono ?_; rintro e w1 ⟨rfl, hb1⟩; have b1 : w1.cell? ⟨g, k, none⟩ = some (.string (markT (k0 + (k : Int)))) := (hb1.cell (p := ⟨g, k, none⟩) (by exact Nat.lt_of_lt_of_le hlg hsz)).trans (by exact a1))
      all_goals
        have hbw2 : Below w.heap.size w w1 := hbw.drew.trans (hb1.mono hsz)
        clear hb1
        go_wp2
        refine ⟨⟨k + 1, by omega, by go_num, sint_eq (by omega), hbw2⟩, by simp [intOf]; omega⟩
    · clear hca
      obtain rfl : k = n := by omega
      go_wp2
      go_ret
      exact ⟨rfl, hbw⟩
end Go.Proofs.YtbaakhpmfljgnaaGreatDoor
