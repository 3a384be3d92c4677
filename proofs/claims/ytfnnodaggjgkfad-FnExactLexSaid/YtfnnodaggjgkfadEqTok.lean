/-
  The laws' look whether two rows of words are the same.
-/
import Derived.Test.YtfnnodaggjgkfadSpecLex
import Derived.Test.YtfnnodaggjgkfadMark
import Derived.Deep.RegionWith
namespace Go.Proofs.Ytfnnodaggjgkfad
open Go.RowKit Go.Maps Go.Joins Go.WideMaps

set_option maxRecDepth 100000 in
theorem eqToken_same (a c d : Int) (b : ByteArray) (w : World) :
    Calls Try.prog 19 #[.agg #[.int .i64 a, .string b, .int .i64 c, .int .i64 d], .agg #[.int .i64 a, .string b, .int .i64 c, .int .i64 d]] w fun e w' => e = .returned (.bool true) ∧ Below w.heap.size w w' := by
  have h1 : (a != a) = false := by simp
  have h2 : (c != c) = false := by simp
  have h3 : (d != d) = false := by simp
  have h4 : (b.toList != b.toList) = false := by simp
  go_enter Try.func19, Try.ntmps19
  go_wp2
  go_ret
  exact ⟨rfl, ((Below.refl _ w).alloc (Nat.le_refl _) _).alloc (by simp) _⟩

theorem toks_at {t : Tok} : ∀ {ts : List Tok} {k : Nat}, ts[k]? = some t → ∀ f, f < 4 → (toksCells ts)[k * 4 + f]? = t.cells[f]?
  | [], k, h, f, hf => by simp at h
  | a :: r, 0, h, f, hf => by
    obtain rfl : a = t := by simpa using h
    rw [toksCells, List.flatMap_cons, List.getElem?_append_left (by simp [Tok.cells]; omega)]
    simp
  | a :: r, k + 1, h, f, hf => by
    have := toks_at (ts := r) (k := k) (by simpa using h) f hf
    rw [toksCells, List.flatMap_cons, List.getElem?_append_right (by simp [Tok.cells]; omega)]
    rw [show (k + 1) * 4 + f - (Tok.cells a).length = k * 4 + f by simp [Tok.cells]; omega]
    exact this

/-- The cells of a row that is owned. -/
theorem row_cell {w : World} {base : Nat} {e : TypeId} {v : Value} {ts : List Tok} (h : w.ownsRow base e 4 v ts.length (toksCells ts)) (hn : 0 < ts.length) :
    ∃ g cap, v = .slice (some ⟨g, 0, none⟩) ts.length cap ∧ base ≤ g ∧ g < w.heap.size ∧ ∀ k t, ts[k]? = some t → w.cell? ⟨g, k * 4, none⟩ = some (.int .i64 t.kind) ∧ w.cell? ⟨g, k * 4 + 1, none⟩ = some (.string t.text) ∧ w.cell? ⟨g, k * 4 + 2, none⟩ = some (.int .i64 t.n) ∧ w.cell? ⟨g, k * 4 + 3, none⟩ = some (.int .i64 t.line) := by
  rcases h.2 with ⟨_, h0⟩ | ⟨g, cap, cur, hv, hb, hg, _, _, _, htake⟩
  · omega
  refine ⟨g, cap, hv, hb, (Array.getElem?_eq_some_iff.1 hg).1, fun k t ht => ?_⟩
  have hk : k < ts.length := (List.getElem?_eq_some_iff.1 ht).1
  have hcell : ∀ j, j < ts.length * 4 → w.cell? ⟨g, j, none⟩ = (toksCells ts)[j]? := fun j hj => by
    rw [cell_of_block hg, ← htake, List.getElem?_take_of_lt hj, Array.getElem?_toList]
  refine ⟨?_, ?_, ?_, ?_⟩
  · rw [hcell _ (by omega)]; exact toks_at ht 0 (by decide)
  · rw [hcell _ (by omega)]; exact toks_at ht 1 (by decide)
  · rw [hcell _ (by omega)]; exact toks_at ht 2 (by decide)
  · rw [hcell _ (by omega)]; exact toks_at ht 3 (by decide)

theorem row_zero {w : World} {base : Nat} {e : TypeId} {size : Nat} {v : Value} {n : Nat} {xs : List Value} (h : w.ownsRow base e size v n xs) (hn : n = 0) : ∃ a c, v = .slice a 0 c := by
  rcases h.2 with ⟨rfl, _⟩ | ⟨g, cap, cur, rfl, _⟩
  · exact ⟨none, 0, rfl⟩
  · exact ⟨some ⟨g, 0, none⟩, cap, by rw [hn]⟩

set_option maxRecDepth 100000 in
set_option maxHeartbeats 3200000 in
theorem eqTokenS_same (base1 base2 : Nat) (v1 v2 : Value) (ts : List Tok) (w : World) (hn : ts.length ≤ 1048576) (h1 : w.ownsRow base1 46 4 v1 ts.length (toksCells ts)) (h2 : w.ownsRow base2 46 4 v2 ts.length (toksCells ts)) :
    Calls Try.prog 9 #[v1, v2] w fun e w' => e = .returned (.bool true) ∧ Below w.heap.size w w' := by
  by_cases hz : ts.length = 0
  · obtain ⟨a1, c1, rfl⟩ := row_zero h1 hz
    obtain ⟨a2, c2, rfl⟩ := row_zero h2 hz
    clear h1 h2 hz hn
    go_enter Try.func9, Try.ntmps9
    go_wp2
    refine wp_loop_rounds 1 ?_
    rw [rounds_succ]
    go_wp2
    go_ret
    exact ⟨rfl, Below.refl _ _⟩
  obtain ⟨g1, cap1, rfl, _, hl1, hc1⟩ := row_cell h1 (by omega)
  obtain ⟨g2, cap2, rfl, _, hl2, hc2⟩ := row_cell h2 (by omega)
  have hne : (((ts.length : Nat) : Int) != ((ts.length : Nat) : Int)) = false := by simp
  go_enter Try.func9, Try.ntmps9
  go_wp2
  go_loopw [5] (fun i wr => ∃ k : Nat, k ≤ ts.length ∧ i = .int .i64 k ∧ Below w.heap.size w wr) (fun i _ => ts.length - (intOf i).toNat)
  case atStart => exact ⟨0, Nat.zero_le _, rfl, Below.refl _ _⟩
  case round =>
    obtain ⟨k, hk, rfl, hbw⟩ := hrel
    by_cases hlt : k < ts.length
    · obtain ⟨a0, a1, a2, a3⟩ := hc1 k ts[k] (List.getElem?_eq_getElem hlt)
      obtain ⟨b0, b1, b2, b3⟩ := hc2 k ts[k] (List.getElem?_eq_getElem hlt)
      generalize ts[k] = t at *
      have hlt' : ((k : Nat) : Int) < ((ts.length : Nat) : Int) := by omega
      rw [← hbw.cell (by exact hl1)] at a0 a1 a2 a3
      rw [← hbw.cell (by exact hl2)] at b0 b1 b2 b3
      have hsz := hbw.size
      have hnot := hn_not
      clear hc1 hc2 h1 h2
      go_wp2
      go_region_with (go_at_call 19; refine (eqToken_same _ _ _ _ _).mono ?_; rintro e w1 ⟨rfl, hb1⟩)
      all_goals
        have hbw2 : Below w.heap.size w w1 := hbw.drew.trans (hb1.mono hsz)
        clear hb1
        go_wp2
        go_roundw
        case rel => exact ⟨k + 1, by omega, by go_num, hbw2⟩
        case measure => simp [intOf]; omega
    · clear hc1 hc2 h1 h2
      go_wp2
      go_ret
      exact ⟨rfl, hbw⟩
end Go.Proofs.Ytfnnodaggjgkfad
