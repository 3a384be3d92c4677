/-
  The law of chapter 1 returns true at every code.
-/
import Derived.Test.YtfnnodaggjgkfaaGreatDoorLaid
import Derived.Test.YtfnnodaggjgkfaaGreatDoorDrawLex
import Derived.Test.YtfnnodaggjgkfaaGreatDoorLexPure
import Derived.Test.YtfnnodaggjgkfaaGreatDoorImplLex
import Derived.Test.YtfnnodaggjgkfaaGreatDoorSpecLex
import Derived.Test.YtfnnodaggjgkfaaGreatDoorImplIsWord
import Derived.Test.YtfnnodaggjgkfaaGreatDoorImplDec
import Derived.Test.YtfnnodaggjgkfaaGreatDoorSpecName
import Derived.Test.YtfnnodaggjgkfaaGreatDoorWordsWalk
import Derived.Laws.StructEq
import Derived.RegionTactic
namespace Go.Proofs.YtfnnodaggjgkfaaGreatDoor
open Go.RowKit Go.Maps Go.Joins Go.WideMaps

set_option maxRecDepth 100000

theorem CodeIs.up {w w' : World} {V : Value} {len : Nat} (h : CodeIs w.heap.size w V len) (hb : Below w.heap.size w w') : CodeIs w'.heap.size w' V len := by
  obtain ⟨a, cap, hv, hl, hc⟩ := h.kept (fun k hk => hb.block k hk)
  refine ⟨a, cap, hv, hl, fun h0 => ?_⟩
  obtain ⟨b, off, ha, hb1, hcell⟩ := hc h0
  exact ⟨b, off, ha, Nat.lt_of_lt_of_le hb1 hb.size, hcell⟩

theorem lrow_below {w w' : World} {base : Nat} {e : TypeId} {size : Nat} {v : Value} {n : Nat} {xs : List Value} (h : w.ownsRow base e size v n xs) (hb : Below w.heap.size w w') : w'.ownsRow base e size v n xs :=
  h.kept (grown_of_below' hb (row := .none)) (by cases hv : v.ownBlock <;> simp)
theorem lrow_form {w : World} {base : Nat} {e : TypeId} {size : Nat} {v : Value} {n : Nat} {xs : List Value} (h : w.ownsRow base e size v n xs) : ∃ a c, v = .slice a n c := by
  rcases h.2 with ⟨rfl, rfl⟩ | ⟨g, cap, cur, rfl, _⟩
  · exact ⟨none, 0, rfl⟩
  · exact ⟨some ⟨g, 0, none⟩, cap, rfl⟩

theorem ltoks_at {t : Tok} : ∀ {ts : List Tok} {k : Nat}, ts[k]? = some t → ∀ f, f < 4 → (toksCells ts)[k * 4 + f]? = t.cells[f]?
  | [], k, h, f, hf => by simp at h
  | a :: r, 0, h, f, hf => by
    obtain rfl : a = t := by simpa using h
    rw [toksCells, List.flatMap_cons, List.getElem?_append_left (by simp [Tok.cells]; omega)]
    simp
  | a :: r, k + 1, h, f, hf => by
    have := ltoks_at (ts := r) (k := k) (by simpa using h) f hf
    rw [toksCells, List.flatMap_cons, List.getElem?_append_right (by simp [Tok.cells]; omega)]
    rw [show (k + 1) * 4 + f - (Tok.cells a).length = k * 4 + f by simp [Tok.cells]; omega]
    exact this
theorem lrow_cell {w : World} {base : Nat} {e : TypeId} {v : Value} {ts : List Tok} (h : w.ownsRow base e 4 v ts.length (toksCells ts)) (hn : 0 < ts.length) :
    ∃ g cap, v = .slice (some ⟨g, 0, none⟩) ts.length cap ∧ base ≤ g ∧ g < w.heap.size ∧ ∀ k t, ts[k]? = some t → w.cell? ⟨g, k * 4, none⟩ = some (.int .i64 t.kind) ∧ w.cell? ⟨g, k * 4 + 1, none⟩ = some (.string t.text) ∧ w.cell? ⟨g, k * 4 + 2, none⟩ = some (.int .i64 t.n) ∧ w.cell? ⟨g, k * 4 + 3, none⟩ = some (.int .i64 t.line) := by
  rcases h.2 with ⟨_, h0⟩ | ⟨g, cap, cur, hv, hb, hg, _, _, _, htake⟩
  · omega
  refine ⟨g, cap, hv, hb, (Array.getElem?_eq_some_iff.1 hg).1, fun k t ht => ?_⟩
  have hk : k < ts.length := (List.getElem?_eq_some_iff.1 ht).1
  have hcell : ∀ j, j < ts.length * 4 → w.cell? ⟨g, j, none⟩ = (toksCells ts)[j]? := fun j hj => by
    rw [cell_of_block hg, ← htake, List.getElem?_take_of_lt hj, Array.getElem?_toList]
  refine ⟨?_, ?_, ?_, ?_⟩
  · rw [hcell _ (by omega)]; exact ltoks_at ht 0 (by decide)
  · rw [hcell _ (by omega)]; exact ltoks_at ht 1 (by decide)
  · rw [hcell _ (by omega)]; exact ltoks_at ht 2 (by decide)
  · rw [hcell _ (by omega)]; exact ltoks_at ht 3 (by decide)
theorem lsrow_cell {w : World} {base : Nat} {e : TypeId} {v : Value} {ts : List ByteArray} {n : Nat} (h : w.ownsRow base e 1 v n (ts.map Value.string)) (hn : 0 < n) (hts : n = ts.length) :
    ∃ g cap, v = .slice (some ⟨g, 0, none⟩) n cap ∧ base ≤ g ∧ g < w.heap.size ∧ ∀ k t, ts[k]? = some t → w.cell? ⟨g, k, none⟩ = some (.string t) := by
  rcases h.2 with ⟨_, h0⟩ | ⟨g, cap, cur, hv, hb, hg, _, _, _, htake⟩
  · omega
  refine ⟨g, cap, hv, hb, (Array.getElem?_eq_some_iff.1 hg).1, fun k t ht => ?_⟩
  have hk : k < ts.length := (List.getElem?_eq_some_iff.1 ht).1
  have : (cur.toList.take (n * 1))[k]? = some (.string t) := by rw [htake, List.getElem?_map, ht]; rfl
  rw [List.getElem?_take_of_lt (by omega)] at this
  rw [cell_of_block hg, ← Array.getElem?_toList]
  exact this

set_option maxHeartbeats 1600000 in
theorem sameTexts_same (base1 base2 : Nat) (v1 v2 : Value) (ts : List ByteArray) (w : World) (hn : ts.length ≤ 1048577) (h1 : w.ownsRow base1 9 1 v1 ts.length (ts.map Value.string)) (h2 : w.ownsRow base2 9 1 v2 ts.length (ts.map Value.string)) :
    Calls Tryz.prog 21 #[v1, v2] w fun e w' => e = .returned (.bool true) ∧ Below w.heap.size w w' := by
  by_cases hz : ts.length = 0
  · obtain ⟨a1, c1, rfl⟩ := lrow_form h1
    obtain ⟨a2, c2, rfl⟩ := lrow_form h2
    rw [hz]
    clear h1 h2 hz hn
    go_enter Tryz.func21, Tryz.ntmps21
    go_wp2
    refine wp_loop_rounds 1 ?_
    rw [rounds_succ]
    go_wp2
    go_ret
    exact ⟨rfl, Below.refl _ _⟩
  obtain ⟨g1, cap1, rfl, _, hl1, hc1⟩ := lsrow_cell h1 (by omega) rfl
  obtain ⟨g2, cap2, rfl, _, hl2, hc2⟩ := lsrow_cell h2 (by omega) rfl
  have hne : (((ts.length : Nat) : Int) != ((ts.length : Nat) : Int)) = false := by simp
  go_enter Tryz.func21, Tryz.ntmps21
  go_wp2
  go_loopw [5] (fun i wr => ∃ k : Nat, k ≤ ts.length ∧ i = .int .i64 k ∧ Below w.heap.size w wr) (fun i _ => ts.length - (intOf i).toNat)
  case atStart => exact ⟨0, Nat.zero_le _, rfl, Below.refl _ _⟩
  case round =>
    obtain ⟨k, hk, rfl, hbw⟩ := hrel
    by_cases hlt : k < ts.length
    · have a0 := hc1 k ts[k] (List.getElem?_eq_getElem hlt)
      have b0 := hc2 k ts[k] (List.getElem?_eq_getElem hlt)
      generalize ts[k] = t at *
      have hlt' : ((k : Nat) : Int) < ((ts.length : Nat) : Int) := by omega
      have hst : (t.toList != t.toList) = false := by simp
      have hst2 : (t.toList == t.toList) = true := by simp
      rw [← hbw.cell (by exact hl1)] at a0
      rw [← hbw.cell (by exact hl2)] at b0
      clear hc1 hc2 h1 h2
      go_wp2
      go_region
      all_goals
        go_wp2
        go_roundw
        case rel => exact ⟨k + 1, by omega, by go_num, hbw.drew⟩
        case measure => simp [intOf]; omega
    · clear hc1 hc2 h1 h2
      go_wp2
      go_ret
      exact ⟨rfl, hbw⟩

theorem tok_neq (a c d : Int) (b : ByteArray) (w : World) : (binOp .neq 36 (.agg #[.int .i64 a, .string b, .int .i64 c, .int .i64 d]) (.agg #[.int .i64 a, .string b, .int .i64 c, .int .i64 d])).run Tryz.prog w = .ok (.bool false) w := by
  have h1 : (a == a) = true := by simp
  have h2 : (c == c) = true := by simp
  have h3 : (d == d) = true := by simp
  have h4 : (b.toList == b.toList) = true := by simp
  go_simp
end Go.Proofs.YtfnnodaggjgkfaaGreatDoor
