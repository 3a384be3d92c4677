/-
  The places that wait: the methods that container/heap calls.
-/
import Derived.Test.YtfhjkiimdkjhjaaGreatDoorIntMap
import Derived.Test.YtfhjkiimdkjhjaaGreatDoorOwnInts
import Derived.Test.YtfhjkiimdkjhjaaGreatDoorStepApp
import Derived.BigQuiet
import Derived.Deep.QuietTactic
namespace Go.Proofs.YtfhjkiimdkjhjaaGreatDoor
open Go.RowKit Go.Joins Go.Maps

set_option maxRecDepth 100000

/-- The walk's block: its map, and the places that wait, in a row of the call's own behind it. -/
structure PQ (w : World) (b M : Nat) (sv : Value) (xs : List Int) : Prop where
  blk : w.heap[b]? = some (.cells #[.map (some M), sv] 76 (0, 0))
  row : w.ownsRow (b + 1) 3 1 sv xs.length (intVs xs)
  num : ∀ z ∈ xs, inI64 z
theorem PQ.cell {w : World} {b M : Nat} {sv : Value} {xs : List Int} (h : PQ w b M sv xs) : w.cell? ⟨b, 1, none⟩ = some sv := by rw [cell_of_block h.blk]; rfl
theorem PQ.map {w : World} {b M : Nat} {sv : Value} {xs : List Int} (h : PQ w b M sv xs) : w.cell? ⟨b, 0, none⟩ = some (.map (some M)) := by rw [cell_of_block h.blk]; rfl
theorem PQ.lt {w : World} {b M : Nat} {sv : Value} {xs : List Int} (h : PQ w b M sv xs) : b < w.heap.size := (Array.getElem?_eq_some_iff.1 h.blk).1
theorem PQ.below {w w' : World} {b M n : Nat} {sv : Value} {xs : List Int} (h : PQ w b M sv xs) (hb : Below n w w') (hn : w.heap.size ≤ n) : PQ w' b M sv xs :=
  ⟨(hb.block b (by have := h.lt; omega)).trans h.blk, own_moved h.row (fun g hg => hb.block g (by have := own_lt h.row g hg; omega)), h.num⟩
theorem PQ.same {w w' : World} {b M : Nat} {sv : Value} {xs : List Int} (h : PQ w b M sv xs) (hb : ∀ k, b ≤ k → w'.heap[k]? = w.heap[k]?) : PQ w' b M sv xs :=
  ⟨(hb b (Nat.le_refl _)).trans h.blk, own_moved h.row (fun g hg => hb g (by have := (own_type h.row g hg).1; omega)), h.num⟩

theorem load_is (ad : Addr) (s : Value) (w : World) (h : w.cell? ad = some s) : (load ad).run Tryz.prog w = .ok s w := by
  rw [run_load, h]
theorem meth_len (ad : Addr) (s : Value) (w : World) (h : w.cell? ad = some s) : (method 253 93 (.pointer (some ad)) "Len").run Tryz.prog w = .ok (53, s) w := by
  have e : (method 253 93 (.pointer (some ad)) "Len").run Tryz.prog w = ((load ad >>= fun v => pure (53, v) : Sem (FuncId × Value))).run Tryz.prog w := by kernel_rfl
  rw [e]
  simp [load_is ad s w h]
theorem meth_less (ad : Addr) (s : Value) (w : World) (h : w.cell? ad = some s) : (method 253 93 (.pointer (some ad)) "Less").run Tryz.prog w = .ok (122, s) w := by
  have e : (method 253 93 (.pointer (some ad)) "Less").run Tryz.prog w = ((load ad >>= fun v => pure (122, v) : Sem (FuncId × Value))).run Tryz.prog w := by kernel_rfl
  rw [e]
  simp [load_is ad s w h]
theorem meth_swap (ad : Addr) (s : Value) (w : World) (h : w.cell? ad = some s) : (method 253 93 (.pointer (some ad)) "Swap").run Tryz.prog w = .ok (123, s) w := by
  have e : (method 253 93 (.pointer (some ad)) "Swap").run Tryz.prog w = ((load ad >>= fun v => pure (123, v) : Sem (FuncId × Value))).run Tryz.prog w := by kernel_rfl
  rw [e]
  simp [load_is ad s w h]
theorem meth_push (ad : Addr) (w : World) : (method 253 93 (.pointer (some ad)) "Push").run Tryz.prog w = .ok (127, .pointer (some ad)) w := by kernel_rfl
theorem meth_pop (ad : Addr) (w : World) : (method 253 93 (.pointer (some ad)) "Pop").run Tryz.prog w = .ok (126, .pointer (some ad)) w := by kernel_rfl

theorem len_is (a : Option Addr) (n cap : Nat) (w : World) : Calls Tryz.prog 53 #[.slice a n cap] w fun e w' => e = .returned (.int .i64 n) ∧ w' = w := by
  go_enter Tryz.func53, Tryz.ntmps53
  go_wp2
  go_ret
  exact ⟨rfl, rfl⟩
/-- Two of a row for each other. -/
def swapL (xs : List Int) (i j : Nat) : List Int := (xs.set i (xs.getD j 0)).set j (xs.getD i 0)
theorem swapL_perm (xs : List Int) (i j : Nat) (hi : i < xs.length) (hj : j < xs.length) : (swapL xs i j).Perm xs := by
  have h := Array.swap_perm (xs := xs.toArray) (i := i) (j := j) (by simpa using hi) (by simpa using hj)
  have h2 := Array.perm_iff_toList_perm.1 h
  have e : (xs.toArray.swap i j (by simpa using hi) (by simpa using hj)).toList = swapL xs i j := by
    unfold swapL
    simp [hi, hj]
  rw [e] at h2
  simpa using h2
theorem swapL_len (xs : List Int) (i j : Nat) : (swapL xs i j).length = xs.length := by simp [swapL]
theorem cell_at {w : World} {b g cap n : Nat} {xs : List Int} (h : w.ownsRow b 3 1 (.slice (some ⟨g, 0, none⟩) n cap) xs.length (intVs xs)) (hn : n = xs.length) (i : Nat) (hi : i < xs.length) : w.cell? ⟨g, i, none⟩ = some (.int .i64 (xs.getD i 0)) := by
  subst hn
  rw [h.cellAt i (by omega)]
  simp [hi]
set_option maxHeartbeats 1600000 in
theorem less_is (w : World) (g cap n : Nat) (x y : Int) (i j : Nat) (hi : i < n) (hj : j < n) (_hl : n ≤ 100000000) (c1 : w.cell? ⟨g, i, none⟩ = some (.int .i64 x)) (c2 : w.cell? ⟨g, j, none⟩ = some (.int .i64 y)) :
    Calls Tryz.prog 122 #[.slice (some ⟨g, 0, none⟩) n cap, .int .i64 i, .int .i64 j] w fun e w' => e = .returned (.bool (decide (x < y))) ∧ ∃ q, w' = w.drewN q := by
  go_enter Tryz.func122, Tryz.ntmps122
  go_wp2
  go_quiet (fail)
  go_wp2
  go_ret
  exact ⟨rfl, nq, rfl⟩
set_option maxHeartbeats 3200000 in
theorem swap_is (w : World) (g cap n : Nat) (x y : Int) (i j : Nat) (hi : i < n) (hj : j < n) (_hl : n ≤ 100000000) (ci : w.cell? ⟨g, i, none⟩ = some (.int .i64 x)) (cj : w.cell? ⟨g, j, none⟩ = some (.int .i64 y)) (fi : w.frozen? ⟨g, i, none⟩ = false) (fj : w.frozen? ⟨g, j, none⟩ = false) :
    Calls Tryz.prog 123 #[.slice (some ⟨g, 0, none⟩) n cap, .int .i64 i, .int .i64 j] w fun e w' => e = .returned (.tuple #[]) ∧ ∃ q, w' = ((w.setCell ⟨g, i, none⟩ (.int .i64 y)).setCell ⟨g, j, none⟩ (.int .i64 x)).drewN q := by
  obtain ⟨v', hy'⟩ := cell?_setCell_some (w := w) (p := ⟨g, i, none⟩) (x := .int .i64 y) (q := ⟨g, j, none⟩) cj
  go_enter Tryz.func123, Tryz.ntmps123
  go_wp2
  go_region
  all_goals (try go_wp2)
  all_goals go_end0
  all_goals exact ⟨rfl, 1, rfl⟩
theorem assert_int (z : Int) (w : World) : (Instr.typeAssert (.iface 3 (.int .i64 z)) 20 3 false).run Tryz.prog w = .ok (.int .i64 z) w := by kernel_rfl
theorem cell_one_int (w : World) (x : Value) (t : TypeId) : ∀ j u, [x][j]? = some u → (w.alloc (.cells #[x] t)).cell? ((⟨w.heap.size, 0, none⟩ : Addr).add j) = some u := by
  intro j u hj
  have hO : (w.alloc (.cells #[x] t)).heap[w.heap.size]? = some (.cells #[x] t (0, 0)) := (MapKept.heap_alloc w _).1
  rw [addr_add, cell_of_block hO]
  cases j with
  | zero => simpa using hj
  | succ j => simp at hj
theorem intVs_snoc (xs : List Int) (z : Int) : intVs (xs ++ [z]) = intVs xs ++ [.int .i64 z] := by simp [intVs]
theorem push_blk {w w' : World} {b M : Nat} {sv : Value} {xs : List Int} (h : PQ w b M sv xs) (hg : w.grownBy w' sv.ownBlock) : w'.heap[b]? = some (.cells #[.map (some M), sv] 76 (0, 0)) :=
  (hg.block b h.lt (fun e => by have := (own_type h.row b e.symm).1; omega)).trans h.blk
theorem push_row {w : World} {b n : Nat} {v u : Value} {ys : List Value} {cs : Array Value} {t : TypeId} (h : w.ownsRow (b + 1) 3 1 v n ys) (_hO : w.heap[b]? = some (.cells cs t (0, 0))) : (w.setCell ⟨b, 1, none⟩ u).ownsRow (b + 1) 3 1 v n ys :=
  own_moved h (fun g hg => Below.heap_setCell _ _ _ _ (fun e => by have e' : g = b := e; have := (own_type h g hg).1; omega))
set_option maxHeartbeats 3200000 in
theorem push_is {w : World} {b M : Nat} {sv : Value} {xs : List Int} (h : PQ w b M sv xs) (z : Int) (hz : inI64 z) (hl : xs.length ≤ 100000000) :
    Calls Tryz.prog 127 #[.pointer (some ⟨b, 1, none⟩), .iface 3 (.int .i64 z)] w fun e w' => e = .returned (.tuple #[]) ∧ ∃ sv', PQ w' b M sv' (xs ++ [z]) ∧ Below b w w' := by
  have c1 := h.cell
  have hlt := h.lt
  have ha := assert_int z
  obtain ⟨i0, hi, hz0, hz1, hz2⟩ := info_parts infoCdI
  have HP := (show Hid (_ ∧ True) from ⟨h, trivial⟩)
  clear h
  have B1 : Below b w (w.drew.alloc (.cells #[.int .i64 z] 3)) := ((Below.refl b w).drew.alloc (by simp; omega) _)
  have HPA := HP.out.1.below (w' := w.drew.alloc (.cells #[.int .i64 z] 3)) ((Below.refl w.heap.size w).drew.alloc (by simp) _) (Nat.le_refl _)
  have HQ := (show Hid (_ ∧ _) from ⟨HPA, B1⟩)
  clear HPA B1
  go_enter Tryz.func127, Tryz.ntmps127
  go_wp2
  go_region_law (refine step_append_row rfl (.tmp 7) (.tmp 10) 74 rfl (b + 1) 3 i0 (.int .i64 0) 1 8 Tryz.underlying74 hi hz0 hz1 hz2 rfl (by decide) sv xs.length _ (by simp [Act.eval]) HQ.out.1.row ⟨w.heap.size, 0, none⟩ 1 1 [.int .i64 z] (by simp [Act.eval]) rfl (cell_one_int w.drew _ _) (int_one _) (by unfold maxLen; omega) (by omega) (by simp; omega) ?_; intro v' w' hown' hgrow' hblk'; obtain ⟨na, aa, ca, hna, rfl⟩ := own_formN hown'; have O2 := push_blk HQ.out.1 hgrow'; have c2 : w'.cell? ⟨b, 1, none⟩ = some sv := (cell_of_block O2 1).trans rfl; have f2 : w'.frozen? ⟨b, 1, none⟩ = false := unfrozen_of_block O2 1)
  all_goals
    go_end0
    have hR := push_row (u := .slice aa na ca) hown' O2
    refine ⟨rfl, _, ⟨(block_setCell (i := 1) O2 _).trans rfl, by subst hna; rw [intVs_snoc, List.length_append, List.length_singleton]; exact hR, fun y hy => ?_⟩, ?_⟩
    · rw [List.mem_append, List.mem_singleton] at hy
      rcases hy with hy | rfl
      · exact HP.out.1.num y hy
      · exact hz
    · exact (HQ.out.2.grown hgrow' (by simp; omega) (fun k hk => by have := (own_type HQ.out.1.row k hk).1; omega)).setCell (p := ⟨b, 1, none⟩) (Nat.le_refl _) _
set_option maxHeartbeats 3200000 in
theorem pop_is {w : World} {b M : Nat} {sv : Value} {xs : List Int} {z : Int} (h : PQ w b M sv (xs ++ [z])) (hl : xs.length ≤ 100000000) :
    Calls Tryz.prog 126 #[.pointer (some ⟨b, 1, none⟩)] w fun e w' => e = .returned (.iface 3 (.int .i64 z)) ∧ ∃ sv', PQ w' b M sv' xs ∧ Below b w w' := by
  have hrow := h.row
  rw [List.length_append, List.length_singleton, intVs_snoc] at hrow
  obtain ⟨g, cap, rfl, hg1, hg2, hg3⟩ := ow_some hrow (by omega)
  have c1 := h.cell
  have f1 : w.frozen? ⟨b, 1, none⟩ = false := unfrozen_of_block h.blk 1
  have c0 : w.cell? ⟨g, xs.length, none⟩ = some (.int .i64 z) := by
    rw [hrow.cellAt xs.length (by omega), List.getElem?_append_right (by simp)]
    simp
  have hpop := ow_pop hrow
  have HP := (show Hid (_ ∧ _) from ⟨h, hpop⟩)
  clear h hrow hpop
  go_enter Tryz.func126, Tryz.ntmps126
  go_wp2
  go_ret
  refine ⟨rfl, _, ⟨(block_setCell (i := 1) HP.out.1.blk _).trans rfl, push_row HP.out.2 HP.out.1.blk, fun y hy => HP.out.1.num y (by simp [hy])⟩, ?_⟩
  exact (Below.refl b w).setCell (p := ⟨b, 1, none⟩) (Nat.le_refl _) _
end Go.Proofs.YtfhjkiimdkjhjaaGreatDoor
