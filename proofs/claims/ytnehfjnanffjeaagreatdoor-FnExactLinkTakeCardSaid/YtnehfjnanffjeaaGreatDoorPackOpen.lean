/-
  An argument that is a pack: opened, its bulk, its copy.
-/
import Derived.Test.YtnehfjnanffjeaaGreatDoorMY
namespace Go.Proofs.YtnehfjnanffjeaaGreatDoor
open Go.RowKit Go.Joins

set_option maxRecDepth 100000

theorem cells_pack : Tryz.prog.cellsOf 50 = 6 := by kernel_rfl
section
variable {H : Type} {enc : TypeId × Value → H} {w : World} {spare : Nat → Bool} {held : Bool}
theorem open_pack {v : Value} {dd : DataW H} {p : List MemPlace} (hv : ∃ cs, v = .agg cs ∧ cs.size = Tryz.prog.cellsOf 50) (h : DataW.Trod enc Tryz.prog w 0 spare held 50 v dd p) : ∃ q : Pa, v = .agg q.row ∧ q.body.size ≤ maxLen ∧ inI64 q.kind ∧ inI64 q.frm ∧ inI64 q.dst ∧ inI64 q.seq ∧ inI64 q.low := by
  obtain ⟨fuel, hf⟩ := h
  obtain ⟨cs, rfl, hcs⟩ := hv
  rw [cells_pack] at hcs
  obtain ⟨l⟩ := cs
  obtain ⟨c0, c1, c2, c3, c4, c5, rfl⟩ : ∃ c0 c1 c2 c3 c4 c5, l = [c0, c1, c2, c3, c4, c5] := by
    match l, hcs with
    | [x0, x1, x2, x3, x4, x5], _ => exact ⟨x0, x1, x2, x3, x4, x5, rfl⟩
  obtain ⟨xs, m, hm, _, _, hlen, hg⟩ := DataW.trod_struct Tryz.underlying50 (show DataW.trod enc Tryz.prog w 0 spare held fuel 50 [c0, c1, c2, c3, c4, c5] = some (dd, p) from hf)
  have hl6 : xs.length = 6 := hlen
  obtain ⟨x0, x1, x2, x3, x4, x5, rfl⟩ : ∃ x0 x1 x2 x3 x4 x5, xs = [x0, x1, x2, x3, x4, x5] := by
    match xs, hl6 with
    | [x0, x1, x2, x3, x4, x5], _ => exact ⟨x0, x1, x2, x3, x4, x5, rfl⟩
  have e1 : Tryz.prog.cellsOf 3 = 1 := by kernel_rfl
  have e2 : Tryz.prog.cellsOf 9 = 1 := by kernel_rfl
  have f0 : DataW.trod enc Tryz.prog w 0 spare held m 3 (([c0, c1, c2, c3, c4, c5].drop 0).take (Tryz.prog.cellsOf 3)) = some x0 := hg 0 _ rfl
  have f1 : DataW.trod enc Tryz.prog w 0 spare held m 3 (([c0, c1, c2, c3, c4, c5].drop 1).take (Tryz.prog.cellsOf 3)) = some x1 := hg 1 _ rfl
  have f2 : DataW.trod enc Tryz.prog w 0 spare held m 3 (([c0, c1, c2, c3, c4, c5].drop 2).take (Tryz.prog.cellsOf 3)) = some x2 := hg 2 _ rfl
  have f3 : DataW.trod enc Tryz.prog w 0 spare held m 3 (([c0, c1, c2, c3, c4, c5].drop 3).take (Tryz.prog.cellsOf 3)) = some x3 := hg 3 _ rfl
  have f4 : DataW.trod enc Tryz.prog w 0 spare held m 3 (([c0, c1, c2, c3, c4, c5].drop 4).take (Tryz.prog.cellsOf 3)) = some x4 := hg 4 _ rfl
  have f5 : DataW.trod enc Tryz.prog w 0 spare held m 9 (([c0, c1, c2, c3, c4, c5].drop 5).take (Tryz.prog.cellsOf 9)) = some x5 := hg 5 _ rfl
  rw [e1] at f0 f1 f2 f3 f4
  rw [e2] at f5
  obtain ⟨k0, hk0, _, w0⟩ := DataW.trod_int Tryz.underlying3 (show DataW.trod enc Tryz.prog w 0 spare held m 3 [c0] = some x0 from f0)
  obtain ⟨k1, hk1, _, w1⟩ := DataW.trod_int Tryz.underlying3 (show DataW.trod enc Tryz.prog w 0 spare held m 3 [c1] = some x1 from f1)
  obtain ⟨k2, hk2, _, w2⟩ := DataW.trod_int Tryz.underlying3 (show DataW.trod enc Tryz.prog w 0 spare held m 3 [c2] = some x2 from f2)
  obtain ⟨k3, hk3, _, w3⟩ := DataW.trod_int Tryz.underlying3 (show DataW.trod enc Tryz.prog w 0 spare held m 3 [c3] = some x3 from f3)
  obtain ⟨k4, hk4, _, w4⟩ := DataW.trod_int Tryz.underlying3 (show DataW.trod enc Tryz.prog w 0 spare held m 3 [c4] = some x4 from f4)
  obtain ⟨t, ht, _, wt⟩ := DataW.trod_string Tryz.underlying9 (show DataW.trod enc Tryz.prog w 0 spare held m 9 [c5] = some x5 from f5)
  simp only [List.cons.injEq, and_true] at hk0 hk1 hk2 hk3 hk4 ht
  subst hk0 hk1 hk2 hk3 hk4 ht
  exact ⟨⟨k0, k1, k2, k3, k4, t⟩, rfl, wt, bounds_i64 w0, bounds_i64 w1, bounds_i64 w2, bounds_i64 w3, bounds_i64 w4⟩
end

set_option maxHeartbeats 800000 in
theorem szPack_any (p : Pa) (w : World) (hs : p.body.size ≤ maxLen) :
    Calls Tryz.prog 16 #[.agg p.row, .int .i64 1048576] w fun e w' => e = .returned (.int .i64 (if p.body.size ≤ 1048576 then 1048576 - (p.body.size : Int) else -1)) ∧ Below w.heap.size w w' := by
  unfold maxLen at hs
  have B0 : Hid (∀ o : Obj, Below w.heap.size w (w.alloc o)) := fun o => (Below.refl _ w).alloc (Nat.le_refl _) o
  by_cases h : p.body.size ≤ 1048576
  · rw [if_pos h]
    have h' : ¬ (1048576 : Int) - (p.body.size : Int) < 0 := by omega
    go_enter Tryz.func16, Tryz.ntmps16
    go_wp2
    go_ret
    exact ⟨rfl, B0.out _⟩
  · rw [if_neg h]
    have h' : (1048576 : Int) - (p.body.size : Int) < 0 := by omega
    go_enter Tryz.func16, Tryz.ntmps16
    go_wp2
    all_goals (go_ret; exact ⟨rfl, B0.out _⟩)

set_option maxHeartbeats 1600000 in
theorem toPack_any (p : Pa) (w : World) :
    Calls Tryz.prog 18 #[.agg p.row] w fun e w' => e = .returned (.agg p.row) ∧ Below w.heap.size w w' := by
  go_enter Tryz.func18, Tryz.ntmps18
  go_wp2
  refine bodyPost_ret (v := .agg p.row) (by simp [results, Tryz.results18, go_sem]) rfl ?_
  refine ⟨rfl, ?_⟩
  exact (((Below.refl _ w).alloc (Nat.le_refl _) _).alloc (by simp) _).alloc (by simp; omega) _
end Go.Proofs.YtnehfjnanffjeaaGreatDoor
