/-
  An argument that is a message, opened.
-/
import Derived.Test.YtbaakhpmfljgnabDoorMsgAt
import Derived.Test.YtbaakhpmfljgnabDoorCellOpen
namespace Go.Proofs.YtbaakhpmfljgnabDoor
open Go.RowKit Go.Joins

set_option maxRecDepth 100000

theorem cells_msg : Tryd.prog.cellsOf 26 = 9 := by kernel_rfl
section
variable {H : Type} {enc : TypeId × Value → H} {w : World} {spare : Nat → Bool} {held : Bool}

theorem open_msg {v : Value} {dd : DataW H} {p : List MemPlace} (hv : ∃ cs, v = .agg cs ∧ cs.size = Tryd.prog.cellsOf 26) (h : DataW.Trod enc Tryd.prog w 0 spare held 26 v dd p) : ∃ m, MsAt w (fun _ => True) v m := by
  obtain ⟨fuel, hf⟩ := h
  obtain ⟨cs, rfl, hcs⟩ := hv
  rw [cells_msg] at hcs
  obtain ⟨l⟩ := cs
  obtain ⟨c0, c1, c2, c3, c4, c5, c6, c7, c8, rfl⟩ : ∃ c0 c1 c2 c3 c4 c5 c6 c7 c8, l = [c0, c1, c2, c3, c4, c5, c6, c7, c8] := by
    match l, hcs with
    | [x0, x1, x2, x3, x4, x5, x6, x7, x8], _ => exact ⟨x0, x1, x2, x3, x4, x5, x6, x7, x8, rfl⟩
  obtain ⟨xs, m, hm, _, _, hlen, hg⟩ := DataW.trod_struct Tryd.underlying26 (show DataW.trod enc Tryd.prog w 0 spare held fuel 26 [c0, c1, c2, c3, c4, c5, c6, c7, c8] = some (dd, p) from hf)
  have hl6 : xs.length = 6 := hlen
  obtain ⟨x0, x1, x2, x3, x4, x5, rfl⟩ : ∃ x0 x1 x2 x3 x4 x5, xs = [x0, x1, x2, x3, x4, x5] := by
    match xs, hl6 with
    | [x0, x1, x2, x3, x4, x5], _ => exact ⟨x0, x1, x2, x3, x4, x5, rfl⟩
  have e1 : Tryd.prog.cellsOf 3 = 1 := by kernel_rfl
  have f0 : DataW.trod enc Tryd.prog w 0 spare held m 3 (([c0, c1, c2, c3, c4, c5, c6, c7, c8].drop 0).take (Tryd.prog.cellsOf 3)) = some x0 := hg 0 _ rfl
  have f1 : DataW.trod enc Tryd.prog w 0 spare held m 3 (([c0, c1, c2, c3, c4, c5, c6, c7, c8].drop 1).take (Tryd.prog.cellsOf 3)) = some x1 := hg 1 _ rfl
  have f2 : DataW.trod enc Tryd.prog w 0 spare held m 3 (([c0, c1, c2, c3, c4, c5, c6, c7, c8].drop 2).take (Tryd.prog.cellsOf 3)) = some x2 := hg 2 _ rfl
  have f3 : DataW.trod enc Tryd.prog w 0 spare held m 3 (([c0, c1, c2, c3, c4, c5, c6, c7, c8].drop 3).take (Tryd.prog.cellsOf 3)) = some x3 := hg 3 _ rfl
  have f4 : DataW.trod enc Tryd.prog w 0 spare held m 3 (([c0, c1, c2, c3, c4, c5, c6, c7, c8].drop 4).take (Tryd.prog.cellsOf 3)) = some x4 := hg 4 _ rfl
  have f5 : DataW.trod enc Tryd.prog w 0 spare held m 24 (([c0, c1, c2, c3, c4, c5, c6, c7, c8].drop 5).take (Tryd.prog.cellsOf 24)) = some x5 := hg 5 _ rfl
  rw [e1] at f0 f1 f2 f3 f4
  rw [cells_cell] at f5
  obtain ⟨k0, hk0, _, w0⟩ := DataW.trod_int Tryd.underlying3 (show DataW.trod enc Tryd.prog w 0 spare held m 3 [c0] = some x0 from f0)
  obtain ⟨k1, hk1, _, w1⟩ := DataW.trod_int Tryd.underlying3 (show DataW.trod enc Tryd.prog w 0 spare held m 3 [c1] = some x1 from f1)
  obtain ⟨k2, hk2, _, w2⟩ := DataW.trod_int Tryd.underlying3 (show DataW.trod enc Tryd.prog w 0 spare held m 3 [c2] = some x2 from f2)
  obtain ⟨k3, hk3, _, w3⟩ := DataW.trod_int Tryd.underlying3 (show DataW.trod enc Tryd.prog w 0 spare held m 3 [c3] = some x3 from f3)
  obtain ⟨k4, hk4, _, w4⟩ := DataW.trod_int Tryd.underlying3 (show DataW.trod enc Tryd.prog w 0 spare held m 3 [c4] = some x4 from f4)
  simp only [List.cons.injEq, and_true] at hk0 hk1 hk2 hk3 hk4
  subst hk0 hk1 hk2 hk3 hk4
  obtain ⟨k, nn, t, rfl, rfl, rfl, rk, rn, rt, m', y, _, hk⟩ := open_lfields (show DataW.trod enc Tryd.prog w 0 spare held m 24 [c5, c6, c7, c8] = some x5 from f5)
  obtain ⟨u, es, hu, hes⟩ := open_ints m' [c8] y hk
  obtain rfl : c8 = u := by simpa using hu
  exact ⟨⟨k0, k1, k2, k3, k4, ⟨k, nn, t, es⟩⟩, c8, rfl, ⟨bounds_i64 w0, bounds_i64 w1, bounds_i64 w2, bounds_i64 w3, bounds_i64 w4⟩, rk, rn, rt, hes⟩
end
end Go.Proofs.YtbaakhpmfljgnabDoor
