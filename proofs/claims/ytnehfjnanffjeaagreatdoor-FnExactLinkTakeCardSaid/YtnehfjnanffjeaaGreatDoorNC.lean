/-
  An argument that is a pack: opened, its bulk, its copy.
  An argument that is a link, opened.
-/
import Derived.Test.YtnehfjnanffjeaaGreatDoorMY
import Derived.Test.YtnehfjnanffjeaaGreatDoorMB
namespace Go.Proofs.YtnehfjnanffjeaaGreatDoor
open Go.RowKit Go.Joins

set_option maxRecDepth 100000

theorem cells_pack : Tryz.prog.cellsOf 50 = 6 := by kernel_rfl
section
variable {H : Type} {enc : TypeId × Value → H} {w : World} {spare : Nat → Bool} {held : Bool}
theorem open_pack {v : Value} {dd : DataW H} {p : List MemPlace} (hv : ∃ cs, v = .agg cs ∧ cs.size = Tryz.prog.cellsOf 50) (h : DataW.Trod enc Tryz.prog w 0 spare held 50 v dd p) : ∃ q : Pa, v = .agg q.row ∧ q.body.size ≤ maxLen ∧ inI64 q.kind ∧ inI64 q.frm ∧ inI64 q.dst ∧ inI64 q.seq ∧ inI64 q.low := by
  obtain ⟨fuel, hf⟩ := h
  obtain ⟨cs, rfl, hcs⟩ := hv
  rw [cells_pack] at hcs
  obtain ⟨l⟩ := cs
  obtain ⟨c0, c1, c2, c3, c4, c5, rfl⟩ : ∃ c0 c1 c2 c3 c4 c5, l = [c0, c1, c2, c3, c4, c5] := by
    match l, hcs with
    | [x0, x1, x2, x3, x4, x5], _ => exact ⟨x0, x1, x2, x3, x4, x5, rfl⟩
  obtain ⟨xs, m, hm, _, _, hlen, hg⟩ := DataW.trod_struct Tryz.underlying50 (show DataW.trod enc Tryz.prog w 0 spare held fuel 50 [c0, c1, c2, c3, c4, c5] = some (dd, p) from hf)
  have hl6 : xs.length = 6 := hlen
  obtain ⟨x0, x1, x2, x3, x4, x5, rfl⟩ : ∃ x0 x1 x2 x3 x4 x5, xs = [x0, x1, x2, x3, x4, x5] := by
    match xs, hl6 with
    | [x0, x1, x2, x3, x4, x5], _ => exact ⟨x0, x1, x2, x3, x4, x5, rfl⟩
  have e1 : Tryz.prog.cellsOf 3 = 1 := by kernel_rfl
  have e2 : Tryz.prog.cellsOf 9 = 1 := by kernel_rfl
  have f0 : DataW.trod enc Tryz.prog w 0 spare held m 3 (([c0, c1, c2, c3, c4, c5].drop 0).take (Tryz.prog.cellsOf 3)) = some x0 := hg 0 _ rfl
  have f1 : DataW.trod enc Tryz.prog w 0 spare held m 3 (([c0, c1, c2, c3, c4, c5].drop 1).take (Tryz.prog.cellsOf 3)) = some x1 := hg 1 _ rfl
  have f2 : DataW.trod enc Tryz.prog w 0 spare held m 3 (([c0, c1, c2, c3, c4, c5].drop 2).take (Tryz.prog.cellsOf 3)) = some x2 := hg 2 _ rfl
  have f3 : DataW.trod enc Tryz.prog w 0 spare held m 3 (([c0, c1, c2, c3, c4, c5].drop 3).take (Tryz.prog.cellsOf 3)) = some x3 := hg 3 _ rfl
  have f4 : DataW.trod enc Tryz.prog w 0 spare held m 3 (([c0, c1, c2, c3, c4, c5].drop 4).take (Tryz.prog.cellsOf 3)) = some x4 := hg 4 _ rfl
  have f5 : DataW.trod enc Tryz.prog w 0 spare held m 9 (([c0, c1, c2, c3, c4, c5].drop 5).take (Tryz.prog.cellsOf 9)) = some x5 := hg 5 _ rfl
  rw [e1] at f0 f1 f2 f3 f4
  rw [e2] at f5
  obtain ⟨k0, hk0, _, w0⟩ := DataW.trod_int Tryz.underlying3 (show DataW.trod enc Tryz.prog w 0 spare held m 3 [c0] = some x0 from f0)
  obtain ⟨k1, hk1, _, w1⟩ := DataW.trod_int Tryz.underlying3 (show DataW.trod enc Tryz.prog w 0 spare held m 3 [c1] = some x1 from f1)
  obtain ⟨k2, hk2, _, w2⟩ := DataW.trod_int Tryz.underlying3 (show DataW.trod enc Tryz.prog w 0 spare held m 3 [c2] = some x2 from f2)
  obtain ⟨k3, hk3, _, w3⟩ := DataW.trod_int Tryz.underlying3 (show DataW.trod enc Tryz.prog w 0 spare held m 3 [c3] = some x3 from f3)
  obtain ⟨k4, hk4, _, w4⟩ := DataW.trod_int Tryz.underlying3 (show DataW.trod enc Tryz.prog w 0 spare held m 3 [c4] = some x4 from f4)
  obtain ⟨t, ht, _, wt⟩ := DataW.trod_string Tryz.underlying9 (show DataW.trod enc Tryz.prog w 0 spare held m 9 [c5] = some x5 from f5)
  simp only [List.cons.injEq, and_true] at hk0 hk1 hk2 hk3 hk4 ht
  subst hk0 hk1 hk2 hk3 hk4 ht
  exact ⟨⟨k0, k1, k2, k3, k4, t⟩, rfl, wt, bounds_i64 w0, bounds_i64 w1, bounds_i64 w2, bounds_i64 w3, bounds_i64 w4⟩
end

set_option maxHeartbeats 800000 in
theorem szPack_any (p : Pa) (w : World) (hs : p.body.size ≤ maxLen) :
    Calls Tryz.prog 16 #[.agg p.row, .int .i64 1048576] w fun e w' => e = .returned (.int .i64 (if p.body.size ≤ 1048576 then 1048576 - (p.body.size : Int) else -1)) ∧ Below w.heap.size w w' := by
  unfold maxLen at hs
  have B0 : Hid (∀ o : Obj, Below w.heap.size w (w.alloc o)) := fun o => (Below.refl _ w).alloc (Nat.le_refl _) o
  by_cases h : p.body.size ≤ 1048576
  · rw [if_pos h]
    have h' : ¬ (1048576 : Int) - (p.body.size : Int) < 0 := by omega
    go_enter Tryz.func16, Tryz.ntmps16
    go_wp2
    go_ret
    exact ⟨rfl, B0.out _⟩
  · rw [if_neg h]
    have h' : (1048576 : Int) - (p.body.size : Int) < 0 := by omega
    go_enter Tryz.func16, Tryz.ntmps16
    go_wp2
    all_goals (go_ret; exact ⟨rfl, B0.out _⟩)

set_option maxHeartbeats 1600000 in
theorem toPack_any (p : Pa) (w : World) :
    Calls Tryz.prog 18 #[.agg p.row] w fun e w' => e = .returned (.agg p.row) ∧ Below w.heap.size w w' := by
  go_enter Tryz.func18, Tryz.ntmps18
  go_wp2
  refine bodyPost_ret (v := .agg p.row) (by simp [results, Tryz.results18, go_sem]) rfl ?_
  refine ⟨rfl, ?_⟩
  exact (((Below.refl _ w).alloc (Nat.le_refl _) _).alloc (by simp) _).alloc (by simp; omega) _
end Go.Proofs.YtnehfjnanffjeaaGreatDoor

namespace Go.Proofs.YtnehfjnanffjeaaGreatDoor
open Go.RowKit Go.Joins

set_option maxRecDepth 100000

instance : Inhabited Sn := ⟨⟨0, 0, ByteArray.empty⟩⟩
instance : Inhabited Se := ⟨⟨0, []⟩⟩
theorem cells_sent : Tryz.prog.cellsOf 87 = 3 := by kernel_rfl
theorem cells_seen : Tryz.prog.cellsOf 89 = 2 := by kernel_rfl
theorem cells_link : Tryz.prog.cellsOf 25 = 4 := by kernel_rfl
theorem cells3 {w : World} {a : Addr} {cs : List Value} (h : w.cells? 0 a 3 = some cs) : ∃ c0 c1 c2, cs = [c0, c1, c2] ∧ w.cell? a = some c0 ∧ w.cell? (a.add 1) = some c1 ∧ w.cell? (a.add 2) = some c2 := by
  unfold World.cells? at h
  rw [if_pos (Nat.zero_le _)] at h
  simp only [show List.range 3 = [0, 1, 2] from rfl, List.mapM_cons, List.mapM_nil] at h
  cases h0 : w.cell? (a.add 0) with
  | none => simp [h0] at h
  | some c0 =>
    cases h1 : w.cell? (a.add 1) with
    | none => simp [h0, h1] at h
    | some c1 =>
      cases h2 : w.cell? (a.add 2) with
      | none => simp [h0, h1, h2] at h
      | some c2 =>
        simp [h0, h1, h2] at h
        exact ⟨c0, c1, c2, h.symm, by simpa [Addr.add] using h0, rfl, rfl⟩
theorem cells2 {w : World} {a : Addr} {cs : List Value} (h : w.cells? 0 a 2 = some cs) : ∃ c0 c1, cs = [c0, c1] ∧ w.cell? a = some c0 ∧ w.cell? (a.add 1) = some c1 := by
  unfold World.cells? at h
  rw [if_pos (Nat.zero_le _)] at h
  simp only [show List.range 2 = [0, 1] from rfl, List.mapM_cons, List.mapM_nil] at h
  cases h0 : w.cell? (a.add 0) with
  | none => simp [h0] at h
  | some c0 =>
    cases h1 : w.cell? (a.add 1) with
    | none => simp [h0, h1] at h
    | some c1 =>
      simp [h0, h1] at h
      exact ⟨c0, c1, h.symm, by simpa [Addr.add] using h0, rfl⟩
section
variable {H : Type} {enc : TypeId × Value → H} {w : World} {spare : Nat → Bool} {held : Bool}

theorem open_sfields {fuel : Nat} {c0 c1 c2 : Value} {x : DataW H × List MemPlace} (h : DataW.trod enc Tryz.prog w 0 spare held fuel 87 [c0, c1, c2] = some x) :
    ∃ k n t, c0 = .int .i64 k ∧ c1 = .int .i64 n ∧ c2 = .string t ∧ inI64 k ∧ inI64 n ∧ t.size ≤ maxLen := by
  obtain ⟨xs, m, hm, _, _, hlen, hf⟩ := DataW.trod_struct Tryz.underlying87 h
  have hl4 : xs.length = 3 := hlen
  obtain ⟨x0, x1, x2, rfl⟩ : ∃ x0 x1 x2, xs = [x0, x1, x2] := by
    match xs, hl4 with
    | [x0, x1, x2], _ => exact ⟨x0, x1, x2, rfl⟩
  have e1 : Tryz.prog.cellsOf 3 = 1 := by kernel_rfl
  have e3 : Tryz.prog.cellsOf 9 = 1 := by kernel_rfl
  have f0 : DataW.trod enc Tryz.prog w 0 spare held m 3 (([c0, c1, c2].drop 0).take (Tryz.prog.cellsOf 3)) = some x0 := hf 0 _ rfl
  have f1 : DataW.trod enc Tryz.prog w 0 spare held m 3 (([c0, c1, c2].drop 1).take (Tryz.prog.cellsOf 3)) = some x1 := hf 1 _ rfl
  have f2 : DataW.trod enc Tryz.prog w 0 spare held m 9 (([c0, c1, c2].drop 2).take (Tryz.prog.cellsOf 9)) = some x2 := hf 2 _ rfl
  rw [e1] at f0 f1
  rw [e3] at f2
  obtain ⟨k, hk, _, wk⟩ := DataW.trod_int Tryz.underlying3 (show DataW.trod enc Tryz.prog w 0 spare held m 3 [c0] = some x0 from f0)
  obtain ⟨n, hn, _, wn⟩ := DataW.trod_int Tryz.underlying3 (show DataW.trod enc Tryz.prog w 0 spare held m 3 [c1] = some x1 from f1)
  obtain ⟨t, ht, _, wt⟩ := DataW.trod_string Tryz.underlying9 (show DataW.trod enc Tryz.prog w 0 spare held m 9 [c2] = some x2 from f2)
  simp only [List.cons.injEq, and_true] at hk hn ht
  exact ⟨k, n, t, hk, hn, ht, bounds_i64 wk, bounds_i64 wn, wt⟩
theorem open_nfields {fuel : Nat} {c0 c1 : Value} {x : DataW H × List MemPlace} (h : DataW.trod enc Tryz.prog w 0 spare held fuel 89 [c0, c1] = some x) :
    ∃ k, c0 = .int .i64 k ∧ inI64 k ∧ ∃ m y, DataW.trod enc Tryz.prog w 0 spare held m 26 [c1] = some y := by
  obtain ⟨xs, m, hm, _, _, hlen, hf⟩ := DataW.trod_struct Tryz.underlying89 h
  have hl4 : xs.length = 2 := hlen
  obtain ⟨x0, x1, rfl⟩ : ∃ x0 x1, xs = [x0, x1] := by
    match xs, hl4 with
    | [x0, x1], _ => exact ⟨x0, x1, rfl⟩
  have e1 : Tryz.prog.cellsOf 3 = 1 := by kernel_rfl
  have e3 : Tryz.prog.cellsOf 26 = 1 := by kernel_rfl
  have f0 : DataW.trod enc Tryz.prog w 0 spare held m 3 (([c0, c1].drop 0).take (Tryz.prog.cellsOf 3)) = some x0 := hf 0 _ rfl
  have f1 : DataW.trod enc Tryz.prog w 0 spare held m 26 (([c0, c1].drop 1).take (Tryz.prog.cellsOf 26)) = some x1 := hf 1 _ rfl
  rw [e1] at f0
  rw [e3] at f1
  obtain ⟨k, hk, _, wk⟩ := DataW.trod_int Tryz.underlying3 (show DataW.trod enc Tryz.prog w 0 spare held m 3 [c0] = some x0 from f0)
  simp only [List.cons.injEq, and_true] at hk
  exact ⟨k, hk, bounds_i64 wk, m, x1, f1⟩

theorem open_sents (fuel : Nat) (cs : List Value) (x : DataW H × List MemPlace) (h : DataW.trod enc Tryz.prog w 0 spare held fuel 22 cs = some x) : ∃ v es, cs = [v] ∧ SentsAt w (fun _ => True) v es := by
    rcases DataW.trod_slice Tryz.underlying22 h with ⟨hcs, _⟩ | ⟨a, len, cap, elems, rest, n, hn, hcs, _, _, hlc, hcm, hel, hat, _, _⟩
    · exact ⟨_, [], hcs, none, 0, rfl, Nat.zero_le _, fun i e he => by simp at he⟩
    · have key : ∀ i, i < len → ∃ e : Sn, ∃ b off, a = ⟨b, off, none⟩ ∧ b < w.heap.size ∧
          w.cell? ⟨b, off + i * 3, none⟩ = some (.int .i64 e.seq) ∧ w.cell? ⟨b, off + i * 3 + 1, none⟩ = some (.int .i64 e.dst) ∧ w.cell? ⟨b, off + i * 3 + 2, none⟩ = some (.string e.body) ∧
          inI64 e.seq ∧ inI64 e.dst ∧ e.body.size ≤ maxLen := by
        intro i hi
        have hb := hat i hi
        rw [List.getElem?_eq_getElem (by omega), cells_sent] at hb
        obtain ⟨cs', hc', ht'⟩ := Option.bind_eq_some_iff.1 hb
        obtain ⟨c0, c1, c2, rfl, g0, g1, g2⟩ := cells3 hc'
        obtain ⟨k, nn, t, rfl, rfl, rfl, rk, rn, rt⟩ := open_sfields ht'
        obtain ⟨b, off, spot⟩ := a
        have hspot : spot = none := by
          have hb0 := hat 0 (by omega)
          rw [List.getElem?_eq_getElem (by omega), cells_sent] at hb0
          obtain ⟨cs0, hc0, _⟩ := Option.bind_eq_some_iff.1 hb0
          obtain ⟨d0, _, _, _, q0, _⟩ := cells3 hc0
          simpa [Addr.add] using World.cell?_spot q0
        subst hspot
        rw [addr_add] at g0 g1 g2
        rw [addr_add] at g1 g2
        exact ⟨⟨k, nn, t⟩, b, off, rfl, World.block_lt_of_cell? _ _ g0, g0, g1, g2, rk, rn, rt⟩
      obtain ⟨f, hf⟩ := Deep.choose_lt key
      refine ⟨_, (List.range len).map f, hcs, some a, cap, by simp, by simp; omega, fun i e he => ?_⟩
      have hi : i < len := by have := (List.getElem?_eq_some_iff.1 he).1; simpa using this
      obtain rfl : f i = e := by simpa [hi] using he
      obtain ⟨b, off, ha, hlt, c0, c1, c2, r⟩ := hf i hi
      exact ⟨b, off, by rw [ha], trivial, hlt, c0, c1, c2, r⟩
theorem open_seens (fuel : Nat) (cs : List Value) (x : DataW H × List MemPlace) (h : DataW.trod enc Tryz.prog w 0 spare held fuel 23 cs = some x) : ∃ v es, cs = [v] ∧ SeensAt w (fun _ => True) v es := by
    rcases DataW.trod_slice Tryz.underlying23 h with ⟨hcs, _⟩ | ⟨a, len, cap, elems, rest, n, hn, hcs, _, _, hlc, hcm, hel, hat, _, _⟩
    · exact ⟨_, [], hcs, none, 0, rfl, Nat.zero_le _, fun i e he => by simp at he⟩
    · have key : ∀ i, i < len → ∃ e : Se, ∃ b off kv, a = ⟨b, off, none⟩ ∧ b < w.heap.size ∧
          w.cell? ⟨b, off + i * 2, none⟩ = some (.int .i64 e.low) ∧ w.cell? ⟨b, off + i * 2 + 1, none⟩ = some kv ∧ inI64 e.low ∧ IntsAt w (fun _ => True) kv e.ids := by
        intro i hi
        have hb := hat i hi
        rw [List.getElem?_eq_getElem (by omega), cells_seen] at hb
        obtain ⟨cs', hc', ht'⟩ := Option.bind_eq_some_iff.1 hb
        obtain ⟨c0, c1, rfl, g0, g1⟩ := cells2 hc'
        obtain ⟨k, rfl, rk, m, y, hk⟩ := open_nfields ht'
        obtain ⟨v, es, hv, hes⟩ := open_ints m [c1] y hk
        obtain rfl : c1 = v := by simpa using hv
        obtain ⟨b, off, spot⟩ := a
        have hspot : spot = none := by
          have hb0 := hat 0 (by omega)
          rw [List.getElem?_eq_getElem (by omega), cells_seen] at hb0
          obtain ⟨cs0, hc0, _⟩ := Option.bind_eq_some_iff.1 hb0
          obtain ⟨d0, _, _, q0, _⟩ := cells2 hc0
          simpa [Addr.add] using World.cell?_spot q0
        subst hspot
        rw [addr_add] at g0 g1
        rw [addr_add] at g1
        exact ⟨⟨k, es⟩, b, off, c1, rfl, World.block_lt_of_cell? _ _ g0, g0, g1, rk, hes⟩
      obtain ⟨f, hf⟩ := Deep.choose_lt key
      refine ⟨_, (List.range len).map f, hcs, some a, cap, by simp, by simp; omega, fun i e he => ?_⟩
      have hi : i < len := by have := (List.getElem?_eq_some_iff.1 he).1; simpa using this
      obtain rfl : f i = e := by simpa [hi] using he
      obtain ⟨b, off, kv, ha, hlt, c0, c1, r, hk⟩ := hf i hi
      exact ⟨b, off, kv, by rw [ha], trivial, hlt, c0, c1, r, hk⟩

theorem open_link {v : Value} {dd : DataW H} {p : List MemPlace} (hv : ∃ cs, v = .agg cs ∧ cs.size = Tryz.prog.cellsOf 25) (h : DataW.Trod enc Tryz.prog w 0 spare held 25 v dd p) : ∃ l : Lk, LkAt w (fun _ => True) v l := by
  obtain ⟨fuel, hf⟩ := h
  obtain ⟨cs, rfl, hcs⟩ := hv
  rw [cells_link] at hcs
  obtain ⟨l⟩ := cs
  obtain ⟨c0, c1, c2, c3, rfl⟩ : ∃ c0 c1 c2 c3, l = [c0, c1, c2, c3] := by
    match l, hcs with
    | [x0, x1, x2, x3], _ => exact ⟨x0, x1, x2, x3, rfl⟩
  obtain ⟨xs, m, hm, _, _, hlen, hg⟩ := DataW.trod_struct Tryz.underlying25 (show DataW.trod enc Tryz.prog w 0 spare held fuel 25 [c0, c1, c2, c3] = some (dd, p) from hf)
  have hl4 : xs.length = 4 := hlen
  obtain ⟨x0, x1, x2, x3, rfl⟩ : ∃ x0 x1 x2 x3, xs = [x0, x1, x2, x3] := by
    match xs, hl4 with
    | [x0, x1, x2, x3], _ => exact ⟨x0, x1, x2, x3, rfl⟩
  have e1 : Tryz.prog.cellsOf 3 = 1 := by kernel_rfl
  have e2 : Tryz.prog.cellsOf 22 = 1 := by kernel_rfl
  have e3 : Tryz.prog.cellsOf 23 = 1 := by kernel_rfl
  have f0 : DataW.trod enc Tryz.prog w 0 spare held m 3 (([c0, c1, c2, c3].drop 0).take (Tryz.prog.cellsOf 3)) = some x0 := hg 0 _ rfl
  have f1 : DataW.trod enc Tryz.prog w 0 spare held m 3 (([c0, c1, c2, c3].drop 1).take (Tryz.prog.cellsOf 3)) = some x1 := hg 1 _ rfl
  have f2 : DataW.trod enc Tryz.prog w 0 spare held m 22 (([c0, c1, c2, c3].drop 2).take (Tryz.prog.cellsOf 22)) = some x2 := hg 2 _ rfl
  have f3 : DataW.trod enc Tryz.prog w 0 spare held m 23 (([c0, c1, c2, c3].drop 3).take (Tryz.prog.cellsOf 23)) = some x3 := hg 3 _ rfl
  rw [e1] at f0 f1
  rw [e2] at f2
  rw [e3] at f3
  obtain ⟨k0, hk0, _, w0⟩ := DataW.trod_int Tryz.underlying3 (show DataW.trod enc Tryz.prog w 0 spare held m 3 [c0] = some x0 from f0)
  obtain ⟨k1, hk1, _, w1⟩ := DataW.trod_int Tryz.underlying3 (show DataW.trod enc Tryz.prog w 0 spare held m 3 [c1] = some x1 from f1)
  obtain ⟨v2, es2, hv2, h2⟩ := open_sents m _ _ (show DataW.trod enc Tryz.prog w 0 spare held m 22 [c2] = some x2 from f2)
  obtain ⟨v3, es3, hv3, h3⟩ := open_seens m _ _ (show DataW.trod enc Tryz.prog w 0 spare held m 23 [c3] = some x3 from f3)
  simp only [List.cons.injEq, and_true] at hk0 hk1 hv2 hv3
  subst hk0 hk1 hv2 hv3
  exact ⟨⟨k0, k1, es2, es3⟩, c2, c3, rfl, bounds_i64 w0, bounds_i64 w1, h2, h3⟩
end
end Go.Proofs.YtnehfjnanffjeaaGreatDoor
