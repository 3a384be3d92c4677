/-
  An expression that came in, opened: it is one in plain words.
-/
import Derived.Test.YtdadppjncdkpiaaRowBase
namespace Go.Proofs.Ytdadppjncdkpiaa
open Go.ChangeShapes Go.WideShapes Go.ChangeAt Go.RowKit Go.Joins

set_option maxRecDepth 100000

instance : Inhabited Ex := ⟨.mk 0 0 ⟨#[]⟩ []⟩
theorem cells_exp : Try.prog.cellsOf 145 = 4 := by kernel_rfl

variable {H : Type} {enc : TypeId × Value → H} {w : World} {spare : Nat → Bool} {held : Bool}

/-- The four fields of an expression that is read. -/
theorem open_fields {fuel : Nat} {c0 c1 c2 c3 : Value} {x : DataW H × List MemPlace} (h : DataW.trod enc Try.prog w 0 spare held fuel 145 [c0, c1, c2, c3] = some x) :
    ∃ k n t, c0 = .int .i64 k ∧ c1 = .int .i64 n ∧ c2 = .string t ∧ inI64 k ∧ inI64 n ∧ t.size ≤ maxLen ∧ ∃ m y, fuel = m + 1 ∧ DataW.trod enc Try.prog w 0 spare held m 46 [c3] = some y := by
  obtain ⟨xs, m, hm, _, _, hlen, hf⟩ := DataW.trod_struct Try.underlying145 h
  have hl4 : xs.length = 4 := hlen
  obtain ⟨x0, x1, x2, x3, rfl⟩ : ∃ x0 x1 x2 x3, xs = [x0, x1, x2, x3] := by
    match xs, hl4 with
    | [x0, x1, x2, x3], _ => exact ⟨x0, x1, x2, x3, rfl⟩
  have e1 : Try.prog.cellsOf 3 = 1 := by kernel_rfl
  have e2 : Try.prog.cellsOf 9 = 1 := by kernel_rfl
  have e3 : Try.prog.cellsOf 46 = 1 := by kernel_rfl
  have f0 : DataW.trod enc Try.prog w 0 spare held m 3 (([c0, c1, c2, c3].drop 0).take (Try.prog.cellsOf 3)) = some x0 := hf 0 _ rfl
  have f1 : DataW.trod enc Try.prog w 0 spare held m 3 (([c0, c1, c2, c3].drop 1).take (Try.prog.cellsOf 3)) = some x1 := hf 1 _ rfl
  have f2 : DataW.trod enc Try.prog w 0 spare held m 9 (([c0, c1, c2, c3].drop 2).take (Try.prog.cellsOf 9)) = some x2 := hf 2 _ rfl
  have f3 : DataW.trod enc Try.prog w 0 spare held m 46 (([c0, c1, c2, c3].drop 3).take (Try.prog.cellsOf 46)) = some x3 := hf 3 _ rfl
  rw [e1] at f0 f1
  rw [e2] at f2
  rw [e3] at f3
  obtain ⟨k, hk, _, wk⟩ := DataW.trod_int Try.underlying3 (show DataW.trod enc Try.prog w 0 spare held m 3 [c0] = some x0 from f0)
  obtain ⟨n, hn, _, wn⟩ := DataW.trod_int Try.underlying3 (show DataW.trod enc Try.prog w 0 spare held m 3 [c1] = some x1 from f1)
  obtain ⟨t, ht, _, wt⟩ := DataW.trod_string Try.underlying9 (show DataW.trod enc Try.prog w 0 spare held m 9 [c2] = some x2 from f2)
  simp only [List.cons.injEq, and_true] at hk hn ht
  exact ⟨k, n, t, hk, hn, ht, bounds_i64 wk, bounds_i64 wn, wt, m, x3, hm, f3⟩

theorem open_kids : ∀ (fuel : Nat) (cs : List Value) (x : DataW H × List MemPlace), DataW.trod enc Try.prog w 0 spare held fuel 46 cs = some x → ∃ v es, cs = [v] ∧ KidsAt w (fun _ => True) fuel v es
  | 0, cs, x, h => by simp [DataW.trod] at h
  | fuel + 1, cs, x, h => by
    rcases DataW.trod_slice Try.underlying46 h with ⟨hcs, _⟩ | ⟨a, len, cap, elems, rest, n, hn, hcs, _, _, hlc, hcm, hel, hat, _, _⟩
    · exact ⟨_, [], hcs, none, 0, rfl, Nat.zero_le _, fun i e he => by simp at he⟩
    · obtain rfl : fuel = n := by omega
      have key : ∀ i, i < len → ∃ e : Ex, ∃ b off kv, a = ⟨b, off, none⟩ ∧ b < w.heap.size ∧
          w.cell? ⟨b, off + i * 4, none⟩ = some (.int .i64 e.kind) ∧ w.cell? ⟨b, off + i * 4 + 1, none⟩ = some (.int .i64 e.n) ∧ w.cell? ⟨b, off + i * 4 + 2, none⟩ = some (.string e.text) ∧ w.cell? ⟨b, off + i * 4 + 3, none⟩ = some kv ∧
          inI64 e.kind ∧ inI64 e.n ∧ e.text.size ≤ maxLen ∧ KidsAt w (fun _ => True) fuel kv e.kids := by
        intro i hi
        have hb := hat i hi
        rw [List.getElem?_eq_getElem (by omega), cells_exp] at hb
        obtain ⟨cs', hc', ht'⟩ := Option.bind_eq_some_iff.1 hb
        obtain ⟨c0, c1, c2, c3, rfl, g0, g1, g2, g3⟩ := cells4 hc'
        obtain ⟨k, nn, t, rfl, rfl, rfl, rk, rn, rt, m, y, hm, hk⟩ := open_fields ht'
        obtain ⟨v, es, hv, hes⟩ := open_kids m [c3] y hk
        obtain rfl : c3 = v := by simpa using hv
        obtain ⟨b, off, spot⟩ := a
        have hspot : spot = none := by
          have hb0 := hat 0 (by omega)
          rw [List.getElem?_eq_getElem (by omega), cells_exp] at hb0
          obtain ⟨cs0, hc0, _⟩ := Option.bind_eq_some_iff.1 hb0
          obtain ⟨d0, _, _, _, _, q0, _⟩ := cells4 hc0
          simpa [Addr.add] using World.cell?_spot q0
        subst hspot
        rw [addr_add] at g0 g1 g2 g3
        rw [addr_add] at g1 g2 g3
        exact ⟨.mk k nn t es, b, off, c3, rfl, World.block_lt_of_cell? _ _ g0, g0, g1, g2, g3, rk, rn, rt, hes.deep (by omega)⟩
      obtain ⟨f, hf⟩ := Deep.choose_lt key
      refine ⟨_, (List.range len).map f, hcs, some a, cap, by simp, by simp; omega, fun i e he => ?_⟩
      have hi : i < len := by have := (List.getElem?_eq_some_iff.1 he).1; simpa using this
      obtain rfl : f i = e := by simpa [hi] using he
      obtain ⟨b, off, kv, ha, hlt, c0, c1, c2, c3, r1, r2, r3, hk⟩ := hf i hi
      exact ⟨b, off, kv, by rw [ha], trivial, hlt, c0, c1, c2, c3, r1, r2, r3, hk⟩
  termination_by fuel => fuel

theorem open_exp {v : Value} {dd : DataW H} {p : List MemPlace} (hv : ∃ cs, v = .agg cs ∧ cs.size = Try.prog.cellsOf 145) (h : DataW.Trod enc Try.prog w 0 spare held 145 v dd p) : ∃ e d, ExAt w (fun _ => True) d v e := by
  obtain ⟨fuel, hf⟩ := h
  obtain ⟨cs, rfl, hcs⟩ := hv
  rw [cells_exp] at hcs
  obtain ⟨l⟩ := cs
  obtain ⟨c0, c1, c2, c3, rfl⟩ : ∃ c0 c1 c2 c3, l = [c0, c1, c2, c3] := by
    match l, hcs with
    | [x0, x1, x2, x3], _ => exact ⟨x0, x1, x2, x3, rfl⟩
  obtain ⟨k, nn, t, rfl, rfl, rfl, rk, rn, rt, m, y, _, hk⟩ := open_fields (show DataW.trod enc Try.prog w 0 spare held fuel 145 [c0, c1, c2, c3] = some (dd, p) from hf)
  obtain ⟨v, es, hv, hes⟩ := open_kids m [c3] y hk
  obtain rfl : c3 = v := by simpa using hv
  exact ⟨.mk k nn t es, m, c3, rfl, rk, rn, rt, hes⟩
end Go.Proofs.Ytdadppjncdkpiaa
