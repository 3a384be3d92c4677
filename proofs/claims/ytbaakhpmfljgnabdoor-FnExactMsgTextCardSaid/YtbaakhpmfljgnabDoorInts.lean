/-
  Rows of numbers in memory: their bulk, and copies of them.
-/
import Derived.Test.YtbaakhpmfljgnabDoorOwnAt
namespace Go.Proofs.YtbaakhpmfljgnabDoor
open Go.RowKit Go.Joins

set_option maxRecDepth 100000

theorem szIntS_any (v : Value) (ts : List Int) (S : Nat → Prop) (w : World) (left : Int) (h : IntsAt w S v ts) (h0 : 0 ≤ left) (h1 : left ≤ 1048576) :
    Calls Tryd.prog 19 #[v, .int .i64 left] w fun e w' => e = .returned (.int .i64 (szR left ts.length)) ∧ Below w.heap.size w w' := by
  obtain ⟨a, cap, rfl, hl, hc⟩ := h
  unfold maxLen at hl
  clear hc
  by_cases hlt : left - (ts.length : Int) < 0
  · go_enter Tryd.func19, Tryd.ntmps19
    go_wp2
    go_ret
    exact ⟨int_ret (by unfold szR; rw [if_neg (by omega)]), Below.refl _ w⟩
  · go_enter Tryd.func19, Tryd.ntmps19
    go_wp2
    go_ret
    exact ⟨int_ret (by unfold szR; rw [if_pos (by omega)]), Below.refl _ w⟩

theorem infoIntX : (Tryd.prog.info? 3).map (fun i => (i.zero, i.size, i.bytes)) = some (some (.int .i64 0), 1, 8) := by kernel_rfl
theorem make_ints (n : Nat) (hn : n ≤ 1048576) (w : World) : (Instr.makeSlice 22 (.int .i64 (n : Int)) (.int .i64 (n : Int))).run Tryd.prog w = .ok (.slice (some ⟨w.heap.size, 0, none⟩) n n) (w.alloc (.cells (madeCells #[.int .i64 0] n) 3)) := by
  obtain ⟨i0, hi, hz0, hz1, hz2⟩ := info_parts infoIntX
  have h := run_make (P := Tryd.prog) w 22 3 i0 _ Tryd.underlying22 hi hz0 .i64 .i64 (n : Int) (n : Int) (by omega) (by omega) (by rw [hz2]; omega) (by omega)
  rw [h, hz1]
  simp [Value.cells]

/-- A row of numbers under way. -/
def IntTo (w : World) (g n k : Nat) (ts : List Int) : Prop :=
  ∃ cur, w.heap[g]? = some (.cells cur 3 (0, 0)) ∧ cur.size = n ∧ ∀ i t, i < k → ts[i]? = some t → cur[i]? = some (.int .i64 t) ∧ inI64 t

theorem IntTo.next {w : World} {g n k : Nat} {ts : List Int} {t : Int} (h : IntTo w g n k ts) (hk : k < n) (ht : ts[k]? = some t) (hr : inI64 t) : IntTo (w.setCell ⟨g, k, none⟩ (.int .i64 t)) g n (k + 1) ts := by
  obtain ⟨cur, hg, hs, hc⟩ := h
  refine ⟨_, block_setCell hg _, by simp [hs], fun i u hi hu => ?_⟩
  by_cases hik : i < k
  · rw [Array.getElem?_setIfInBounds_ne (by omega)]; exact hc i u hik hu
  · obtain rfl : i = k := by omega
    obtain rfl : t = u := Option.some.inj (ht.symm.trans hu)
    exact ⟨Array.getElem?_setIfInBounds_self_of_lt (by omega), hr⟩

set_option maxHeartbeats 3200000 in
theorem toIntO_any (v : Value) (ts : List Int) (S : Nat → Prop) (w : World) (h : IntsAt w S v ts) (hb : ts.length ≤ 1048576) :
    Calls Tryd.prog 26 #[v] w fun e w' => ∃ v', e = .returned v' ∧ w'.ownsRow w.heap.size 3 1 v' ts.length (intVs ts) ∧ (∀ z ∈ ts, inI64 z) ∧ v'.ownBlock = some w.heap.size ∧ Below w.heap.size w w' := by
  obtain ⟨a, cap, rfl, -, hc⟩ := h
  have HC := (show Hid (_ ∧ True) from ⟨hc, trivial⟩)
  have hmk := make_ints ts.length hb
  clear hc
  have R0 : IntTo (w.alloc (.cells (madeCells #[.int .i64 0] ts.length) 3)) w.heap.size ts.length 0 ts :=
    ⟨_, (MapKept.heap_alloc w _).1, size_madeCells _ _, fun i e h => by omega⟩
  have B0 : Below w.heap.size w (w.alloc (.cells (madeCells #[.int .i64 0] ts.length) 3)) := (Below.refl _ w).alloc (Nat.le_refl _) _
  generalize madeCells #[.int .i64 0] ts.length = c0 at *
  go_enter Tryd.func26, Tryd.ntmps26
  go_wp2
  clear hmk
  go_loopw [4] (fun i wr => ∃ k : Nat, k ≤ ts.length ∧ i = .int .i64 k ∧ IntTo wr w.heap.size ts.length k ts ∧ Below w.heap.size w wr) (fun i _ => ts.length - (intOf i).toNat)
  case atStart => exact ⟨0, Nat.zero_le _, rfl, R0, B0⟩
  case round =>
    obtain ⟨k, hk, rfl, hrow, hbw⟩ := hrel
    by_cases hkl : k < ts.length
    · have he := List.getElem?_eq_getElem hkl
      generalize ts[k] = t at *
      obtain ⟨b, off, rfl, -, hl1, c0, r0⟩ := HC.out.1 k t he
      rw [← hbw.cell (by exact hl1)] at c0
      have HN : Hid (∀ wx : World, wx.heap = wr.heap → IntTo (wx.setCell ⟨w.heap.size, k, none⟩ (.int .i64 t)) w.heap.size ts.length (k + 1) ts) := fun wx hx => by
        refine IntTo.next (k := k) ?_ hkl he r0
        obtain ⟨cur, hg, hs, hc⟩ := hrow
        exact ⟨cur, by rw [hx]; exact hg, hs, hc⟩
      obtain ⟨cur, hg, hs, -⟩ := hrow
      have d0 : wr.cell? ⟨w.heap.size, k, none⟩ = some (cur[k]'(by omega)) := by rw [cell_of_block hg]; exact Array.getElem?_eq_getElem _
      generalize cur[k]'(by omega) = y0 at d0
      have f0 : wr.frozen? ⟨w.heap.size, k, none⟩ = false := unfrozen_of_block hg _
      clear he HC hg hs B0 R0
      have hlt' : ((k : Nat) : Int) < ((ts.length : Nat) : Int) := by omega
      go_wp2
      exact ⟨⟨k + 1, by omega, by go_num, HN.out _ rfl, hbw.setCell (p := ⟨w.heap.size, k, none⟩) (Nat.le_refl _) _⟩, by simp [intOf]; omega⟩
    · obtain rfl : k = ts.length := by omega
      obtain ⟨cur, hg, hcs, hcur⟩ := hrow
      have HF : Hid (wr.ownsRow w.heap.size 3 1 (.slice (some ⟨w.heap.size, 0, none⟩) ts.length ts.length) ts.length (intVs ts) ∧ ∀ z ∈ ts, inI64 z) := by
        refine ⟨⟨by simp, .inr ⟨_, _, cur, rfl, Nat.le_refl _, hg, Nat.le_refl _, by unfold maxLen; omega, by omega, ?_⟩⟩, fun z hz => ?_⟩
        · rw [List.take_of_length_le (by simp; omega)]
          refine List.ext_getElem? fun i => ?_
          by_cases hi : i < ts.length
          · have he := List.getElem?_eq_getElem hi
            have := (hcur i _ hi he).1
            rw [List.getElem?_map, he, Option.map_some, ← this]
            simp
          · rw [List.getElem?_eq_none (by simp; omega), List.getElem?_eq_none (by simp; omega)]
        · obtain ⟨i, hi⟩ := List.getElem?_of_mem hz
          exact (hcur i z (List.getElem?_eq_some_iff.1 hi).1 hi).2
      clear hg hcur HC
      go_wp2
      go_ret
      exact ⟨_, rfl, HF.out.1, HF.out.2, rfl, hbw⟩
theorem toIntS_any (v : Value) (ts : List Int) (S : Nat → Prop) (w : World) (h : IntsAt w S v ts) (hb : ts.length ≤ 1048576) :
    Calls Tryd.prog 26 #[v] w fun e w' => ∃ v', e = .returned v' ∧ IntsAt w' (fun b => w.heap.size ≤ b ∧ Pl w' b) v' ts ∧ Below w.heap.size w w' := by
  refine (toIntO_any v ts S w h hb).mono ?_
  rintro e w1 ⟨v', rfl, h1, h2, _, h3⟩
  exact ⟨v', rfl, own_ints h1 h2, h3⟩

section
variable {H : Type} {enc : TypeId × Value → H} {w : World} {spare : Nat → Bool} {held : Bool}
theorem open_ints (fuel : Nat) (cs : List Value) (x : DataW H × List MemPlace) (h : DataW.trod enc Tryd.prog w 0 spare held fuel 22 cs = some x) : ∃ v ts, cs = [v] ∧ IntsAt w (fun _ => True) v ts := by
  have cells1 : Tryd.prog.cellsOf 3 = 1 := by kernel_rfl
  rcases DataW.trod_slice Tryd.underlying22 h with ⟨hcs, _⟩ | ⟨a, len, cap, elems, rest, n, hn, hcs, _, _, hlc, hcm, hel, hat, _, _⟩
  · exact ⟨_, [], hcs, none, 0, rfl, Nat.zero_le _, fun i e he => by simp at he⟩
  · have one : ∀ (i : Nat), i < len → ∃ t : Int, w.cell? (a.add i) = some (.int .i64 t) ∧ inI64 t := by
      intro i hi
      have hb := hat i hi
      rw [List.getElem?_eq_getElem (by omega), cells1] at hb
      obtain ⟨cs', hc', ht'⟩ := Option.bind_eq_some_iff.1 hb
      obtain ⟨t, rfl, _, wt⟩ := DataW.trod_int Tryd.underlying3 ht'
      refine ⟨t, ?_, bounds_i64 wt⟩
      unfold World.cells? at hc'
      rw [if_pos (Nat.zero_le _)] at hc'
      simp only [show List.range 1 = [0] from rfl, List.mapM_cons, List.mapM_nil, Nat.mul_one] at hc'
      cases h0 : w.cell? ((a.add i).add 0) with
      | none => simp [h0] at hc'
      | some c0 =>
        simp [h0] at hc'
        subst hc'
        simpa [Addr.add] using h0
    have key : ∀ i, i < len → ∃ t : Int, ∃ b off, a = ⟨b, off, none⟩ ∧ b < w.heap.size ∧ w.cell? ⟨b, off + i, none⟩ = some (.int .i64 t) ∧ inI64 t := by
      intro i hi
      obtain ⟨t, ht, wt⟩ := one i hi
      obtain ⟨t0, ht0, _⟩ := one 0 (by omega)
      obtain ⟨b, off, spot⟩ := a
      obtain rfl : spot = none := by simpa [Addr.add] using World.cell?_spot ht0
      rw [addr_addI] at ht
      exact ⟨t, b, off, rfl, World.block_lt_of_cell? _ _ ht, ht, wt⟩
    obtain ⟨f, hf⟩ := Deep.choose_lt key
    refine ⟨_, (List.range len).map f, hcs, some a, cap, by simp, by simp; omega, fun i t ht => ?_⟩
    have hi : i < len := by have := (List.getElem?_eq_some_iff.1 ht).1; simpa using this
    obtain rfl : f i = t := by simpa [hi] using ht
    obtain ⟨b, off, ha, hlt, c0, r0⟩ := hf i hi
    exact ⟨b, off, by rw [ha], trivial, hlt, c0, r0⟩
end
end Go.Proofs.YtbaakhpmfljgnabDoor
