/-
  Rows of texts that came in, and the laws' measure, copy and comparison of them.
-/
import Derived.Test.YtdadppjncdkpiaaStrsAt
import Derived.Test.YtdadppjncdkpiaaExTo
import Derived.Test.YtdadppjncdkpiaaExEq
namespace Go.Proofs.Ytdadppjncdkpiaa
open Go.RowKit Go.Joins

set_option maxRecDepth 100000

theorem preS_succ {ts : List ByteArray} {k : Nat} {e : ByteArray} (h : ts[k]? = some e) : preS ts (k + 1) = preS ts k + e.size := by
  unfold preS
  have hk := (List.getElem?_eq_some_iff.1 h).1
  rw [List.take_succ_eq_append_getElem hk, List.map_append, List.sum_append]
  rw [(List.getElem?_eq_some_iff.1 h).2]
  simp
theorem preS_le (ts : List ByteArray) (k : Nat) : preS ts k ≤ preS ts ts.length := by
  unfold preS
  rw [List.take_length]
  conv => rhs; rw [← List.take_append_drop k ts, List.map_append, List.sum_append]
  omega

set_option maxHeartbeats 3200000 in
theorem szStringS_any (v : Value) (ts : List ByteArray) (S : Nat → Prop) (w : World) (left : Int) (h : StrsAt w S v ts) (h0 : 0 ≤ left) (h1 : left ≤ 1048576) :
    Calls Try.prog 50 #[v, .int .i64 left] w fun e w' => e = .returned (.int .i64 (szR left (bulkS ts))) ∧ Below w.heap.size w w' := by
  have hP := preS_le ts
  obtain ⟨a, cap, rfl, hl, hc⟩ := h
  unfold maxLen at hl
  by_cases hlt : left - (ts.length : Int) < 0
  · clear hc
    go_enter Try.func50, Try.ntmps50
    go_wp2
    go_ret
    exact ⟨int_ret (by unfold szR bulkS; rw [if_neg (by omega)]), Below.refl _ w⟩
  · have HC := (show Hid (_ ∧ True) from ⟨hc, trivial⟩)
    clear hc
    go_enter Try.func50, Try.ntmps50
    go_wp2
    go_loopw [1, 5] (fun lv i wr => ∃ k : Nat, k ≤ ts.length ∧ i = .int .i64 k ∧ (preS ts k : Int) ≤ left - (ts.length : Int) ∧ lv = .int .i64 (left - (ts.length : Int) - preS ts k) ∧ Below w.heap.size w wr) (fun _ i _ => ts.length - (intOf i).toNat)
    case atStart => exact ⟨0, Nat.zero_le _, rfl, by simp [preS]; omega, by simp [preS], Below.refl _ _⟩
    case round =>
      obtain ⟨k, hk, rfl, hle, rfl, hbw⟩ := hrel
      by_cases hkl : k < ts.length
      · have he := List.getElem?_eq_getElem hkl
        have hps := preS_succ he
        have hpk := hP (k + 1)
        generalize ts[k] = x at *
        obtain ⟨b, off, rfl, hSb, hlt2, c0, r3⟩ := HC.out.1 k x he
        rw [← hbw.cell (by exact hlt2)] at c0
        unfold maxLen at r3
        clear he HC
        have hlt' : ((k : Nat) : Int) < ((ts.length : Nat) : Int) := by omega
        by_cases hok : (x.size : Int) ≤ left - (ts.length : Int) - preS ts k
        · have hr0 : ¬ left - (ts.length : Int) - preS ts k - (x.size : Int) < 0 := by omega
          go_wp2
          refine ⟨⟨k + 1, by omega, by go_num, by omega, int_val (by omega), hbw⟩, by simp [intOf]; omega⟩
        · have hr0 : left - (ts.length : Int) - preS ts k - (x.size : Int) < 0 := by omega
          go_wp2
          go_ret
          exact ⟨int_ret (by unfold szR bulkS; rw [if_neg (by omega)]), hbw⟩
      · obtain rfl : k = ts.length := by omega
        clear HC
        go_wp2
        go_ret
        exact ⟨int_ret (by unfold szR bulkS; rw [if_pos (by omega)]; omega), hbw⟩

set_option maxHeartbeats 3200000 in
theorem eqStrS_same (v1 v2 : Value) (ts : List ByteArray) (S1 S2 : Nat → Prop) (w : World) (h1 : StrsAt w S1 v1 ts) (h2 : StrsAt w S2 v2 ts) (hb : ts.length ≤ 1048576) :
    Calls Try.prog 59 #[v1, v2] w fun e w' => e = .returned (.bool true) ∧ Below w.heap.size w w' := by
  obtain ⟨a1, cap1, rfl, -, hc1⟩ := h1
  obtain ⟨a2, cap2, rfl, -, hc2⟩ := h2
  have HC1 := (show Hid (_ ∧ True) from ⟨hc1, trivial⟩)
  have HC2 := (show Hid (_ ∧ True) from ⟨hc2, trivial⟩)
  clear hc1 hc2
  have hne : (((ts.length : Nat) : Int) != ((ts.length : Nat) : Int)) = false := by simp
  go_enter Try.func59, Try.ntmps59
  go_wp2
  go_loopw [5] (fun i wr => ∃ k : Nat, k ≤ ts.length ∧ i = .int .i64 k ∧ Below w.heap.size w wr) (fun i _ => ts.length - (intOf i).toNat)
  case atStart => exact ⟨0, Nat.zero_le _, rfl, Below.refl _ _⟩
  case round =>
    obtain ⟨k, hk, rfl, hbw⟩ := hrel
    by_cases hkl : k < ts.length
    · have he := List.getElem?_eq_getElem hkl
      generalize ts[k] = t at *
      obtain ⟨b1, off1, rfl, -, hl1, c0, -⟩ := HC1.out.1 k t he
      obtain ⟨b2, off2, rfl, -, hl2, d0, -⟩ := HC2.out.1 k t he
      rw [← hbw.cell (by exact hl1)] at c0
      rw [← hbw.cell (by exact hl2)] at d0
      clear he HC1 HC2
      have hlt' : ((k : Nat) : Int) < ((ts.length : Nat) : Int) := by omega
      have hst : (t.toList == t.toList) = true := by simp
      go_wp2
      go_region
      all_goals
        go_wp2
        go_roundw
        case rel => exact ⟨k + 1, by omega, by go_num, hbw.drew⟩
        case measure => simp [intOf]; omega
    · clear HC1 HC2
      go_wp2
      go_ret
      exact ⟨rfl, hbw⟩

theorem infoStrX : (Try.prog.info? 9).map (fun i => (i.zero, i.size, i.bytes)) = some (some (.string ⟨#[]⟩), 1, 16) := by kernel_rfl
theorem make_strs (n : Nat) (hn : n ≤ 1048576) (w : World) : (Instr.makeSlice 45 (.int .i64 (n : Int)) (.int .i64 (n : Int))).run Try.prog w = .ok (.slice (some ⟨w.heap.size, 0, none⟩) n n) (w.alloc (.cells (madeCells #[.string ⟨#[]⟩] n) 9)) := by
  obtain ⟨i0, hi, hz0, hz1, hz2⟩ := info_parts infoStrX
  have h := run_make (P := Try.prog) w 45 9 i0 _ Try.underlying45 hi hz0 .i64 .i64 (n : Int) (n : Int) (by omega) (by omega) (by rw [hz2]; omega) (by omega)
  rw [h, hz1]
  simp [Value.cells]

/-- A row of texts under way. -/
def StrTo (w : World) (g n k : Nat) (ts : List ByteArray) : Prop :=
  ∃ cur, w.heap[g]? = some (.cells cur 9 (0, 0)) ∧ cur.size = n ∧ ∀ i t, i < k → ts[i]? = some t → cur[i]? = some (.string t) ∧ t.size ≤ maxLen

theorem StrTo.next {w : World} {g n k : Nat} {ts : List ByteArray} {t : ByteArray} (h : StrTo w g n k ts) (hk : k < n) (ht : ts[k]? = some t) (hr : t.size ≤ maxLen) : StrTo (w.setCell ⟨g, k, none⟩ (.string t)) g n (k + 1) ts := by
  obtain ⟨cur, hg, hs, hc⟩ := h
  refine ⟨_, block_setCell hg _, by simp [hs], fun i u hi hu => ?_⟩
  by_cases hik : i < k
  · rw [Array.getElem?_setIfInBounds_ne (by omega)]; exact hc i u hik hu
  · obtain rfl : i = k := by omega
    obtain rfl : t = u := Option.some.inj (ht.symm.trans hu)
    exact ⟨Array.getElem?_setIfInBounds_self_of_lt (by omega), hr⟩

set_option maxHeartbeats 3200000 in
theorem toStringS_any (v : Value) (ts : List ByteArray) (S : Nat → Prop) (w : World) (h : StrsAt w S v ts) (hb : ts.length ≤ 1048576) :
    Calls Try.prog 55 #[v] w fun e w' => ∃ v', e = .returned v' ∧ StrsAt w' (fun b => w.heap.size ≤ b ∧ Pl w' b) v' ts ∧ Below w.heap.size w w' := by
  obtain ⟨a, cap, rfl, -, hc⟩ := h
  have HC := (show Hid (_ ∧ True) from ⟨hc, trivial⟩)
  have hmk := make_strs ts.length hb
  clear hc
  have R0 : StrTo (w.alloc (.cells (madeCells #[.string ⟨#[]⟩] ts.length) 9)) w.heap.size ts.length 0 ts :=
    ⟨_, (MapKept.heap_alloc w _).1, size_madeCells _ _, fun i e h => by omega⟩
  have B0 : Below w.heap.size w (w.alloc (.cells (madeCells #[.string ⟨#[]⟩] ts.length) 9)) := (Below.refl _ w).alloc (Nat.le_refl _) _
  generalize madeCells #[.string ⟨#[]⟩] ts.length = c0 at *
  go_enter Try.func55, Try.ntmps55
  go_wp2
  clear hmk
  go_loopw [4] (fun i wr => ∃ k : Nat, k ≤ ts.length ∧ i = .int .i64 k ∧ StrTo wr w.heap.size ts.length k ts ∧ Below w.heap.size w wr) (fun i _ => ts.length - (intOf i).toNat)
  case atStart => exact ⟨0, Nat.zero_le _, rfl, R0, B0⟩
  case round =>
    obtain ⟨k, hk, rfl, hrow, hbw⟩ := hrel
    by_cases hkl : k < ts.length
    · have he := List.getElem?_eq_getElem hkl
      generalize ts[k] = t at *
      obtain ⟨b, off, rfl, -, hl1, c0, r0⟩ := HC.out.1 k t he
      rw [← hbw.cell (by exact hl1)] at c0
      have HN : Hid (∀ wx : World, wx.heap = wr.heap → StrTo (wx.setCell ⟨w.heap.size, k, none⟩ (.string t)) w.heap.size ts.length (k + 1) ts) := fun wx hx => by
        refine StrTo.next (k := k) ?_ hkl he r0
        obtain ⟨cur, hg, hs, hc⟩ := hrow
        exact ⟨cur, by rw [hx]; exact hg, hs, hc⟩
      obtain ⟨cur, hg, hs, -⟩ := hrow
      have d0 : wr.cell? ⟨w.heap.size, k, none⟩ = some (cur[k]'(by omega)) := by rw [cell_of_block hg]; exact Array.getElem?_eq_getElem _
      generalize cur[k]'(by omega) = y0 at d0
      have f0 : wr.frozen? ⟨w.heap.size, k, none⟩ = false := unfrozen_of_block hg _
      clear he HC hg hs B0 R0
      have hlt' : ((k : Nat) : Int) < ((ts.length : Nat) : Int) := by omega
      go_wp2
      exact ⟨⟨k + 1, by omega, by go_num, HN.out _ rfl, hbw.setCell (p := ⟨w.heap.size, k, none⟩) (Nat.le_refl _) _⟩, by simp [intOf]; omega⟩
    · obtain rfl : k = ts.length := by omega
      obtain ⟨cur, hg, hcs, hcur⟩ := hrow
      have HF : Hid (StrsAt wr (fun b => w.heap.size ≤ b ∧ Pl wr b) (.slice (some ⟨w.heap.size, 0, none⟩) ts.length ts.length) ts) := by
        refine ⟨_, _, rfl, by unfold maxLen; omega, fun i t ht => ?_⟩
        obtain ⟨q0, q1⟩ := hcur i t (List.getElem?_eq_some_iff.1 ht).1 ht
        exact ⟨w.heap.size, 0, rfl, ⟨Nat.le_refl _, _, _, hg⟩, (Array.getElem?_eq_some_iff.1 hg).1, by rw [cell_of_block hg, Nat.zero_add]; exact q0, q1⟩
      clear hg hcur HC
      go_wp2
      go_ret
      exact ⟨_, rfl, HF.out, hbw⟩

section
variable {H : Type} {enc : TypeId × Value → H} {w : World} {spare : Nat → Bool} {held : Bool}
theorem open_strs (fuel : Nat) (cs : List Value) (x : DataW H × List MemPlace) (h : DataW.trod enc Try.prog w 0 spare held fuel 45 cs = some x) : ∃ v ts, cs = [v] ∧ StrsAt w (fun _ => True) v ts := by
  have cells1 : Try.prog.cellsOf 9 = 1 := by kernel_rfl
  rcases DataW.trod_slice Try.underlying45 h with ⟨hcs, _⟩ | ⟨a, len, cap, elems, rest, n, hn, hcs, _, _, hlc, hcm, hel, hat, _, _⟩
  · exact ⟨_, [], hcs, none, 0, rfl, Nat.zero_le _, fun i e he => by simp at he⟩
  · have one : ∀ (i : Nat), i < len → ∃ t : ByteArray, w.cell? (a.add i) = some (.string t) ∧ t.size ≤ maxLen := by
      intro i hi
      have hb := hat i hi
      rw [List.getElem?_eq_getElem (by omega), cells1] at hb
      obtain ⟨cs', hc', ht'⟩ := Option.bind_eq_some_iff.1 hb
      obtain ⟨t, rfl, _, wt⟩ := DataW.trod_string Try.underlying9 ht'
      refine ⟨t, ?_, wt⟩
      unfold World.cells? at hc'
      rw [if_pos (Nat.zero_le _)] at hc'
      simp only [show List.range 1 = [0] from rfl, List.mapM_cons, List.mapM_nil, Nat.mul_one] at hc'
      cases h0 : w.cell? ((a.add i).add 0) with
      | none => simp [h0] at hc'
      | some c0 =>
        simp [h0] at hc'
        subst hc'
        simpa [Addr.add] using h0
    have key : ∀ i, i < len → ∃ t : ByteArray, ∃ b off, a = ⟨b, off, none⟩ ∧ b < w.heap.size ∧ w.cell? ⟨b, off + i, none⟩ = some (.string t) ∧ t.size ≤ maxLen := by
      intro i hi
      obtain ⟨t, ht, wt⟩ := one i hi
      obtain ⟨t0, ht0, _⟩ := one 0 (by omega)
      obtain ⟨b, off, spot⟩ := a
      obtain rfl : spot = none := by simpa [Addr.add] using World.cell?_spot ht0
      rw [addr_add'] at ht
      exact ⟨t, b, off, rfl, World.block_lt_of_cell? _ _ ht, ht, wt⟩
    obtain ⟨f, hf⟩ := Deep.choose_lt key
    refine ⟨_, (List.range len).map f, hcs, some a, cap, by simp, by simp; omega, fun i t ht => ?_⟩
    have hi : i < len := by have := (List.getElem?_eq_some_iff.1 ht).1; simpa using this
    obtain rfl : f i = t := by simpa [hi] using ht
    obtain ⟨b, off, ha, hlt, c0, r0⟩ := hf i hi
    exact ⟨b, off, by rw [ha], trivial, hlt, c0, r0⟩
end
end Go.Proofs.Ytdadppjncdkpiaa
