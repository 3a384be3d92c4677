/-
  Rows of texts that came in, and the laws' measure, copy and comparison of them.
  Programs that came in, and the laws' measure, copy and comparison of them.
-/
import Derived.Test.YtkhkmmjollcfaaaGreatDoorMB
import Derived.Test.YtkhkmmjollcfaaaGreatDoorMZb
import Derived.Test.YtkhkmmjollcfaaaGreatDoorExEq
import Derived.Test.YtkhkmmjollcfaaaGreatDoorME
namespace Go.Proofs.YtkhkmmjollcfaaaGreatDoor
open Go.RowKit Go.Joins

set_option maxRecDepth 100000

theorem preS_succ {ts : List ByteArray} {k : Nat} {e : ByteArray} (h : ts[k]? = some e) : preS ts (k + 1) = preS ts k + e.size := by
  unfold preS
  have hk := (List.getElem?_eq_some_iff.1 h).1
  rw [List.take_succ_eq_append_getElem hk, List.map_append, List.sum_append]
  rw [(List.getElem?_eq_some_iff.1 h).2]
  simp
theorem preS_le (ts : List ByteArray) (k : Nat) : preS ts k ≤ preS ts ts.length := by
  unfold preS
  rw [List.take_length]
  conv => rhs; rw [← List.take_append_drop k ts, List.map_append, List.sum_append]
  omega

set_option maxHeartbeats 3200000 in
theorem szStringS_any (v : Value) (ts : List ByteArray) (S : Nat → Prop) (w : World) (left : Int) (h : StrsAt w S v ts) (h0 : 0 ≤ left) (h1 : left ≤ 1048576) :
    Calls Tryz.prog 16 #[v, .int .i64 left] w fun e w' => e = .returned (.int .i64 (szR left (bulkS ts))) ∧ Below w.heap.size w w' := by
  have hP := preS_le ts
  obtain ⟨a, cap, rfl, hl, hc⟩ := h
  unfold maxLen at hl
  by_cases hlt : left - (ts.length : Int) < 0
  · clear hc
    go_enter Tryz.func16, Tryz.ntmps16
    go_wp2
    go_ret
    exact ⟨int_ret (by unfold szR bulkS; rw [if_neg (by omega)]), Below.refl _ w⟩
  · have HC := (show Hid (_ ∧ True) from ⟨hc, trivial⟩)
    clear hc
    go_enter Tryz.func16, Tryz.ntmps16
    go_wp2
    go_loopw [1, 5] (fun lv i wr => ∃ k : Nat, k ≤ ts.length ∧ i = .int .i64 k ∧ (preS ts k : Int) ≤ left - (ts.length : Int) ∧ lv = .int .i64 (left - (ts.length : Int) - preS ts k) ∧ Below w.heap.size w wr) (fun _ i _ => ts.length - (intOf i).toNat)
    case atStart => exact ⟨0, Nat.zero_le _, rfl, by simp [preS]; omega, by simp [preS], Below.refl _ _⟩
    case round =>
      obtain ⟨k, hk, rfl, hle, rfl, hbw⟩ := hrel
      by_cases hkl : k < ts.length
      · have he := List.getElem?_eq_getElem hkl
        have hps := preS_succ he
        have hpk := hP (k + 1)
        generalize ts[k] = x at *
        obtain ⟨b, off, rfl, hSb, hlt2, c0, r3⟩ := HC.out.1 k x he
        rw [← hbw.cell (by exact hlt2)] at c0
        unfold maxLen at r3
        clear he HC
        have hlt' : ((k : Nat) : Int) < ((ts.length : Nat) : Int) := by omega
        by_cases hok : (x.size : Int) ≤ left - (ts.length : Int) - preS ts k
        · have hr0 : ¬ left - (ts.length : Int) - preS ts k - (x.size : Int) < 0 := by omega
          go_wp2
          refine ⟨⟨k + 1, by omega, by go_num, by omega, int_val (by omega), hbw⟩, by simp [intOf]; omega⟩
        · have hr0 : left - (ts.length : Int) - preS ts k - (x.size : Int) < 0 := by omega
          go_wp2
          go_ret
          exact ⟨int_ret (by unfold szR bulkS; rw [if_neg (by omega)]), hbw⟩
      · obtain rfl : k = ts.length := by omega
        clear HC
        go_wp2
        go_ret
        exact ⟨int_ret (by unfold szR bulkS; rw [if_pos (by omega)]; omega), hbw⟩

set_option maxHeartbeats 3200000 in
theorem eqStrS_same (v1 v2 : Value) (ts : List ByteArray) (S1 S2 : Nat → Prop) (w : World) (h1 : StrsAt w S1 v1 ts) (h2 : StrsAt w S2 v2 ts) (hb : ts.length ≤ 1048576) :
    Calls Tryz.prog 27 #[v1, v2] w fun e w' => e = .returned (.bool true) ∧ Below w.heap.size w w' := by
  obtain ⟨a1, cap1, rfl, -, hc1⟩ := h1
  obtain ⟨a2, cap2, rfl, -, hc2⟩ := h2
  have HC1 := (show Hid (_ ∧ True) from ⟨hc1, trivial⟩)
  have HC2 := (show Hid (_ ∧ True) from ⟨hc2, trivial⟩)
  clear hc1 hc2
  have hne : (((ts.length : Nat) : Int) != ((ts.length : Nat) : Int)) = false := by simp
  go_enter Tryz.func27, Tryz.ntmps27
  go_wp2
  go_loopw [5] (fun i wr => ∃ k : Nat, k ≤ ts.length ∧ i = .int .i64 k ∧ Below w.heap.size w wr) (fun i _ => ts.length - (intOf i).toNat)
  case atStart => exact ⟨0, Nat.zero_le _, rfl, Below.refl _ _⟩
  case round =>
    obtain ⟨k, hk, rfl, hbw⟩ := hrel
    by_cases hkl : k < ts.length
    · have he := List.getElem?_eq_getElem hkl
      generalize ts[k] = t at *
      obtain ⟨b1, off1, rfl, -, hl1, c0, -⟩ := HC1.out.1 k t he
      obtain ⟨b2, off2, rfl, -, hl2, d0, -⟩ := HC2.out.1 k t he
      rw [← hbw.cell (by exact hl1)] at c0
      rw [← hbw.cell (by exact hl2)] at d0
      clear he HC1 HC2
      have hlt' : ((k : Nat) : Int) < ((ts.length : Nat) : Int) := by omega
      have hst : (t.toList == t.toList) = true := by simp
      go_wp2
      go_region
      all_goals
        go_wp2
        go_roundw
        case rel => exact ⟨k + 1, by omega, by go_num, hbw.drew⟩
        case measure => simp [intOf]; omega
    · clear HC1 HC2
      go_wp2
      go_ret
      exact ⟨rfl, hbw⟩

theorem infoStrX : (Tryz.prog.info? 9).map (fun i => (i.zero, i.size, i.bytes)) = some (some (.string ⟨#[]⟩), 1, 16) := by kernel_rfl
theorem make_strs (n : Nat) (hn : n ≤ 1048576) (w : World) : (Instr.makeSlice 22 (.int .i64 (n : Int)) (.int .i64 (n : Int))).run Tryz.prog w = .ok (.slice (some ⟨w.heap.size, 0, none⟩) n n) (w.alloc (.cells (madeCells #[.string ⟨#[]⟩] n) 9)) := by
  obtain ⟨i0, hi, hz0, hz1, hz2⟩ := info_parts infoStrX
  have h := run_make (P := Tryz.prog) w 22 9 i0 _ Tryz.underlying22 hi hz0 .i64 .i64 (n : Int) (n : Int) (by omega) (by omega) (by rw [hz2]; omega) (by omega)
  rw [h, hz1]
  simp [Value.cells]

/-- A row of texts under way. -/
def StrTo (w : World) (g n k : Nat) (ts : List ByteArray) : Prop :=
  ∃ cur, w.heap[g]? = some (.cells cur 9 (0, 0)) ∧ cur.size = n ∧ ∀ i t, i < k → ts[i]? = some t → cur[i]? = some (.string t) ∧ t.size ≤ maxLen

theorem StrTo.next {w : World} {g n k : Nat} {ts : List ByteArray} {t : ByteArray} (h : StrTo w g n k ts) (hk : k < n) (ht : ts[k]? = some t) (hr : t.size ≤ maxLen) : StrTo (w.setCell ⟨g, k, none⟩ (.string t)) g n (k + 1) ts := by
  obtain ⟨cur, hg, hs, hc⟩ := h
  refine ⟨_, block_setCell hg _, by simp [hs], fun i u hi hu => ?_⟩
  by_cases hik : i < k
  · rw [Array.getElem?_setIfInBounds_ne (by omega)]; exact hc i u hik hu
  · obtain rfl : i = k := by omega
    obtain rfl : t = u := Option.some.inj (ht.symm.trans hu)
    exact ⟨Array.getElem?_setIfInBounds_self_of_lt (by omega), hr⟩

set_option maxHeartbeats 3200000 in
theorem toStringS_any (v : Value) (ts : List ByteArray) (S : Nat → Prop) (w : World) (h : StrsAt w S v ts) (hb : ts.length ≤ 1048576) :
    Calls Tryz.prog 22 #[v] w fun e w' => ∃ v', e = .returned v' ∧ StrsAt w' (fun b => w.heap.size ≤ b ∧ Pl w' b) v' ts ∧ Below w.heap.size w w' := by
  obtain ⟨a, cap, rfl, -, hc⟩ := h
  have HC := (show Hid (_ ∧ True) from ⟨hc, trivial⟩)
  have hmk := make_strs ts.length hb
  clear hc
  have R0 : StrTo (w.alloc (.cells (madeCells #[.string ⟨#[]⟩] ts.length) 9)) w.heap.size ts.length 0 ts :=
    ⟨_, (MapKept.heap_alloc w _).1, size_madeCells _ _, fun i e h => by omega⟩
  have B0 : Below w.heap.size w (w.alloc (.cells (madeCells #[.string ⟨#[]⟩] ts.length) 9)) := (Below.refl _ w).alloc (Nat.le_refl _) _
  generalize madeCells #[.string ⟨#[]⟩] ts.length = c0 at *
  go_enter Tryz.func22, Tryz.ntmps22
  go_wp2
  clear hmk
  go_loopw [4] (fun i wr => ∃ k : Nat, k ≤ ts.length ∧ i = .int .i64 k ∧ StrTo wr w.heap.size ts.length k ts ∧ Below w.heap.size w wr) (fun i _ => ts.length - (intOf i).toNat)
  case atStart => exact ⟨0, Nat.zero_le _, rfl, R0, B0⟩
  case round =>
    obtain ⟨k, hk, rfl, hrow, hbw⟩ := hrel
    by_cases hkl : k < ts.length
    · have he := List.getElem?_eq_getElem hkl
      generalize ts[k] = t at *
      obtain ⟨b, off, rfl, -, hl1, c0, r0⟩ := HC.out.1 k t he
      rw [← hbw.cell (by exact hl1)] at c0
      have HN : Hid (∀ wx : World, wx.heap = wr.heap → StrTo (wx.setCell ⟨w.heap.size, k, none⟩ (.string t)) w.heap.size ts.length (k + 1) ts) := fun wx hx => by
        refine StrTo.next (k := k) ?_ hkl he r0
        obtain ⟨cur, hg, hs, hc⟩ := hrow
        exact ⟨cur, by rw [hx]; exact hg, hs, hc⟩
      obtain ⟨cur, hg, hs, -⟩ := hrow
      have d0 : wr.cell? ⟨w.heap.size, k, none⟩ = some (cur[k]'(by omega)) := by rw [cell_of_block hg]; exact Array.getElem?_eq_getElem _
      generalize cur[k]'(by omega) = y0 at d0
      have f0 : wr.frozen? ⟨w.heap.size, k, none⟩ = false := unfrozen_of_block hg _
      clear he HC hg hs B0 R0
      have hlt' : ((k : Nat) : Int) < ((ts.length : Nat) : Int) := by omega
      go_wp2
      exact ⟨⟨k + 1, by omega, by go_num, HN.out _ rfl, hbw.setCell (p := ⟨w.heap.size, k, none⟩) (Nat.le_refl _) _⟩, by simp [intOf]; omega⟩
    · obtain rfl : k = ts.length := by omega
      obtain ⟨cur, hg, hcs, hcur⟩ := hrow
      have HF : Hid (StrsAt wr (fun b => w.heap.size ≤ b ∧ Pl wr b) (.slice (some ⟨w.heap.size, 0, none⟩) ts.length ts.length) ts) := by
        refine ⟨_, _, rfl, by unfold maxLen; omega, fun i t ht => ?_⟩
        obtain ⟨q0, q1⟩ := hcur i t (List.getElem?_eq_some_iff.1 ht).1 ht
        exact ⟨w.heap.size, 0, rfl, ⟨Nat.le_refl _, _, _, hg⟩, (Array.getElem?_eq_some_iff.1 hg).1, by rw [cell_of_block hg, Nat.zero_add]; exact q0, q1⟩
      clear hg hcur HC
      go_wp2
      go_ret
      exact ⟨_, rfl, HF.out, hbw⟩

section
variable {H : Type} {enc : TypeId × Value → H} {w : World} {spare : Nat → Bool} {held : Bool}
theorem open_strs (fuel : Nat) (cs : List Value) (x : DataW H × List MemPlace) (h : DataW.trod enc Tryz.prog w 0 spare held fuel 22 cs = some x) : ∃ v ts, cs = [v] ∧ StrsAt w (fun _ => True) v ts := by
  have cells1 : Tryz.prog.cellsOf 9 = 1 := by kernel_rfl
  rcases DataW.trod_slice Tryz.underlying22 h with ⟨hcs, _⟩ | ⟨a, len, cap, elems, rest, n, hn, hcs, _, _, hlc, hcm, hel, hat, _, _⟩
  · exact ⟨_, [], hcs, none, 0, rfl, Nat.zero_le _, fun i e he => by simp at he⟩
  · have one : ∀ (i : Nat), i < len → ∃ t : ByteArray, w.cell? (a.add i) = some (.string t) ∧ t.size ≤ maxLen := by
      intro i hi
      have hb := hat i hi
      rw [List.getElem?_eq_getElem (by omega), cells1] at hb
      obtain ⟨cs', hc', ht'⟩ := Option.bind_eq_some_iff.1 hb
      obtain ⟨t, rfl, _, wt⟩ := DataW.trod_string Tryz.underlying9 ht'
      refine ⟨t, ?_, wt⟩
      unfold World.cells? at hc'
      rw [if_pos (Nat.zero_le _)] at hc'
      simp only [show List.range 1 = [0] from rfl, List.mapM_cons, List.mapM_nil, Nat.mul_one] at hc'
      cases h0 : w.cell? ((a.add i).add 0) with
      | none => simp [h0] at hc'
      | some c0 =>
        simp [h0] at hc'
        subst hc'
        simpa [Addr.add] using h0
    have key : ∀ i, i < len → ∃ t : ByteArray, ∃ b off, a = ⟨b, off, none⟩ ∧ b < w.heap.size ∧ w.cell? ⟨b, off + i, none⟩ = some (.string t) ∧ t.size ≤ maxLen := by
      intro i hi
      obtain ⟨t, ht, wt⟩ := one i hi
      obtain ⟨t0, ht0, _⟩ := one 0 (by omega)
      obtain ⟨b, off, spot⟩ := a
      obtain rfl : spot = none := by simpa [Addr.add] using World.cell?_spot ht0
      rw [addr_add'] at ht
      exact ⟨t, b, off, rfl, World.block_lt_of_cell? _ _ ht, ht, wt⟩
    obtain ⟨f, hf⟩ := Deep.choose_lt key
    refine ⟨_, (List.range len).map f, hcs, some a, cap, by simp, by simp; omega, fun i t ht => ?_⟩
    have hi : i < len := by have := (List.getElem?_eq_some_iff.1 ht).1; simpa using this
    obtain rfl : f i = t := by simpa [hi] using ht
    obtain ⟨b, off, ha, hlt, c0, r0⟩ := hf i hi
    exact ⟨b, off, by rw [ha], trivial, hlt, c0, r0⟩
end
end Go.Proofs.YtkhkmmjollcfaaaGreatDoor

namespace Go.Proofs.YtkhkmmjollcfaaaGreatDoor
open Go.RowKit Go.Joins

set_option maxRecDepth 100000

set_option maxHeartbeats 3200000 in
theorem szProgram_any (d : Nat) (v : Value) (p : Pr) (S : Nat → Prop) (w : World) (left : Int) (h : PrAt w S d v p) (h0 : 0 ≤ left) (h1 : left ≤ 1048576) :
    Calls Tryz.prog 5 #[v, .int .i64 left] w fun e w' => e = .returned (.int .i64 (szR left p.bulk)) ∧ Below w.heap.size w w' := by
  obtain ⟨nv, bv, rfl, hn, hk⟩ := h
  obtain ⟨a1, c1, rfl⟩ := hn.form
  obtain ⟨a2, c2, rfl⟩ := hk.form
  have B0 : Below w.heap.size w (w.alloc (.cells #[.slice a1 p.names.length c1, .slice a2 p.bodies.length c2] 25)) := (Below.refl _ w).alloc (Nat.le_refl _) _
  have P2 : (w.alloc (.cells #[.slice a1 p.names.length c1, .slice a2 p.bodies.length c2] 25)).cell? ⟨w.heap.size, 1, none⟩ = some (.slice a2 p.bodies.length c2) := by
    rw [cell_of_block (MapKept.heap_alloc w _).1]; rfl
  have HN := (show Hid (_ ∧ True) from ⟨hn.below B0, trivial⟩)
  have HK := (show Hid (_ ∧ True) from ⟨hk.below B0, trivial⟩)
  have HB := (show Hid (_ ∧ True) from ⟨B0, trivial⟩)
  have HP2 := (show Hid (_ ∧ True) from ⟨P2, trivial⟩)
  have P3 : (w.alloc (.cells #[.slice a1 p.names.length c1, .slice a2 p.bodies.length c2] 25)).heap.size = w.heap.size + 1 := by simp
  have hE := szExpS_any d
  have hbk : p.bulk = bulkS p.names + Ex.bulkL p.bodies := rfl
  have HE := (show Hid (_ ∧ True) from ⟨hE, trivial⟩)
  clear hn hk B0 P2 hE
  go_enter Tryz.func5, Tryz.ntmps5
  go_wp2_with fail
  refine (szStringS_any _ p.names S _ _ HN.out.1 h0 h1).mono ?_
  rintro e w1 ⟨rfl, b1⟩
  have B1 : Below w.heap.size w w1 := HB.out.1.trans (b1.mono HB.out.1.size)
  have Q2 : w1.cell? ⟨w.heap.size, 1, none⟩ = some (.slice a2 p.bodies.length c2) := (b1.cell (by rw [P3]; simp)).trans HP2.out.1
  have HK1 := (show Hid (_ ∧ True) from ⟨HK.out.1.below b1, trivial⟩)
  clear b1 HN HK HB HP2 P3
  by_cases hlt : left < (bulkS p.names : Int)
  · have hr : szR left (bulkS p.names) = -1 := by unfold szR; rw [if_neg (by omega)]
    rw [hr]
    go_wp2
    go_ret
    exact ⟨int_ret (by unfold szR; rw [if_neg (by omega)]), B1⟩
  · have hr : szR left (bulkS p.names) = left - bulkS p.names := by unfold szR; rw [if_pos (by omega)]
    rw [hr]
    have hr0 : ¬ left - (bulkS p.names : Int) < 0 := by omega
    go_wp2_with fail
    refine (HE.out.1 _ p.bodies S _ _ HK1.out.1 (by omega) (by omega)).mono ?_
    rintro e w2 ⟨rfl, b2⟩
    have B2 : Below w.heap.size w w2 := B1.trans (b2.mono B1.size)
    clear b2 HE HK1 Q2
    have hbd : -1 ≤ szR (left - (bulkS p.names : Int)) (Ex.bulkL p.bodies) ∧ szR (left - (bulkS p.names : Int)) (Ex.bulkL p.bodies) ≤ 1048576 := by unfold szR; split <;> omega
    have heq : szR left p.bulk = szR (left - (bulkS p.names : Int)) (Ex.bulkL p.bodies) := by rw [hbk]; unfold szR; split <;> split <;> omega
    generalize szR (left - (bulkS p.names : Int)) (Ex.bulkL p.bodies) = r at *
    by_cases hr : r < 0
    · go_wp2
      go_ret
      exact ⟨int_ret (by omega), B2⟩
    · go_wp2
      go_ret
      exact ⟨int_ret (by omega), B2⟩

set_option maxHeartbeats 3200000 in
theorem eqProgram_any (d : Nat) (v1 v2 : Value) (p : Pr) (S1 S2 : Nat → Prop) (w : World) (h1 : PrAt w S1 d v1 p) (h2 : PrAt w S2 d v2 p) (hb : p.bulk ≤ 1048576) :
    Calls Tryz.prog 9 #[v1, v2] w fun e w' => e = .returned (.bool true) ∧ Below w.heap.size w w' := by
  have hl1 := bulkS_len p.names
  have hbk : p.bulk = bulkS p.names + Ex.bulkL p.bodies := rfl
  obtain ⟨nv1, bv1, rfl, n1, k1⟩ := h1
  obtain ⟨nv2, bv2, rfl, n2, k2⟩ := h2
  obtain ⟨a1, c1, rfl⟩ := n1.form
  obtain ⟨a2, c2, rfl⟩ := k1.form
  obtain ⟨a3, c3, rfl⟩ := n2.form
  obtain ⟨a4, c4, rfl⟩ := k2.form
  have B0 : Below w.heap.size w ((w.alloc (.cells #[.slice a1 p.names.length c1, .slice a2 p.bodies.length c2] 31)).alloc (.cells #[.slice a3 p.names.length c3, .slice a4 p.bodies.length c4] 31)) :=
    ((Below.refl _ w).alloc (Nat.le_refl _) _).alloc (by simp) _
  have P1 : ((w.alloc (.cells #[.slice a1 p.names.length c1, .slice a2 p.bodies.length c2] 31)).alloc (.cells #[.slice a3 p.names.length c3, .slice a4 p.bodies.length c4] 31)).cell? ⟨w.heap.size, 1, none⟩ = some (.slice a2 p.bodies.length c2) := by
    rw [cell_of_block ((Below.heap_alloc _ _ _ (by simp)).trans (MapKept.heap_alloc w _).1)]; rfl
  have P2 : ((w.alloc (.cells #[.slice a1 p.names.length c1, .slice a2 p.bodies.length c2] 31)).alloc (.cells #[.slice a3 p.names.length c3, .slice a4 p.bodies.length c4] 31)).cell? ⟨w.heap.size + 1, 1, none⟩ = some (.slice a4 p.bodies.length c4) := by
    have := (MapKept.heap_alloc (w.alloc (.cells #[.slice a1 p.names.length c1, .slice a2 p.bodies.length c2] 31)) (.cells #[.slice a3 p.names.length c3, .slice a4 p.bodies.length c4] 31)).1
    rw [cell_of_block (by simpa using this)]; rfl
  have P3 : ((w.alloc (.cells #[.slice a1 p.names.length c1, .slice a2 p.bodies.length c2] 31)).alloc (.cells #[.slice a3 p.names.length c3, .slice a4 p.bodies.length c4] 31)).heap.size = w.heap.size + 2 := by simp
  have HN1 := (show Hid (_ ∧ True) from ⟨n1.below B0, trivial⟩)
  have HN2 := (show Hid (_ ∧ True) from ⟨n2.below B0, trivial⟩)
  have HK1 := (show Hid (_ ∧ True) from ⟨k1.below B0, trivial⟩)
  have HK2 := (show Hid (_ ∧ True) from ⟨k2.below B0, trivial⟩)
  have HB := (show Hid (_ ∧ True) from ⟨B0, trivial⟩)
  have HP1 := (show Hid (_ ∧ True) from ⟨P1, trivial⟩)
  have HP2 := (show Hid (_ ∧ True) from ⟨P2, trivial⟩)
  have hnot := ex_not
  clear n1 n2 k1 k2 B0 P1 P2
  go_enter Tryz.func9, Tryz.ntmps9
  go_wp2_with fail
  refine (eqStrS_same _ _ p.names S1 S2 _ HN1.out.1 HN2.out.1 (by omega)).mono ?_
  rintro e w1 ⟨rfl, b1⟩
  have B1 : Below w.heap.size w w1 := HB.out.1.trans (b1.mono HB.out.1.size)
  have Q1 : w1.cell? ⟨w.heap.size, 1, none⟩ = some (.slice a2 p.bodies.length c2) := (b1.cell (by rw [P3]; simp)).trans HP1.out.1
  have Q2 : w1.cell? ⟨w.heap.size + 1, 1, none⟩ = some (.slice a4 p.bodies.length c4) := (b1.cell (by rw [P3]; simp)).trans HP2.out.1
  have HL1 := (show Hid (_ ∧ True) from ⟨HK1.out.1.below b1, trivial⟩)
  have HL2 := (show Hid (_ ∧ True) from ⟨HK2.out.1.below b1, trivial⟩)
  clear b1 HN1 HN2 HK1 HK2 HB HP1 HP2 P3
  go_wp2_with fail
  refine (eqExpS_any d _ _ p.bodies S1 S2 _ HL1.out.1 HL2.out.1 (by omega)).mono ?_
  rintro e w2 ⟨rfl, b2⟩
  have B2 : Below w.heap.size w w2 := B1.trans (b2.mono B1.size)
  clear b2 HL1 HL2 Q1 Q2
  go_wp2
  go_ret
  exact ⟨rfl, B2⟩

set_option maxHeartbeats 3200000 in
theorem toProgramK_any (d : Nat) (v : Value) (p : Pr) (S : Nat → Prop) (w : World) (h : PrAt w S d v p) (hb : p.bulk ≤ 1048576) :
    Calls Tryz.prog 7 #[v] w fun e w' => ∃ nv bv mid, e = .returned (.agg #[nv, bv]) ∧ PrAt w' (fun b => w.heap.size ≤ b ∧ Pl w' b) d (.agg #[nv, bv]) p ∧ Below w.heap.size w w' ∧ StrsAt w' (fun b => w.heap.size ≤ b ∧ b < mid ∧ Pl w' b) nv p.names ∧ Sk w' (fun b => mid ≤ b) d bv p.bodies ∧ w.heap.size ≤ mid ∧ mid ≤ w'.heap.size := by
  have hl1 := bulkS_len p.names
  have hbk : p.bulk = bulkS p.names + Ex.bulkL p.bodies := rfl
  obtain ⟨nv, bv, rfl, hn, hk⟩ := h
  obtain ⟨a1, c1, rfl⟩ := hn.form
  obtain ⟨a2, c2, rfl⟩ := hk.form
  have B0 : Below w.heap.size w (((w.alloc (.cells #[.slice a1 p.names.length c1, .slice a2 p.bodies.length c2] 25)).alloc (.cells #[.slice none 0 0, .slice none 0 0] 31)).alloc (.cells #[.slice none 0 0, .slice none 0 0] 31)) := (((Below.refl _ w).alloc (Nat.le_refl _) _).alloc (by simp) _).alloc (by simp; omega) _
  have O0 : (((w.alloc (.cells #[.slice a1 p.names.length c1, .slice a2 p.bodies.length c2] 25)).alloc (.cells #[.slice none 0 0, .slice none 0 0] 31)).alloc (.cells #[.slice none 0 0, .slice none 0 0] 31)).heap[w.heap.size]? = some (.cells #[.slice a1 p.names.length c1, .slice a2 p.bodies.length c2] 25) :=
    (Below.heap_alloc _ _ _ (by simp; omega)).trans ((Below.heap_alloc _ _ _ (by simp)).trans (MapKept.heap_alloc w _).1)
  have O1 : (((w.alloc (.cells #[.slice a1 p.names.length c1, .slice a2 p.bodies.length c2] 25)).alloc (.cells #[.slice none 0 0, .slice none 0 0] 31)).alloc (.cells #[.slice none 0 0, .slice none 0 0] 31)).heap[w.heap.size + 1]? = some (.cells #[.slice none 0 0, .slice none 0 0] 31) := by
    have := (MapKept.heap_alloc (w.alloc (.cells #[.slice a1 p.names.length c1, .slice a2 p.bodies.length c2] 25)) (.cells #[.slice none 0 0, .slice none 0 0] 31)).1
    exact (Below.heap_alloc _ _ _ (by simp)).trans (by simpa using this)
  have O2 : (((w.alloc (.cells #[.slice a1 p.names.length c1, .slice a2 p.bodies.length c2] 25)).alloc (.cells #[.slice none 0 0, .slice none 0 0] 31)).alloc (.cells #[.slice none 0 0, .slice none 0 0] 31)).heap[w.heap.size + 1 + 1]? = some (.cells #[.slice none 0 0, .slice none 0 0] 31) := by
    have := (MapKept.heap_alloc ((w.alloc (.cells #[.slice a1 p.names.length c1, .slice a2 p.bodies.length c2] 25)).alloc (.cells #[.slice none 0 0, .slice none 0 0] 31)) (.cells #[.slice none 0 0, .slice none 0 0] 31)).1
    simpa using this
  have P3 : (((w.alloc (.cells #[.slice a1 p.names.length c1, .slice a2 p.bodies.length c2] 25)).alloc (.cells #[.slice none 0 0, .slice none 0 0] 31)).alloc (.cells #[.slice none 0 0, .slice none 0 0] 31)).heap.size = w.heap.size + 3 := by simp
  have HN := (show Hid (_ ∧ True) from ⟨hn.below B0, trivial⟩)
  have HK : Hid (KidsAt w S d (.slice a2 p.bodies.length c2) p.bodies) := hk
  have HB := (show Hid (_ ∧ True) from ⟨B0, trivial⟩)
  have HO0 := (show Hid (_ ∧ True) from ⟨O0, trivial⟩)
  have HO1 := (show Hid (_ ∧ True) from ⟨O1, trivial⟩)
  have HO2 := (show Hid (_ ∧ True) from ⟨O2, trivial⟩)
  have HE : Hid (ToExpSK d) := toExpSK_any d
  clear hn hk B0 O0 O1 O2
  go_enter Tryz.func7, Tryz.ntmps7
  go_wp2_with fail
  refine (toStringS_any _ p.names S _ HN.out.1 (by omega)).mono ?_
  rintro e w1 ⟨nv, rfl, n1, b1⟩
  obtain ⟨a3, c3, rfl⟩ := n1.form
  rw [P3] at n1
  have hs1 : w.heap.size + 3 ≤ w1.heap.size := by have := b1.size; rw [P3] at this; exact this
  have O0 : w1.heap[w.heap.size]? = some (.cells #[.slice a1 p.names.length c1, .slice a2 p.bodies.length c2] 25) := (b1.block _ (by rw [P3]; omega)).trans HO0.out.1
  have O1 : w1.heap[w.heap.size + 1]? = some (.cells #[.slice none 0 0, .slice none 0 0] 31) := (b1.block _ (by rw [P3]; omega)).trans HO1.out.1
  have O2 : w1.heap[w.heap.size + 1 + 1]? = some (.cells #[.slice none 0 0, .slice none 0 0] 31) := (b1.block _ (by rw [P3]; omega)).trans HO2.out.1
  have B1 : Below w.heap.size w w1 := HB.out.1.trans (b1.mono HB.out.1.size)
  clear b1 HN HB HO0 HO1 HO2 P3
  have x20 : w1.cell? ⟨w.heap.size + 1 + 1, 0, none⟩ = some (.slice none 0 0) := by rw [cell_of_block O2]; rfl
  have f20 : w1.frozen? ⟨w.heap.size + 1 + 1, 0, none⟩ = false := unfrozen_of_block O2 0
  -- the world behind the first store
  have W0 : (w1.setCell ⟨w.heap.size + 1 + 1, 0, none⟩ (.slice a3 p.names.length c3)).heap[w.heap.size]? = some (.cells #[.slice a1 p.names.length c1, .slice a2 p.bodies.length c2] 25) := (Below.heap_setCell _ _ _ _ (by simp; omega)).trans O0
  have W1 : (w1.setCell ⟨w.heap.size + 1 + 1, 0, none⟩ (.slice a3 p.names.length c3)).heap[w.heap.size + 1]? = some (.cells #[.slice none 0 0, .slice none 0 0] 31) := (Below.heap_setCell _ _ _ _ (by simp)).trans O1
  have W2 : (w1.setCell ⟨w.heap.size + 1 + 1, 0, none⟩ (.slice a3 p.names.length c3)).heap[w.heap.size + 1 + 1]? = some (.cells #[.slice a3 p.names.length c3, .slice none 0 0] 31) := block_setCell O2 _
  have n2 : StrsAt (w1.setCell ⟨w.heap.size + 1 + 1, 0, none⟩ (.slice a3 p.names.length c3)) (fun b => w.heap.size + 3 ≤ b ∧ Pl (w1.setCell ⟨w.heap.size + 1 + 1, 0, none⟩ (.slice a3 p.names.length c3)) b) (.slice a3 p.names.length c3) p.names :=
    n1.kept (fun b hb1 _ => Below.heap_setCell _ _ _ _ (by have := hb1.1; simp; omega)) (by simp) (fun b h _ => ⟨h.1, h.2.of (Below.heap_setCell _ _ _ _ (by have := h.1; simp; omega))⟩)
  have S0 : (w1.setCell ⟨w.heap.size + 1 + 1, 0, none⟩ (.slice a3 p.names.length c3)).heap.size = w1.heap.size := by simp
  have B2 : Below w.heap.size w (w1.setCell ⟨w.heap.size + 1 + 1, 0, none⟩ (.slice a3 p.names.length c3)) := B1.setCell (p := ⟨w.heap.size + 1 + 1, 0, none⟩) (by simp; omega) _
  have HK0 : Hid (KidsAt (w1.setCell ⟨w.heap.size + 1 + 1, 0, none⟩ (.slice a3 p.names.length c3)) S d (.slice a2 p.bodies.length c2) p.bodies) := HK.out.below B2
  have HW0 := (show Hid (_ ∧ True) from ⟨W0, trivial⟩)
  have HW1 := (show Hid (_ ∧ True) from ⟨W1, trivial⟩)
  have HW2 := (show Hid (_ ∧ True) from ⟨W2, trivial⟩)
  have HN2 := (show Hid (_ ∧ True) from ⟨n2, trivial⟩)
  have y01 : w1.cell? ⟨w.heap.size, 1, none⟩ = some (.slice a2 p.bodies.length c2) := by rw [cell_of_block O0]; rfl
  clear W0 W1 W2 n2 n1 O0 O1 O2 HK
  go_wp2_with fail
  generalize w1.setCell ⟨w.heap.size + 1 + 1, 0, none⟩ (.slice a3 p.names.length c3) = w2 at *
  rw [← S0] at hs1
  clear S0 x20 f20 y01
  refine (HE.out _ p.bodies S _ HK0.out (by omega)).mono ?_
  rintro e w3 ⟨bv, rfl, k3, b3, s3⟩
  obtain ⟨a4, c4, rfl⟩ := k3.form
  have O1 : w3.heap[w.heap.size + 1]? = some (.cells #[.slice none 0 0, .slice none 0 0] 31) := (b3.block _ (by omega)).trans HW1.out.1
  have O2 : w3.heap[w.heap.size + 1 + 1]? = some (.cells #[.slice a3 p.names.length c3, .slice none 0 0] 31) := (b3.block _ (by omega)).trans HW2.out.1
  have n3 := HN2.out.1.belowP b3
  have hm3 := b3.size
  have m3 : StrsAt w3 (fun b => w.heap.size + 3 ≤ b ∧ b < w2.heap.size ∧ Pl w3 b) (.slice a3 p.names.length c3) p.names := HN2.out.1.kept (fun b _ hlt => b3.block b hlt) b3.size (fun b h hlt => ⟨h.1, hlt, h.2.below b3⟩)
  have B3 : Below w.heap.size w w3 := B2.trans (b3.mono B2.size)
  have hs3 : w.heap.size + 3 ≤ w3.heap.size := Nat.le_trans hs1 b3.size
  have k4 : KidsAt w3 (fun b => w.heap.size + 3 ≤ b ∧ Pl w3 b) d (.slice a4 p.bodies.length c4) p.bodies := k3.wide (fun b hb => ⟨Nat.le_trans hs1 hb.1, hb.2⟩)
  have x20 : w3.cell? ⟨w.heap.size + 1 + 1, 0, none⟩ = some (.slice a3 p.names.length c3) := by rw [cell_of_block O2]; rfl
  have x21 : w3.cell? ⟨w.heap.size + 1 + 1, 1, none⟩ = some (.slice none 0 0) := by rw [cell_of_block O2]; rfl
  have f21 : w3.frozen? ⟨w.heap.size + 1 + 1, 1, none⟩ = false := unfrozen_of_block O2 1
  have x10 : w3.cell? ⟨w.heap.size + 1, 0, none⟩ = some (.slice none 0 0) := by rw [cell_of_block O1]; rfl
  have x11 : w3.cell? ⟨w.heap.size + 1, 1, none⟩ = some (.slice none 0 0) := by rw [cell_of_block O1]; rfl
  have f10 : w3.frozen? ⟨w.heap.size + 1, 0, none⟩ = false := unfrozen_of_block O1 0
  have f11 : w3.frozen? ⟨w.heap.size + 1, 1, none⟩ = false := unfrozen_of_block O1 1
  have HN3 := (show Hid (_ ∧ True) from ⟨n3, trivial⟩)
  have HK4 := (show Hid (_ ∧ _ ∧ _) from ⟨k4, m3, s3⟩)
  clear O1 O2 b3 k3 k4 n3 m3 s3 HW0 HW1 HW2 HN2 HK0 HE
  go_wp2
  have HH : ∀ b, w.heap.size + 3 ≤ b → (((w3.setCell ⟨w.heap.size + 1 + 1, 1, none⟩ (.slice a4 p.bodies.length c4)).setCell ⟨w.heap.size + 1, 0, none⟩ (.slice a3 p.names.length c3)).setCell ⟨w.heap.size + 1, 1, none⟩ (.slice a4 p.bodies.length c4)).heap[b]? = w3.heap[b]? := fun b hb => by
    rw [Below.heap_setCell _ _ _ b (by simp; omega), Below.heap_setCell _ _ _ b (by simp; omega), Below.heap_setCell _ _ _ b (by simp; omega)]
  refine bodyPost_ret (v := .agg #[.slice a3 p.names.length c3, .slice a4 p.bodies.length c4]) (by simp [results, Tryz.results7, go_sem, x10, x11]) rfl ⟨_, _, w2.heap.size, rfl, ⟨_, _, rfl, ?_, ?_⟩, ?_, ?_, ?_, by omega, by simp; exact hm3⟩
  · exact HN3.out.1.kept (fun b hb1 _ => HH b hb1.1) (by simp) (fun b hb1 _ => ⟨by have := hb1.1; omega, hb1.2.of (HH b hb1.1)⟩)
  · exact HK4.out.1.kept (fun b hb1 _ => HH b hb1.1) (by simp) (fun b hb1 _ => ⟨by have := hb1.1; omega, hb1.2.of (HH b hb1.1)⟩)
  · exact ((B3.setCell (p := ⟨w.heap.size + 1 + 1, 1, none⟩) (by simp; omega) _).setCell (p := ⟨w.heap.size + 1, 0, none⟩) (by simp) _).setCell (p := ⟨w.heap.size + 1, 1, none⟩) (by simp) _
  · exact HK4.out.2.1.kept (fun b hb1 _ => HH b hb1.1) (by simp) (fun b hb1 _ => ⟨by have := hb1.1; omega, hb1.2.1, hb1.2.2.of (HH b hb1.1)⟩)
  · exact HK4.out.2.2.kept (fun b hb1 _ => HH b (by omega)) (fun b hb1 _ => hb1)
theorem toProgram_any (d : Nat) (v : Value) (p : Pr) (S : Nat → Prop) (w : World) (h : PrAt w S d v p) (hb : p.bulk ≤ 1048576) :
    Calls Tryz.prog 7 #[v] w fun e w' => ∃ v', e = .returned v' ∧ PrAt w' (fun b => w.heap.size ≤ b ∧ Pl w' b) d v' p ∧ Below w.heap.size w w' :=
  (toProgramK_any d v p S w h hb).mono (fun _ _ ⟨_, _, _, h1, h2, h3, _⟩ => ⟨_, h1, h2, h3⟩)

section
variable {H : Type} {enc : TypeId × Value → H} {w : World} {spare : Nat → Bool} {held : Bool}
theorem cells_prog : Tryz.prog.cellsOf 25 = 2 := by kernel_rfl
theorem open_prog {v : Value} {dd : DataW H} {ps : List MemPlace} (hv : ∃ cs, v = .agg cs ∧ cs.size = Tryz.prog.cellsOf 25) (h : DataW.Trod enc Tryz.prog w 0 spare held 25 v dd ps) : ∃ p d, PrAt w (fun _ => True) d v p := by
  obtain ⟨fuel, hf⟩ := h
  obtain ⟨cs, rfl, hcs⟩ := hv
  rw [cells_prog] at hcs
  obtain ⟨l⟩ := cs
  obtain ⟨c0, c1, rfl⟩ : ∃ c0 c1, l = [c0, c1] := by
    match l, hcs with
    | [x0, x1], _ => exact ⟨x0, x1, rfl⟩
  obtain ⟨xs, m, hm, _, _, hlen, hff⟩ := DataW.trod_struct Tryz.underlying25 (show DataW.trod enc Tryz.prog w 0 spare held fuel 25 [c0, c1] = some (dd, ps) from hf)
  have hl2 : xs.length = 2 := hlen
  obtain ⟨x0, x1, rfl⟩ : ∃ x0 x1, xs = [x0, x1] := by
    match xs, hl2 with
    | [x0, x1], _ => exact ⟨x0, x1, rfl⟩
  have e2 : Tryz.prog.cellsOf 22 = 1 := by kernel_rfl
  have e3 : Tryz.prog.cellsOf 23 = 1 := by kernel_rfl
  have f0 : DataW.trod enc Tryz.prog w 0 spare held m 22 (([c0, c1].drop 0).take (Tryz.prog.cellsOf 22)) = some x0 := hff 0 _ rfl
  have f1 : DataW.trod enc Tryz.prog w 0 spare held m 23 (([c0, c1].drop 1).take (Tryz.prog.cellsOf 23)) = some x1 := hff 1 _ rfl
  rw [e2] at f0
  rw [e3] at f1
  obtain ⟨nv, ts, hn, hts⟩ := open_strs m _ x0 f0
  obtain ⟨bv, es, hb, hes⟩ := open_kids m _ x1 f1
  obtain rfl : c0 = nv := by simpa using hn
  obtain rfl : c1 = bv := by simpa using hb
  exact ⟨⟨ts, es⟩, m, _, _, rfl, hts, hes⟩
end
end Go.Proofs.YtkhkmmjollcfaaaGreatDoor
