/-
  The laws' marking of a link, and their look whether the marks still stand.
-/
import Derived.Test.YtnehfjnanffjeaaGreatDoorMC
import Derived.Test.YtnehfjnanffjeaaGreatDoorMU
namespace Go.Proofs.YtnehfjnanffjeaaGreatDoor
open Go.RowKit Go.Joins

set_option maxRecDepth 100000

theorem rowFrozen {w : World} {b g cap n size : Nat} {e : TypeId} {xs : List Value} (h : w.ownsRow b e size (.slice (some ⟨g, 0, none⟩) n cap) n xs) (i : Nat) : w.frozen? ⟨g, i, none⟩ = false := by
  obtain ⟨_, cs, hcs⟩ := own_type h g rfl
  exact unfrozen_of_block hcs _
/-- The first j of a row of what was sent bear marks. -/
def MkS (w : World) (B : Nat) (v : Value) (n : Nat) (k0 : Int) (j : Nat) : Prop := ∃ xs, w.ownsRow B 65 3 v n xs ∧ ∀ i : Nat, i < j → xs[i * 3]? = some (.int .i64 (k0 + 3 * i)) ∧ xs[i * 3 + 1]? = some (.int .i64 (k0 + 3 * i + 1)) ∧ xs[i * 3 + 2]? = some (.string (markT (k0 + 3 * i + 1 + 1)))
theorem MkS.moved {W W' : World} {B n j : Nat} {v : Value} {k0 : Int} (h : MkS W B v n k0 j) (hb : ∀ b, v.ownBlock = some b → W'.heap[b]? = W.heap[b]?) : MkS W' B v n k0 j := by
  obtain ⟨xs, h1, h2⟩ := h
  exact ⟨xs, own_moved h1 hb, h2⟩
theorem MkS.lt {W : World} {B n j : Nat} {v : Value} {k0 : Int} (h : MkS W B v n k0 j) : ∀ b, v.ownBlock = some b → B ≤ b ∧ b < W.heap.size := by
  obtain ⟨xs, h1, -⟩ := h
  exact fun b hb => ⟨(own_type h1 b hb).1, own_lt h1 b hb⟩

set_option maxHeartbeats 3200000 in
theorem markSentS_any (B : Nat) (v : Value) (n : Nat) (xs0 : List Value) (k0 : Int) (w : World) (hk0 : 0 ≤ k0) (hk1 : k0 ≤ 1000000) (hn : n ≤ 4000000) (hrow : w.ownsRow B 65 3 v n xs0) :
    Calls Tryz.prog 38 #[v, .int .i64 k0] w fun e w' => e = .returned (.int .i64 (k0 + 3 * n)) ∧ MkS w' B v n k0 n ∧ KB (fun b => v.ownBlock = some b) w w' := by
  by_cases hz : n = 0
  · subst hz
    obtain ⟨a1, c1, hv⟩ := row_nil hrow rfl
    have HR := (show Hid (_ ∧ True) from ⟨hrow, trivial⟩)
    clear hrow
    rw [hv] at HR ⊢
    go_enter Tryz.func38, Tryz.ntmps38
    go_wp2
    refine wp_loop_rounds 1 ?_
    rw [rounds_succ]
    go_wp2
    go_ret
    exact ⟨int_ret (by simp), ⟨xs0, HR.out.1, fun i hi => by omega⟩, KB.refl _ _⟩
  obtain ⟨g, cap, rfl⟩ := own_some hrow (by omega)
  have HR := (show Hid (_ ∧ True) from ⟨hrow, trivial⟩)
  clear hrow
  go_enter Tryz.func38, Tryz.ntmps38
  go_wp2
  go_loopw [1, 5] (fun kv i wr => ∃ j : Nat, j ≤ n ∧ i = .int .i64 j ∧ kv = .int .i64 (k0 + 3 * j) ∧ Hid (MkS wr B (.slice (some ⟨g, 0, none⟩) n cap) n k0 j) ∧ Hid (KB (fun b => some g = some b) w wr)) (fun _ i _ => n - (intOf i).toNat)
  case atStart => exact ⟨0, Nat.zero_le _, rfl, by simp, ⟨xs0, HR.out.1, fun i hi => by omega⟩, KB.refl _ _⟩
  case round =>
    obtain ⟨j, hj, rfl, rfl, ⟨xs, hrow, hmk⟩, hkb⟩ := hrel
    by_cases hlt : j < n
    · have hxl : xs.length = n * 3 := hrow.1
      have s1 := (hrow.stored (j * 3) (.int .i64 (k0 + 3 * j))).1
      have s2 := (s1.stored (j * 3 + 1) (.int .i64 (k0 + 3 * j + 1))).1
      have x0 : wr.cell? ⟨g, j * 3, none⟩ = some (xs[j * 3]'(by omega)) := by rw [hrow.cellAt _ (by omega)]; exact List.getElem?_eq_getElem _
      have x1 : wr.cell? ⟨g, j * 3 + 1, none⟩ = some (xs[j * 3 + 1]'(by omega)) := by rw [hrow.cellAt _ (by omega)]; exact List.getElem?_eq_getElem _
      generalize xs[j * 3]'(by omega) = y0 at x0
      generalize xs[j * 3 + 1]'(by omega) = y1 at x1
      have f0 := rowFrozen hrow (j * 3)
      have f1 := rowFrozen hrow (j * 3 + 1)
      have kb2 : KB (fun b => some g = some b) w ((wr.setCell ⟨g, j * 3, none⟩ (.int .i64 (k0 + 3 * j))).setCell ⟨g, j * 3 + 1, none⟩ (.int .i64 (k0 + 3 * j + 1))) := (hkb.out.setCell (p := ⟨g, j * 3, none⟩) rfl _).setCell (p := ⟨g, j * 3 + 1, none⟩) rfl _
      have HX := (show Hid (_ ∧ _ ∧ _ ∧ _) from ⟨s2, kb2, hmk, hxl⟩)
      have hlt' : ((j : Nat) : Int) < ((n : Nat) : Int) := by omega
      clear s1 s2 kb2 hmk hxl hrow hkb HR
      go_wp2_with fail
      refine (markText_any _ _ (by omega)).mono ?_
      rintro e w1 ⟨rfl, b1⟩
      have r1 := own_moved HX.out.1 (fun q hq => b1.block q (own_lt HX.out.1 q hq))
      have hxl := HX.out.2.2.2
      have x2 : w1.cell? ⟨g, j * 3 + 2, none⟩ = some (((xs.set (j * 3) (.int .i64 (k0 + 3 * j))).set (j * 3 + 1) (.int .i64 (k0 + 3 * j + 1)))[j * 3 + 2]'(by simp; omega)) := by rw [r1.cellAt _ (by omega)]; exact List.getElem?_eq_getElem _
      generalize ((xs.set (j * 3) (.int .i64 (k0 + 3 * j))).set (j * 3 + 1) (.int .i64 (k0 + 3 * j + 1)))[j * 3 + 2]'(by simp; omega) = y2 at x2
      have f2 := rowFrozen r1 (j * 3 + 2)
      have s3 := (r1.stored (j * 3 + 2) (.string (markT (k0 + 3 * j + 1 + 1)))).1
      have kb3 : KB (fun b => some g = some b) w (w1.setCell ⟨g, j * 3 + 2, none⟩ (.string (markT (k0 + 3 * j + 1 + 1)))) := (HX.out.2.1.trans (KB.of_below b1)).setCell (p := ⟨g, j * 3 + 2, none⟩) rfl _
      have HY := (show Hid (_ ∧ _) from ⟨s3, kb3⟩)
      clear r1 s3 kb3 b1 x0 x1 f0 f1
      go_wp2
      refine ⟨⟨j + 1, by omega, by go_num, int_eqv (by omega), ⟨_, HY.out.1, fun i hi => ?_⟩, HY.out.2⟩, by simp [intOf]; omega⟩
      by_cases hij : i < j
      · obtain ⟨a0, a1, a2⟩ := HX.out.2.2.1 i hij
        refine ⟨?_, ?_, ?_⟩
        · rw [List.getElem?_set_ne (by omega), List.getElem?_set_ne (by omega), List.getElem?_set_ne (by omega)]; exact a0
        · rw [List.getElem?_set_ne (by omega), List.getElem?_set_ne (by omega), List.getElem?_set_ne (by omega)]; exact a1
        · rw [List.getElem?_set_ne (by omega), List.getElem?_set_ne (by omega), List.getElem?_set_ne (by omega)]; exact a2
      · obtain rfl : i = j := by omega
        refine ⟨?_, ?_, ?_⟩
        · rw [List.getElem?_set_ne (by omega), List.getElem?_set_ne (by omega), List.getElem?_set_self (by omega)]
        · rw [List.getElem?_set_ne (by omega), List.getElem?_set_self (by rw [List.length_set]; omega)]
        · rw [List.getElem?_set_self (by rw [List.length_set, List.length_set]; omega)]
    · obtain rfl : j = n := by omega
      have HF := (show Hid (_ ∧ _) from ⟨(⟨xs, hrow, hmk⟩ : MkS wr B (.slice (some ⟨g, 0, none⟩) j cap) j k0 j), hkb.out⟩)
      clear hrow hmk hkb
      go_wp2
      go_ret
      exact ⟨rfl, HF.out.1, HF.out.2⟩

set_option maxHeartbeats 3200000 in
theorem heldSentS_any (B : Nat) (v : Value) (n : Nat) (k0 : Int) (w : World) (hk0 : 0 ≤ k0) (hk1 : k0 ≤ 1000000) (hn : n ≤ 4000000) (h : MkS w B v n k0 n) :
    Calls Tryz.prog 41 #[v, .int .i64 k0] w fun e w' => e = .returned (.int .i64 (k0 + 3 * n)) ∧ Below w.heap.size w w' := by
  obtain ⟨xs, hrow, hmk⟩ := h
  by_cases hz : n = 0
  · subst hz
    obtain ⟨a1, c1, rfl⟩ := row_nil hrow rfl
    clear hrow
    go_enter Tryz.func41, Tryz.ntmps41
    go_wp2
    refine wp_loop_rounds 1 ?_
    rw [rounds_succ]
    go_wp2
    go_ret
    exact ⟨int_ret (by simp), Below.refl _ _⟩
  obtain ⟨g, cap, rfl⟩ := own_some hrow (by omega)
  have hlg := own_lt hrow g rfl
  have HC : Hid (∀ j : Nat, j < n → w.cell? ⟨g, j * 3, none⟩ = some (.int .i64 (k0 + 3 * j)) ∧ w.cell? ⟨g, j * 3 + 1, none⟩ = some (.int .i64 (k0 + 3 * j + 1)) ∧ w.cell? ⟨g, j * 3 + 2, none⟩ = some (.string (markT (k0 + 3 * j + 1 + 1)))) := fun j hj => by
    obtain ⟨a0, a1, a2⟩ := hmk j hj
    exact ⟨(hrow.cellAt _ (by omega)).trans a0, (hrow.cellAt _ (by omega)).trans a1, (hrow.cellAt _ (by omega)).trans a2⟩
  clear hrow hmk
  go_enter Tryz.func41, Tryz.ntmps41
  go_wp2
  go_loopw [1, 5] (fun kv i wr => ∃ j : Nat, j ≤ n ∧ i = .int .i64 j ∧ kv = .int .i64 (k0 + 3 * j) ∧ Below w.heap.size w wr) (fun _ i _ => n - (intOf i).toNat)
  case atStart => exact ⟨0, Nat.zero_le _, rfl, by simp, Below.refl _ _⟩
  case round =>
    obtain ⟨j, hj, rfl, rfl, hbw⟩ := hrel
    by_cases hlt : j < n
    · obtain ⟨a0, a1, a2⟩ := HC.out j hlt
      rw [← hbw.cell (by exact hlg)] at a0 a1 a2
      have hlt' : ((j : Nat) : Int) < ((n : Nat) : Int) := by omega
      have hsz := hbw.size
      have e0 : (k0 + 3 * (j : Int) != k0 + 3 * (j : Int)) = false := by simp
      have e1 : (k0 + 3 * (j : Int) + 1 != k0 + 3 * (j : Int) + 1) = false := by simp
      have HB := (show Hid (_ ∧ True) from ⟨hbw, trivial⟩)
      have et : ((markT (k0 + 3 * (j : Int) + 1 + 1)).toList == (markT (k0 + 3 * (j : Int) + 1 + 1)).toList) = true := by simp
      have et' : ((markT (k0 + 3 * (j : Int) + 1 + 1)).toList != (markT (k0 + 3 * (j : Int) + 1 + 1)).toList) = false := by simp
      clear HC hbw
      go_wp2_with fail
      go_region_with (go_at_call 75; refine (markText_any _ _ (by omega)).mono ?_; rintro e w1 ⟨rfl, b1⟩; have a3 : w1.cell? ⟨g, j * 3 + 2, none⟩ = some (.string (markT (k0 + 3 * (j : Int) + 1 + 1))) := ((b1.cell (p := ⟨g, j * 3 + 2, none⟩) (Nat.lt_of_lt_of_le hlg hsz)).trans a2))
      all_goals
        have hbw2 : Below w.heap.size w w1 := HB.out.1.drew.trans (b1.mono hsz)
        clear b1
        go_wp2
        go_roundw
        case rel => exact ⟨j + 1, by omega, by go_num, int_eqv (by omega), hbw2⟩
        case measure => simp [intOf]; omega
    · clear HC
      obtain rfl : j = n := by omega
      go_wp2
      go_ret
      exact ⟨rfl, hbw⟩

/-- Where the marks of the j-th row begin. -/
def seE (k0 : Int) (rs : List (Se × Value)) (j : Nat) : Int := k0 + (((rs.take j).map (fun r => 1 + r.1.ids.length)).sum : Nat)
theorem seE_zero (k0 : Int) (rs : List (Se × Value)) : seE k0 rs 0 = k0 := by simp [seE]
theorem seE_succ {k0 : Int} {rs : List (Se × Value)} {j : Nat} {r : Se × Value} (h : rs[j]? = some r) : seE k0 rs (j + 1) = seE k0 rs j + 1 + (r.1.ids.length : Int) := by
  have hj := (List.getElem?_eq_some_iff.1 h).1
  unfold seE
  rw [List.take_succ_eq_append_getElem hj, List.map_append, List.sum_append, (List.getElem?_eq_some_iff.1 h).2]
  simp
  omega
theorem seE_ge (k0 : Int) (rs : List (Se × Value)) (j : Nat) : k0 ≤ seE k0 rs j := by unfold seE; omega
theorem seE_le (k0 : Int) (rs : List (Se × Value)) (j : Nat) : seE k0 rs j ≤ seE k0 rs rs.length := by
  unfold seE
  rw [List.take_length]
  conv => rhs; rw [← List.take_append_drop j rs, List.map_append, List.sum_append]
  omega
theorem seE_len (k0 : Int) (rs : List (Se × Value)) (j : Nat) (hj : j ≤ rs.length) : k0 + j ≤ seE k0 rs j := by
  unfold seE
  have : ∀ l : List (Se × Value), l.length ≤ (l.map (fun r => 1 + r.1.ids.length)).sum := fun l => by
    induction l with
    | nil => simp
    | cons a l ih => simp only [List.length_cons, List.map_cons, List.sum_cons]; omega
  have h1 := this (rs.take j)
  rw [List.length_take] at h1
  omega
theorem seE_bulk (k0 : Int) (rs : List (Se × Value)) : seE k0 rs rs.length = k0 + (bulkN (rs.map Prod.fst) : Int) := by
  unfold seE bulkN preN
  rw [List.take_length, List.take_length, List.map_map, List.length_map]
  have : ∀ l : List (Se × Value), (l.map (fun r => 1 + r.1.ids.length)).sum = l.length + (l.map (Se.bulk ∘ Prod.fst)).sum := fun l => by
    induction l with
    | nil => rfl
    | cons a l ih => simp only [List.length_cons, List.map_cons, List.sum_cons, ih, Function.comp, Se.bulk]; omega
  rw [this]
/-- The first j rows of what was taken bear marks. -/
structure MkN (w : World) (B : Nat) (v : Value) (rs : List (Se × Value)) (k0 : Int) (j : Nat) : Prop where
  row : ∃ xs, w.ownsRow B 83 2 v rs.length xs ∧ (∀ (i : Nat) (r : Se × Value), rs[i]? = some r → xs[i * 2 + 1]? = some r.2) ∧ (∀ i : Nat, i < j → xs[i * 2]? = some (.int .i64 (seE k0 rs i)))
  kids : ∀ (i : Nat) (r : Se × Value), rs[i]? = some r → ∃ ys, w.ownsRow B 3 1 r.2 r.1.ids.length ys ∧ (i < j → ys = intVs (marksI (seE k0 rs i + 1) r.1.ids.length))
  apart : (rs.map Prod.snd).Pairwise AptV
theorem MkN.moved {W W' : World} {B j : Nat} {v : Value} {rs : List (Se × Value)} {k0 : Int} (h : MkN W B v rs k0 j) (hb : ∀ b, SeBlk v rs b → W'.heap[b]? = W.heap[b]?) : MkN W' B v rs k0 j := by
  refine ⟨?_, fun i r hr => ?_, h.apart⟩
  · obtain ⟨xs, h1, h2⟩ := h.row
    exact ⟨xs, own_moved h1 (fun b hg => hb b (.inl hg)), h2⟩
  · obtain ⟨ys, h1, h2⟩ := h.kids i r hr
    exact ⟨ys, own_moved h1 (fun b hg => hb b (.inr ⟨r, List.mem_of_getElem? hr, hg⟩)), h2⟩
theorem MkN.own {W : World} {B j : Nat} {v : Value} {rs : List (Se × Value)} {k0 : Int} (h : MkN W B v rs k0 j) {b : Nat} (hb : SeBlk v rs b) : B ≤ b ∧ b < W.heap.size := by
  rcases hb with hb | ⟨r, hr, hb⟩
  · obtain ⟨xs, h1, -⟩ := h.row
    exact ⟨(own_type h1 b hb).1, own_lt h1 b hb⟩
  · obtain ⟨i, hi⟩ := List.getElem?_of_mem hr
    obtain ⟨ys, h1, -⟩ := h.kids i r hi
    exact ⟨(own_type h1 b hb).1, own_lt h1 b hb⟩
theorem MkN.start {W : World} {B : Nat} {v : Value} {rs : List (Se × Value)} (h : SeOwn W B v rs) (k0 : Int) : MkN W B v rs k0 0 := by
  refine ⟨⟨_, h.cells, fun i r hr => ?_, fun i hi => by omega⟩, fun i r hr => ⟨_, (h.kids r (List.mem_of_getElem? hr)).1, fun hi => by omega⟩, h.apart⟩
  have hil := (List.getElem?_eq_some_iff.1 hr).1
  have hsp : rs = rs.take i ++ (r.1, r.2) :: rs.drop (i + 1) := by
    conv => lhs; rw [← List.take_append_drop i rs, List.drop_eq_getElem_cons hil, (List.getElem?_eq_some_iff.1 hr).2]
  have hlt : (rs.take i).length = i := by rw [List.length_take]; omega
  have := se_mid (rs.take i) (rs.drop (i + 1)) r.1 r.2 1 (by omega)
  rw [hlt, ← hsp] at this
  exact this
theorem MkN.apt {W : World} {B j : Nat} {v : Value} {rs : List (Se × Value)} {k0 : Int} (h : MkN W B v rs k0 j) {i i' : Nat} {r r' : Se × Value} (hr : rs[i]? = some r) (hr' : rs[i']? = some r') (hne : i ≠ i') : AptV r.2 r'.2 := by
  have hi := (List.getElem?_eq_some_iff.1 hr).1
  have hi' := (List.getElem?_eq_some_iff.1 hr').1
  have hp := List.pairwise_iff_getElem.1 h.apart
  have key : ∀ (a b : Nat) (x y : Se × Value), rs[a]? = some x → rs[b]? = some y → a < b → AptV x.2 y.2 := fun a b x y hx hy hab => by
    have ha := (List.getElem?_eq_some_iff.1 hx).1
    have hb := (List.getElem?_eq_some_iff.1 hy).1
    have := hp a b (by simpa using ha) (by simpa using hb) hab
    simp only [List.getElem_map] at this
    rw [(List.getElem?_eq_some_iff.1 hx).2, (List.getElem?_eq_some_iff.1 hy).2] at this
    exact this
  rcases Nat.lt_or_gt_of_ne hne with hlt | hgt
  · exact key i i' r r' hr hr' hlt
  · exact (key i' i r' r hr' hr hgt).symm

set_option maxHeartbeats 3200000 in
theorem markSeenS_any (B : Nat) (v : Value) (rs : List (Se × Value)) (k0 : Int) (w : World) (hk0 : 0 ≤ k0) (hE : seE k0 rs rs.length ≤ 90000000) (hS : SeOwn w B v rs) :
    Calls Tryz.prog 39 #[v, .int .i64 k0] w fun e w' => e = .returned (.int .i64 (seE k0 rs rs.length)) ∧ MkN w' B v rs k0 rs.length ∧ KB (SeBlk v rs) w w' := by
  by_cases hz : rs.length = 0
  · obtain rfl : rs = [] := List.eq_nil_of_length_eq_zero hz
    obtain ⟨a1, c1, hv⟩ := row_nil hS.cells rfl
    have HR := (show Hid (_ ∧ True) from ⟨MkN.start hS k0, trivial⟩)
    clear hS
    rw [hv] at HR ⊢
    go_enter Tryz.func39, Tryz.ntmps39
    go_wp2
    refine wp_loop_rounds 1 ?_
    rw [rounds_succ]
    go_wp2
    go_ret
    exact ⟨int_ret (by simp [seE]), HR.out.1, KB.refl _ _⟩
  obtain ⟨g, cap, rfl⟩ := own_some hS.cells (by omega)
  have HR := (show Hid (_ ∧ True) from ⟨MkN.start hS k0, trivial⟩)
  have hlen := seE_len k0 rs rs.length (Nat.le_refl _)
  clear hS
  go_enter Tryz.func39, Tryz.ntmps39
  go_wp2
  go_loopw [1, 5] (fun kv i wr => ∃ j : Nat, j ≤ rs.length ∧ i = .int .i64 j ∧ kv = .int .i64 (seE k0 rs j) ∧ Hid (MkN wr B (.slice (some ⟨g, 0, none⟩) rs.length cap) rs k0 j) ∧ Hid (KB (SeBlk (.slice (some ⟨g, 0, none⟩) rs.length cap) rs) w wr)) (fun _ i _ => rs.length - (intOf i).toNat)
  case atStart => exact ⟨0, Nat.zero_le _, rfl, by rw [seE_zero], HR.out.1, KB.refl _ _⟩
  case round =>
    obtain ⟨j, hj, rfl, rfl, hM, hkb⟩ := hrel
    have hke := seE_le k0 rs (j + 1)
    have hkg := seE_ge k0 rs j
    by_cases hlt : j < rs.length
    · have hr := List.getElem?_eq_getElem hlt
      have hen := seE_succ (k0 := k0) hr
      generalize rs[j] = r at *
      obtain ⟨xs, hrow, hsnd, hmk⟩ := hM.out.row
      obtain ⟨ys, hkid, -⟩ := hM.out.kids j r hr
      have hxl : xs.length = rs.length * 2 := hrow.1
      have s1 := (hrow.stored (j * 2) (.int .i64 (seE k0 rs j))).1
      have x0 : wr.cell? ⟨g, j * 2, none⟩ = some (xs[j * 2]'(by omega)) := by rw [hrow.cellAt _ (by omega)]; exact List.getElem?_eq_getElem _
      have x1 : wr.cell? ⟨g, j * 2 + 1, none⟩ = some r.2 := (hrow.cellAt _ (by omega)).trans (hsnd j r hr)
      generalize xs[j * 2]'(by omega) = y0 at x0
      have f0 := rowFrozen hrow (j * 2)
      obtain ⟨ra, rc, hra⟩ := own_form hkid
      rw [hra] at x1
      have hkid1 := own_moved (W' := wr.setCell ⟨g, j * 2, none⟩ (.int .i64 (seE k0 rs j))) hkid (fun q hq => Below.heap_setCell _ _ _ q (fun e => own_ne hkid hrow (by decide) q hq (congrArg some e)))
      have hmi := markIntS_any B r.2 r.1.ids.length ys (seE k0 rs j + 1) _ (by omega) (by omega) (by omega) hkid1
      rw [hra] at hmi
      have HX := (show Hid (_ ∧ _ ∧ _ ∧ _ ∧ _ ∧ _ ∧ _ ∧ _ ∧ _) from ⟨s1, hmi, hM.out, hkb.out, hxl, hsnd, hmk, hra, hkid1⟩)
      have HH := (show Hid (_ ∧ _ ∧ _) from ⟨hr, hen, hrow⟩)
      have hlt' : ((j : Nat) : Int) < ((rs.length : Nat) : Int) := by omega
      clear s1 hmi hM hkb hxl hsnd hmk hra hr hrow hkid hkid1 HR
      have HK : Hid (seE k0 rs j = seE k0 rs j) := rfl
      obtain ⟨k, hk⟩ : ∃ k, k = seE k0 rs j := ⟨_, rfl⟩
      rw [← hk] at HX HH HK hkg hen ⊢
      have HK : Hid (seE k0 rs j = k) := hk.symm
      clear hk
      go_wp2_with fail
      refine HX.out.2.1.mono ?_
      rintro e w1 ⟨rfl, O1, g1⟩
      have hR := HX.out.2.2.2.2.2.2.2.1
      rw [← hR] at O1 g1
      have hk1 := HX.out.2.2.2.2.2.2.2.2
      have hs1 := HX.out.1
      have hrow1 := own_moved hs1 (fun b hb => g1.block b (own_lt hs1 b hb) (own_ne hs1 hk1 (by decide) b hb))
      have hlen1 : (xs.set (j * 2) (.int .i64 k)).length = rs.length * 2 := by rw [List.length_set]; exact HX.out.2.2.2.2.1
      have hkb1 : KB (SeBlk (.slice (some ⟨g, 0, none⟩) rs.length cap) rs) w w1 := by
        have a1 := HX.out.2.2.2.1.setCell (p := ⟨g, j * 2, none⟩) (.inl rfl) (.int .i64 k)
        exact a1.trans ⟨g1.os, g1.tape, g1.output, g1.size, fun q hq hx => g1.block q hq (fun e => hx (.inr ⟨r, List.mem_of_getElem? HH.out.1, e.symm⟩))⟩
      have hnext : MkN w1 B (.slice (some ⟨g, 0, none⟩) rs.length cap) rs k0 (j + 1) := by
        refine ⟨⟨_, hrow1, fun i r' hr' => ?_, fun i hi => ?_⟩, fun i r' hr' => ?_, HX.out.2.2.1.apart⟩
        · rw [List.getElem?_set_ne (by omega)]
          exact HX.out.2.2.2.2.2.1 i r' hr'
        · by_cases hij : i = j
          · subst hij
            rw [List.getElem?_set_self (by have := HX.out.2.2.2.2.1; omega), HK.out]
          · rw [List.getElem?_set_ne (by omega)]
            exact HX.out.2.2.2.2.2.2.1 i (by omega)
        · by_cases hij : i = j
          · subst hij
            obtain rfl : r = r' := Option.some.inj (HH.out.1.symm.trans hr')
            exact ⟨_, O1, fun _ => by rw [HK.out]⟩
          · obtain ⟨ys', k1, k2⟩ := HX.out.2.2.1.kids i r' hr'
            have hap := HX.out.2.2.1.apt hr' HH.out.1 hij
            have m1 := own_moved (W' := wr.setCell ⟨g, j * 2, none⟩ (.int .i64 k)) k1 (fun q hq => Below.heap_setCell _ _ _ q (fun e => own_ne k1 HH.out.2.2 (by decide) q hq (congrArg some e)))
            exact ⟨ys', own_kept m1 g1 hap, fun hi => k2 (by omega)⟩
      have HF := (show Hid (_ ∧ _) from ⟨hnext, hkb1⟩)
      clear hnext hkb1 hrow1 O1 g1 x0 x1 f0 hk1 hs1
      go_wp2
      refine ⟨⟨j + 1, by omega, by go_num, ?_, HF.out.1, HF.out.2⟩, by simp [intOf]; omega⟩
      rw [HH.out.2.1]
    · obtain rfl : j = rs.length := by omega
      have HF := (show Hid (_ ∧ _) from ⟨hM.out, hkb.out⟩)
      clear hM hkb
      go_wp2
      go_ret
      exact ⟨rfl, HF.out.1, HF.out.2⟩

set_option maxHeartbeats 3200000 in
theorem heldSeenS_any (B : Nat) (v : Value) (rs : List (Se × Value)) (k0 : Int) (w : World) (hk0 : 0 ≤ k0) (hE : seE k0 rs rs.length ≤ 90000000) (hM : MkN w B v rs k0 rs.length) :
    Calls Tryz.prog 42 #[v, .int .i64 k0] w fun e w' => e = .returned (.int .i64 (seE k0 rs rs.length)) ∧ Below w.heap.size w w' := by
  obtain ⟨xs, hrow, hsnd, hmk⟩ := hM.row
  by_cases hz : rs.length = 0
  · obtain rfl : rs = [] := List.eq_nil_of_length_eq_zero hz
    obtain ⟨a1, c1, rfl⟩ := row_nil hrow rfl
    clear hM hrow hsnd hmk
    go_enter Tryz.func42, Tryz.ntmps42
    go_wp2
    refine wp_loop_rounds 1 ?_
    rw [rounds_succ]
    go_wp2
    go_ret
    exact ⟨int_ret (by simp [seE]), Below.refl _ _⟩
  obtain ⟨g, cap, rfl⟩ := own_some hrow (by omega)
  have hlg := own_lt hrow g rfl
  have hlen := seE_len k0 rs rs.length (Nat.le_refl _)
  have HC : Hid (∀ (j : Nat) (r : Se × Value), rs[j]? = some r → w.cell? ⟨g, j * 2, none⟩ = some (.int .i64 (seE k0 rs j)) ∧ w.cell? ⟨g, j * 2 + 1, none⟩ = some r.2 ∧ w.ownsRow B 3 1 r.2 r.1.ids.length (intVs (marksI (seE k0 rs j + 1) r.1.ids.length))) := fun j r hr => by
    have hj := (List.getElem?_eq_some_iff.1 hr).1
    obtain ⟨ys, k1, k2⟩ := hM.kids j r hr
    rw [k2 hj] at k1
    exact ⟨(hrow.cellAt _ (by omega)).trans (hmk j hj), (hrow.cellAt _ (by omega)).trans (hsnd j r hr), k1⟩
  clear hrow hmk hsnd hM
  go_enter Tryz.func42, Tryz.ntmps42
  go_wp2
  go_loopw [1, 5] (fun kv i wr => ∃ j : Nat, j ≤ rs.length ∧ i = .int .i64 j ∧ kv = .int .i64 (seE k0 rs j) ∧ Below w.heap.size w wr) (fun _ i _ => rs.length - (intOf i).toNat)
  case atStart => exact ⟨0, Nat.zero_le _, rfl, by rw [seE_zero], Below.refl _ _⟩
  case round =>
    obtain ⟨j, hj, rfl, rfl, hbw⟩ := hrel
    have hke := seE_le k0 rs (j + 1)
    have hkg := seE_ge k0 rs j
    by_cases hlt : j < rs.length
    · have hr := List.getElem?_eq_getElem hlt
      have hen := seE_succ (k0 := k0) hr
      generalize rs[j] = r at *
      obtain ⟨a0, a1, hkid⟩ := HC.out j r hr
      rw [← hbw.cell (by exact hlg)] at a0 a1
      obtain ⟨ra, rc, hra⟩ := own_form hkid
      have hkid1 := own_moved hkid (fun q hq => hbw.block q (own_lt hkid q hq))
      have hh := heldIntS_any B r.2 r.1.ids.length (seE k0 rs j + 1) _ (by omega) (by omega) (by omega) hkid1
      rw [hra] at hh a1
      have hlt' : ((j : Nat) : Int) < ((rs.length : Nat) : Int) := by omega
      have hsz := hbw.size
      have HD := (show Hid (_ ∧ _ ∧ _) from ⟨hh, hbw, hen⟩)
      clear hh hbw hr hkid hkid1 hra HC
      generalize seE k0 rs j = k at *
      have e0 : (k != k) = false := by simp
      have hng : ¬ k + 1 + (r.1.ids.length : Int) < 0 := by omega
      go_wp2_with fail
      refine HD.out.1.mono ?_
      rintro e w2 ⟨rfl, hb2⟩
      have hbw3 : Below w.heap.size w w2 := HD.out.2.1.trans (hb2.mono hsz)
      clear hb2
      go_wp2
      refine ⟨⟨j + 1, by omega, by go_num, ?_, hbw3⟩, by simp [intOf]; omega⟩
      rw [HD.out.2.2]
    · clear HC
      obtain rfl : j = rs.length := by omega
      go_wp2
      go_ret
      exact ⟨rfl, hbw⟩

/-- A link whose rows bear marks. -/
structure MkL (w : World) (B : Nat) (l : Lk) (ov sv : Value) (rs : List (Se × Value)) (k0 : Int) : Prop where
  out : MkS w B ov l.out.length k0 l.out.length
  seen : MkN w B sv rs (k0 + 3 * (l.out.length : Int)) rs.length
theorem MkL.moved {W W' : World} {B : Nat} {l : Lk} {ov sv : Value} {rs : List (Se × Value)} {k0 : Int} (h : MkL W B l ov sv rs k0) (hb : ∀ b, LkBlk ov sv rs b → W'.heap[b]? = W.heap[b]?) : MkL W' B l ov sv rs k0 :=
  ⟨h.out.moved (fun b hg => hb b (.inl hg)), h.seen.moved (fun b hg => hb b (.inr hg))⟩
theorem MkL.own {W : World} {B : Nat} {l : Lk} {ov sv : Value} {rs : List (Se × Value)} {k0 : Int} (h : MkL W B l ov sv rs k0) {b : Nat} (hb : LkBlk ov sv rs b) : B ≤ b ∧ b < W.heap.size := by
  rcases hb with hb | hb
  · exact h.out.lt b hb
  · exact h.seen.own hb
theorem MkL.below {W W' : World} {B : Nat} {l : Lk} {ov sv : Value} {rs : List (Se × Value)} {k0 : Int} (h : MkL W B l ov sv rs k0) (hb : Below W.heap.size W W') : MkL W' B l ov sv rs k0 :=
  h.moved (fun b hk => hb.block b (h.own hk).2)
/-- How far the marks of a link come. -/
def mkE (k0 : Int) (l : Lk) : Int := k0 + 3 * (l.out.length : Int) + (bulkN l.seen : Int)

set_option maxHeartbeats 1600000 in
theorem markLink_any (B : Nat) (v : Value) (l : Lk) (ov sv : Value) (rs : List (Se × Value)) (k0 : Int) (w : World) (hk0 : 0 ≤ k0) (hk1 : k0 ≤ 1000000) (hb : l.bulk ≤ 3000000) (h : LkOwn w B v l ov sv rs) :
    Calls Tryz.prog 13 #[v, .int .i64 k0] w fun e w' => e = .returned (.int .i64 (mkE k0 l)) ∧ MkL w' B l ov sv rs k0 ∧ KB (LkBlk ov sv rs) w w' := by
  have hbe := (show l.bulk = bulkO l.out + bulkN l.seen from rfl)
  have hbo := (show bulkO l.out = l.out.length + preO l.out l.out.length from rfl)
  have hse := seE_bulk (k0 + 3 * (l.out.length : Int)) rs
  rw [h.is] at hse
  have hrl : rs.length = l.seen.length := by rw [← h.is]; simp
  obtain ⟨oa, oc, hov⟩ := own_form h.out.1
  obtain ⟨n2, sa, sc, hn2, hsv⟩ := own_formN h.seen.cells
  obtain rfl : n2 = l.seen.length := by omega
  obtain ⟨W0, hW0⟩ : ∃ W0, W0 = w.alloc (.cells (l.row (.slice oa l.out.length oc) (.slice sa l.seen.length sc)) 36) := ⟨_, rfl⟩
  have B0 : Below w.heap.size w W0 := by rw [hW0]; exact (Below.refl _ w).alloc (Nat.le_refl _) _
  have O0 : W0.heap[w.heap.size]? = some (.cells (l.row (.slice oa l.out.length oc) (.slice sa l.seen.length sc)) 36) := by rw [hW0]; exact (MapKept.heap_alloc w _).1
  have h0 := h.below B0
  have hm := markSentS_any B ov l.out.length _ k0 W0 hk0 hk1 (by omega) h0.out.1
  rw [hov] at hm
  have H0 := (show Hid (_ ∧ _ ∧ _ ∧ _ ∧ _ ∧ _ ∧ _ ∧ _ ∧ _ ∧ _) from ⟨hm, h0, B0, O0, hov, hsv, hse, hrl, h.val, hW0⟩)
  have hown := h
  have hval : v = .agg (l.row (.slice oa l.out.length oc) (.slice sa l.seen.length sc)) := by rw [h.val, hov, hsv]
  have hlt : ∀ b, LkBlk ov sv rs b → b < w.heap.size := fun b hb => (h.own hb).2
  have HL := (show Hid (_ ∧ True) from ⟨hlt, trivial⟩)
  clear hlt hown h hm h0 B0 O0 hov hsv hse hrl hW0 hn2
  subst hval
  go_enter Tryz.func13, Tryz.ntmps13
  go_wp2_with fail
  rw [← (show W0 = _ from H0.out.2.2.2.2.2.2.2.2.2)]
  refine H0.out.1.mono ?_
  rintro e w1 ⟨rfl, m1, k1⟩
  rw [← H0.out.2.2.2.2.1] at m1 k1
  have hl0 := H0.out.2.1
  have hcross : ∀ b, ov.ownBlock = some b → ¬ SeBlk sv rs b := fun b hb hs => by
    rcases hs with hs | ⟨r, hr, hs⟩
    · exact own_ne hl0.out.1 hl0.seen.cells (by decide) b hb hs.symm
    · exact own_ne hl0.out.1 (hl0.seen.kids r hr).1 (by decide) b hb hs.symm
  have s1 : SeOwn w1 B sv rs := hl0.seen.moved (fun b hb => k1.block b (hl0.own (.inr hb)).2 (fun hx => hcross b hx hb))
  have o1 := k1.heap H0.out.2.2.2.1 (fun hx => by have := HL.out.1 _ (.inl hx); omega)
  have hse := H0.out.2.2.2.2.2.2.1
  have hm2 := markSeenS_any B sv rs (k0 + 3 * (l.out.length : Int)) w1 (by omega) (by rw [hse]; omega) s1
  rw [H0.out.2.2.2.2.2.1] at hm2
  have H1 := (show Hid (_ ∧ _ ∧ _ ∧ _ ∧ _) from ⟨hm2, m1, k1, hcross, s1⟩)
  obtain ⟨q0, q1, q2, q3⟩ := lbox o1
  clear hm2 m1 k1 hcross s1 o1 hse hl0
  go_wp2_with fail
  refine H1.out.1.mono ?_
  rintro e w2 ⟨rfl, m2, k2⟩
  rw [← H0.out.2.2.2.2.2.1] at m2 k2
  have m1' : MkS w2 B ov l.out.length k0 l.out.length := H1.out.2.1.moved (fun b hb => k2.block b (H1.out.2.1.lt b hb).2 (fun hx => H1.out.2.2.2.1 b hb hx))
  have HF := (show Hid (_ ∧ _) from ⟨(⟨m1', m2⟩ : MkL w2 B l ov sv rs k0), ((KB.of_below H0.out.2.2.1).trans ((H1.out.2.2.1.more (fun b _ hx => .inl hx)).trans (k2.more (fun b _ hx => .inr hx))) : KB (LkBlk ov sv rs) w w2)⟩)
  have hse := H0.out.2.2.2.2.2.2.1
  have HS := (show Hid (_ ∧ True) from ⟨hse, trivial⟩)
  generalize seE (k0 + 3 * (l.out.length : Int)) rs rs.length = kk at *
  clear m1' m2 k2 hse q0 q1 q2 q3
  go_wp2
  go_ret
  exact ⟨int_ret (by rw [HS.out.1]; rfl), HF.out.1, HF.out.2⟩

set_option maxHeartbeats 1600000 in
theorem heldLink_any (B : Nat) (v : Value) (l : Lk) (ov sv : Value) (rs : List (Se × Value)) (k0 : Int) (w : World) (hk0 : 0 ≤ k0) (hk1 : k0 ≤ 1000000) (hb : l.bulk ≤ 3000000) (h : MkL w B l ov sv rs k0) (his : rs.map Prod.fst = l.seen) (hv : v = .agg #[.int .i64 l.id, .int .i64 l.next, ov, sv]) :
    Calls Tryz.prog 15 #[v, .int .i64 k0] w fun e w' => e = .returned (.int .i64 (mkE k0 l)) ∧ Below w.heap.size w w' := by
  have hbe := (show l.bulk = bulkO l.out + bulkN l.seen from rfl)
  have hbo := (show bulkO l.out = l.out.length + preO l.out l.out.length from rfl)
  have hse := seE_bulk (k0 + 3 * (l.out.length : Int)) rs
  rw [his] at hse
  have hrl : rs.length = l.seen.length := by rw [← his]; simp
  obtain ⟨xs, hx1, -⟩ := h.out
  obtain ⟨oa, oc, hov⟩ := own_form hx1
  obtain ⟨ys, hy1, -⟩ := h.seen.row
  obtain ⟨n2, sa, sc, hn2, hsv⟩ := own_formN hy1
  obtain rfl : n2 = l.seen.length := by omega
  obtain ⟨W0, hW0⟩ : ∃ W0, W0 = w.alloc (.cells (l.row (.slice oa l.out.length oc) (.slice sa l.seen.length sc)) 36) := ⟨_, rfl⟩
  have B0 : Below w.heap.size w W0 := by rw [hW0]; exact (Below.refl _ w).alloc (Nat.le_refl _) _
  have O0 : W0.heap[w.heap.size]? = some (.cells (l.row (.slice oa l.out.length oc) (.slice sa l.seen.length sc)) 36) := by rw [hW0]; exact (MapKept.heap_alloc w _).1
  have h0 := h.below B0
  have hm := heldSentS_any B ov l.out.length k0 W0 hk0 hk1 (by omega) h0.out
  rw [hov] at hm
  have hs0 : w.heap.size + 1 ≤ W0.heap.size := lt_heap O0
  have H0 := (show Hid (_ ∧ _ ∧ _ ∧ _ ∧ _ ∧ _ ∧ _) from ⟨hm, h0.seen, B0, O0, hsv, hse, hW0⟩)
  have hval : v = .agg (l.row (.slice oa l.out.length oc) (.slice sa l.seen.length sc)) := by rw [hv, hov, hsv]
  clear h hm h0 B0 O0 hov hsv hse hrl hW0 hn2 hx1 hy1 hv
  subst hval
  go_enter Tryz.func15, Tryz.ntmps15
  go_wp2_with fail
  rw [← (show W0 = _ from H0.out.2.2.2.2.2.2)]
  refine H0.out.1.mono ?_
  rintro e w1 ⟨rfl, b1⟩
  have hse := H0.out.2.2.2.2.2.1
  have hs1 : W0.heap.size ≤ w1.heap.size := b1.size
  have hm2 := heldSeenS_any B sv rs (k0 + 3 * (l.out.length : Int)) w1 (by omega) (by rw [hse]; omega) (H0.out.2.1.moved (fun b hb => b1.block b (H0.out.2.1.own hb).2))
  rw [H0.out.2.2.2.2.1] at hm2
  have H1 := (show Hid (_ ∧ _ ∧ _) from ⟨hm2, H0.out.2.2.1.trans (b1.mono (by omega)), hse⟩)
  obtain ⟨q0, q1, q2, q3⟩ := lbox ((b1.block _ (lt_heap H0.out.2.2.2.1)).trans H0.out.2.2.2.1)
  have hng : ¬ k0 + 3 * (l.out.length : Int) < 0 := by omega
  have hng2 : ¬ seE (k0 + 3 * (l.out.length : Int)) rs rs.length < 0 := by rw [hse]; omega
  have hng3 : seE (k0 + 3 * (l.out.length : Int)) rs rs.length ≤ 100000000 := by rw [hse]; omega
  clear hm2 b1 hse H0
  generalize seE (k0 + 3 * (l.out.length : Int)) rs rs.length = kk at *
  go_wp2_with fail
  refine H1.out.1.mono ?_
  rintro e w2 ⟨rfl, b2⟩
  have HF := (show Hid (_ ∧ True) from ⟨H1.out.2.1.trans (b2.mono (by omega)), trivial⟩)
  clear b2 q0 q1 q2 q3
  go_wp2
  go_ret
  exact ⟨int_ret (by rw [H1.out.2.2]; rfl), HF.out.1⟩
end Go.Proofs.YtnehfjnanffjeaaGreatDoor
