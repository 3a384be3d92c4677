/-
  The specification's LinkNew.
-/
import Derived.Test.YtbaakhpmfljgnaaLinkNewP
import Derived.BigQuiet
import Derived.Deep.QuietTactic
import Derived.WalkSmall
namespace Go.Proofs.Ytbaakhpmfljgnaa
open Go.RowKit Go.Joins

set_option maxRecDepth 100000

set_option maxHeartbeats 1600000 in
/-- The specification's LinkOk of a new link. -/
theorem specOkNew (id : Int) (n : Nat) (sa : Option Addr) (sc B : Nat) (w : World) (hn : n ≤ 31) (hS : SeOwn w B (.slice sa n sc) (newRows n)) :
    Calls Try.prog 9 #[.agg #[.int .i64 id, .int .i64 1, .slice none 0 0, .slice sa n sc]] w fun e w' => e = .returned (.bool (amongB id n)) ∧ Below w.heap.size w w' := by
  have hnot := ex_not
  obtain ⟨W0, hW0⟩ : ∃ W0, W0 = w.alloc (.cells #[.int .i64 id, .int .i64 1, .slice none 0 0, .slice sa n sc] 25) := ⟨_, rfl⟩
  have B0 : Below w.heap.size w W0 := by rw [hW0]; exact (Below.refl _ w).alloc (Nat.le_refl _) _
  have O0 : W0.heap[w.heap.size]? = some (.cells (Lk.row ⟨id, 1, [], []⟩ (.slice none 0 0) (.slice sa n sc)) 25) := by rw [hW0]; exact (MapKept.heap_alloc w _).1
  have hsn := hS.at
  rw [newRows_fst] at hsn
  have H0 := (show Hid (_ ∧ _ ∧ _ ∧ _) from ⟨hsn, B0, O0, hW0⟩)
  have hin : inB 1 1 999999 = true := rfl
  have hin2 : inB 1 1 1000000 = true := rfl
  clear hS hsn O0
  cases g1 : inB id 0 ((n : Int) - 1) with
  | false =>
    have HR : Hid (amongB id n = false) := by
      show _ = _
      unfold inB at g1
      unfold amongB
      by_cases u1 : 0 ≤ id
      · have u2 : ¬ id < (n : Int) := by intro u; have : id ≤ (n : Int) - 1 := by omega
                                         simp [u1, this] at g1
        simp [u2]
      · simp [u1]
    subst hW0
    go_enter Try.func9, Try.ntmps9
    go_wp2_with (go_at_call 18; refine (specIn_is _ _ _ _ g1 _).mono ?_; rintro e w1 ⟨rfl, rfl⟩)
    go_ret
    exact ⟨by rw [HR.out]; rfl, H0.out.2.1⟩
  | true =>
  have HR : Hid (amongB id n = true) := by
    show _ = _
    unfold inB at g1
    simp only [Bool.and_eq_true, decide_eq_true_eq] at g1
    unfold amongB
    simp
    omega
  have g2 : ¬ (31 : Int) < (n : Int) := by omega
  clear B0
  go_enter Try.func9, Try.ntmps9
  go_wp2_with (go_at_call 18; refine (specIn_any _ _ _ _).mono ?_; simp only [g1, hin]; rintro e w1 ⟨rfl, rfl⟩)
  rw [← hW0]
  clear hW0
  obtain ⟨q0, q1, q2, q3⟩ := lbox H0.out.2.2.1
  refine wp_loop_rounds 1 ?_
  rw [rounds_succ]
  go_wp2
  clear q0 q1 q2 q3
  go_loopw [7] (fun i wr => ∃ k : Nat, k ≤ n ∧ i = .int .i64 k ∧ wr.heap[w.heap.size]? = some (.cells (Lk.row ⟨id, 1, [], []⟩ (.slice none 0 0) (.slice sa n sc)) 25) ∧ Below w.heap.size w wr) (fun i _ => n - (intOf i).toNat)
  case atStart => exact ⟨0, Nat.zero_le _, rfl, H0.out.2.2.1, H0.out.2.1⟩
  case round =>
    obtain ⟨k, hk, rfl, hbox, hbw⟩ := hrel
    have hsz := hbw.size
    have hsz1 : w.heap.size < wr.heap.size := lt_heap hbox
    obtain ⟨q0, q1, q2, q3⟩ := lbox hbox
    by_cases hkl : k < n
    · obtain ⟨a', cap', hv', -, hc'⟩ := H0.out.1
      simp only [Value.slice.injEq, List.length_replicate] at hv'
      obtain ⟨rfl, -, rfl⟩ := hv'
      obtain ⟨b, off, kv, hoa, hSb, hlt2, c0, c1, r0, hkk⟩ := hc' k ⟨1, []⟩ (by rw [List.getElem?_replicate, if_pos hkl])
      subst hoa
      obtain ⟨xa, xc, rfl⟩ := hkk.form
      simp only [List.length_nil] at c1
      rw [← hbw.cell (by exact hlt2)] at c0 c1
      have hlt3 : b < wr.heap.size := Nat.lt_of_lt_of_le hlt2 hsz
      have hlt' : ((k : Nat) : Int) < ((n : Nat) : Int) := by omega
      have HX := (show Hid (_ ∧ _) from ⟨(Below.heap_alloc wr (.cells #[.int .i64 1, .slice xa 0 xc] 33) _ hsz1).trans hbox, hbw.alloc hsz (.cells #[.int .i64 1, .slice xa 0 xc] 33)⟩)
      clear hc' hbox hbw hkk hSb r0
      go_wp2_with (go_at_call 18; refine (specIn_is _ _ _ _ hin2 _).mono ?_; rintro e w1 ⟨rfl, rfl⟩)
      refine wp_loop_rounds 1 ?_
      rw [rounds_succ]
      go_wp2
      refine ⟨⟨k + 1, by omega, by go_num, HX.out.1, HX.out.2⟩, by simp [intOf]; omega⟩
    · obtain rfl : k = n := by omega
      have HF := (show Hid (_ ∧ True) from ⟨hbw, trivial⟩)
      clear hbox hbw
      go_wp2
      go_ret
      exact ⟨by rw [HR.out]; rfl, HF.out.1⟩

/-- How many there will be. -/
def limN (nodes : Int) : Nat := if nodes ≤ 31 then nodes.toNat else 0
theorem among_lim (id nodes : Int) : amongB id (limN nodes) = amongB id nodes := by
  unfold amongB limN
  by_cases h : nodes ≤ 31
  · rw [if_pos h]
    by_cases h0 : 0 ≤ nodes
    · have e : ((nodes.toNat : Nat) : Int) = nodes := by omega
      rw [e]
    · have e : nodes.toNat = 0 := by omega
      rw [e]
      by_cases h1 : 0 ≤ id
      · have h2 : ¬ id < nodes := by omega
        have h3 : ¬ id < ((0 : Nat) : Int) := by omega
        simp [h2]
      · simp [h1]
  · rw [if_neg h]
    by_cases h1 : 0 ≤ id
    · have h3 : ¬ id < ((0 : Nat) : Int) := by omega
      simp [h]
    · simp [h1]
theorem new_of_lim (id nodes : Int) (h : amongB id nodes = true) : newOf id nodes = newL id (limN nodes) := by
  unfold newOf
  rw [h, if_pos rfl]
  unfold amongB at h
  simp only [Bool.and_eq_true, decide_eq_true_eq] at h
  unfold limN
  rw [if_pos h.1.1]
theorem newSe_push {W' : World} {B k : Nat} {cv' : Value} (hown : W'.ownsRow B 33 2 cv' (k + 1) ((newRows k).flatMap seCells ++ [.int .i64 1, .slice none 0 0])) : SeOwn W' B cv' (newRows (k + 1)) := by
  have hl : (newRows (k + 1)).length = k + 1 := by simp [newRows]
  refine ⟨?_, (newSe_kids (W := W') (B := B)).1, (newSe_kids (W := W') (B := B)).2⟩
  rw [hl]
  have e : (newRows (k + 1)).flatMap seCells = (newRows k).flatMap seCells ++ [.int .i64 1, .slice none 0 0] := by
    have := newCells_add k 1
    exact this
  rw [e]
  exact hown

set_option maxHeartbeats 1600000 in
theorem specLinkNew_any (id nodes : Int) (w : World) (hid : inI64 id) :
    Calls Try.prog 4 #[.int .i64 id, .int .i64 nodes] w fun e w' => ∃ v ov sv rs, e = .returned (.tuple #[v, .bool (amongB id nodes)]) ∧ LkOwn w' w.heap.size v (newOf id nodes) ov sv rs ∧ Below w.heap.size w w' := by
  have hnot := ex_not
  obtain ⟨i0, hi, hz0, hz1, hz2⟩ := info_parts infoSeen
  have hlim : (limN nodes : Int) ≤ 31 := by unfold limN; split <;> omega
  obtain ⟨W0, hW0⟩ : ∃ W0, W0 = (w.alloc (.cells #[.int .i64 0, .int .i64 0, .slice none 0 0, .slice none 0 0] 25)).alloc (.cells #[.int .i64 id, .int .i64 1, .slice none 0 0, .slice none 0 0] 25) := ⟨_, rfl⟩
  have B0 : Below w.heap.size w W0 := by rw [hW0]; exact ((Below.refl _ w).alloc (Nat.le_refl _) _).alloc (by simp) _
  have O0 : W0.heap[w.heap.size]? = some (.cells (zeroLk.row (.slice none 0 0) (.slice none 0 0)) 25) := by
    rw [hW0, Below.heap_alloc _ _ _ (by simp)]; exact (MapKept.heap_alloc w _).1
  have O1 : W0.heap[w.heap.size + 1]? = some (.cells (Lk.row ⟨id, 1, [], []⟩ (.slice none 0 0) (.slice none 0 0)) 25) := by
    have := (MapKept.heap_alloc (w.alloc (.cells #[.int .i64 0, .int .i64 0, .slice none 0 0, .slice none 0 0] 25)) (.cells #[.int .i64 id, .int .i64 1, .slice none 0 0, .slice none 0 0] 25)).1
    rw [hW0]
    simpa using this
  have H0 := (show Hid (_ ∧ _ ∧ _ ∧ _) from ⟨B0, O0, O1, hW0⟩)
  clear B0 O0 O1 hW0
  go_enter Try.func4, Try.ntmps4
  go_wp2
  rw [← (show W0 = _ from H0.out.2.2.2)]
  go_loopw [7] (fun i wr => ∃ (k : Nat) (sa : Option Addr) (sc : Nat), k ≤ limN nodes ∧ i = .int .i64 k ∧ SeOwn wr (w.heap.size + 2) (.slice sa k sc) (newRows k) ∧ wr.heap[w.heap.size]? = some (.cells (zeroLk.row (.slice none 0 0) (.slice none 0 0)) 25) ∧ wr.heap[w.heap.size + 1]? = some (.cells (Lk.row ⟨id, 1, [], []⟩ (.slice none 0 0) (.slice sa k sc)) 25) ∧ Below w.heap.size w wr) (fun i _ => limN nodes - (intOf i).toNat)
  case atStart => exact ⟨0, none, 0, Nat.zero_le _, rfl, ⟨⟨rfl, .inl ⟨rfl, rfl⟩⟩, fun r hr => by simp [newRows] at hr, by simp [newRows]⟩, H0.out.2.1, H0.out.2.2.1, H0.out.1⟩
  case round =>
    obtain ⟨k, sa, sc, hk, rfl, hS, hres, hbox, hbw⟩ := hrel
    have hsz := hbw.size
    have hsz2 : w.heap.size + 1 < wr.heap.size := lt_heap hbox
    obtain ⟨q0, q1, q2, q3⟩ := lbox hbox
    by_cases hkl : k < limN nodes
    · have hnn : nodes ≤ 31 ∧ (k : Int) < nodes := by
        unfold limN at hkl
        split at hkl
        · omega
        · omega
      have d1 : decide ((k : Int) < nodes) = true := decide_eq_true hnn.2
      have d2 : decide (nodes ≤ 31) = true := decide_eq_true hnn.1
      have hrow := hS.cells
      have hrl : (newRows k).length = k := by simp [newRows]
      rw [hrl] at hrow
      have hO := hrow.alloc (.cells #[.int .i64 1, .slice none 0 0] 33)
      have bA : Below wr.heap.size wr (wr.alloc (.cells #[.int .i64 1, .slice none 0 0] 33)) := (Below.refl _ wr).alloc (Nat.le_refl _) _
      have H5 := (show Hid (_ ∧ _ ∧ _ ∧ _) from ⟨hO, (bA.block _ (lt_heap hres)).trans hres, (bA.block _ (lt_heap hbox)).trans hbox, hbw.trans (bA.mono hsz)⟩)
      clear hS hres hbox hbw hrow hO bA hnn
      go_wp2_with (at_builtin; refine wpList_append_own_at _ rfl _ _ 23 rfl (w.heap.size + 2) 33 i0 (.agg #[.int .i64 0, .slice none 0 0]) 2 32 Try.underlying23 hi hz0 hz1 hz2 rfl (by decide) _ k _ rfl H5.out.1 ⟨wr.heap.size, 0, none⟩ 1 1 [.int .i64 1, .slice none 0 0] rfl rfl (Go.cell_two_new _ _ _ _) (by simp [Value.oneCell']) (by unfold maxLen; omega) (by omega) (by simp; omega) ?_; intro v5 w5 hown5 hgrow5 hnil5 hat5; have hg5 : ∀ b, (Value.slice sa k sc).ownBlock = some b → w.heap.size + 2 ≤ b := (fun b hb => (own_type H5.out.1 b hb).1); have O5 := (hgrow5.block _ (lt_heap H5.out.2.2.1) (fun e => by have := hg5 _ e.symm; omega)).trans H5.out.2.2.1; have R5 := (hgrow5.block _ (lt_heap H5.out.2.1) (fun e => by have := hg5 _ e.symm; omega)).trans H5.out.2.1; obtain ⟨z0, z1, z2, z3⟩ := lbox O5; have f3 : w5.frozen? ⟨w.heap.size + 1, 3, none⟩ = false := unfrozen_of_block O5 3; have B5 : Below w.heap.size w w5 := Below.grown H5.out.2.2.2 hgrow5 (hB := H5.out.2.2.2.size) (hr := fun b hb => by have := hg5 b hb; omega); obtain ⟨n5, va, vc, hn5, rfl⟩ := own_formN hown5; have H6 := (show Hid (_ ∧ _ ∧ _ ∧ _ ∧ _) from ⟨hown5, O5, R5, B5, hn5⟩); clear hown5 hgrow5 hnil5 hat5 hg5 O5 R5 B5 hn5)
      obtain rfl : n5 = k + 1 := H6.out.2.2.2.2
      refine ⟨⟨k + 1, va, vc, by omega, by go_num, ?_, ?_, ?_, ?_⟩, by simp [intOf]; omega⟩
      · have h5 := H6.out.1
        have hne : ∀ g, (Value.slice va (k + 1) vc).ownBlock = some g → g ≠ w.heap.size + 1 := fun g hg e => by have := (own_type h5 g hg).1; omega
        exact newSe_push (own_moved h5 (fun g hg => Below.heap_setCell _ _ _ g (by simpa using hne g hg)))
      · rw [Below.heap_setCell _ _ _ _ (by simp)]
        exact H6.out.2.2.1
      · rw [block_setCell H6.out.2.1]
        rfl
      · exact H6.out.2.2.2.1.setCell (p := ⟨w.heap.size + 1, 3, none⟩) (by simp) _
    · obtain rfl : k = limN nodes := by omega
      have hok := specOkNew id (limN nodes) sa sc _ wr (by omega) hS
      rw [among_lim] at hok
      have H5 := (show Hid (_ ∧ _ ∧ _ ∧ _ ∧ _) from ⟨hok, hS, hres, hbox, hbw⟩)
      clear hok hS hres hbox hbw
      by_cases hc : ((limN nodes : Nat) : Int) < nodes
      · have hc2 : ¬ nodes ≤ 31 := fun h => by unfold limN at hc; rw [if_pos h] at hc; omega
        have d1 : decide (((limN nodes : Nat) : Int) < nodes) = true := decide_eq_true hc
        have d2 : decide (nodes ≤ 31) = false := decide_eq_false hc2
        clear hc hc2
        go_wp2_with fail
        refine H5.out.1.mono ?_
        rintro e w2 ⟨rfl, b2⟩
        clear q0 q1 q2 q3
        have hs2 : wr.heap.size ≤ w2.heap.size := b2.size
        have P0 := (b2.block _ (lt_heap H5.out.2.2.1)).trans H5.out.2.2.1
        have P1 := (b2.block _ (lt_heap H5.out.2.2.2.1)).trans H5.out.2.2.2.1
        obtain ⟨c10, c11, c12, c13⟩ := lbox P0
        obtain ⟨e10, e11, e12, e13⟩ := lbox P1
        have f10 : w2.frozen? ⟨w.heap.size, 0, none⟩ = false := unfrozen_of_block P0 0
        have f11 : w2.frozen? ⟨w.heap.size, 1, none⟩ = false := unfrozen_of_block P0 1
        have f12 : w2.frozen? ⟨w.heap.size, 2, none⟩ = false := unfrozen_of_block P0 2
        have f13 : w2.frozen? ⟨w.heap.size, 3, none⟩ = false := unfrozen_of_block P0 3
        have H6 := (show Hid (_ ∧ _) from ⟨H5.out.2.1.below b2, H5.out.2.2.2.2.trans (b2.mono (by omega))⟩)
        clear b2 P0 P1 H5
        cases ha : amongB id nodes with
        | false =>
          have HE : Hid (newOf id nodes = zeroLk) := by show _ = _; unfold newOf; rw [ha]; rfl
          have HA := (show Hid (_ ∧ True) from ⟨ha, trivial⟩)
          clear ha
          go_wp2
          refine bodyPost_ret (v := .tuple #[.agg #[.int .i64 0, .int .i64 0, .slice none 0 0, .slice none 0 0], .bool false]) (by simp [results, Try.results4, go_sem, c10, c11, c12, c13]) rfl ?_
          rw [HE.out]
          refine ⟨_, _, _, [], by rw [HA.out.1], zeroOwn _ _, ?_⟩
          exact (((H6.out.2.setCell (p := ⟨w.heap.size, 0, none⟩) (by simp) _).setCell (p := ⟨w.heap.size, 1, none⟩) (by simp) _).setCell (p := ⟨w.heap.size, 2, none⟩) (by simp) _).setCell (p := ⟨w.heap.size, 3, none⟩) (by simp) _
        | true =>
          have HE := (show Hid (_ ∧ True) from ⟨new_of_lim id nodes ha, trivial⟩)
          have HA := (show Hid (_ ∧ True) from ⟨ha, trivial⟩)
          clear ha
          go_wp2
          refine bodyPost_ret (v := .tuple #[.agg #[.int .i64 id, .int .i64 1, .slice none 0 0, .slice sa (limN nodes) sc], .bool true]) (by simp [results, Try.results4, go_sem, c10, c11, c12, c13]) rfl ?_
          rw [HE.out.1]
          have hm := H6.out.1
          refine ⟨.agg #[.int .i64 id, .int .i64 1, .slice none 0 0, .slice sa (limN nodes) sc], .slice none 0 0, .slice sa (limN nodes) sc, newRows (limN nodes), by rw [HA.out.1], ⟨rfl, ⟨hid, inI64_one⟩, ⟨⟨rfl, .inl ⟨rfl, rfl⟩⟩, fun s hs => by cases hs⟩, ?_, newRows_fst _⟩, ?_⟩
          · have hm' : SeOwn w2 w.heap.size (.slice sa (limN nodes) sc) (newRows (limN nodes)) := ⟨own_mono hm.cells (by omega), fun r hr => ⟨own_mono (hm.kids r hr).1 (by omega), (hm.kids r hr).2⟩, hm.apart⟩
            refine hm'.moved (fun b hb => ?_)
            have := (hm.own hb).1
            rw [Below.heap_setCell _ _ _ _ (by simp; omega), Below.heap_setCell _ _ _ _ (by simp; omega), Below.heap_setCell _ _ _ _ (by simp; omega), Below.heap_setCell _ _ _ _ (by simp; omega)]
          · exact (((H6.out.2.setCell (p := ⟨w.heap.size, 0, none⟩) (by simp) _).setCell (p := ⟨w.heap.size, 1, none⟩) (by simp) _).setCell (p := ⟨w.heap.size, 2, none⟩) (by simp) _).setCell (p := ⟨w.heap.size, 3, none⟩) (by simp) _
      · have d1 : decide (((limN nodes : Nat) : Int) < nodes) = false := decide_eq_false hc
        clear hc
        go_wp2_with fail
        refine H5.out.1.mono ?_
        rintro e w2 ⟨rfl, b2⟩
        clear q0 q1 q2 q3
        have hs2 : wr.heap.size ≤ w2.heap.size := b2.size
        have P0 := (b2.block _ (lt_heap H5.out.2.2.1)).trans H5.out.2.2.1
        have P1 := (b2.block _ (lt_heap H5.out.2.2.2.1)).trans H5.out.2.2.2.1
        obtain ⟨c10, c11, c12, c13⟩ := lbox P0
        obtain ⟨e10, e11, e12, e13⟩ := lbox P1
        have f10 : w2.frozen? ⟨w.heap.size, 0, none⟩ = false := unfrozen_of_block P0 0
        have f11 : w2.frozen? ⟨w.heap.size, 1, none⟩ = false := unfrozen_of_block P0 1
        have f12 : w2.frozen? ⟨w.heap.size, 2, none⟩ = false := unfrozen_of_block P0 2
        have f13 : w2.frozen? ⟨w.heap.size, 3, none⟩ = false := unfrozen_of_block P0 3
        have H6 := (show Hid (_ ∧ _) from ⟨H5.out.2.1.below b2, H5.out.2.2.2.2.trans (b2.mono (by omega))⟩)
        clear b2 P0 P1 H5
        cases ha : amongB id nodes with
        | false =>
          have HE : Hid (newOf id nodes = zeroLk) := by show _ = _; unfold newOf; rw [ha]; rfl
          have HA := (show Hid (_ ∧ True) from ⟨ha, trivial⟩)
          clear ha
          go_wp2
          refine bodyPost_ret (v := .tuple #[.agg #[.int .i64 0, .int .i64 0, .slice none 0 0, .slice none 0 0], .bool false]) (by simp [results, Try.results4, go_sem, c10, c11, c12, c13]) rfl ?_
          rw [HE.out]
          refine ⟨_, _, _, [], by rw [HA.out.1], zeroOwn _ _, ?_⟩
          exact (((H6.out.2.setCell (p := ⟨w.heap.size, 0, none⟩) (by simp) _).setCell (p := ⟨w.heap.size, 1, none⟩) (by simp) _).setCell (p := ⟨w.heap.size, 2, none⟩) (by simp) _).setCell (p := ⟨w.heap.size, 3, none⟩) (by simp) _
        | true =>
          have HE := (show Hid (_ ∧ True) from ⟨new_of_lim id nodes ha, trivial⟩)
          have HA := (show Hid (_ ∧ True) from ⟨ha, trivial⟩)
          clear ha
          go_wp2
          refine bodyPost_ret (v := .tuple #[.agg #[.int .i64 id, .int .i64 1, .slice none 0 0, .slice sa (limN nodes) sc], .bool true]) (by simp [results, Try.results4, go_sem, c10, c11, c12, c13]) rfl ?_
          rw [HE.out.1]
          have hm := H6.out.1
          refine ⟨.agg #[.int .i64 id, .int .i64 1, .slice none 0 0, .slice sa (limN nodes) sc], .slice none 0 0, .slice sa (limN nodes) sc, newRows (limN nodes), by rw [HA.out.1], ⟨rfl, ⟨hid, inI64_one⟩, ⟨⟨rfl, .inl ⟨rfl, rfl⟩⟩, fun s hs => by cases hs⟩, ?_, newRows_fst _⟩, ?_⟩
          · have hm' : SeOwn w2 w.heap.size (.slice sa (limN nodes) sc) (newRows (limN nodes)) := ⟨own_mono hm.cells (by omega), fun r hr => ⟨own_mono (hm.kids r hr).1 (by omega), (hm.kids r hr).2⟩, hm.apart⟩
            refine hm'.moved (fun b hb => ?_)
            have := (hm.own hb).1
            rw [Below.heap_setCell _ _ _ _ (by simp; omega), Below.heap_setCell _ _ _ _ (by simp; omega), Below.heap_setCell _ _ _ _ (by simp; omega), Below.heap_setCell _ _ _ _ (by simp; omega)]
          · exact (((H6.out.2.setCell (p := ⟨w.heap.size, 0, none⟩) (by simp) _).setCell (p := ⟨w.heap.size, 1, none⟩) (by simp) _).setCell (p := ⟨w.heap.size, 2, none⟩) (by simp) _).setCell (p := ⟨w.heap.size, 3, none⟩) (by simp) _
end Go.Proofs.Ytbaakhpmfljgnaa
