/-
  Programs that came in, and the laws' measure, copy and comparison of them.
-/
import Derived.Test.YtdadppjncdkpiaaProgAt
import Derived.Test.YtdadppjncdkpiaaStrs
import Derived.Test.YtdadppjncdkpiaaExOpen
namespace Go.Proofs.Ytdadppjncdkpiaa
open Go.RowKit Go.Joins

set_option maxRecDepth 100000

set_option maxHeartbeats 3200000 in
theorem szProgram_any (d : Nat) (v : Value) (p : Pr) (S : Nat → Prop) (w : World) (left : Int) (h : PrAt w S d v p) (h0 : 0 ≤ left) (h1 : left ≤ 1048576) :
    Calls Try.prog 13 #[v, .int .i64 left] w fun e w' => e = .returned (.int .i64 (szR left p.bulk)) ∧ Below w.heap.size w w' := by
  obtain ⟨nv, bv, rfl, hn, hk⟩ := h
  obtain ⟨a1, c1, rfl⟩ := hn.form
  obtain ⟨a2, c2, rfl⟩ := hk.form
  have B0 : Below w.heap.size w (w.alloc (.cells #[.slice a1 p.names.length c1, .slice a2 p.bodies.length c2] 48)) := (Below.refl _ w).alloc (Nat.le_refl _) _
  have P2 : (w.alloc (.cells #[.slice a1 p.names.length c1, .slice a2 p.bodies.length c2] 48)).cell? ⟨w.heap.size, 1, none⟩ = some (.slice a2 p.bodies.length c2) := by
    rw [cell_of_block (MapKept.heap_alloc w _).1]; rfl
  have HN := (show Hid (_ ∧ True) from ⟨hn.below B0, trivial⟩)
  have HK := (show Hid (_ ∧ True) from ⟨hk.below B0, trivial⟩)
  have HB := (show Hid (_ ∧ True) from ⟨B0, trivial⟩)
  have HP2 := (show Hid (_ ∧ True) from ⟨P2, trivial⟩)
  have P3 : (w.alloc (.cells #[.slice a1 p.names.length c1, .slice a2 p.bodies.length c2] 48)).heap.size = w.heap.size + 1 := by simp
  have hE := szExpS_any d
  have hbk : p.bulk = bulkS p.names + Ex.bulkL p.bodies := rfl
  have HE := (show Hid (_ ∧ True) from ⟨hE, trivial⟩)
  clear hn hk B0 P2 hE
  go_enter Try.func13, Try.ntmps13
  go_wp2_with fail
  refine (szStringS_any _ p.names S _ _ HN.out.1 h0 h1).mono ?_
  rintro e w1 ⟨rfl, b1⟩
  have B1 : Below w.heap.size w w1 := HB.out.1.trans (b1.mono HB.out.1.size)
  have Q2 : w1.cell? ⟨w.heap.size, 1, none⟩ = some (.slice a2 p.bodies.length c2) := (b1.cell (by rw [P3]; simp)).trans HP2.out.1
  have HK1 := (show Hid (_ ∧ True) from ⟨HK.out.1.below b1, trivial⟩)
  clear b1 HN HK HB HP2 P3
  by_cases hlt : left < (bulkS p.names : Int)
  · have hr : szR left (bulkS p.names) = -1 := by unfold szR; rw [if_neg (by omega)]
    rw [hr]
    go_wp2
    go_ret
    exact ⟨int_ret (by unfold szR; rw [if_neg (by omega)]), B1⟩
  · have hr : szR left (bulkS p.names) = left - bulkS p.names := by unfold szR; rw [if_pos (by omega)]
    rw [hr]
    have hr0 : ¬ left - (bulkS p.names : Int) < 0 := by omega
    go_wp2_with fail
    refine (HE.out.1 _ p.bodies S _ _ HK1.out.1 (by omega) (by omega)).mono ?_
    rintro e w2 ⟨rfl, b2⟩
    have B2 : Below w.heap.size w w2 := B1.trans (b2.mono B1.size)
    clear b2 HE HK1 Q2
    have hbd : -1 ≤ szR (left - (bulkS p.names : Int)) (Ex.bulkL p.bodies) ∧ szR (left - (bulkS p.names : Int)) (Ex.bulkL p.bodies) ≤ 1048576 := by unfold szR; split <;> omega
    have heq : szR left p.bulk = szR (left - (bulkS p.names : Int)) (Ex.bulkL p.bodies) := by rw [hbk]; unfold szR; split <;> split <;> omega
    generalize szR (left - (bulkS p.names : Int)) (Ex.bulkL p.bodies) = r at *
    by_cases hr : r < 0
    · go_wp2
      go_ret
      exact ⟨int_ret (by omega), B2⟩
    · go_wp2
      go_ret
      exact ⟨int_ret (by omega), B2⟩

set_option maxHeartbeats 3200000 in
theorem eqProgram_any (d : Nat) (v1 v2 : Value) (p : Pr) (S1 S2 : Nat → Prop) (w : World) (h1 : PrAt w S1 d v1 p) (h2 : PrAt w S2 d v2 p) (hb : p.bulk ≤ 1048576) :
    Calls Try.prog 17 #[v1, v2] w fun e w' => e = .returned (.bool true) ∧ Below w.heap.size w w' := by
  have hl1 := bulkS_len p.names
  have hbk : p.bulk = bulkS p.names + Ex.bulkL p.bodies := rfl
  obtain ⟨nv1, bv1, rfl, n1, k1⟩ := h1
  obtain ⟨nv2, bv2, rfl, n2, k2⟩ := h2
  obtain ⟨a1, c1, rfl⟩ := n1.form
  obtain ⟨a2, c2, rfl⟩ := k1.form
  obtain ⟨a3, c3, rfl⟩ := n2.form
  obtain ⟨a4, c4, rfl⟩ := k2.form
  have B0 : Below w.heap.size w ((w.alloc (.cells #[.slice a1 p.names.length c1, .slice a2 p.bodies.length c2] 53)).alloc (.cells #[.slice a3 p.names.length c3, .slice a4 p.bodies.length c4] 53)) :=
    ((Below.refl _ w).alloc (Nat.le_refl _) _).alloc (by simp) _
  have P1 : ((w.alloc (.cells #[.slice a1 p.names.length c1, .slice a2 p.bodies.length c2] 53)).alloc (.cells #[.slice a3 p.names.length c3, .slice a4 p.bodies.length c4] 53)).cell? ⟨w.heap.size, 1, none⟩ = some (.slice a2 p.bodies.length c2) := by
    rw [cell_of_block ((Below.heap_alloc _ _ _ (by simp)).trans (MapKept.heap_alloc w _).1)]; rfl
  have P2 : ((w.alloc (.cells #[.slice a1 p.names.length c1, .slice a2 p.bodies.length c2] 53)).alloc (.cells #[.slice a3 p.names.length c3, .slice a4 p.bodies.length c4] 53)).cell? ⟨w.heap.size + 1, 1, none⟩ = some (.slice a4 p.bodies.length c4) := by
    have := (MapKept.heap_alloc (w.alloc (.cells #[.slice a1 p.names.length c1, .slice a2 p.bodies.length c2] 53)) (.cells #[.slice a3 p.names.length c3, .slice a4 p.bodies.length c4] 53)).1
    rw [cell_of_block (by simpa using this)]; rfl
  have P3 : ((w.alloc (.cells #[.slice a1 p.names.length c1, .slice a2 p.bodies.length c2] 53)).alloc (.cells #[.slice a3 p.names.length c3, .slice a4 p.bodies.length c4] 53)).heap.size = w.heap.size + 2 := by simp
  have HN1 := (show Hid (_ ∧ True) from ⟨n1.below B0, trivial⟩)
  have HN2 := (show Hid (_ ∧ True) from ⟨n2.below B0, trivial⟩)
  have HK1 := (show Hid (_ ∧ True) from ⟨k1.below B0, trivial⟩)
  have HK2 := (show Hid (_ ∧ True) from ⟨k2.below B0, trivial⟩)
  have HB := (show Hid (_ ∧ True) from ⟨B0, trivial⟩)
  have HP1 := (show Hid (_ ∧ True) from ⟨P1, trivial⟩)
  have HP2 := (show Hid (_ ∧ True) from ⟨P2, trivial⟩)
  have hnot := ex_not
  clear n1 n2 k1 k2 B0 P1 P2
  go_enter Try.func17, Try.ntmps17
  go_wp2_with fail
  refine (eqStrS_same _ _ p.names S1 S2 _ HN1.out.1 HN2.out.1 (by omega)).mono ?_
  rintro e w1 ⟨rfl, b1⟩
  have B1 : Below w.heap.size w w1 := HB.out.1.trans (b1.mono HB.out.1.size)
  have Q1 : w1.cell? ⟨w.heap.size, 1, none⟩ = some (.slice a2 p.bodies.length c2) := (b1.cell (by rw [P3]; simp)).trans HP1.out.1
  have Q2 : w1.cell? ⟨w.heap.size + 1, 1, none⟩ = some (.slice a4 p.bodies.length c4) := (b1.cell (by rw [P3]; simp)).trans HP2.out.1
  have HL1 := (show Hid (_ ∧ True) from ⟨HK1.out.1.below b1, trivial⟩)
  have HL2 := (show Hid (_ ∧ True) from ⟨HK2.out.1.below b1, trivial⟩)
  clear b1 HN1 HN2 HK1 HK2 HB HP1 HP2 P3
  go_wp2_with fail
  refine (eqExpS_any d _ _ p.bodies S1 S2 _ HL1.out.1 HL2.out.1 (by omega)).mono ?_
  rintro e w2 ⟨rfl, b2⟩
  have B2 : Below w.heap.size w w2 := B1.trans (b2.mono B1.size)
  clear b2 HL1 HL2 Q1 Q2
  go_wp2
  go_ret
  exact ⟨rfl, B2⟩

set_option maxHeartbeats 3200000 in
theorem toProgramK_any (d : Nat) (v : Value) (p : Pr) (S : Nat → Prop) (w : World) (h : PrAt w S d v p) (hb : p.bulk ≤ 1048576) :
    Calls Try.prog 15 #[v] w fun e w' => ∃ nv bv mid, e = .returned (.agg #[nv, bv]) ∧ PrAt w' (fun b => w.heap.size ≤ b ∧ Pl w' b) d (.agg #[nv, bv]) p ∧ Below w.heap.size w w' ∧ StrsAt w' (fun b => w.heap.size ≤ b ∧ b < mid ∧ Pl w' b) nv p.names ∧ Sk w' (fun b => mid ≤ b) d bv p.bodies ∧ w.heap.size ≤ mid ∧ mid ≤ w'.heap.size := by
  have hl1 := bulkS_len p.names
  have hbk : p.bulk = bulkS p.names + Ex.bulkL p.bodies := rfl
  obtain ⟨nv, bv, rfl, hn, hk⟩ := h
  obtain ⟨a1, c1, rfl⟩ := hn.form
  obtain ⟨a2, c2, rfl⟩ := hk.form
  have B0 : Below w.heap.size w (((w.alloc (.cells #[.slice a1 p.names.length c1, .slice a2 p.bodies.length c2] 48)).alloc (.cells #[.slice none 0 0, .slice none 0 0] 53)).alloc (.cells #[.slice none 0 0, .slice none 0 0] 53)) := (((Below.refl _ w).alloc (Nat.le_refl _) _).alloc (by simp) _).alloc (by simp; omega) _
  have O0 : (((w.alloc (.cells #[.slice a1 p.names.length c1, .slice a2 p.bodies.length c2] 48)).alloc (.cells #[.slice none 0 0, .slice none 0 0] 53)).alloc (.cells #[.slice none 0 0, .slice none 0 0] 53)).heap[w.heap.size]? = some (.cells #[.slice a1 p.names.length c1, .slice a2 p.bodies.length c2] 48) :=
    (Below.heap_alloc _ _ _ (by simp; omega)).trans ((Below.heap_alloc _ _ _ (by simp)).trans (MapKept.heap_alloc w _).1)
  have O1 : (((w.alloc (.cells #[.slice a1 p.names.length c1, .slice a2 p.bodies.length c2] 48)).alloc (.cells #[.slice none 0 0, .slice none 0 0] 53)).alloc (.cells #[.slice none 0 0, .slice none 0 0] 53)).heap[w.heap.size + 1]? = some (.cells #[.slice none 0 0, .slice none 0 0] 53) := by
    have := (MapKept.heap_alloc (w.alloc (.cells #[.slice a1 p.names.length c1, .slice a2 p.bodies.length c2] 48)) (.cells #[.slice none 0 0, .slice none 0 0] 53)).1
    exact (Below.heap_alloc _ _ _ (by simp)).trans (by simpa using this)
  have O2 : (((w.alloc (.cells #[.slice a1 p.names.length c1, .slice a2 p.bodies.length c2] 48)).alloc (.cells #[.slice none 0 0, .slice none 0 0] 53)).alloc (.cells #[.slice none 0 0, .slice none 0 0] 53)).heap[w.heap.size + 1 + 1]? = some (.cells #[.slice none 0 0, .slice none 0 0] 53) := by
    have := (MapKept.heap_alloc ((w.alloc (.cells #[.slice a1 p.names.length c1, .slice a2 p.bodies.length c2] 48)).alloc (.cells #[.slice none 0 0, .slice none 0 0] 53)) (.cells #[.slice none 0 0, .slice none 0 0] 53)).1
    simpa using this
  have P3 : (((w.alloc (.cells #[.slice a1 p.names.length c1, .slice a2 p.bodies.length c2] 48)).alloc (.cells #[.slice none 0 0, .slice none 0 0] 53)).alloc (.cells #[.slice none 0 0, .slice none 0 0] 53)).heap.size = w.heap.size + 3 := by simp
  have HN := (show Hid (_ ∧ True) from ⟨hn.below B0, trivial⟩)
  have HK : Hid (KidsAt w S d (.slice a2 p.bodies.length c2) p.bodies) := hk
  have HB := (show Hid (_ ∧ True) from ⟨B0, trivial⟩)
  have HO0 := (show Hid (_ ∧ True) from ⟨O0, trivial⟩)
  have HO1 := (show Hid (_ ∧ True) from ⟨O1, trivial⟩)
  have HO2 := (show Hid (_ ∧ True) from ⟨O2, trivial⟩)
  have HE : Hid (ToExpSK d) := toExpSK_any d
  clear hn hk B0 O0 O1 O2
  go_enter Try.func15, Try.ntmps15
  go_wp2_with fail
  refine (toStringS_any _ p.names S _ HN.out.1 (by omega)).mono ?_
  rintro e w1 ⟨nv, rfl, n1, b1⟩
  obtain ⟨a3, c3, rfl⟩ := n1.form
  rw [P3] at n1
  have hs1 : w.heap.size + 3 ≤ w1.heap.size := by have := b1.size; rw [P3] at this; exact this
  have O0 : w1.heap[w.heap.size]? = some (.cells #[.slice a1 p.names.length c1, .slice a2 p.bodies.length c2] 48) := (b1.block _ (by rw [P3]; omega)).trans HO0.out.1
  have O1 : w1.heap[w.heap.size + 1]? = some (.cells #[.slice none 0 0, .slice none 0 0] 53) := (b1.block _ (by rw [P3]; omega)).trans HO1.out.1
  have O2 : w1.heap[w.heap.size + 1 + 1]? = some (.cells #[.slice none 0 0, .slice none 0 0] 53) := (b1.block _ (by rw [P3]; omega)).trans HO2.out.1
  have B1 : Below w.heap.size w w1 := HB.out.1.trans (b1.mono HB.out.1.size)
  clear b1 HN HB HO0 HO1 HO2 P3
  have x20 : w1.cell? ⟨w.heap.size + 1 + 1, 0, none⟩ = some (.slice none 0 0) := by rw [cell_of_block O2]; rfl
  have f20 : w1.frozen? ⟨w.heap.size + 1 + 1, 0, none⟩ = false := unfrozen_of_block O2 0
  -- the world behind the first store
  have W0 : (w1.setCell ⟨w.heap.size + 1 + 1, 0, none⟩ (.slice a3 p.names.length c3)).heap[w.heap.size]? = some (.cells #[.slice a1 p.names.length c1, .slice a2 p.bodies.length c2] 48) := (Below.heap_setCell _ _ _ _ (by simp; omega)).trans O0
  have W1 : (w1.setCell ⟨w.heap.size + 1 + 1, 0, none⟩ (.slice a3 p.names.length c3)).heap[w.heap.size + 1]? = some (.cells #[.slice none 0 0, .slice none 0 0] 53) := (Below.heap_setCell _ _ _ _ (by simp)).trans O1
  have W2 : (w1.setCell ⟨w.heap.size + 1 + 1, 0, none⟩ (.slice a3 p.names.length c3)).heap[w.heap.size + 1 + 1]? = some (.cells #[.slice a3 p.names.length c3, .slice none 0 0] 53) := block_setCell O2 _
  have n2 : StrsAt (w1.setCell ⟨w.heap.size + 1 + 1, 0, none⟩ (.slice a3 p.names.length c3)) (fun b => w.heap.size + 3 ≤ b ∧ Pl (w1.setCell ⟨w.heap.size + 1 + 1, 0, none⟩ (.slice a3 p.names.length c3)) b) (.slice a3 p.names.length c3) p.names :=
    n1.kept (fun b hb1 _ => Below.heap_setCell _ _ _ _ (by have := hb1.1; simp; omega)) (by simp) (fun b h _ => ⟨h.1, h.2.of (Below.heap_setCell _ _ _ _ (by have := h.1; simp; omega))⟩)
  have S0 : (w1.setCell ⟨w.heap.size + 1 + 1, 0, none⟩ (.slice a3 p.names.length c3)).heap.size = w1.heap.size := by simp
  have B2 : Below w.heap.size w (w1.setCell ⟨w.heap.size + 1 + 1, 0, none⟩ (.slice a3 p.names.length c3)) := B1.setCell (p := ⟨w.heap.size + 1 + 1, 0, none⟩) (by simp; omega) _
  have HK0 : Hid (KidsAt (w1.setCell ⟨w.heap.size + 1 + 1, 0, none⟩ (.slice a3 p.names.length c3)) S d (.slice a2 p.bodies.length c2) p.bodies) := HK.out.below B2
  have HW0 := (show Hid (_ ∧ True) from ⟨W0, trivial⟩)
  have HW1 := (show Hid (_ ∧ True) from ⟨W1, trivial⟩)
  have HW2 := (show Hid (_ ∧ True) from ⟨W2, trivial⟩)
  have HN2 := (show Hid (_ ∧ True) from ⟨n2, trivial⟩)
  have y01 : w1.cell? ⟨w.heap.size, 1, none⟩ = some (.slice a2 p.bodies.length c2) := by rw [cell_of_block O0]; rfl
  clear W0 W1 W2 n2 n1 O0 O1 O2 HK
  go_wp2_with fail
  generalize w1.setCell ⟨w.heap.size + 1 + 1, 0, none⟩ (.slice a3 p.names.length c3) = w2 at *
  rw [← S0] at hs1
  clear S0 x20 f20 y01
  refine (HE.out _ p.bodies S _ HK0.out (by omega)).mono ?_
  rintro e w3 ⟨bv, rfl, k3, b3, s3⟩
  obtain ⟨a4, c4, rfl⟩ := k3.form
  have O1 : w3.heap[w.heap.size + 1]? = some (.cells #[.slice none 0 0, .slice none 0 0] 53) := (b3.block _ (by omega)).trans HW1.out.1
  have O2 : w3.heap[w.heap.size + 1 + 1]? = some (.cells #[.slice a3 p.names.length c3, .slice none 0 0] 53) := (b3.block _ (by omega)).trans HW2.out.1
  have n3 := HN2.out.1.belowP b3
  have hm3 := b3.size
  have m3 : StrsAt w3 (fun b => w.heap.size + 3 ≤ b ∧ b < w2.heap.size ∧ Pl w3 b) (.slice a3 p.names.length c3) p.names := HN2.out.1.kept (fun b _ hlt => b3.block b hlt) b3.size (fun b h hlt => ⟨h.1, hlt, h.2.below b3⟩)
  have B3 : Below w.heap.size w w3 := B2.trans (b3.mono B2.size)
  have hs3 : w.heap.size + 3 ≤ w3.heap.size := Nat.le_trans hs1 b3.size
  have k4 : KidsAt w3 (fun b => w.heap.size + 3 ≤ b ∧ Pl w3 b) d (.slice a4 p.bodies.length c4) p.bodies := k3.wide (fun b hb => ⟨Nat.le_trans hs1 hb.1, hb.2⟩)
  have x20 : w3.cell? ⟨w.heap.size + 1 + 1, 0, none⟩ = some (.slice a3 p.names.length c3) := by rw [cell_of_block O2]; rfl
  have x21 : w3.cell? ⟨w.heap.size + 1 + 1, 1, none⟩ = some (.slice none 0 0) := by rw [cell_of_block O2]; rfl
  have f21 : w3.frozen? ⟨w.heap.size + 1 + 1, 1, none⟩ = false := unfrozen_of_block O2 1
  have x10 : w3.cell? ⟨w.heap.size + 1, 0, none⟩ = some (.slice none 0 0) := by rw [cell_of_block O1]; rfl
  have x11 : w3.cell? ⟨w.heap.size + 1, 1, none⟩ = some (.slice none 0 0) := by rw [cell_of_block O1]; rfl
  have f10 : w3.frozen? ⟨w.heap.size + 1, 0, none⟩ = false := unfrozen_of_block O1 0
  have f11 : w3.frozen? ⟨w.heap.size + 1, 1, none⟩ = false := unfrozen_of_block O1 1
  have HN3 := (show Hid (_ ∧ True) from ⟨n3, trivial⟩)
  have HK4 := (show Hid (_ ∧ _ ∧ _) from ⟨k4, m3, s3⟩)
  clear O1 O2 b3 k3 k4 n3 m3 s3 HW0 HW1 HW2 HN2 HK0 HE
  go_wp2
  have HH : ∀ b, w.heap.size + 3 ≤ b → (((w3.setCell ⟨w.heap.size + 1 + 1, 1, none⟩ (.slice a4 p.bodies.length c4)).setCell ⟨w.heap.size + 1, 0, none⟩ (.slice a3 p.names.length c3)).setCell ⟨w.heap.size + 1, 1, none⟩ (.slice a4 p.bodies.length c4)).heap[b]? = w3.heap[b]? := fun b hb => by
    rw [Below.heap_setCell _ _ _ b (by simp; omega), Below.heap_setCell _ _ _ b (by simp; omega), Below.heap_setCell _ _ _ b (by simp; omega)]
  refine bodyPost_ret (v := .agg #[.slice a3 p.names.length c3, .slice a4 p.bodies.length c4]) (by simp [results, Try.results15, go_sem, x10, x11]) rfl ⟨_, _, w2.heap.size, rfl, ⟨_, _, rfl, ?_, ?_⟩, ?_, ?_, ?_, by omega, by simp; exact hm3⟩
  · exact HN3.out.1.kept (fun b hb1 _ => HH b hb1.1) (by simp) (fun b hb1 _ => ⟨by have := hb1.1; omega, hb1.2.of (HH b hb1.1)⟩)
  · exact HK4.out.1.kept (fun b hb1 _ => HH b hb1.1) (by simp) (fun b hb1 _ => ⟨by have := hb1.1; omega, hb1.2.of (HH b hb1.1)⟩)
  · exact ((B3.setCell (p := ⟨w.heap.size + 1 + 1, 1, none⟩) (by simp; omega) _).setCell (p := ⟨w.heap.size + 1, 0, none⟩) (by simp) _).setCell (p := ⟨w.heap.size + 1, 1, none⟩) (by simp) _
  · exact HK4.out.2.1.kept (fun b hb1 _ => HH b hb1.1) (by simp) (fun b hb1 _ => ⟨by have := hb1.1; omega, hb1.2.1, hb1.2.2.of (HH b hb1.1)⟩)
  · exact HK4.out.2.2.kept (fun b hb1 _ => HH b (by omega)) (fun b hb1 _ => hb1)
theorem toProgram_any (d : Nat) (v : Value) (p : Pr) (S : Nat → Prop) (w : World) (h : PrAt w S d v p) (hb : p.bulk ≤ 1048576) :
    Calls Try.prog 15 #[v] w fun e w' => ∃ v', e = .returned v' ∧ PrAt w' (fun b => w.heap.size ≤ b ∧ Pl w' b) d v' p ∧ Below w.heap.size w w' :=
  (toProgramK_any d v p S w h hb).mono (fun _ _ ⟨_, _, _, h1, h2, h3, _⟩ => ⟨_, h1, h2, h3⟩)

section
variable {H : Type} {enc : TypeId × Value → H} {w : World} {spare : Nat → Bool} {held : Bool}
theorem cells_prog : Try.prog.cellsOf 48 = 2 := by kernel_rfl
theorem open_prog {v : Value} {dd : DataW H} {ps : List MemPlace} (hv : ∃ cs, v = .agg cs ∧ cs.size = Try.prog.cellsOf 48) (h : DataW.Trod enc Try.prog w 0 spare held 48 v dd ps) : ∃ p d, PrAt w (fun _ => True) d v p := by
  obtain ⟨fuel, hf⟩ := h
  obtain ⟨cs, rfl, hcs⟩ := hv
  rw [cells_prog] at hcs
  obtain ⟨l⟩ := cs
  obtain ⟨c0, c1, rfl⟩ : ∃ c0 c1, l = [c0, c1] := by
    match l, hcs with
    | [x0, x1], _ => exact ⟨x0, x1, rfl⟩
  obtain ⟨xs, m, hm, _, _, hlen, hff⟩ := DataW.trod_struct Try.underlying48 (show DataW.trod enc Try.prog w 0 spare held fuel 48 [c0, c1] = some (dd, ps) from hf)
  have hl2 : xs.length = 2 := hlen
  obtain ⟨x0, x1, rfl⟩ : ∃ x0 x1, xs = [x0, x1] := by
    match xs, hl2 with
    | [x0, x1], _ => exact ⟨x0, x1, rfl⟩
  have e2 : Try.prog.cellsOf 45 = 1 := by kernel_rfl
  have e3 : Try.prog.cellsOf 46 = 1 := by kernel_rfl
  have f0 : DataW.trod enc Try.prog w 0 spare held m 45 (([c0, c1].drop 0).take (Try.prog.cellsOf 45)) = some x0 := hff 0 _ rfl
  have f1 : DataW.trod enc Try.prog w 0 spare held m 46 (([c0, c1].drop 1).take (Try.prog.cellsOf 46)) = some x1 := hff 1 _ rfl
  rw [e2] at f0
  rw [e3] at f1
  obtain ⟨nv, ts, hn, hts⟩ := open_strs m _ x0 f0
  obtain ⟨bv, es, hb, hes⟩ := open_kids m _ x1 f1
  obtain rfl : c0 = nv := by simpa using hn
  obtain rfl : c1 = bv := by simpa using hb
  exact ⟨⟨ts, es⟩, m, _, _, rfl, hts, hes⟩
end
end Go.Proofs.Ytdadppjncdkpiaa
