/-
  The law FnExactMeanAll walked.
-/
import Derived.Test.YtkhkmmjollcfaaaGreatDoorMZf
import Derived.Test.YtkhkmmjollcfaaaGreatDoorMZc
import Derived.Test.YtkhkmmjollcfaaaGreatDoorMZb
import Derived.Test.YtkhkmmjollcfaaaGreatDoorExEq
import Derived.Test.YtkhkmmjollcfaaaGreatDoorMZd
import Derived.Test.YtkhkmmjollcfaaaGreatDoorMarkProg
import Derived.Test.YtkhkmmjollcfaaaGreatDoorMZe
import Derived.ChangeOld
import Derived.Deep.CutRange
namespace Go.Proofs.YtkhkmmjollcfaaaGreatDoor
open Go.ChangeShapes Go.WideShapes Go.ChangeAt Go.RowKit Go.Joins

set_option maxRecDepth 100000

namespace fnExactMeanAll

/-- The argument, where it lies. -/
structure SA (w : World) (p : Pr) (d : Nat) (bx : Array Value) (wi : World) : Prop where
  arg : PrAt wi (fun b => b < w.heap.size) d (.agg bx) p
  below : Below w.heap.size w wi
  box : wi.heap[w.heap.size]? = some (.cells bx 25 (0, 0))
/-- What the program is given. -/
structure SC (L N5 mid d : Nat) (nv bv : Value) (p : Pr) (wi : World) : Prop where
  pr : PrAt wi (fun b => L ≤ b ∧ Pl wi b) d (.agg #[nv, bv]) p
  names : StrsAt wi (fun b => L ≤ b ∧ b < mid ∧ Pl wi b) nv p.names
  sk : Sk wi (fun b => mid ≤ b ∧ b < N5) d bv p.bodies
  box : wi.heap[N5]? = some (.cells #[nv, bv] 31 (0, 0))
theorem lt_of {w : World} {k : Nat} {o : Obj} (h : w.heap[k]? = some o) : k < w.heap.size := (Array.getElem?_eq_some_iff.1 h).1
theorem prAt_moved {w w' : World} {S : Nat → Prop} {d : Nat} {v : Value} {p : Pr} (h : PrAt w S d v p) (hw : ∀ b, S b → b < w.heap.size → w'.heap[b]? = w.heap[b]?) (hsz : w.heap.size ≤ w'.heap.size) : PrAt w' S d v p := by
  obtain ⟨nv, bv, hv, h1, h2⟩ := h
  exact ⟨nv, bv, hv, h1.kept hw hsz (fun _ h _ => h), h2.kept hw hsz (fun _ h _ => h)⟩
theorem SA.low {w wi wj : World} {p : Pr} {d : Nat} {bx : Array Value} (h : SA w p d bx wi) {L : Nat} (hb : Below L wi wj) (hL : w.heap.size < L) : SA w p d bx wj :=
  ⟨prAt_moved h.arg (fun b hb1 _ => hb.block b (by omega)) hb.size, h.below.trans (hb.mono (Nat.le_of_lt hL)), (hb.block _ hL).trans h.box⟩
theorem SA.next {w wi wj : World} {p : Pr} {d : Nat} {bx : Array Value} (h : SA w p d bx wi) (hb : Below wi.heap.size wi wj) : SA w p d bx wj := h.low hb (lt_of h.box)
theorem SC.next {L N5 mid d : Nat} {nv bv : Value} {p : Pr} {wi wj : World} (h : SC L N5 mid d nv bv p wi) (hb : Below wi.heap.size wi wj) : SC L N5 mid d nv bv p wj :=
  ⟨h.pr.belowP hb, h.names.kept (fun b _ hlt => hb.block b hlt) hb.size (fun _ h _ => ⟨h.1, h.2.1, h.2.2.below hb⟩), h.sk.below hb, (hb.block _ (lt_of h.box)).trans h.box⟩
theorem outs_low {lo hi : Nat} {w w' : World} (h : Outs lo hi w w') (hl : lo ≤ w.heap.size) : Below lo w w' := ⟨h.os, h.tape, h.output, h.size, fun k hk => h.out k (Nat.lt_of_lt_of_le hk hl) (.inl hk)⟩
theorem ints_of_row {w : World} {B : Nat} {v : Value} {zs : List Int} (h : w.ownsRow B 3 1 v zs.length (intVs zs)) (hz : ∀ z ∈ zs, inI64 z) (hm : zs.length ≤ maxLen) : IntsAt w (fun _ => True) v zs := by
  obtain ⟨a, cap, rfl⟩ := own_form h
  refine ⟨a, cap, rfl, hm, fun i z hi => ?_⟩
  obtain ⟨g, cap', hv⟩ := own_some h (by have := (List.getElem?_eq_some_iff.1 hi).1; omega)
  cases hv
  refine ⟨g, 0, rfl, trivial, own_lt h g rfl, ?_, hz z (List.mem_of_getElem? hi)⟩
  have := h.cells (g := g) rfl i (.int .i64 z) (by rw [List.getElem?_map, hi]; rfl)
  rw [addr_addI] at this
  exact this

theorem allC_in (p : Pr) (F : Int) (n : Nat) : ∀ z ∈ allC p F n, inI64 z := by
  intro z hz
  unfold allC at hz
  obtain ⟨i, -, rfl⟩ := List.mem_map.1 hz
  by_cases h : aOk p F
  · rw [aC_ok h]; have := ofC_small p.bodies i F.toNat; unfold inI64; omega
  · rw [aC_no h]; unfold inI64; decide
theorem all_ints {w : World} {B : Nat} {v : Value} {p : Pr} {F : Int} {n : Nat} (h : w.ownsRow B 3 1 v n ((allC p F n).map (fun z => Value.int .i64 z))) (hn : n ≤ 1048576) : IntsAt w (fun _ => True) v (allC p F n) :=
  ints_of_row (by rw [allC_len]; exact h) (allC_in p F n) (by rw [allC_len]; unfold maxLen; omega)
theorem rowB {w w' : World} {B n : Nat} {e : TypeId} {v : Value} {xs : List Value} (h : w.ownsRow B e 1 v n xs) (hb : Below w.heap.size w w') : w'.ownsRow B e 1 v n xs := own_moved h (fun g hg => hb.block g (own_lt h g hg))
set_option maxHeartbeats 12800000 in
theorem walk (d : Nat) (v : Value) (p : Pr) (F : Int) (w : World) (h : PrAt w (fun _ => True) d v p) (htab : Lib.TabIs Tryz.prog w "internal/strconv.uint64pow10" .u64 Lib.pow10Tab) :
    Calls Tryz.prog 4 #[v, .int .i64 F] w fun e w' => e = .returned (.bool true) ∧ Below w.heap.size w w' := by
  have HT := (show Hid (_ ∧ True) from ⟨htab, trivial⟩)
  clear htab
  have H1 : Hid (PrAt w (fun _ => True) d v p) := h
  obtain ⟨nv, bv, rfl, hn, hk⟩ := h
  obtain ⟨a1, c1, rfl⟩ := hn.form
  obtain ⟨a2, c2, rfl⟩ := hk.form
  clear hn hk
  have A0 : SA w p d #[.slice a1 p.names.length c1, .slice a2 p.bodies.length c2] (w.alloc (.cells #[.slice a1 p.names.length c1, .slice a2 p.bodies.length c2] 25)) := by
    have B0 : Below w.heap.size w (w.alloc (.cells #[.slice a1 p.names.length c1, .slice a2 p.bodies.length c2] 25)) := (Below.refl _ w).alloc (Nat.le_refl _) _
    refine ⟨?_, B0, (MapKept.heap_alloc w _).1⟩
    obtain ⟨nv, bv, hv, h1, h2⟩ := H1.out
    exact ⟨nv, bv, hv, h1.kept (fun b _ hlt => B0.block b hlt) B0.size (fun b _ hlt => hlt), h2.kept (fun b _ hlt => B0.block b hlt) B0.size (fun b _ hlt => hlt)⟩
  have HA0 := (show Hid (_ ∧ True) from ⟨A0, trivial⟩)
  clear A0 H1
  go_enter Tryz.func4, Tryz.ntmps4
  go_wp2_with fail
  generalize (w.alloc (.cells #[.slice a1 p.names.length c1, .slice a2 p.bodies.length c2] 25)) = w2 at *
  refine (szProgram_any d _ p _ _ _ HA0.out.1.arg (by omega) (by omega)).mono ?_
  rintro e w3 ⟨rfl, b3⟩
  have A3 := HA0.out.1.next b3
  clear HA0 b3
  by_cases hx : p.bulk ≤ 1048576
  case neg =>
    have hr : szR 1048576 p.bulk = -1 := by unfold szR; rw [if_neg (by omega)]
    rw [hr]
    have HA := (show Hid (_ ∧ True) from ⟨A3, trivial⟩)
    clear A3
    go_wp2
    go_ret
    exact ⟨rfl, HA.out.1.below⟩
  have hr : szR 1048576 p.bulk = 1048576 - p.bulk := by unfold szR; rw [if_pos (by omega)]
  rw [hr]
  have hr0 : ¬ (1048576 : Int) - p.bulk < 0 := by omega
  have hnl : p.names.length ≤ 1048576 := by have := bulkS_len p.names; unfold Pr.bulk at hx; omega
  have HAA := (show Hid _ from A3)
  have y0 : w3.cell? ⟨w.heap.size, 0, none⟩ = some (.slice a1 p.names.length c1) := by rw [cell_of_block HAA.out.box]; rfl
  have y1 : w3.cell? ⟨w.heap.size, 1, none⟩ = some (.slice a2 p.bodies.length c2) := by rw [cell_of_block HAA.out.box]; rfl
  have HA3 := (show Hid (_ ∧ True) from ⟨A3, trivial⟩)
  clear hr A3 HAA
  go_wp2_with fail
  refine (toProgram_any d _ p _ _ HA3.out.1.arg hx).mono ?_
  rintro e w4 ⟨v4, rfl, p4, d4⟩
  have HP4 := (show Hid (_ ∧ _) from ⟨p4, HA3.out.1.next d4⟩)
  obtain ⟨nv4, bv4, rfl, hn4, hk4⟩ := p4
  obtain ⟨a4, c4, rfl⟩ := hn4.form
  obtain ⟨a5, c5, rfl⟩ := hk4.form
  clear hn4 hk4 d4 HA3 y0 y1
  go_wp2_with fail
  refine (specMeanAll_any d _ p _ F _ HP4.out.1 hnl).mono ?_
  rintro e w5 ⟨v5, rfl, r5, d5⟩
  obtain ⟨o5, k5, rfl⟩ := own_form r5
  have H5 := (show Hid (_ ∧ _) from ⟨HP4.out.2.next d5, r5⟩)
  have hw4 : w.heap.size < w4.heap.size := lt_of HP4.out.2.box
  have hw45 : w4.heap.size ≤ w5.heap.size := d5.size
  clear r5 d5 HP4
  have HAA := (show Hid _ from H5.out.1)
  have y0 : w5.cell? ⟨w.heap.size, 0, none⟩ = some (.slice a1 p.names.length c1) := by rw [cell_of_block HAA.out.box]; rfl
  have y1 : w5.cell? ⟨w.heap.size, 1, none⟩ = some (.slice a2 p.bodies.length c2) := by rw [cell_of_block HAA.out.box]; rfl
  clear HAA
  go_wp2_with fail
  refine (toProgramK_any d _ p _ _ H5.out.1.arg hx).mono ?_
  rintro e w6 ⟨nv6, bv6, mid, rfl, p6, d6, n6, s6, hm1, hm2⟩
  have p6' := p6
  obtain ⟨nv6', bv6', hv6, hn6, hk6⟩ := p6
  obtain ⟨rfl, rfl⟩ : nv6 = nv6' ∧ bv6 = bv6' := by simpa using hv6
  obtain ⟨a6, c6, rfl⟩ := hn6.form
  obtain ⟨a7, c7, rfl⟩ := hk6.form
  have B6a : Below w6.heap.size w6 (w6.alloc (.cells #[.slice a6 p.names.length c6, .slice a7 p.bodies.length c7] 31)) := (Below.refl _ w6).alloc (Nat.le_refl _) _
  have C6 : SC w5.heap.size w6.heap.size mid d (.slice a6 p.names.length c6) (.slice a7 p.bodies.length c7) p (w6.alloc (.cells #[.slice a6 p.names.length c6, .slice a7 p.bodies.length c7] 31)) :=
    ⟨p6'.belowP B6a, n6.kept (fun b _ hlt => B6a.block b hlt) B6a.size (fun _ h _ => ⟨h.1, h.2.1, h.2.2.below B6a⟩), (s6.wide (fun b h hlt => ⟨h, hlt⟩)).below B6a, (MapKept.heap_alloc w6 _).1⟩
  have A6 := (H5.out.1.next d6).next B6a
  have R6 := own_moved (own_moved H5.out.2 (fun g hg => d6.block g (own_lt H5.out.2 g hg))) (fun g hg => B6a.block g (Nat.lt_of_lt_of_le (own_lt H5.out.2 g hg) d6.size))
  have hlt5 := fun g hg => own_lt H5.out.2 g hg
  have hs6a : (w6.alloc (.cells #[.slice a6 p.names.length c6, .slice a7 p.bodies.length c7] 31)).heap.size = w6.heap.size + 1 := by simp
  have hs6 := d6.size
  have x0 : (w6.alloc (.cells #[.slice a6 p.names.length c6, .slice a7 p.bodies.length c7] 31)).cell? ⟨w6.heap.size, 0, none⟩ = some (.slice a6 p.names.length c6) := by rw [cell_of_block C6.box]; rfl
  have x1 : (w6.alloc (.cells #[.slice a6 p.names.length c6, .slice a7 p.bodies.length c7] 31)).cell? ⟨w6.heap.size, 1, none⟩ = some (.slice a7 p.bodies.length c7) := by rw [cell_of_block C6.box]; rfl
  have H6 := (show Hid (_ ∧ _ ∧ _ ∧ _) from ⟨A6, R6, C6, hlt5⟩)
  have HM := (show Hid (_ ∧ _ ∧ _ ∧ _) from ⟨hm1, hm2, hs6a, hs6⟩)
  clear A6 R6 C6 B6a p6' hv6 hn6 hk6 n6 s6 d6 H5 y0 y1 hlt5 hm1 hm2 hs6a hs6
  go_wp2_with fail
  generalize w6.alloc (.cells #[.slice a6 p.names.length c6, .slice a7 p.bodies.length c7] 31) = w6a at *
  refine (implMeanAll_any d _ p F _ H6.out.2.2.1.pr.plain hnl (Lib.tabBelow_of_tabIs HT.out.1 _ H6.out.1.below)).mono ?_
  rintro e w7 ⟨v7, rfl, r7, d7⟩
  obtain ⟨o7, k7, rfl⟩ := own_form r7
  have H7 := (show Hid (_ ∧ _ ∧ _ ∧ _) from ⟨H6.out.1.next d7, own_moved H6.out.2.1 (fun g hg => d7.block g (own_lt H6.out.2.1 g hg)), H6.out.2.2.1.next d7, r7⟩)
  have hw7 : w6a.heap.size ≤ w7.heap.size := d7.size
  have HL5 := (show Hid _ from H6.out.2.2.2)
  clear r7 d7 H6 x0 x1
  go_wp2_with fail
  refine (eqIntS_same _ _ (allC p F p.names.length) (fun _ => True) (fun _ => True) _ (all_ints H7.out.2.2.2 hnl) (all_ints H7.out.2.1 hnl) (by rw [allC_len]; omega)).mono ?_
  rintro e w8 ⟨rfl, d8⟩
  have H8 := (show Hid (_ ∧ _ ∧ _ ∧ _ ∧ _) from ⟨H7.out.1.next d8, own_moved H7.out.2.1 (fun g hg => d8.block g (own_lt H7.out.2.1 g hg)), H7.out.2.2.1.next d8, own_moved H7.out.2.2.2 (fun g hg => d8.block g (own_lt H7.out.2.2.2 g hg)), (Nat.le_trans hw7 d8.size : w6a.heap.size ≤ w8.heap.size)⟩)
  clear d8 H7
  have x0 : w8.cell? ⟨w6.heap.size, 0, none⟩ = some (.slice a6 p.names.length c6) := by rw [cell_of_block H8.out.2.2.1.box]; rfl
  have x1 : w8.cell? ⟨w6.heap.size, 1, none⟩ = some (.slice a7 p.bodies.length c7) := by rw [cell_of_block H8.out.2.2.1.box]; rfl
  have HAA := (show Hid _ from H8.out.1)
  have y0 : w8.cell? ⟨w.heap.size, 0, none⟩ = some (.slice a1 p.names.length c1) := by rw [cell_of_block HAA.out.box]; rfl
  have y1 : w8.cell? ⟨w.heap.size, 1, none⟩ = some (.slice a2 p.bodies.length c2) := by rw [cell_of_block HAA.out.box]; rfl
  clear HAA
  have hlt8 : w6.heap.size < w8.heap.size := lt_of H8.out.2.2.1.box
  have hnot := ex_not
  go_wp2_with fail
  go_cut [35] from 31 (fun s wc => s = .bool false ∧ Hid (SA w p d #[.slice a1 p.names.length c1, .slice a2 p.bodies.length c2] wc ∧ wc.ownsRow (w4.heap.size) 3 1 (.slice o5 p.names.length k5) p.names.length ((allC p F p.names.length).map (fun z => Value.int .i64 z)) ∧ SC w5.heap.size w6.heap.size mid d (.slice a6 p.names.length c6) (.slice a7 p.bodies.length c7) p wc ∧ wc.ownsRow w6a.heap.size 3 1 (.slice o7 p.names.length k7) p.names.length ((allC p F p.names.length).map (fun z => Value.int .i64 z)) ∧ w6a.heap.size ≤ wc.heap.size))
  case first =>
    go_region_with (first
      | (go_at_call 7; refine (toProgram_any d _ p _ _ (H8.out.1.next (Below.refl _ w8).drew).arg hx).mono ?_; rintro e w9 ⟨v9, rfl, p9, d9⟩; have D9 : Below w8.heap.size w8 w9 := (Below.refl _ w8).drew.trans d9; have HP9 := (show Hid (_ ∧ _) from ⟨p9, D9⟩); obtain ⟨nv9, bv9, rfl, hn9, hk9⟩ := p9; obtain ⟨a8, c8, rfl⟩ := hn9.form; obtain ⟨a9, c9, rfl⟩ := hk9.form; have O9 := (H8.out.2.2.1.next D9).box; have v0 : w9.cell? ⟨w6.heap.size, 0, none⟩ = some (.slice a6 p.names.length c6) := (by rw [cell_of_block O9]; rfl); have v1 : w9.cell? ⟨w6.heap.size, 1, none⟩ = some (.slice a7 p.bodies.length c7) := (by rw [cell_of_block O9]; rfl); clear hn9 hk9 O9 d9 D9)
      | (go_at_call 9; refine (eqProgram_any d _ _ p _ _ _ (H8.out.2.2.1.next HP9.out.2).pr HP9.out.1 hx).mono ?_; rintro e w10 ⟨rfl, d10⟩; have H10 := (show Hid (_ ∧ _ ∧ _ ∧ _ ∧ _) from ⟨(H8.out.1.next HP9.out.2).next d10, rowB (rowB H8.out.2.1 HP9.out.2) d10, (H8.out.2.2.1.next HP9.out.2).next d10, rowB (rowB H8.out.2.2.2.1 HP9.out.2) d10, Nat.le_trans (Nat.le_trans H8.out.2.2.2.2 HP9.out.2.size) d10.size⟩); clear d10))
    all_goals
      go_wp2_with fail
      go_meet
      exact ⟨rfl, H10.out⟩
  case rest =>
  obtain ⟨rfl, H10⟩ := hcut
  clear H8 x0 x1 y0 y1 hlt8
  have x0 : wc.cell? ⟨w6.heap.size, 0, none⟩ = some (.slice a6 p.names.length c6) := by rw [cell_of_block H10.out.2.2.1.box]; rfl
  have x1 : wc.cell? ⟨w6.heap.size, 1, none⟩ = some (.slice a7 p.bodies.length c7) := by rw [cell_of_block H10.out.2.2.1.box]; rfl
  go_wp2_with fail
  refine (markProgram_any w5.heap.size mid w6.heap.size d _ _ p _ H10.out.2.2.1.names H10.out.2.2.1.sk HM.out.1 HM.out.2.1 (Nat.le_of_lt (lt_of H10.out.2.2.1.box)) hx).mono ?_
  rintro e w11 ⟨k11, hk11, rfl, m11⟩
  have A11 := H10.out.1.low (outs_low m11 (Nat.le_trans HM.out.2.2.2 (Nat.le_of_lt (lt_of H10.out.2.2.1.box)))) (by omega)
  have R11 := own_moved H10.out.2.1 (fun g hg => m11.out g (own_lt H10.out.2.1 g hg) (.inl (HL5.out g hg)))
  have G11 := own_moved H10.out.2.2.2.1 (fun g hg => m11.out g (own_lt H10.out.2.2.2.1 g hg) (.inr (by have := (own_type H10.out.2.2.2.1 g hg).1; have := HM.out.2.2.1; omega)))
  have hw11 : w6a.heap.size ≤ w11.heap.size := Nat.le_trans H10.out.2.2.2.2 m11.size
  have H11 := (show Hid (_ ∧ _ ∧ _) from ⟨A11, R11, G11⟩)
  clear A11 R11 G11 m11 H10 x0 x1
  have hk0 : ¬ k11 < 0 := by omega
  have hkd : decide (k11 < 0) = false := by simpa using hk11
  go_wp2_with fail
  refine (eqIntS_same _ _ (allC p F p.names.length) (fun _ => True) (fun _ => True) _ (all_ints H11.out.2.2 hnl) (all_ints H11.out.2.1 hnl) (by rw [allC_len]; omega)).mono ?_
  rintro e w12 ⟨rfl, d12⟩
  have H12 := (show Hid (_ ∧ _ ∧ _) from ⟨H11.out.1.next d12, rowB H11.out.2.1 d12, rowB H11.out.2.2 d12⟩)
  have HW12 := (show Hid _ from (Nat.le_trans hw11 d12.size : w6a.heap.size ≤ w12.heap.size))
  clear d12 H11 hw11
  go_wp2_with fail
  refine (markIntS_any w6a.heap.size _ p.names.length _ 1 _ (by decide) (by decide) (by omega) H12.out.2.2).mono ?_
  rintro e w13 ⟨rfl, t13, m13⟩
  have hap : ∀ g, (Value.slice o5 p.names.length k5).ownBlock = some g → some g ≠ (Value.slice o7 p.names.length k7).ownBlock := fun g hg he => by
    have h1 := HL5.out g hg
    have h2 := (own_type H12.out.2.2 g he.symm).1
    have := HM.out.2.2.1
    have := HM.out.2.2.2
    omega
  have B13 : Below w6a.heap.size w12 w13 := ⟨m13.os, m13.tape, m13.output, m13.size, fun k hk => m13.block k (by have := lt_of H12.out.1.box; exact Nat.lt_of_lt_of_le hk HW12.out) (fun e => by have := (own_type H12.out.2.2 k e.symm).1; omega)⟩
  have A13 := H12.out.1.low B13 (by have := HM.out.2.2.1; have := HM.out.2.2.2; omega)
  have R13 := own_moved H12.out.2.1 (fun g hg => m13.block g (own_lt H12.out.2.1 g hg) (hap g hg))
  have H13 := (show Hid (_ ∧ _ ∧ _) from ⟨A13, R13, t13⟩)
  clear A13 R13 t13 m13 H12 B13 hap
  have hmn : ¬ (1 : Int) + (p.names.length : Int) < 0 := by omega
  have hmd : decide ((1 : Int) + (p.names.length : Int) < 0) = false := by simp; omega
  have hmq : ((1 : Int) + (p.names.length : Int) != 1 + (p.names.length : Int)) = false := by simp
  go_wp2_with fail
  refine (heldIntS_any w6a.heap.size _ p.names.length 1 _ (by decide) (by decide) (by omega) H13.out.2.2).mono ?_
  rintro e w14 ⟨rfl, d14⟩
  have H14 := (show Hid (_ ∧ _ ∧ _) from ⟨H13.out.1.next d14, rowB H13.out.2.1 d14, rowB H13.out.2.2 d14⟩)
  clear d14 H13
  have HAA := (show Hid _ from H14.out.1)
  have y0 : w14.cell? ⟨w.heap.size, 0, none⟩ = some (.slice a1 p.names.length c1) := by rw [cell_of_block HAA.out.box]; rfl
  have y1 : w14.cell? ⟨w.heap.size, 1, none⟩ = some (.slice a2 p.bodies.length c2) := by rw [cell_of_block HAA.out.box]; rfl
  clear HAA
  go_wp2_with fail
  refine (toProgram_any d _ p _ _ H14.out.1.arg hx).mono ?_
  rintro e w15 ⟨v15, rfl, p15, d15⟩
  have H15 := (show Hid (_ ∧ _ ∧ _ ∧ _) from ⟨p15.plain, H14.out.1.next d15, rowB H14.out.2.1 d15, rowB H14.out.2.2 d15⟩)
  obtain ⟨nv15, bv15, rfl, hn15, hk15⟩ := p15
  obtain ⟨a15, c15, rfl⟩ := hn15.form
  obtain ⟨a16, c16, rfl⟩ := hk15.form
  clear hn15 hk15 d15 H14 y0 y1
  go_wp2_with fail
  refine (implMeanAll_any d _ p F _ H15.out.1 hnl (Lib.tabBelow_of_tabIs HT.out.1 _ H15.out.2.1.below)).mono ?_
  rintro e w16 ⟨v16, rfl, r16, d16⟩
  obtain ⟨o16, k16, rfl⟩ := own_form r16
  have H16 := (show Hid (_ ∧ _ ∧ _ ∧ _) from ⟨H15.out.2.1.next d16, rowB H15.out.2.2.1 d16, rowB H15.out.2.2.2 d16, r16⟩)
  clear r16 d16 H15
  go_wp2_with fail
  refine (eqIntS_same _ _ (allC p F p.names.length) (fun _ => True) (fun _ => True) _ (all_ints H16.out.2.2.2 hnl) (all_ints H16.out.2.1 hnl) (by rw [allC_len]; omega)).mono ?_
  rintro e w17 ⟨rfl, d17⟩
  have H17 := (show Hid (_ ∧ _) from ⟨H16.out.1.next d17, rowB H16.out.2.2.1 d17⟩)
  clear d17 H16
  go_wp2_with fail
  refine (heldIntS_any w6a.heap.size _ p.names.length 1 _ (by decide) (by decide) (by omega) H17.out.2).mono ?_
  rintro e w18 ⟨rfl, d18⟩
  have H18 := (show Hid _ from H17.out.1.next d18)
  clear d18 H17
  go_wp2_with fail
  go_ret
  exact ⟨rfl, H18.out.below⟩
end fnExactMeanAll
end Go.Proofs.YtkhkmmjollcfaaaGreatDoor
