/-
  The program's settleEnds.
  The program's endsOf: where each place leads to.
  The program's lists of a collection: places told by their ends, and new places.
  A heap made with room for so many cells; a cell put into its place.
-/
import Derived.Test.YtfhjkiimdkjhjaaGreatDoorEndsPure
import Derived.Test.YtfhjkiimdkjhjaaGreatDoorOwnInts
import Derived.Test.YtfhjkiimdkjhjaaGreatDoorHpRow
import Derived.Test.YtfhjkiimdkjhjaaGreatDoorNode
import Derived.Laws.MakeOwn
import Derived.Test.YtfhjkiimdkjhjaaGreatDoorComePure
import Derived.Lib.SliceRun
namespace Go.Proofs.YtfhjkiimdkjhjaaGreatDoor
open Go.RowKit Go.Joins

set_option maxRecDepth 100000

/-- One block, and what is new. -/
abbrev Fr (g n : Nat) : Nat → Prop := fun k => k = g ∨ n ≤ k
theorem cells_fr {w w' : World} {S : Nat → Prop} {g n : Nat} {v : Value} {es : List Ce} (h : CellsAt w S v es) (hS : ∀ k, S k → k ≠ g ∧ k < n) (ho : OutsP (Fr g n) w w') : CellsAt w' S v es :=
  h.kept (fun k hk hlt => ho.out k hlt (fun hw => by have := hS k hk; rcases hw with hw | hw <;> omega)) ho.size (fun _ h _ => h)
/-- The walk from a place under way. -/
def SettRel (w : World) (es : List Ce) (E0 : List Int) (k0 g cap B m : Nat) (pv sv : Value) (wr : World) : Prop :=
  ∃ (E ps : List Int) (p : Int), Sett es E0 E ps k0 p ∧ m = cntU E ∧ pv = .int .i64 p ∧ ps.length + cntU E ≤ es.length ∧ (∀ z ∈ ps, inI64 z) ∧
    wr.ownsRow B 3 1 (.slice (some ⟨g, 0, none⟩) es.length cap) es.length (intVs E) ∧ wr.ownsRow w.heap.size 3 1 sv ps.length (intVs ps) ∧ OutsP (Fr g w.heap.size) w wr

theorem row_cell {w : World} {b g cap n : Nat} {E : List Int} (h : w.ownsRow b 3 1 (.slice (some ⟨g, 0, none⟩) n cap) n (intVs E)) {i : Nat} {x : Int} (hi : E[i]? = some x) (hl : i < n) : w.cell? ⟨g, i, none⟩ = some (.int .i64 x) := by
  rw [h.cellAt i (by omega), List.getElem?_map, hi]
  rfl
theorem row_frozen {w : World} {b g cap n size : Nat} {e : TypeId} {xs : List Value} (h : w.ownsRow b e size (.slice (some ⟨g, 0, none⟩) n cap) n xs) (i : Nat) : w.frozen? ⟨g, i, none⟩ = false := by
  rcases h.2 with ⟨h', _⟩ | ⟨g', cap', cur, h', _, hc', _⟩
  · simp at h'
  · simp only [Value.slice.injEq, Option.some.injEq, Addr.mk.injEq, and_true] at h'
    obtain ⟨rfl, _⟩ := h'
    exact unfrozen_of_block hc' _
theorem intVs_set (E : List Int) (k : Nat) (y : Int) : intVs (E.set k y) = (intVs E).set k (.int .i64 y) := by simp [intVs, List.map_set]

theorem intVs_snoc2 (xs : List Int) (z : Int) : intVs (xs ++ [z]) = intVs xs ++ [.int .i64 z] := by simp [intVs]
theorem grown_cell {W w2 : World} {base n size o b : Nat} {e : TypeId} {v u : Value} {xs : List Value} {ob : Obj} (hg : (W.alloc ob).grownBy w2 v.ownBlock) (hr : W.ownsRow base e size v n xs) (hlt : b < W.heap.size) (hb : b < base) (hc : W.cell? ⟨b, o, none⟩ = some u) : w2.cell? ⟨b, o, none⟩ = some u := by
  rw [← hc]
  refine World.cell?_of_block ((hg.block b (by simp; omega) (fun h => ?_)).trans (Below.heap_alloc _ _ b hlt))
  have := (own_type hr b h.symm).1
  omega

set_option maxHeartbeats 12800000 in
theorem settleEnds_any (es : List Ce) (E : List Int) (k0 g cap B ccap : Nat) (ca : Option Addr) (S : Nat → Prop) (w : World) (hc : CellsAt w S (.slice ca es.length ccap) es) (hS : ∀ k, S k → k ≠ g) (hk0 : k0 < es.length)
    (hrow : w.ownsRow B 3 1 (.slice (some ⟨g, 0, none⟩) es.length cap) es.length (intVs E)) (hK : Known es E) (hn : es.length ≤ 2000000) :
    Calls Tryz.prog 50 #[.slice ca es.length ccap, .slice (some ⟨g, 0, none⟩) es.length cap, .int .i64 k0] w fun e w' => e = .returned (.tuple #[]) ∧ ∃ E', Known es E' ∧ E'[k0]? ≠ some (-2) ∧ (∀ i : Nat, E[i]? ≠ some (-2) → E'[i]? ≠ some (-2)) ∧
      w'.ownsRow B 3 1 (.slice (some ⟨g, 0, none⟩) es.length cap) es.length (intVs E') ∧ OutsP (Fr g w.heap.size) w w' := by
  have hcnt := cntU_le E
  have hEl := hK.len
  have hgl : g < w.heap.size := own_lt hrow g rfl
  have hcS : CellsAt w (fun k => k ≠ g ∧ k < w.heap.size) (.slice ca es.length ccap) es := hc.kept (fun _ _ _ => rfl) (Nat.le_refl _) (fun k hk hl => ⟨hS k hk, hl⟩)
  have R0 : SettRel w es E k0 g cap B (cntU E) (.int .i64 k0) (.slice none 0 0) w :=
    ⟨E, [], _, Sett.start hK k0, rfl, rfl, by simp; omega, fun z hz => by simp at hz, hrow, ⟨rfl, .inl ⟨rfl, rfl⟩⟩, OutsP.refl _ _⟩
  have HC := (show Hid (_ ∧ _) from ⟨hcS, R0⟩)
  have hcm : cntU E ≤ 2000000 := by omega
  obtain ⟨i0, hi, hz0, hz1, hz2⟩ := info_parts infoCdI
  clear hc hrow hK hcS R0 hcnt hEl hS
  go_enter Tryz.func50, Tryz.ntmps50
  go_wp2
  go_loopw [2, 6] (fun pv sv wr => ∃ m, SettRel w es E k0 g cap B m pv sv wr ∧ m ≤ 2000000) (fun pv sv wr => leastM (fun m => SettRel w es E k0 g cap B m pv sv wr))
  case atStart => exact ⟨_, HC.out.2, hcm⟩
  case round =>
    have hR := leastM_spec (p := fun m => SettRel w es E k0 g cap B m u2 u6 wr) (hrel.elim fun m h => ⟨m, h.1⟩)
    have hMx : leastM (fun m => SettRel w es E k0 g cap B m u2 u6 wr) ≤ 2000000 := hrel.elim fun m h => Nat.le_trans (leastM_le h.1) h.2
    clear hrel
    generalize hm0 : leastM (fun m => SettRel w es E k0 g cap B m u2 u6 wr) = m0 at *
    have HM0 := (show Hid (_ ∧ True) from ⟨hm0, trivial⟩)
    clear hm0
    obtain ⟨Ec, ps, p, hse, hm, rfl, hcu, hpz, hrw, hsr, ho⟩ := hR
    obtain ⟨pl, sa, sc, hpl, rfl⟩ := own_formN hsr
    subst hpl
    have hEl := hse.len
    have hpb : ps.length ≤ 2000000 := by omega
    by_cases hin : inB p 0 ((es.length : Int) - 1) = true
    · obtain ⟨k, c, rfl, hk, he, hca⟩ := cellAt_some hin
      have hx := List.getElem?_eq_getElem (l := Ec) (i := k) (by omega)
      have d0 := row_cell hrw hx hk
      have f0 := row_frozen hrw k
      generalize Ec[k] = x at *
      have hltk : ((k : Nat) : Int) < ((es.length : Nat) : Int) := by omega
      by_cases hx2 : x = -2
      · subst hx2
        have hen : c.isEnd = false := by
          cases h : c.isEnd with
          | false => rfl
          | true => exact absurd hx (hse.ends k c he h)
        obtain ⟨hk6, hk0'⟩ := isEnd_no hen
        have he0 := List.getElem?_eq_getElem hk0'
        generalize c.kids[0] = q at *
        have hk0i : (0 : Int) < ((c.kids.length : Nat) : Int) := by omega
        have hnx := hse.next hx he hk6 he0
        have hcs := cntU_set Ec k (-1) hx (by omega)
        have hst := hrw.stored k (.int .i64 (-1))
        have hs3 := hsr.kept hst.2 (by
          cases hb : (Value.slice sa ps.length sc).ownBlock with
          | none => exact .inl rfl
          | some b => exact .inr (fun e => by have := (own_type hsr b hb).1; simp at e; omega))
        have ho3 := ho.trans (OutsP.set wr g k (.inl rfl) (.int .i64 (-1)))
        obtain ⟨ca', ccap', hcv, -, hcc⟩ := cells_fr HC.out.1 (fun k hk => hk) ho3
        simp only [Value.slice.injEq, true_and] at hcv
        obtain ⟨rfl, rfl⟩ := hcv
        obtain ⟨cb, coff, kv, rfl, hSb, hlt3, -, -, -, c3, -, -, -, hkk⟩ := hcc k c he
        obtain ⟨ka, kc, rfl, hkm, hkc⟩ := hkk
        unfold maxLen at hkm
        obtain ⟨kb, koff, rfl, hSk, hlt4, e0, hq64⟩ := hkc 0 q he0
        rw [Nat.add_zero] at e0
        have hsz := ho.size
        have hsw : (wr.setCell ⟨g, k, none⟩ (.int .i64 (-1))).heap.size = wr.heap.size := by simp
        have hk64 : inI64 (k : Int) := inI64_small (by omega) (by omega)
        have HN := (show Hid (_ ∧ _ ∧ _ ∧ _ ∧ _ ∧ _) from ⟨hnx, hcs, hst.1, hs3.alloc (.cells #[.int .i64 (k : Int)] 3), ho3, hs3⟩)
        have HZ := (show Hid (_ ∧ _ ∧ _ ∧ _ ∧ _) from ⟨hpz, hcu, hm, c3, e0⟩)
        have HL := (show Hid (_ ∧ _ ∧ _ ∧ _) from ⟨hlt3, hlt4, hSb, hSk⟩)
        clear hse hm hcu hpz hrw hsr ho hnx hcs hst hs3 ho3 HC hca he he0 hx hEl hcc hkc c3 e0 hen hk6
        go_wp2_with (first
          | (go_at_call 37; refine (isPlace_is _ _ _ _ true hin _ (by omega)).mono ?_; rintro e w1 ⟨rfl, rfl⟩)
          | (at_builtin; refine wpList_append_own_at _ rfl _ _ 25 rfl w.heap.size 3 i0 (.int .i64 0) 1 8 Tryz.underlying25 hi hz0 hz1 hz2 rfl (by decide) _ ps.length _ rfl HN.out.2.2.2.1 ⟨w1.heap.size, 0, none⟩ 1 1 [.int .i64 (k : Int)] rfl rfl (by have := cell_one_new (w1.setCell ⟨g, k, none⟩ (.int .i64 (-1))) (.int .i64 (k : Int)) 3; rw [hsw] at this; exact this) (int_one _) (by unfold maxLen; omega) (by omega) (by simp; omega) ?_; intro v2 w2 hown2 hgrow2 hnil2 hat2; have c3' := grown_cell hgrow2 HN.out.2.2.2.2.2 HL.out.1 HL.out.2.2.1.2 HZ.out.2.2.2.1; have e0' := grown_cell hgrow2 HN.out.2.2.2.2.2 HL.out.2.1 HL.out.2.2.2.2 HZ.out.2.2.2.2))
        have S' : SettRel w es E k0 g cap B (cntU (Ec.set k (-1))) (.int .i64 q) v2 w2 := by
          refine ⟨_, _, q, HN.out.1, rfl, rfl, ?_, fun y hy => ?_, ?_, ?_, ?_⟩
          · rw [List.length_append, List.length_singleton]
            have := HN.out.2.1
            have := HZ.out.2.1
            omega
          · rw [List.mem_append, List.mem_singleton] at hy
            rcases hy with hy | rfl
            · exact HZ.out.1 y hy
            · exact hk64
          · rw [intVs_set]
            exact own_moved (HN.out.2.2.1.alloc (.cells #[.int .i64 (k : Int)] 3)) (fun b hb => hgrow2.block b (own_lt (HN.out.2.2.1.alloc _) b hb) (fun e => by
              have h1 : g = b := by simpa [Value.ownBlock] using hb
              have h2 := (own_type HN.out.2.2.2.2.2 b e.symm).1
              omega))
          · rw [intVs_snoc2, List.length_append, List.length_singleton]; exact hown2
          · refine HN.out.2.2.2.2.1.trans (OutsP.trans ?_ (OutsP.of_grown hgrow2 (fun b hb => .inr (own_type HN.out.2.2.2.2.2 b hb).1)))
            exact OutsP.of_grown (World.grownBy_alloc _ _ none) (fun b hb => by cases hb)
        have hlt0 : cntU (Ec.set k (-1)) < m0 := by
          have := HN.out.2.1
          have := HZ.out.2.2.1
          omega
        have HS := (show Hid (_ ∧ _) from ⟨S', hlt0⟩)
        clear S' hlt0 hown2 hgrow2 hnil2 hat2
        go_wp2
        exact ⟨⟨_, HS.out.1, by have := HS.out.2; omega⟩, Nat.lt_of_le_of_lt (leastM_le HS.out.1) (by rw [HM0.out.1]; exact HS.out.2)⟩
      · have hx2' : (x == -2) = false := by simpa using hx2
        have hxf : x = follow es (k : Int) := hse.stop hx hx2
        have hfi : Ec[k0]? ≠ some (-2) := by
          rcases hse.first with h | h
          · obtain rfl : k = k0 := by omega
            rw [hx]
            exact fun e => hx2 (Option.some.inj e)
          · exact h
        have hfl := hse.fill hfi
        rw [← hxf] at hfl
        have HF := (show Hid (_ ∧ _ ∧ _ ∧ _) from ⟨hfl, hrw, hsr, ho⟩)
        clear hse hm hcu hpz hrw hsr ho hxf hfi hfl HC hca he hx hEl hx2 hMx
        go_wp2_with (go_at_call 37; refine (isPlace_is _ _ _ _ true hin _ (by omega)).mono ?_; rintro e w1 ⟨rfl, rfl⟩)
        go_loopw [43] (fun i wr2 => ∃ (j : Nat) (E2 : List Int), j ≤ ps.length ∧ i = .int .i64 j ∧ Fill es E E2 (ps.drop j) k0 x ∧ wr2.ownsRow B 3 1 (.slice (some ⟨g, 0, none⟩) es.length cap) es.length (intVs E2) ∧ wr2.ownsRow w.heap.size 3 1 (.slice sa ps.length sc) ps.length (intVs ps) ∧ OutsP (Fr g w.heap.size) w wr2) (fun i _ => ps.length - (intOf i).toNat)
        case atStart => exact ⟨0, Ec, Nat.zero_le _, rfl, by rw [List.drop_zero]; exact HF.out.1, HF.out.2.1, HF.out.2.2.1, HF.out.2.2.2⟩
        case round =>
          clear HF
          obtain ⟨j, E2, hj, rfl, hfl, hr2, hs2, ho2⟩ := hrel
          by_cases hjl : j < ps.length
          · have he := List.getElem?_eq_getElem hjl
            have hdr := List.drop_eq_getElem_cons hjl
            generalize ps[j] = z at *
            rw [hdr] at hfl
            obtain ⟨-, k, rfl, hkl⟩ := hfl.chain z (by simp)
            have hst := hfl.step
            obtain ⟨sg, scap, hsv, hsg1, hsg2, hsg3⟩ := ow_some hs2 (by omega)
            simp only [Value.slice.injEq, true_and] at hsv
            obtain ⟨rfl, rfl⟩ := hsv
            have c0 : wr.cell? ⟨sg, j, none⟩ = some (.int .i64 (k : Int)) := by
              rw [hs2.cellAt j (by omega), List.getElem?_map, he]
              rfl
            have hE2l := hfl.len
            have hx := List.getElem?_eq_getElem (l := E2) (i := k) (by omega)
            have d0 := row_cell hr2 hx hkl
            have f0 := row_frozen hr2 k
            have hst2 := hr2.stored k (.int .i64 x)
            have hs3 := hs2.kept hst2.2 (.inr (fun e => by simp [Value.ownBlock] at e; omega))
            have ho3 := ho2.trans (OutsP.set wr g k (.inl rfl) (.int .i64 x))
            have hlt' : ((j : Nat) : Int) < ((ps.length : Nat) : Int) := by omega
            have hkl' : ((k : Nat) : Int) < ((es.length : Nat) : Int) := by omega
            have HN := (show Hid (_ ∧ _ ∧ _ ∧ _) from ⟨hst, hst2.1, hs3, ho3⟩)
            generalize E2[k] = x0 at *
            clear hfl hr2 hs2 ho2 he hdr hst hst2 hs3 ho3 hE2l hx
            go_wp2
            refine ⟨⟨j + 1, E2.set k x, by omega, by go_num, HN.out.1, by rw [intVs_set]; exact HN.out.2.1, HN.out.2.2.1, HN.out.2.2.2⟩, by simp [intOf]; omega⟩
          · obtain rfl : j = ps.length := by omega
            rw [List.drop_length] at hfl
            have HN := (show Hid (_ ∧ _ ∧ _) from ⟨hfl, hr2, ho2⟩)
            clear hfl hr2 hs2 ho2
            go_wp2
            go_end0
            exact ⟨rfl, E2, HN.out.1.done, HN.out.1.first, HN.out.1.old, HN.out.2.1, HN.out.2.2⟩
    · have hin' : inB p 0 ((es.length : Int) - 1) = false := by simpa using hin
      have hfo : follow es p = -1 := follow_none (cellAt_none hin')
      have hfi : Ec[k0]? ≠ some (-2) := by
        rcases hse.first with rfl | h
        · exact absurd (by unfold inB; simp; omega) hin
        · exact h
      have hfl := hse.fill hfi
      rw [hfo] at hfl
      have HF := (show Hid (_ ∧ _ ∧ _ ∧ _) from ⟨hfl, hrw, hsr, ho⟩)
      clear hse hm hcu hpz hrw hsr ho hfo hfi hfl HC hEl hMx hin
      go_wp2_with (go_at_call 37; refine (isPlace_is _ _ _ _ false hin' _ (by omega)).mono ?_; rintro e w1 ⟨rfl, rfl⟩)
      go_loopw [43] (fun i wr2 => ∃ (j : Nat) (E2 : List Int), j ≤ ps.length ∧ i = .int .i64 j ∧ Fill es E E2 (ps.drop j) k0 (-1) ∧ wr2.ownsRow B 3 1 (.slice (some ⟨g, 0, none⟩) es.length cap) es.length (intVs E2) ∧ wr2.ownsRow w.heap.size 3 1 (.slice sa ps.length sc) ps.length (intVs ps) ∧ OutsP (Fr g w.heap.size) w wr2) (fun i _ => ps.length - (intOf i).toNat)
      case atStart => exact ⟨0, Ec, Nat.zero_le _, rfl, by rw [List.drop_zero]; exact HF.out.1, HF.out.2.1, HF.out.2.2.1, HF.out.2.2.2⟩
      case round =>
        clear HF
        obtain ⟨j, E2, hj, rfl, hfl, hr2, hs2, ho2⟩ := hrel
        by_cases hjl : j < ps.length
        · have he := List.getElem?_eq_getElem hjl
          have hdr := List.drop_eq_getElem_cons hjl
          generalize ps[j] = z at *
          rw [hdr] at hfl
          obtain ⟨-, k, rfl, hkl⟩ := hfl.chain z (by simp)
          have hst := hfl.step
          obtain ⟨sg, scap, hsv, hsg1, hsg2, hsg3⟩ := ow_some hs2 (by omega)
          simp only [Value.slice.injEq, true_and] at hsv
          obtain ⟨rfl, rfl⟩ := hsv
          have c0 : wr.cell? ⟨sg, j, none⟩ = some (.int .i64 (k : Int)) := by
            rw [hs2.cellAt j (by omega), List.getElem?_map, he]
            rfl
          have hE2l := hfl.len
          have hx := List.getElem?_eq_getElem (l := E2) (i := k) (by omega)
          have d0 := row_cell hr2 hx hkl
          have f0 := row_frozen hr2 k
          have hst2 := hr2.stored k (.int .i64 (-1))
          have hs3 := hs2.kept hst2.2 (.inr (fun e => by simp [Value.ownBlock] at e; omega))
          have ho3 := ho2.trans (OutsP.set wr g k (.inl rfl) (.int .i64 (-1)))
          have hlt' : ((j : Nat) : Int) < ((ps.length : Nat) : Int) := by omega
          have hkl' : ((k : Nat) : Int) < ((es.length : Nat) : Int) := by omega
          have HN := (show Hid (_ ∧ _ ∧ _ ∧ _) from ⟨hst, hst2.1, hs3, ho3⟩)
          generalize E2[k] = x0 at *
          clear hfl hr2 hs2 ho2 he hdr hst hst2 hs3 ho3 hE2l hx
          go_wp2
          refine ⟨⟨j + 1, E2.set k (-1), by omega, by go_num, HN.out.1, by rw [intVs_set]; exact HN.out.2.1, HN.out.2.2.1, HN.out.2.2.2⟩, by simp [intOf]; omega⟩
        · obtain rfl : j = ps.length := by omega
          rw [List.drop_length] at hfl
          have HN := (show Hid (_ ∧ _ ∧ _) from ⟨hfl, hr2, ho2⟩)
          clear hfl hr2 hs2 ho2
          go_wp2
          go_end0
          exact ⟨rfl, E2, HN.out.1.done, HN.out.1.first, HN.out.1.old, HN.out.2.1, HN.out.2.2⟩
end Go.Proofs.YtfhjkiimdkjhjaaGreatDoor

namespace Go.Proofs.YtfhjkiimdkjhjaaGreatDoor
open Go.RowKit Go.Joins

set_option maxRecDepth 100000

theorem made_row (w : World) (base : Nat) (e : TypeId) (zc : Array Value) (size n : Nat) (hb : base ≤ w.heap.size) (hn : n ≤ maxLen) : (w.alloc (.cells (madeCells zc (n * size)) e)).ownsRow base e size (.slice (some ⟨w.heap.size, 0, none⟩) n n) n (madeCells zc (n * size)).toList := by
  have hs : (madeCells zc (n * size)).size = n * size := size_madeCells _ _
  refine ⟨by rw [Array.length_toList, hs], .inr ⟨w.heap.size, n, _, rfl, hb, (MapKept.heap_alloc w _).1, Nat.le_refl _, hn, hs, ?_⟩⟩
  exact List.take_of_length_le (by rw [Array.length_toList, hs]; exact Nat.le_refl _)
theorem makeI_row (n : Nat) (hn : n ≤ 4194304) (w : World) : (Instr.makeSlice 25 (.int .i64 (n : Int)) (.int .i64 (n : Int))).run Tryz.prog w = .ok (.slice (some ⟨w.heap.size, 0, none⟩) n n) (w.alloc (.cells (madeCells #[.int .i64 0] n) 3)) := by
  obtain ⟨i0, hi, hz0, hz1, hz2⟩ := info_parts infoCdI
  have h := run_make (P := Tryz.prog) w 25 3 i0 (.int .i64 0) Tryz.underlying25 hi hz0 .i64 .i64 n n (by omega) (Int.le_refl _) (by rw [hz2]; omega) (by omega)
  rw [hz1] at h
  simp only [Int.toNat_natCast, Nat.mul_one] at h
  exact h
theorem follow_in {es : List Ce} (hl : es.length ≤ 4194304) : ∀ z ∈ endsL es, inI64 z := by
  intro z hz
  obtain ⟨i, _, rfl⟩ := List.mem_map.1 hz
  rcases followN_in es (es.length + 1) (i : Int) with h | h
  · exact ⟨by unfold follow; omega, by unfold follow; omega⟩
  · exact ⟨by unfold follow; omega, by unfold follow; omega⟩

set_option maxHeartbeats 12800000 in
theorem endsOf_any (v : Value) (es : List Ce) (S : Nat → Prop) (w : World) (h : CellsAt w S v es) (hn : es.length ≤ 2000000) :
    Calls Tryz.prog 26 #[v] w fun e w' => e = .returned (.slice (some ⟨w.heap.size, 0, none⟩) es.length es.length) ∧ w'.ownsRow w.heap.size 3 1 (.slice (some ⟨w.heap.size, 0, none⟩) es.length es.length) es.length (intVs (endsL es)) ∧ Below w.heap.size w w' := by
  obtain ⟨a, cap, hv⟩ := h.form
  have hmk := makeI_row es.length (by omega)
  have HC := (show Hid (_ ∧ _ ∧ _) from ⟨h, (by have := made_row w w.heap.size 3 #[.int .i64 0] 1 es.length (Nat.le_refl _) (by unfold maxLen; omega); rw [Nat.mul_one] at this; exact this : (w.alloc (.cells (madeCells #[.int .i64 0] es.length) 3)).ownsRow w.heap.size 3 1 (.slice (some ⟨w.heap.size, 0, none⟩) es.length es.length) es.length (madeCells #[.int .i64 0] es.length).toList), ((Below.refl w.heap.size w).alloc (Nat.le_refl _) (.cells (madeCells #[.int .i64 0] es.length) 3))⟩)
  clear h
  subst hv
  go_enter Tryz.func26, Tryz.ntmps26
  go_wp2
  clear hmk
  go_loopw [12] (fun i wr => ∃ (k : Nat) (xs : List Value), k ≤ es.length ∧ i = .int .i64 k ∧ (∀ (j : Nat) (c : Ce), j < k → es[j]? = some c → xs[j]? = some (.int .i64 (end0 j c))) ∧ wr.ownsRow w.heap.size 3 1 (.slice (some ⟨w.heap.size, 0, none⟩) es.length es.length) es.length xs ∧ Below w.heap.size w wr) (fun i _ => es.length - (intOf i).toNat)
  case atStart => exact ⟨0, _, Nat.zero_le _, rfl, fun j c hj => by omega, HC.out.2.1, HC.out.2.2⟩
  case round =>
    obtain ⟨k, xs, hk, rfl, hxs, hrow, hbw⟩ := hrel
    have hszw := hbw.size
    have hxl := hrow.1
    rw [Nat.mul_one] at hxl
    by_cases hkl : k < es.length
    · have he := List.getElem?_eq_getElem hkl
      generalize es[k] = x at *
      obtain ⟨a', cap', hcv, -, hcc⟩ := HC.out.1
      simp only [Value.slice.injEq, true_and] at hcv
      obtain ⟨rfl, rfl⟩ := hcv
      obtain ⟨b, off, kv, rfl, hSb, hlt2, c0, c1, c2, c3, r1, r2, r3, hkk⟩ := hcc k x he
      rw [← hbw.cell (by exact hlt2)] at c0 c1 c2 c3
      obtain ⟨ka, kc, rfl⟩ := hkk.form
      have hbl : b < wr.heap.size := by omega
      have hbn : ¬ b = wr.heap.size := by omega
      have hgl : w.heap.size < wr.heap.size := own_lt hrow _ rfl
      have hgn : ¬ w.heap.size = wr.heap.size := by omega
      have d0 : ∃ u, wr.cell? ⟨w.heap.size, k, none⟩ = some u := by
        rw [hrow.cellAt k (by omega)]
        exact ⟨_, List.getElem?_eq_getElem (by omega)⟩
      obtain ⟨u0, d0⟩ := d0
      have f0 := row_frozen hrow k
      have hst := (hrow.stored k (.int .i64 (-2))).1.alloc (.cells #[.int .i64 x.kind, .int .i64 x.n, .int .i64 x.pos, .slice ka x.kids.length kc] 32)
      have hb1 : Below w.heap.size w (wr.setCell ⟨w.heap.size, k, none⟩ (.int .i64 (-2))) := hbw.setCell (p := ⟨w.heap.size, k, none⟩) (Nat.le_refl _) _
      have hb2 : Below w.heap.size w ((wr.setCell ⟨w.heap.size, k, none⟩ (.int .i64 (-2))).alloc (.cells #[.int .i64 x.kind, .int .i64 x.n, .int .i64 x.pos, .slice ka x.kids.length kc] 32)) := hb1.alloc (by simp; omega) _
      have hce : CeAt ((wr.setCell ⟨w.heap.size, k, none⟩ (.int .i64 (-2))).alloc (.cells #[.int .i64 x.kind, .int .i64 x.n, .int .i64 x.pos, .slice ka x.kids.length kc] 32)) S (.agg #[.int .i64 x.kind, .int .i64 x.n, .int .i64 x.pos, .slice ka x.kids.length kc]) x := ⟨_, rfl, r1, r2, r3, hkk.below hb2⟩
      have hE := isEnd_any _ x S _ hce
      have hlt' : ((k : Nat) : Int) < ((es.length : Nat) : Int) := by omega
      have HN := (show Hid (_ ∧ _ ∧ _ ∧ _ ∧ _ ∧ _) from ⟨hst, hb2, hE, hxs, he, hxl⟩)
      clear hrow hst hb1 hb2 hce hE hxs he hcc hkk hbw r1 r2 r3 HC
      cases hen : x.isEnd with
      | true =>
        go_wp2_with (go_at_call 38; refine HN.out.2.2.1.mono ?_; rintro e w3 ⟨rfl, b3⟩; rw [hen]; have hr3 := own_moved HN.out.1 (fun g hg => b3.block g (own_lt HN.out.1 g hg)); have hw3 : Below w.heap.size w w3 := HN.out.2.1.trans (b3.mono (by simp; omega)); have d3 : w3.cell? ⟨w.heap.size, k, none⟩ = some (.int .i64 (-2)) := (by rw [hr3.cellAt k (by omega), List.getElem?_set_self (by have := HN.out.2.2.2.2.2; omega)]); have f3 := row_frozen hr3 k)
        have hst3 := hr3.stored k (.int .i64 (k : Int))
        refine ⟨⟨k + 1, _, by omega, by go_num, fun j c hj hc => ?_, hst3.1, hw3.setCell (p := ⟨w.heap.size, k, none⟩) (Nat.le_refl _) _⟩, by simp [intOf]; omega⟩
        have hxl := HN.out.2.2.2.2.2
        by_cases hjk : j = k
        · subst hjk
          rw [List.getElem?_set_self (by rw [List.length_set]; omega)]
          obtain rfl : x = c := Option.some.inj (HN.out.2.2.2.2.1.symm.trans hc)
          unfold end0
          rw [if_pos hen]
        · rw [List.getElem?_set_ne (by omega), List.getElem?_set_ne (by omega)]
          exact HN.out.2.2.2.1 j c (by omega) hc
      | false =>
        go_wp2_with (go_at_call 38; refine HN.out.2.2.1.mono ?_; rintro e w3 ⟨rfl, b3⟩; rw [hen])
        have hr3 := own_moved HN.out.1 (fun g hg => b3.block g (own_lt HN.out.1 g hg))
        have hw3 : Below w.heap.size w w3 := HN.out.2.1.trans (b3.mono (by simp; omega))
        refine ⟨⟨k + 1, _, by omega, by go_num, fun j c hj hc => ?_, hr3, hw3⟩, by simp [intOf]; omega⟩
        have hxl := HN.out.2.2.2.2.2
        by_cases hjk : j = k
        · subst hjk
          rw [List.getElem?_set_self (by omega)]
          obtain rfl : x = c := Option.some.inj (HN.out.2.2.2.2.1.symm.trans hc)
          unfold end0
          rw [if_neg (by rw [hen]; exact Bool.false_ne_true)]
        · rw [List.getElem?_set_ne (by omega)]
          exact HN.out.2.2.2.1 j c (by omega) hc
    · obtain rfl : k = es.length := by omega
      obtain ⟨E, hE, hKn⟩ : ∃ E : List Int, xs = intVs E ∧ Known es E := by
        refine ⟨(List.range es.length).map (fun j => match es[j]? with | some c => end0 j c | none => 0), ?_, ?_⟩
        · refine List.ext_getElem? fun j => ?_
          by_cases hj : j < es.length
          · have hc := List.getElem?_eq_getElem hj
            rw [hxs j _ hj hc, List.getElem?_map, List.getElem?_map, List.getElem?_range hj]
            simp only [Option.map_some, hc]
          · rw [List.getElem?_eq_none (by omega), List.getElem?_eq_none (by simp; omega)]
        · refine Known.first (by simp) fun j c hc => ?_
          have hj := (List.getElem?_eq_some_iff.1 hc).1
          rw [List.getElem?_map, List.getElem?_range hj]
          simp only [Option.map_some, hc]
      subst hE
      have HN := (show Hid (_ ∧ _ ∧ _) from ⟨hrow, hKn, hbw⟩)
      clear hrow hKn hbw hxs hxl
      go_wp2
      go_loopw [29] (fun i wr2 => ∃ (k : Nat) (E2 : List Int), k ≤ es.length ∧ i = .int .i64 k ∧ Known es E2 ∧ (∀ j : Nat, j < k → E2[j]? ≠ some (-2)) ∧ wr2.ownsRow w.heap.size 3 1 (.slice (some ⟨w.heap.size, 0, none⟩) es.length es.length) es.length (intVs E2) ∧ Below w.heap.size w wr2) (fun i _ => es.length - (intOf i).toNat)
      case atStart => exact ⟨0, E, Nat.zero_le _, rfl, HN.out.2.1, fun j hj => by omega, HN.out.1, HN.out.2.2⟩
      case round =>
        clear HN
        obtain ⟨k, E2, hk, rfl, hKn, hne, hrow, hbw⟩ := hrel
        by_cases hkl : k < es.length
        · have hgl : w.heap.size < wr.heap.size := own_lt hrow _ rfl
          have hcs : CellsAt wr (fun q => q < w.heap.size) (.slice a es.length cap) es := HC.out.1.kept (fun q _ hlt => hbw.block q hlt) hbw.size (fun q _ hlt => hlt)
          have hse := settleEnds_any es E2 k w.heap.size es.length w.heap.size cap a (fun q => q < w.heap.size) wr hcs (fun q hq => by omega) hkl hrow hKn hn
          have HS := (show Hid (_ ∧ _ ∧ _) from ⟨hse, hne, hbw⟩)
          have hlt' : ((k : Nat) : Int) < ((es.length : Nat) : Int) := by omega
          clear hKn hne hrow hbw hcs hse
          go_wp2_with (go_at_call 50; refine HS.out.1.mono ?_; rintro e w3 ⟨rfl, E3, hK3, hk3, hold3, hr3, ho3⟩)
          refine ⟨⟨k + 1, E3, by omega, by go_num, hK3, fun j hj => ?_, hr3, ?_⟩, by simp [intOf]; omega⟩
          · by_cases hjk : j = k
            · rw [hjk]; exact hk3
            · exact hold3 j (HS.out.2.1 j (by omega))
          · have hb0 := HS.out.2.2
            exact ⟨ho3.os.trans hb0.os, ho3.tape.trans hb0.tape, ho3.output.trans hb0.output, Nat.le_trans hb0.size ho3.size, fun q hq => (ho3.out q (by have := hb0.size; omega) (fun h => by rcases h with h | h <;> omega)).trans (hb0.block q hq)⟩
        · obtain rfl : k = es.length := by omega
          have hall := hKn.all (fun j hj => hne j hj)
          have HS := (show Hid (_ ∧ _ ∧ _) from ⟨hall, hrow, hbw⟩)
          clear hKn hne hrow hbw hall
          go_wp2
          go_ret
          exact ⟨rfl, by rw [← HS.out.1]; exact HS.out.2.1, HS.out.2.2⟩
end Go.Proofs.YtfhjkiimdkjhjaaGreatDoor

namespace Go.Proofs.YtfhjkiimdkjhjaaGreatDoor
open Go.RowKit Go.Joins Go.Maps

set_option maxRecDepth 100000

set_option maxHeartbeats 1600000 in
theorem cloneI_any (v : Value) (zs : List Int) (S : Nat → Prop) (w : World) (h : IntsAt w S v zs) (hn : zs.length ≤ 10000000) :
    Calls Tryz.prog 51 #[v] w fun e w' => ∃ gv, e = .returned gv ∧ w'.ownsRow w.heap.size 3 1 gv zs.length (intVs zs) ∧ Below w.heap.size w w' := by
  have qT : ∀ (w : World) (a : Option Addr) (n c n' c' : Nat), (binOp .eql 25 (.slice a n c) (.slice none n' c')).run Tryz.prog w = .ok (.bool a.isNone) w := fun w a n c n' c' => Lib.run_eql_slice_nil w _ _ a n c n' c' Tryz.underlying25
  obtain ⟨a, cap, hv⟩ := h.form
  cases a with
  | none =>
    subst hv
    have hz : zs = [] := by
      obtain ⟨a', c', hv', _, hc⟩ := h
      cases zs with
      | nil => rfl
      | cons z zs =>
        obtain ⟨b, off, he, _⟩ := hc 0 z rfl
        subst he
        cases hv'
    subst hz
    clear h
    go_enter Tryz.func51, Tryz.ntmps51
    go_wp2
    go_ret
    exact ⟨_, rfl, ⟨rfl, .inl ⟨rfl, rfl⟩⟩, Below.refl _ _⟩
  | some ad =>
    have EI := ow_empty w w.heap.size 3 (Nat.le_refl _)
    have B0 : Below w.heap.size w (w.alloc (.cells #[] 3)) := (Below.refl _ w).alloc (Nat.le_refl _) _
    have HI := (show Hid (_ ∧ _ ∧ _) from ⟨h.below B0, EI, B0⟩)
    clear h EI B0
    subst hv
    go_enter Tryz.func51, Tryz.ntmps51
    go_wp2_with (at_builtin; refine wpList_append_ints rfl _ _ rfl w.heap.size _ 0 [] rfl HI.out.2.1 _ zs S rfl HI.out.1 (by omega) (by simp) ?_; intro v2 w2 hown2 hgrow2 hat2)
    go_ret
    rw [List.nil_append, Nat.zero_add] at hown2
    exact ⟨v2, rfl, hown2, HI.out.2.2.grown hgrow2 (by simp) (fun k hk => (own_type HI.out.2.1 k hk).1)⟩

theorem infoC4 : (Tryz.prog.info? 32).map (fun i => i.size) = some 4 := by kernel_rfl
set_option maxHeartbeats 3200000 in
theorem withKids_any (c : Ce) (kv nv : Value) (w : World) (ka na : Option Addr) (kl kc nl nc : Nat) (hk : kv = .slice ka kl kc) (hnv : nv = .slice na nl nc) :
    Calls Tryz.prog 27 #[.agg #[.int .i64 c.kind, .int .i64 c.n, .int .i64 c.pos, kv], nv] w fun e w' => e = .returned (.agg #[.int .i64 c.kind, .int .i64 c.n, .int .i64 c.pos, nv]) ∧ Below w.heap.size w w' := by
  subst hk hnv
  have B1 : Below w.heap.size w ((w.alloc (.cells #[.int .i64 c.kind, .int .i64 c.n, .int .i64 c.pos, .slice na nl nc] 32)).alloc (.cells #[.int .i64 c.kind, .int .i64 c.n, .int .i64 c.pos, .slice na nl nc] 32)) := ((Below.refl _ w).alloc (Nat.le_refl _) _).alloc (by simp) _
  have O1 := (MapKept.heap_alloc (w.alloc (.cells #[.int .i64 c.kind, .int .i64 c.n, .int .i64 c.pos, .slice na nl nc] 32)) (.cells #[.int .i64 c.kind, .int .i64 c.n, .int .i64 c.pos, .slice na nl nc] 32)).1
  have hs : (w.alloc (.cells #[.int .i64 c.kind, .int .i64 c.n, .int .i64 c.pos, .slice na nl nc] 32)).heap.size = w.heap.size + 1 := by simp
  rw [hs] at O1
  have HO := (show Hid (_ ∧ _) from ⟨O1, B1⟩)
  clear O1 B1 hs
  go_enter Tryz.func27, Tryz.ntmps27
  go_wp2
  refine bodyPost_ret (results_cell_row rfl _ _ (w.heap.size + 1) 32 _ (0, 0) _ rfl HO.out.1 Tryz.underlying32 rfl infoC4) rfl ?_
  exact ⟨rfl, HO.out.2⟩

theorem set_same {α : Type} {l : List α} {k : Nat} {x : α} (h : l[k]? = some x) : l.set k x = l := by
  refine List.ext_getElem? fun j => ?_
  by_cases hj : k = j
  · subst hj
    rw [List.getElem?_set_self (List.getElem?_eq_some_iff.1 h).1, h]
  · rw [List.getElem?_set_ne hj]
/-- A place, told by the ends. -/
theorem short_at (es : List Ce) (z : Int) : shortZ es z = (if (inB z 0 ((es.length : Int) - 1) && (((endsL es)[z.toNat]?).getD (-1) != -1)) = true then ((endsL es)[z.toNat]?).getD (-1) else z) := by
  unfold shortZ
  by_cases hin : inB z 0 ((es.length : Int) - 1) = true
  · obtain ⟨k, c, rfl, hk, he, hca⟩ := cellAt_some hin
    rw [hin, Int.toNat_natCast, endsL_at es k hk, Option.getD_some, Bool.true_and]
    have hg := follow_ge es (k : Int)
    by_cases h1 : follow es (k : Int) = -1
    · rw [if_pos (by omega), h1]; rfl
    · rw [if_neg (by omega), if_pos (by simpa using h1)]
  · have hin' : inB z 0 ((es.length : Int) - 1) = false := by simpa using hin
    rw [hin', Bool.false_and, if_neg Bool.false_ne_true, follow_none (cellAt_none hin'), if_pos (by omega)]

set_option maxHeartbeats 6400000 in
theorem toldBy_any (v : Value) (es : List Ce) (zs : List Int) (S : Nat → Prop) (w : World) (B g cap : Nat) (hE : w.ownsRow B 3 1 (.slice (some ⟨g, 0, none⟩) es.length cap) es.length (intVs (endsL es))) (h : IntsAt w S v zs) (hn : es.length ≤ 2000000) (hz : zs.length ≤ 10000000) :
    Calls Tryz.prog 28 #[.slice (some ⟨g, 0, none⟩) es.length cap, v] w fun e w' => ∃ gv, e = .returned gv ∧ w'.ownsRow w.heap.size 3 1 gv zs.length (intVs (shortL es zs)) ∧ Below w.heap.size w w' := by
  have hgl : g < w.heap.size := own_lt hE g rfl
  have hcl := cloneI_any v zs S w h hz
  have HC := (show Hid (_ ∧ _) from ⟨hcl, hE⟩)
  obtain ⟨va, vc, rfl⟩ := h.form
  clear hcl hE h
  go_enter Tryz.func28, Tryz.ntmps28
  go_wp2_with (go_at_call 51; refine HC.out.1.mono ?_; rintro e w1 ⟨tv, rfl, ht1, hb1⟩; have HT := (show Hid (_ ∧ _) from ⟨ht1, hb1⟩); obtain ⟨tl, ta, tc, htl, rfl⟩ := own_formN ht1; have HTL := (show Hid (_ ∧ True) from ⟨htl, trivial⟩); clear ht1 hb1 htl)
  go_loopw [12] (fun i wr => ∃ (k : Nat) (ys : List Int), k ≤ zs.length ∧ i = .int .i64 k ∧ ys.length = zs.length ∧ (∀ (j : Nat) (z : Int), zs[j]? = some z → ys[j]? = some (if j < k then shortZ es z else z)) ∧ wr.ownsRow w.heap.size 3 1 (.slice ta tl tc) zs.length (intVs ys) ∧ Below w.heap.size w wr) (fun i _ => zs.length - (intOf i).toNat)
  case atStart => exact ⟨0, zs, Nat.zero_le _, rfl, rfl, fun j z hj => by rw [hj, if_neg (by omega)], HT.out.1, HT.out.2⟩
  case round =>
    clear HT
    obtain ⟨k, ys, hk, rfl, hyl, hys, hrow, hbw⟩ := hrel
    have htl := HTL.out.1
    subst htl
    by_cases hkl : k < zs.length
    · have he := List.getElem?_eq_getElem hkl
      have hyk := hys k _ he
      rw [if_neg (by omega)] at hyk
      have hsh := short_at es zs[k]
      generalize zs[k] = z at *
      obtain ⟨sg, scap, hsv, hsg1, hsg2, hsg3⟩ := ow_some hrow (by omega)
      simp only [Value.slice.injEq, true_and] at hsv
      obtain ⟨rfl, rfl⟩ := hsv
      have c0 := row_cell hrow hyk hkl
      have f0 := row_frozen hrow k
      have hE2 := own_moved HC.out.2 (fun b hb => hbw.block b (by have h1 : g = b := by simpa [Value.ownBlock] using hb
                                                                  omega))
      have hlt' : ((k : Nat) : Int) < ((zs.length : Nat) : Int) := by omega
      have hend : ∀ (ys' : List Int), ys' = ys.set k (shortZ es z) → ys'.length = zs.length ∧ ∀ (j : Nat) (y : Int), zs[j]? = some y → ys'[j]? = some (if j < k + 1 then shortZ es y else y) := by
        rintro ys' rfl
        refine ⟨by rw [List.length_set]; exact hyl, fun j y hj => ?_⟩
        by_cases hjk : k = j
        · subst hjk
          rw [List.getElem?_set_self (by omega), if_pos (by omega)]
          rw [he] at hj
          rw [Option.some.inj hj]
        · rw [List.getElem?_set_ne hjk, hys j y hj]
          by_cases hjl : j < k
          · rw [if_pos hjl, if_pos (by omega)]
          · rw [if_neg hjl, if_neg (by omega)]
      by_cases hin : inB z 0 ((es.length : Int) - 1) = true
      · obtain ⟨q, c, rfl, hq, hec, hca⟩ := cellAt_some hin
        have d0 := row_cell hE2 (endsL_at es q hq) hq
        rw [hin, Int.toNat_natCast, endsL_at es q hq, Option.getD_some, Bool.true_and] at hsh
        generalize follow es (q : Int) = x at *
        have hqlt : ((q : Nat) : Int) < ((es.length : Nat) : Int) := by omega
        cases hx : (x != -1) with
        | true =>
          rw [hx, if_pos rfl] at hsh
          have hst := hrow.stored k (.int .i64 x)
          have HN := (show Hid (_ ∧ _ ∧ _) from ⟨hend _ rfl, hst.1, hbw.setCell (p := ⟨sg, k, none⟩) hsg2 (.int .i64 x)⟩)
          have HSH := (show Hid (_ ∧ True) from ⟨hsh, trivial⟩)
          clear hend hst hbw hrow hys hE2 HC hca hec he hyk hsh
          go_wp2_with (go_at_call 45; refine (within_r _ _ _ true hin _).mono ?_; rintro e w2 ⟨rfl, rfl⟩)
          refine ⟨⟨k + 1, ys.set k (shortZ es (q : Int)), by omega, by go_num, HN.out.1.1, HN.out.1.2, by rw [HSH.out.1, intVs_set]; exact HN.out.2.1, HN.out.2.2⟩, by simp [intOf]; omega⟩
        | false =>
          rw [hx, if_neg Bool.false_ne_true] at hsh
          have HN := (show Hid (_ ∧ _ ∧ _ ∧ _ ∧ _) from ⟨hend _ rfl, hrow, hbw, hyk, hsh⟩)
          clear hend hbw hrow hys hE2 HC hca hec he hyk hsh
          go_wp2_with (go_at_call 45; refine (within_r _ _ _ true hin _).mono ?_; rintro e w2 ⟨rfl, rfl⟩)
          have hset : ys.set k (shortZ es (q : Int)) = ys := by
            rw [HN.out.2.2.2.2]
            exact set_same HN.out.2.2.2.1
          refine ⟨⟨k + 1, ys.set k (shortZ es (q : Int)), by omega, by go_num, HN.out.1.1, HN.out.1.2, by rw [hset]; exact HN.out.2.1, HN.out.2.2.1⟩, by simp [intOf]; omega⟩
      · have hin' : inB z 0 ((es.length : Int) - 1) = false := by simpa using hin
        rw [hin', Bool.false_and, if_neg Bool.false_ne_true] at hsh
        have HN := (show Hid (_ ∧ _ ∧ _ ∧ _ ∧ _) from ⟨hend _ rfl, hrow, hbw, hyk, hsh⟩)
        clear hend hbw hrow hys hE2 HC he hyk hsh hin
        go_wp2_with (go_at_call 45; refine (within_r _ _ _ false hin' _).mono ?_; rintro e w2 ⟨rfl, rfl⟩)
        have hset : ys.set k (shortZ es z) = ys := by
          rw [HN.out.2.2.2.2]
          exact set_same HN.out.2.2.2.1
        refine ⟨⟨k + 1, ys.set k (shortZ es z), by omega, by go_num, HN.out.1.1, HN.out.1.2, by rw [hset]; exact HN.out.2.1, HN.out.2.2.1⟩, by simp [intOf]; omega⟩
    · obtain rfl : k = zs.length := by omega
      have hys2 : ys = shortL es zs := by
        refine List.ext_getElem? fun j => ?_
        by_cases hj : j < zs.length
        · rw [hys j _ (List.getElem?_eq_getElem hj), if_pos hj]
          unfold shortL
          rw [List.getElem?_map, List.getElem?_eq_getElem hj]
          rfl
        · rw [List.getElem?_eq_none (by omega), List.getElem?_eq_none (by rw [shortL_len]; omega)]
      have HN := (show Hid (_ ∧ _ ∧ _) from ⟨hys2, hrow, hbw⟩)
      clear hys2 hrow hbw hys
      go_wp2
      go_ret
      exact ⟨_, rfl, by rw [← HN.out.1]; exact HN.out.2.1, HN.out.2.2⟩

set_option maxHeartbeats 6400000 in
theorem newPlaces_any (v : Value) (zs : List Int) (S : Nat → Prop) (w : World) (M n : Nat) (bs : List Bool) (hm : IMap w M n (fAlive bs)) (h : IntsAt w S v zs) (hz : zs.length ≤ 10000000) :
    Calls Tryz.prog 30 #[.map (some M), v] w fun e w' => ∃ gv, e = .returned gv ∧ w'.ownsRow w.heap.size 3 1 gv zs.length (intVs (movedL (toOf 0 bs) zs)) ∧ Below w.heap.size w w' := by
  obtain ⟨va, vc, hv, hvl, hvc⟩ := h
  subst hv
  unfold maxLen at hvl
  obtain ⟨i0, hi, hz0, hz1, hz2⟩ := info_parts infoCdI
  have HC := (show Hid (_ ∧ _) from ⟨hvc, hm⟩)
  clear hvc hm
  go_enter Tryz.func30, Tryz.ntmps30
  go_wp2
  go_loopw [5, 12] (fun pv i wr => ∃ k : Nat, k ≤ zs.length ∧ i = .int .i64 k ∧ wr.ownsRow w.heap.size 3 1 pv k (intVs (movedL (toOf 0 bs) (zs.take k))) ∧ Below w.heap.size w wr) (fun _ i _ => zs.length - (intOf i).toNat)
  case atStart => exact ⟨0, Nat.zero_le _, rfl, ⟨rfl, .inl ⟨rfl, rfl⟩⟩, Below.refl _ _⟩
  case round =>
    obtain ⟨k, hk, rfl, hrow, hbw⟩ := hrel
    have hszw := hbw.size
    obtain ⟨pl, pa, pc, hpl, rfl⟩ := own_formN hrow
    by_cases hkl : k < zs.length
    · have he := List.getElem?_eq_getElem hkl
      generalize zs[k] = z at *
      obtain ⟨zb, zoff, rfl, hSz, hzlt, c0, hz64⟩ := HC.out.1 k z he
      rw [← hbw.cell (by exact hzlt)] at c0
      have hml := HC.out.2.lt
      have hlk := (HC.out.2.block (hbw.block M hml)).look_ok hz64
      have hmv := fAlive_moved bs z
      have hmt := movedL_take (toOf 0 bs) zs k he
      have hlt' : ((k : Nat) : Int) < ((zs.length : Nat) : Int) := by omega
      have HR := (show Hid (_ ∧ _ ∧ _) from ⟨fun x => hrow.alloc (.cells #[.int .i64 x] 3), hbw, hmt⟩)
      clear hrow hbw hmt he HC
      generalize movedZ (toOf 0 bs) z = y at *
      cases hf : fAlive bs z with
      | none =>
        rw [hf] at hlk hmv
        simp only [Option.isSome_none, Option.getD_none] at hlk hmv
        subst hmv
        go_wp2_with (at_builtin; refine wpList_append_own_at _ rfl _ _ 25 rfl w.heap.size 3 i0 (.int .i64 0) 1 8 Tryz.underlying25 hi hz0 hz1 hz2 rfl (by decide) _ k _ rfl (HR.out.1 _) ⟨wr.heap.size, 0, none⟩ 1 1 [.int .i64 (-1)] rfl rfl (cell_one_new _ _ _) (int_one _) (by unfold maxLen; omega) (by omega) (by simp; omega) ?_; intro v2 w2 hown2 hgrow2 hnil2 hat2)
        refine ⟨⟨k + 1, by omega, by go_num, by rw [HR.out.2.2, intVs_snoc2]; exact hown2, (HR.out.2.1.alloc hszw _).grown hgrow2 (by simp; omega) (fun j hj => (own_type (HR.out.1 0) j hj).1)⟩, by simp [intOf]; omega⟩
      | some x =>
        rw [hf] at hlk hmv
        simp only [Option.isSome_some, Option.getD_some] at hlk hmv
        subst hmv
        go_wp2_with (at_builtin; refine wpList_append_own_at _ rfl _ _ 25 rfl w.heap.size 3 i0 (.int .i64 0) 1 8 Tryz.underlying25 hi hz0 hz1 hz2 rfl (by decide) _ k _ rfl (HR.out.1 _) ⟨wr.heap.size, 0, none⟩ 1 1 [.int .i64 x] rfl rfl (cell_one_new _ _ _) (int_one _) (by unfold maxLen; omega) (by omega) (by simp; omega) ?_; intro v2 w2 hown2 hgrow2 hnil2 hat2)
        refine ⟨⟨k + 1, by omega, by go_num, by rw [HR.out.2.2, intVs_snoc2]; exact hown2, (HR.out.2.1.alloc hszw _).grown hgrow2 (by simp; omega) (fun j hj => (own_type (HR.out.1 0) j hj).1)⟩, by simp [intOf]; omega⟩
    · obtain rfl : k = zs.length := by omega
      rw [List.take_length] at hrow
      have HR := (show Hid (_ ∧ _) from ⟨hrow, hbw⟩)
      clear hrow hbw HC
      go_wp2
      go_ret
      exact ⟨_, rfl, HR.out.1, HR.out.2⟩
end Go.Proofs.YtfhjkiimdkjhjaaGreatDoor

namespace Go.Proofs.YtfhjkiimdkjhjaaGreatDoor
open Go.RowKit Go.Joins

set_option maxRecDepth 100000

def ce0 : Ce := ⟨0, 0, 0, []⟩
def room (n : Nat) : List (Ce × Value) := List.replicate n (ce0, .slice none 0 0)
theorem room_cells (n : Nat) : (room n).flatMap ceCells = (madeCells #[.int .i64 0, .int .i64 0, .int .i64 0, .slice none 0 0] (n * 4)).toList := by
  refine List.ext_getElem? fun i => ?_
  by_cases hi : i < n * 4
  · have hq : i / 4 < n := by omega
    have hsp : room n = room (i / 4) ++ (ce0, .slice none 0 0) :: room (n - i / 4 - 1) := by
      have h : List.replicate (i / 4 + (n - i / 4 - 1 + 1)) (ce0, Value.slice none 0 0) = room (i / 4) ++ (ce0, .slice none 0 0) :: room (n - i / 4 - 1) := by
        unfold room
        rw [← List.replicate_append_replicate, List.replicate_succ]
      rw [show i / 4 + (n - i / 4 - 1 + 1) = n by omega] at h
      exact h
    have hm := ce_mid (room (i / 4)) (room (n - i / 4 - 1)) ce0 (.slice none 0 0) (i % 4) (by omega)
    rw [← hsp, show (room (i / 4)).length = i / 4 by simp [room], show i / 4 * 4 + i % 4 = i by omega] at hm
    rw [hm]
    unfold madeCells
    simp only [Array.toList_map, Array.toList_range, List.getElem?_map, List.getElem?_range hi, Option.map_some]
    have h4 : i % 4 = 0 ∨ i % 4 = 1 ∨ i % 4 = 2 ∨ i % 4 = 3 := by omega
    rcases h4 with h | h | h | h <;> simp [h, ceCells, ce0]
  · rw [List.getElem?_eq_none (by rw [ce_len]; simp [room]; omega), List.getElem?_eq_none (by rw [Array.length_toList, size_madeCells]; omega)]
theorem hp_room (w : World) (B n : Nat) (hb : B ≤ w.heap.size) (hn : n ≤ maxLen) : HpAt (w.alloc (.cells (madeCells #[.int .i64 0, .int .i64 0, .int .i64 0, .slice none 0 0] (n * 4)) 32)) B (.slice (some ⟨w.heap.size, 0, none⟩) n n) (room n) := by
  have hl : (room n).length = n := by simp [room]
  refine ⟨?_, fun r hr => ?_, ?_⟩
  · rw [room_cells, hl]
    exact made_row w B 32 #[.int .i64 0, .int .i64 0, .int .i64 0, .slice none 0 0] 4 n hb hn
  · have := List.eq_of_mem_replicate hr
    subst this
    exact ⟨⟨rfl, .inl ⟨rfl, rfl⟩⟩, ⟨by simp [ce0], by simp [ce0]⟩, ⟨by simp [ce0], by simp [ce0]⟩, ⟨by simp [ce0], by simp [ce0]⟩, fun z hz => by simp [ce0] at hz⟩
  · refine List.pairwise_map.2 (List.pairwise_iff_getElem.2 fun i j hi hj _ => .inl ?_)
    simp [room, Value.ownBlock]
theorem makeC_row (n : Nat) (hn : n ≤ 4194304) (w : World) : (Instr.makeSlice 24 (.int .i64 (n : Int)) (.int .i64 (n : Int))).run Tryz.prog w = .ok (.slice (some ⟨w.heap.size, 0, none⟩) n n) (w.alloc (.cells (madeCells #[.int .i64 0, .int .i64 0, .int .i64 0, .slice none 0 0] (n * 4)) 32)) := by
  obtain ⟨i0, hi, hz0, hz1, hz2⟩ := info_parts infoCell
  have h := run_make (P := Tryz.prog) w 24 32 i0 _ Tryz.underlying24 hi hz0 .i64 .i64 n n (by omega) (Int.le_refl _) (by rw [hz2]; omega) (by omega)
  rw [hz1] at h
  simp only [Int.toNat_natCast] at h
  exact h

theorem put_list (A D : List (Ce × Value)) (c x : Ce) (u kv : Value) : (((((A ++ (c, u) :: D).flatMap ceCells).set (A.length * 4) (.int .i64 x.kind)).set (A.length * 4 + 1) (.int .i64 x.n)).set (A.length * 4 + 2) (.int .i64 x.pos)).set (A.length * 4 + 3) kv = (A ++ (x, kv) :: D).flatMap ceCells := by
  have h := fun (l : List Value) (i : Nat) (v : Value) => List.set_append_right (s := A.flatMap ceCells) (t := l) (A.length * 4 + i) v (by rw [ce_len]; omega)
  have hl := ce_len A
  rw [List.flatMap_append, List.flatMap_append, List.flatMap_cons, List.flatMap_cons]
  have h0 := h (ceCells (c, u) ++ D.flatMap ceCells) 0 (.int .i64 x.kind)
  rw [Nat.add_zero] at h0
  rw [h0, h, h, h, hl]
  simp [ceCells, show A.length * 4 + 1 - A.length * 4 = 1 by omega, show A.length * 4 + 2 - A.length * 4 = 2 by omega, show A.length * 4 + 3 - A.length * 4 = 3 by omega]
/-- A cell is put into its place. -/
theorem HpAt.put {W : World} {B g cap n : Nat} {u kv : Value} {A D : List (Ce × Value)} {c x : Ce} (h : HpAt W B (.slice (some ⟨g, 0, none⟩) n cap) (A ++ (c, u) :: D)) (hn : n = (A ++ (c, u) :: D).length)
    (hx : W.ownsRow B 3 1 kv x.kids.length (intVs x.kids)) (hok : CeOk x) (hap : ∀ r ∈ A ++ D, AptV r.2 kv) :
    HpAt ((((W.setCell ⟨g, A.length * 4, none⟩ (.int .i64 x.kind)).setCell ⟨g, A.length * 4 + 1, none⟩ (.int .i64 x.n)).setCell ⟨g, A.length * 4 + 2, none⟩ (.int .i64 x.pos)).setCell ⟨g, A.length * 4 + 3, none⟩ kv) B (.slice (some ⟨g, 0, none⟩) n cap) (A ++ (x, kv) :: D) := by
  have hcod := h.cells
  rw [← hn] at hcod
  have s1 := (hcod.stored (A.length * 4) (.int .i64 x.kind)).1
  have s2 := (s1.stored (A.length * 4 + 1) (.int .i64 x.n)).1
  have s3 := (s2.stored (A.length * 4 + 2) (.int .i64 x.pos)).1
  have s4 := (s3.stored (A.length * 4 + 3) kv).1
  rw [put_list] at s4
  have hint : ∀ (m : Nat) (v' : Value) (xs : List Value), W.ownsRow B 3 1 v' m xs → ((((W.setCell ⟨g, A.length * 4, none⟩ (.int .i64 x.kind)).setCell ⟨g, A.length * 4 + 1, none⟩ (.int .i64 x.n)).setCell ⟨g, A.length * 4 + 2, none⟩ (.int .i64 x.pos)).setCell ⟨g, A.length * 4 + 3, none⟩ kv).ownsRow B 3 1 v' m xs := fun m v' xs ho =>
    own_moved ho (fun k hk => by
      have hne : ∀ (j : Nat), k ≠ (⟨g, j, none⟩ : Addr).block := fun j e => own_ne ho hcod (by decide) k hk (congrArg some e)
      rw [Below.heap_setCell _ _ _ _ (hne _), Below.heap_setCell _ _ _ _ (hne _), Below.heap_setCell _ _ _ _ (hne _), Below.heap_setCell _ _ _ _ (hne _)])
  refine ⟨?_, fun r hr => ?_, ?_⟩
  · rw [show (A ++ (x, kv) :: D).length = (A ++ (c, u) :: D).length by simp, ← hn]
    exact s4
  · rw [List.mem_append, List.mem_cons] at hr
    rcases hr with hr | rfl | hr
    · have := h.kids r (by simp [hr])
      exact ⟨hint _ _ _ this.1, this.2⟩
    · exact ⟨hint _ _ _ hx, hok⟩
    · have := h.kids r (by simp [hr])
      exact ⟨hint _ _ _ this.1, this.2⟩
  · have ha := h.apart
    rw [List.map_append, List.map_cons, List.pairwise_append, List.pairwise_cons] at ha ⊢
    refine ⟨ha.1, ⟨fun v hv => ?_, ha.2.1.2⟩, fun v hv v' hv' => ?_⟩
    · obtain ⟨r, hr, rfl⟩ := List.mem_map.1 hv
      exact (hap r (by simp [hr])).symm
    · rw [List.mem_cons] at hv'
      rcases hv' with rfl | hv'
      · obtain ⟨r, hr, rfl⟩ := List.mem_map.1 hv
        exact hap r (by simp [hr])
      · exact ha.2.2 v hv v' (by simp [hv'])
end Go.Proofs.YtfhjkiimdkjhjaaGreatDoor
