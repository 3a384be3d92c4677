/-
  The program's settleEnds.
-/
import Derived.Test.YthjpmdoljceaiaaEndsPure
import Derived.Test.YthjpmdoljceaiaaOwnInts
import Derived.Test.YthjpmdoljceaiaaHpRow
import Derived.Test.YthjpmdoljceaiaaNode
namespace Go.Proofs.Ythjpmdoljceaiaa
open Go.RowKit Go.Joins

set_option maxRecDepth 100000

/-- One block, and what is new. -/
abbrev Fr (g n : Nat) : Nat → Prop := fun k => k = g ∨ n ≤ k
theorem cells_fr {w w' : World} {S : Nat → Prop} {g n : Nat} {v : Value} {es : List Ce} (h : CellsAt w S v es) (hS : ∀ k, S k → k ≠ g ∧ k < n) (ho : OutsP (Fr g n) w w') : CellsAt w' S v es :=
  h.kept (fun k hk hlt => ho.out k hlt (fun hw => by have := hS k hk; rcases hw with hw | hw <;> omega)) ho.size (fun _ h _ => h)
/-- The walk from a place under way. -/
def SettRel (w : World) (es : List Ce) (E0 : List Int) (k0 g cap B m : Nat) (pv sv : Value) (wr : World) : Prop :=
  ∃ (E ps : List Int) (p : Int), Sett es E0 E ps k0 p ∧ m = cntU E ∧ pv = .int .i64 p ∧ ps.length + cntU E ≤ es.length ∧ (∀ z ∈ ps, inI64 z) ∧
    wr.ownsRow B 3 1 (.slice (some ⟨g, 0, none⟩) es.length cap) es.length (intVs E) ∧ wr.ownsRow w.heap.size 3 1 sv ps.length (intVs ps) ∧ OutsP (Fr g w.heap.size) w wr

theorem row_cell {w : World} {b g cap n : Nat} {E : List Int} (h : w.ownsRow b 3 1 (.slice (some ⟨g, 0, none⟩) n cap) n (intVs E)) {i : Nat} {x : Int} (hi : E[i]? = some x) (hl : i < n) : w.cell? ⟨g, i, none⟩ = some (.int .i64 x) := by
  rw [h.cellAt i (by omega), List.getElem?_map, hi]
  rfl
theorem row_frozen {w : World} {b g cap n size : Nat} {e : TypeId} {xs : List Value} (h : w.ownsRow b e size (.slice (some ⟨g, 0, none⟩) n cap) n xs) (i : Nat) : w.frozen? ⟨g, i, none⟩ = false := by
  rcases h.2 with ⟨h', _⟩ | ⟨g', cap', cur, h', _, hc', _⟩
  · simp at h'
  · simp only [Value.slice.injEq, Option.some.injEq, Addr.mk.injEq, and_true] at h'
    obtain ⟨rfl, _⟩ := h'
    exact unfrozen_of_block hc' _
theorem intVs_set (E : List Int) (k : Nat) (y : Int) : intVs (E.set k y) = (intVs E).set k (.int .i64 y) := by simp [intVs, List.map_set]

theorem intVs_snoc2 (xs : List Int) (z : Int) : intVs (xs ++ [z]) = intVs xs ++ [.int .i64 z] := by simp [intVs]
theorem grown_cell {W w2 : World} {base n size o b : Nat} {e : TypeId} {v u : Value} {xs : List Value} {ob : Obj} (hg : (W.alloc ob).grownBy w2 v.ownBlock) (hr : W.ownsRow base e size v n xs) (hlt : b < W.heap.size) (hb : b < base) (hc : W.cell? ⟨b, o, none⟩ = some u) : w2.cell? ⟨b, o, none⟩ = some u := by
  rw [← hc]
  refine World.cell?_of_block ((hg.block b (by simp; omega) (fun h => ?_)).trans (Below.heap_alloc _ _ b hlt))
  have := (own_type hr b h.symm).1
  omega

set_option maxHeartbeats 12800000 in
theorem settleEnds_any (es : List Ce) (E : List Int) (k0 g cap B ccap : Nat) (ca : Option Addr) (S : Nat → Prop) (w : World) (hc : CellsAt w S (.slice ca es.length ccap) es) (hS : ∀ k, S k → k ≠ g) (hk0 : k0 < es.length)
    (hrow : w.ownsRow B 3 1 (.slice (some ⟨g, 0, none⟩) es.length cap) es.length (intVs E)) (hK : Known es E) (hn : es.length ≤ 2000000) :
    Calls Try.prog 53 #[.slice ca es.length ccap, .slice (some ⟨g, 0, none⟩) es.length cap, .int .i64 k0] w fun e w' => e = .returned (.tuple #[]) ∧ ∃ E', Known es E' ∧ E'[k0]? ≠ some (-2) ∧ (∀ i : Nat, E[i]? ≠ some (-2) → E'[i]? ≠ some (-2)) ∧
      w'.ownsRow B 3 1 (.slice (some ⟨g, 0, none⟩) es.length cap) es.length (intVs E') ∧ OutsP (Fr g w.heap.size) w w' := by
  have hcnt := cntU_le E
  have hEl := hK.len
  have hgl : g < w.heap.size := own_lt hrow g rfl
  have hcS : CellsAt w (fun k => k ≠ g ∧ k < w.heap.size) (.slice ca es.length ccap) es := hc.kept (fun _ _ _ => rfl) (Nat.le_refl _) (fun k hk hl => ⟨hS k hk, hl⟩)
  have R0 : SettRel w es E k0 g cap B (cntU E) (.int .i64 k0) (.slice none 0 0) w :=
    ⟨E, [], _, Sett.start hK k0, rfl, rfl, by simp; omega, fun z hz => by simp at hz, hrow, ⟨rfl, .inl ⟨rfl, rfl⟩⟩, OutsP.refl _ _⟩
  have HC := (show Hid (_ ∧ _) from ⟨hcS, R0⟩)
  have hcm : cntU E ≤ 2000000 := by omega
  obtain ⟨i0, hi, hz0, hz1, hz2⟩ := info_parts infoCdI
  clear hc hrow hK hcS R0 hcnt hEl hS
  go_enter Try.func53, Try.ntmps53
  go_wp2
  go_loopw [2, 6] (fun pv sv wr => ∃ m, SettRel w es E k0 g cap B m pv sv wr ∧ m ≤ 2000000) (fun pv sv wr => leastM (fun m => SettRel w es E k0 g cap B m pv sv wr))
  case atStart => exact ⟨_, HC.out.2, hcm⟩
  case round =>
    have hR := leastM_spec (p := fun m => SettRel w es E k0 g cap B m u2 u6 wr) (hrel.elim fun m h => ⟨m, h.1⟩)
    have hMx : leastM (fun m => SettRel w es E k0 g cap B m u2 u6 wr) ≤ 2000000 := hrel.elim fun m h => Nat.le_trans (leastM_le h.1) h.2
    clear hrel
    generalize hm0 : leastM (fun m => SettRel w es E k0 g cap B m u2 u6 wr) = m0 at *
    have HM0 := (show Hid (_ ∧ True) from ⟨hm0, trivial⟩)
    clear hm0
    obtain ⟨Ec, ps, p, hse, hm, rfl, hcu, hpz, hrw, hsr, ho⟩ := hR
    obtain ⟨pl, sa, sc, hpl, rfl⟩ := own_formN hsr
    subst hpl
    have hEl := hse.len
    have hpb : ps.length ≤ 2000000 := by omega
    by_cases hin : inB p 0 ((es.length : Int) - 1) = true
    · obtain ⟨k, c, rfl, hk, he, hca⟩ := cellAt_some hin
      have hx := List.getElem?_eq_getElem (l := Ec) (i := k) (by omega)
      have d0 := row_cell hrw hx hk
      have f0 := row_frozen hrw k
      generalize Ec[k] = x at *
      have hltk : ((k : Nat) : Int) < ((es.length : Nat) : Int) := by omega
      by_cases hx2 : x = -2
      · subst hx2
        have hen : c.isEnd = false := by
          cases h : c.isEnd with
          | false => rfl
          | true => exact absurd hx (hse.ends k c he h)
        obtain ⟨hk6, hk0'⟩ := isEnd_no hen
        have he0 := List.getElem?_eq_getElem hk0'
        generalize c.kids[0] = q at *
        have hk0i : (0 : Int) < ((c.kids.length : Nat) : Int) := by omega
        have hnx := hse.next hx he hk6 he0
        have hcs := cntU_set Ec k (-1) hx (by omega)
        have hst := hrw.stored k (.int .i64 (-1))
        have hs3 := hsr.kept hst.2 (by
          cases hb : (Value.slice sa ps.length sc).ownBlock with
          | none => exact .inl rfl
          | some b => exact .inr (fun e => by have := (own_type hsr b hb).1; simp at e; omega))
        have ho3 := ho.trans (OutsP.set wr g k (.inl rfl) (.int .i64 (-1)))
        obtain ⟨ca', ccap', hcv, -, hcc⟩ := cells_fr HC.out.1 (fun k hk => hk) ho3
        simp only [Value.slice.injEq, true_and] at hcv
        obtain ⟨rfl, rfl⟩ := hcv
        obtain ⟨cb, coff, kv, rfl, hSb, hlt3, -, -, -, c3, -, -, -, hkk⟩ := hcc k c he
        obtain ⟨ka, kc, rfl, hkm, hkc⟩ := hkk
        unfold maxLen at hkm
        obtain ⟨kb, koff, rfl, hSk, hlt4, e0, hq64⟩ := hkc 0 q he0
        rw [Nat.add_zero] at e0
        have hsz := ho.size
        have hsw : (wr.setCell ⟨g, k, none⟩ (.int .i64 (-1))).heap.size = wr.heap.size := by simp
        have hk64 : inI64 (k : Int) := inI64_small (by omega) (by omega)
        have HN := (show Hid (_ ∧ _ ∧ _ ∧ _ ∧ _ ∧ _) from ⟨hnx, hcs, hst.1, hs3.alloc (.cells #[.int .i64 (k : Int)] 3), ho3, hs3⟩)
        have HZ := (show Hid (_ ∧ _ ∧ _ ∧ _ ∧ _) from ⟨hpz, hcu, hm, c3, e0⟩)
        have HL := (show Hid (_ ∧ _ ∧ _ ∧ _) from ⟨hlt3, hlt4, hSb, hSk⟩)
        clear hse hm hcu hpz hrw hsr ho hnx hcs hst hs3 ho3 HC hca he he0 hx hEl hcc hkc c3 e0 hen hk6
        go_wp2_with (first
          | (go_at_call 31; refine (isPlace_is _ _ _ _ true hin _ (by omega)).mono ?_; rintro e w1 ⟨rfl, rfl⟩)
          | (at_builtin; refine wpList_append_own_at _ rfl _ _ 30 rfl w.heap.size 3 i0 (.int .i64 0) 1 8 Try.underlying30 hi hz0 hz1 hz2 rfl (by decide) _ ps.length _ rfl HN.out.2.2.2.1 ⟨w1.heap.size, 0, none⟩ 1 1 [.int .i64 (k : Int)] rfl rfl (by have := cell_one_new (w1.setCell ⟨g, k, none⟩ (.int .i64 (-1))) (.int .i64 (k : Int)) 3; rw [hsw] at this; exact this) (int_one _) (by unfold maxLen; omega) (by omega) (by simp; omega) ?_; intro v2 w2 hown2 hgrow2 hnil2 hat2; have c3' := grown_cell hgrow2 HN.out.2.2.2.2.2 HL.out.1 HL.out.2.2.1.2 HZ.out.2.2.2.1; have e0' := grown_cell hgrow2 HN.out.2.2.2.2.2 HL.out.2.1 HL.out.2.2.2.2 HZ.out.2.2.2.2))
        have S' : SettRel w es E k0 g cap B (cntU (Ec.set k (-1))) (.int .i64 q) v2 w2 := by
          refine ⟨_, _, q, HN.out.1, rfl, rfl, ?_, fun y hy => ?_, ?_, ?_, ?_⟩
          · rw [List.length_append, List.length_singleton]
            have := HN.out.2.1
            have := HZ.out.2.1
            omega
          · rw [List.mem_append, List.mem_singleton] at hy
            rcases hy with hy | rfl
            · exact HZ.out.1 y hy
            · exact hk64
          · rw [intVs_set]
            exact own_moved (HN.out.2.2.1.alloc (.cells #[.int .i64 (k : Int)] 3)) (fun b hb => hgrow2.block b (own_lt (HN.out.2.2.1.alloc _) b hb) (fun e => by
              have h1 : g = b := by simpa [Value.ownBlock] using hb
              have h2 := (own_type HN.out.2.2.2.2.2 b e.symm).1
              omega))
          · rw [intVs_snoc2, List.length_append, List.length_singleton]; exact hown2
          · refine HN.out.2.2.2.2.1.trans (OutsP.trans ?_ (OutsP.of_grown hgrow2 (fun b hb => .inr (own_type HN.out.2.2.2.2.2 b hb).1)))
            exact OutsP.of_grown (World.grownBy_alloc _ _ none) (fun b hb => by cases hb)
        have hlt0 : cntU (Ec.set k (-1)) < m0 := by
          have := HN.out.2.1
          have := HZ.out.2.2.1
          omega
        have HS := (show Hid (_ ∧ _) from ⟨S', hlt0⟩)
        clear S' hlt0 hown2 hgrow2 hnil2 hat2
        go_wp2
        exact ⟨⟨_, HS.out.1, by have := HS.out.2; omega⟩, Nat.lt_of_le_of_lt (leastM_le HS.out.1) (by rw [HM0.out.1]; exact HS.out.2)⟩
      · have hx2' : (x == -2) = false := by simpa using hx2
        have hxf : x = follow es (k : Int) := hse.stop hx hx2
        have hfi : Ec[k0]? ≠ some (-2) := by
          rcases hse.first with h | h
          · obtain rfl : k = k0 := by omega
            rw [hx]
            exact fun e => hx2 (Option.some.inj e)
          · exact h
        have hfl := hse.fill hfi
        rw [← hxf] at hfl
        have HF := (show Hid (_ ∧ _ ∧ _ ∧ _) from ⟨hfl, hrw, hsr, ho⟩)
        clear hse hm hcu hpz hrw hsr ho hxf hfi hfl HC hca he hx hEl hx2 hMx
        go_wp2_with (go_at_call 31; refine (isPlace_is _ _ _ _ true hin _ (by omega)).mono ?_; rintro e w1 ⟨rfl, rfl⟩)
        go_loopw [43] (fun i wr2 => ∃ (j : Nat) (E2 : List Int), j ≤ ps.length ∧ i = .int .i64 j ∧ Fill es E E2 (ps.drop j) k0 x ∧ wr2.ownsRow B 3 1 (.slice (some ⟨g, 0, none⟩) es.length cap) es.length (intVs E2) ∧ wr2.ownsRow w.heap.size 3 1 (.slice sa ps.length sc) ps.length (intVs ps) ∧ OutsP (Fr g w.heap.size) w wr2) (fun i _ => ps.length - (intOf i).toNat)
        case atStart => exact ⟨0, Ec, Nat.zero_le _, rfl, by rw [List.drop_zero]; exact HF.out.1, HF.out.2.1, HF.out.2.2.1, HF.out.2.2.2⟩
        case round =>
          clear HF
          obtain ⟨j, E2, hj, rfl, hfl, hr2, hs2, ho2⟩ := hrel
          by_cases hjl : j < ps.length
          · have he := List.getElem?_eq_getElem hjl
            have hdr := List.drop_eq_getElem_cons hjl
            generalize ps[j] = z at *
            rw [hdr] at hfl
            obtain ⟨-, k, rfl, hkl⟩ := hfl.chain z (by simp)
            have hst := hfl.step
            obtain ⟨sg, scap, hsv, hsg1, hsg2, hsg3⟩ := ow_some hs2 (by omega)
            simp only [Value.slice.injEq, true_and] at hsv
            obtain ⟨rfl, rfl⟩ := hsv
            have c0 : wr.cell? ⟨sg, j, none⟩ = some (.int .i64 (k : Int)) := by
              rw [hs2.cellAt j (by omega), List.getElem?_map, he]
              rfl
            have hE2l := hfl.len
            have hx := List.getElem?_eq_getElem (l := E2) (i := k) (by omega)
            have d0 := row_cell hr2 hx hkl
            have f0 := row_frozen hr2 k
            have hst2 := hr2.stored k (.int .i64 x)
            have hs3 := hs2.kept hst2.2 (.inr (fun e => by simp [Value.ownBlock] at e; omega))
            have ho3 := ho2.trans (OutsP.set wr g k (.inl rfl) (.int .i64 x))
            have hlt' : ((j : Nat) : Int) < ((ps.length : Nat) : Int) := by omega
            have hkl' : ((k : Nat) : Int) < ((es.length : Nat) : Int) := by omega
            have HN := (show Hid (_ ∧ _ ∧ _ ∧ _) from ⟨hst, hst2.1, hs3, ho3⟩)
            generalize E2[k] = x0 at *
            clear hfl hr2 hs2 ho2 he hdr hst hst2 hs3 ho3 hE2l hx
            go_wp2
            refine ⟨⟨j + 1, E2.set k x, by omega, by go_num, HN.out.1, by rw [intVs_set]; exact HN.out.2.1, HN.out.2.2.1, HN.out.2.2.2⟩, by simp [intOf]; omega⟩
          · obtain rfl : j = ps.length := by omega
            rw [List.drop_length] at hfl
            have HN := (show Hid (_ ∧ _ ∧ _) from ⟨hfl, hr2, ho2⟩)
            clear hfl hr2 hs2 ho2
            go_wp2
            go_end0
            exact ⟨rfl, E2, HN.out.1.done, HN.out.1.first, HN.out.1.old, HN.out.2.1, HN.out.2.2⟩
    · have hin' : inB p 0 ((es.length : Int) - 1) = false := by simpa using hin
      have hfo : follow es p = -1 := follow_none (cellAt_none hin')
      have hfi : Ec[k0]? ≠ some (-2) := by
        rcases hse.first with rfl | h
        · exact absurd (by unfold inB; simp; omega) hin
        · exact h
      have hfl := hse.fill hfi
      rw [hfo] at hfl
      have HF := (show Hid (_ ∧ _ ∧ _ ∧ _) from ⟨hfl, hrw, hsr, ho⟩)
      clear hse hm hcu hpz hrw hsr ho hfo hfi hfl HC hEl hMx hin
      go_wp2_with (go_at_call 31; refine (isPlace_is _ _ _ _ false hin' _ (by omega)).mono ?_; rintro e w1 ⟨rfl, rfl⟩)
      go_loopw [43] (fun i wr2 => ∃ (j : Nat) (E2 : List Int), j ≤ ps.length ∧ i = .int .i64 j ∧ Fill es E E2 (ps.drop j) k0 (-1) ∧ wr2.ownsRow B 3 1 (.slice (some ⟨g, 0, none⟩) es.length cap) es.length (intVs E2) ∧ wr2.ownsRow w.heap.size 3 1 (.slice sa ps.length sc) ps.length (intVs ps) ∧ OutsP (Fr g w.heap.size) w wr2) (fun i _ => ps.length - (intOf i).toNat)
      case atStart => exact ⟨0, Ec, Nat.zero_le _, rfl, by rw [List.drop_zero]; exact HF.out.1, HF.out.2.1, HF.out.2.2.1, HF.out.2.2.2⟩
      case round =>
        clear HF
        obtain ⟨j, E2, hj, rfl, hfl, hr2, hs2, ho2⟩ := hrel
        by_cases hjl : j < ps.length
        · have he := List.getElem?_eq_getElem hjl
          have hdr := List.drop_eq_getElem_cons hjl
          generalize ps[j] = z at *
          rw [hdr] at hfl
          obtain ⟨-, k, rfl, hkl⟩ := hfl.chain z (by simp)
          have hst := hfl.step
          obtain ⟨sg, scap, hsv, hsg1, hsg2, hsg3⟩ := ow_some hs2 (by omega)
          simp only [Value.slice.injEq, true_and] at hsv
          obtain ⟨rfl, rfl⟩ := hsv
          have c0 : wr.cell? ⟨sg, j, none⟩ = some (.int .i64 (k : Int)) := by
            rw [hs2.cellAt j (by omega), List.getElem?_map, he]
            rfl
          have hE2l := hfl.len
          have hx := List.getElem?_eq_getElem (l := E2) (i := k) (by omega)
          have d0 := row_cell hr2 hx hkl
          have f0 := row_frozen hr2 k
          have hst2 := hr2.stored k (.int .i64 (-1))
          have hs3 := hs2.kept hst2.2 (.inr (fun e => by simp [Value.ownBlock] at e; omega))
          have ho3 := ho2.trans (OutsP.set wr g k (.inl rfl) (.int .i64 (-1)))
          have hlt' : ((j : Nat) : Int) < ((ps.length : Nat) : Int) := by omega
          have hkl' : ((k : Nat) : Int) < ((es.length : Nat) : Int) := by omega
          have HN := (show Hid (_ ∧ _ ∧ _ ∧ _) from ⟨hst, hst2.1, hs3, ho3⟩)
          generalize E2[k] = x0 at *
          clear hfl hr2 hs2 ho2 he hdr hst hst2 hs3 ho3 hE2l hx
          go_wp2
          refine ⟨⟨j + 1, E2.set k (-1), by omega, by go_num, HN.out.1, by rw [intVs_set]; exact HN.out.2.1, HN.out.2.2.1, HN.out.2.2.2⟩, by simp [intOf]; omega⟩
        · obtain rfl : j = ps.length := by omega
          rw [List.drop_length] at hfl
          have HN := (show Hid (_ ∧ _ ∧ _) from ⟨hfl, hr2, ho2⟩)
          clear hfl hr2 hs2 ho2
          go_wp2
          go_end0
          exact ⟨rfl, E2, HN.out.1.done, HN.out.1.first, HN.out.1.old, HN.out.2.1, HN.out.2.2⟩
end Go.Proofs.Ythjpmdoljceaiaa
