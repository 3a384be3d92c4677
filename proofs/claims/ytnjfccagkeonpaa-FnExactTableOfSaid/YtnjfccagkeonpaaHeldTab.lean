/-
  The laws' look whether the marks of a table still stand; both over a whole table.
-/
import Derived.Test.YtnjfccagkeonpaaMarkTab
namespace Go.Proofs.Ytnjfccagkeonpaa
open Go.RowKit Go.Joins

set_option maxRecDepth 100000

theorem marks_split {l : List (Cd × Value)} {j : Nat} (h : j < l.length) (k : Int) : marksC k l = marksC k (l.take j) ++ (markC (markE k (l.take j)) l[j].1, l[j].2) :: marksC (markE k (l.take (j + 1))) (l.drop (j + 1)) := by
  conv => lhs; rw [← List.take_append_drop j l, marksC_app, List.drop_eq_getElem_cons h, marksC]
  rw [end_next h]

set_option maxHeartbeats 3200000 in
theorem heldCodeS_any (B : Nat) (cv tv : Value) (rs : List (Cd × Value)) (tops : List Int) (k0 : Int) (w : World) (hk0 : 0 ≤ k0) (hE : markE k0 rs ≤ 90000000) (hT : TabAt w B cv tv (marksC k0 rs) tops) :
    Calls Try.prog 30 #[cv, .int .i64 k0] w fun e w' => e = .returned (.int .i64 (markE k0 rs)) ∧ Below w.heap.size w w' := by
  have h3 := markE_three rs k0
  have hml := marksC_len rs k0
  by_cases hz : rs.length = 0
  · obtain rfl : rs = [] := List.eq_nil_of_length_eq_zero hz
    obtain ⟨a1, c1, rfl⟩ := row_nil hT.codes rfl
    clear hT
    go_enter Try.func30, Try.ntmps30
    go_wp2
    refine wp_loop_rounds 1 ?_
    rw [rounds_succ]
    go_wp2
    go_ret
    exact ⟨rfl, Below.refl _ _⟩
  obtain ⟨g, cap, hv⟩ := own_some hT.codes (by omega)
  rw [hml] at hv
  subst hv
  have hlg := own_lt hT.codes g rfl
  have HC : Hid (∀ (j : Nat) (hj : j < rs.length), (∀ i v, i < 4 → (cdCells (markC (markE k0 (rs.take j)) rs[j].1, rs[j].2))[i]? = some v → w.cell? ⟨g, j * 4 + i, none⟩ = some v) ∧ w.ownsRow B 3 1 rs[j].2 rs[j].1.kids.length (intVs (marksI (markE k0 (rs.take j) + 1 + 1 + 1) rs[j].1.kids.length))) := fun j hj => by
    have hsp := marks_split hj k0
    have hT' := hT
    rw [hsp] at hT'
    have hAl : (marksC k0 (rs.take j)).length = j := by rw [marksC_len, List.length_take]; omega
    refine ⟨fun i v hi hv => ?_, ?_⟩
    · have := hT'.codes.cells (g := g) rfl ((marksC k0 (rs.take j)).length * 4 + i) v (by rw [mid_cell _ _ _ _ i hi]; exact hv)
      rw [addr_addI, Nat.zero_add, hAl] at this
      exact this
    · have := (hT'.kids (markC (markE k0 (rs.take j)) rs[j].1, rs[j].2) (by simp)).1
      rw [show (markC (markE k0 (rs.take j)) rs[j].1).kids = marksI (markE k0 (rs.take j) + 1 + 1 + 1) rs[j].1.kids.length from rfl, marksI_len] at this
      exact this
  clear hT hml
  go_enter Try.func30, Try.ntmps30
  go_wp2
  go_loopw [1, 5] (fun kv i wr => ∃ j : Nat, j ≤ rs.length ∧ i = .int .i64 j ∧ kv = .int .i64 (markE k0 (rs.take j)) ∧ Below w.heap.size w wr) (fun _ i _ => rs.length - (intOf i).toNat)
  case atStart => exact ⟨0, Nat.zero_le _, rfl, rfl, Below.refl _ _⟩
  case round =>
    obtain ⟨j, hj, rfl, rfl, hbw⟩ := hrel
    have hke := markE_take rs k0 j
    have hkg := markE_ge (rs.take j) k0
    by_cases hlt : j < rs.length
    · obtain ⟨hc, hi⟩ := HC.out j hlt
      have hen := end_next hlt k0
      have hke1 := markE_take rs k0 (j + 1)
      rw [hen] at hke1
      have HN : Hid (markE k0 (rs.take (j + 1)) = markE k0 (rs.take j) + 3 + (rs[j].1.kids.length : Int)) := hen
      clear hen
      generalize rs[j].1 = c at *
      generalize rs[j].2 = u at *
      obtain ⟨ua, uc, rfl⟩ := own_form hi
      generalize markE k0 (rs.take j) = k at *
      have a0 : wr.cell? ⟨g, j * 4, none⟩ = some (.int .i64 k) := (hbw.cell (p := ⟨g, j * 4, none⟩) hlg).trans (hc 0 _ (by omega) rfl)
      have a1 : wr.cell? ⟨g, j * 4 + 1, none⟩ = some (.int .i64 (k + 1)) := (hbw.cell (p := ⟨g, j * 4 + 1, none⟩) hlg).trans (hc 1 _ (by omega) rfl)
      have a2 : wr.cell? ⟨g, j * 4 + 2, none⟩ = some (.string (markT (k + 1 + 1))) := (hbw.cell (p := ⟨g, j * 4 + 2, none⟩) hlg).trans (hc 2 _ (by omega) rfl)
      have a3 : wr.cell? ⟨g, j * 4 + 3, none⟩ = some (.slice ua c.kids.length uc) := (hbw.cell (p := ⟨g, j * 4 + 3, none⟩) hlg).trans (hc 3 _ (by omega) rfl)
      have hlt' : ((j : Nat) : Int) < ((rs.length : Nat) : Int) := by omega
      have hsz := hbw.size
      have e0 : (k != k) = false := by simp
      have e1 : (k + 1 != k + 1) = false := by simp
      have e2 : ((markT (k + 1 + 1)).toList != (markT (k + 1 + 1)).toList) = false := by simp
      have HI := (show Hid (_ ∧ _) from ⟨hi, hbw⟩)
      clear hc hi HC
      go_wp2
      go_region_with (go_at_call 44; refine (markText_any _ _ (by omega)).mono ?_; rintro e w1 ⟨rfl, hb1⟩; have b2 : w1.cell? ⟨g, j * 4 + 2, none⟩ = some (.string (markT (k + 1 + 1))) := (hb1.cell (p := ⟨g, j * 4 + 2, none⟩) (by exact Nat.lt_of_lt_of_le hlg hsz)).trans (by exact a2))
      all_goals
        have b3 : w1.cell? ⟨g, j * 4 + 3, none⟩ = some (.slice ua c.kids.length uc) := (hb1.cell (p := ⟨g, j * 4 + 3, none⟩) (by exact Nat.lt_of_lt_of_le hlg hsz)).trans (by exact a3)
        have hbw2 : Below w.heap.size w w1 := HI.out.2.drew.trans (hb1.mono hsz)
        have hi2 : w1.ownsRow B 3 1 (.slice ua c.kids.length uc) c.kids.length (intVs (marksI (k + 1 + 1 + 1) c.kids.length)) := own_moved HI.out.1 (fun q hq => hbw2.block q (own_lt HI.out.1 q hq))
        have hhd := heldIntS_any B _ c.kids.length (k + 1 + 1 + 1) _ (by omega) (by omega) (by omega) hi2
        have HD := (show Hid (_ ∧ _) from ⟨hhd, hbw2⟩)
        have hs1 := hbw2.size
        clear hb1 hi2 hhd hbw2 hbw
        go_wp2_with fail
        refine HD.out.1.mono ?_
        rintro e w2 ⟨rfl, hb2⟩
        have hng : ¬ k + 1 + 1 + 1 + (c.kids.length : Int) < 0 := by omega
        have hbw3 : Below w.heap.size w w2 := HD.out.2.trans (hb2.mono hs1)
        clear hb2
        go_wp2
        refine ⟨⟨j + 1, by omega, by go_num, ?_, hbw3⟩, by simp [intOf]; omega⟩
        rw [HN.out]
        exact int_eqv (by omega)
    · clear HC
      obtain rfl : j = rs.length := by omega
      rw [List.take_length]
      go_wp2
      go_ret
      exact ⟨rfl, hbw⟩

/-- The table, when it is marked: its tops. -/
def markTops (k0 : Int) (rs : List (Cd × Value)) (n : Nat) : List Int := marksI (markE k0 rs) n

set_option maxHeartbeats 1600000 in
theorem markTable_any (B : Nat) (cv tv : Value) (rs : List (Cd × Value)) (tops : List Int) (w : World) (hB : B ≤ w.heap.size) (hE : markE 1 rs + tops.length ≤ 90000000) (hT : TabAt w B cv tv rs tops) :
    Calls Try.prog 11 #[.agg #[cv, tv], .int .i64 1] w fun e w' => e = .returned (.int .i64 (markE 1 rs + tops.length)) ∧ TabAt w' B cv tv (marksC 1 rs) (markTops 1 rs tops.length) ∧ MkB B w w' := by
  have hge := markE_ge rs 1
  obtain ⟨la, lc, rfl⟩ := own_form hT.codes
  obtain ⟨ka, kc, rfl⟩ := own_form hT.tops
  have O0 : (w.alloc (.cells #[.slice la rs.length lc, .slice ka tops.length kc] 30)).heap[w.heap.size]? = some (.cells #[.slice la rs.length lc, .slice ka tops.length kc] 30 (0, 0)) := (MapKept.heap_alloc w _).1
  have B0 : MkB B w (w.alloc (.cells #[.slice la rs.length lc, .slice ka tops.length kc] 30)) := (MkB.refl B w).later ((Below.refl _ w).alloc (Nat.le_refl _) _) hB
  have hm := markCodeS_any B _ _ rs tops 1 _ (by simp; omega) (by omega) (by omega) (hT.alloc (.cells #[.slice la rs.length lc, .slice ka tops.length kc] 30))
  have hs0 : (w.alloc (.cells #[.slice la rs.length lc, .slice ka tops.length kc] 30)).heap.size = w.heap.size + 1 := by simp
  have HM := (show Hid (_ ∧ _ ∧ _) from ⟨hm, B0, O0⟩)
  clear hm B0 O0 hT
  go_enter Try.func11, Try.ntmps11
  go_wp2_with fail
  refine HM.out.1.mono ?_
  rintro e w1 ⟨rfl, hT1, hb1⟩
  have O1 := hb1.tabs _ _ HM.out.2.2
  have y1 : w1.cell? ⟨w.heap.size, 1, none⟩ = some (.slice ka tops.length kc) := by rw [cell_of_block O1]; rfl
  have B1 : MkB B w w1 := ⟨HM.out.2.1.below.trans hb1.below, fun k cs hk => hb1.tabs k cs (HM.out.2.1.tabs k cs hk)⟩
  have hi := markIntS_any B _ tops.length _ (markE 1 rs) _ (by omega) (by omega) (by omega) hT1.tops
  have hs1 := B1.below.size
  have H1 := (show Hid (_ ∧ _ ∧ _) from ⟨hi, hT1, B1⟩)
  clear hi hT1 B1 hb1 O1 HM
  go_wp2_with fail
  refine H1.out.1.mono ?_
  rintro e w2 ⟨rfl, hown2, hgr2⟩
  have hT2 := H1.out.2.1.topInts (ks := markTops 1 rs tops.length) hown2 (marksI_len _ _) hgr2
  have B2 : MkB B w w2 := H1.out.2.2.grown H1.out.2.1.tops (by decide) hgr2 (by omega)
  have H2 := (show Hid (_ ∧ _) from ⟨hT2, B2⟩)
  clear hT2 B2 hown2 hgr2 H1
  go_wp2
  go_ret
  exact ⟨rfl, H2.out.1, H2.out.2⟩

set_option maxHeartbeats 1600000 in
theorem heldTable_any (B : Nat) (cv tv : Value) (rs : List (Cd × Value)) (n : Nat) (w : World) (hE : markE 1 rs + n ≤ 90000000) (hT : TabAt w B cv tv (marksC 1 rs) (markTops 1 rs n)) :
    Calls Try.prog 12 #[.agg #[cv, tv], .int .i64 1] w fun e w' => e = .returned (.int .i64 (markE 1 rs + n)) ∧ Below w.heap.size w w' := by
  have hge := markE_ge rs 1
  have hF1 := own_form hT.codes
  have hF2 := own_form hT.tops
  rw [marksC_len] at hF1
  rw [show (markTops 1 rs n).length = n from marksI_len _ _] at hF2
  obtain ⟨la, lc, rfl⟩ := hF1
  obtain ⟨ka, kc, rfl⟩ := hF2
  have O0 : (w.alloc (.cells #[.slice la rs.length lc, .slice ka n kc] 30)).heap[w.heap.size]? = some (.cells #[.slice la rs.length lc, .slice ka n kc] 30 (0, 0)) := (MapKept.heap_alloc w _).1
  have B0 : Below w.heap.size w (w.alloc (.cells #[.slice la rs.length lc, .slice ka n kc] 30)) := (Below.refl _ w).alloc (Nat.le_refl _) _
  have hm := heldCodeS_any B _ _ rs _ 1 _ (by omega) (by omega) (hT.alloc (.cells #[.slice la rs.length lc, .slice ka n kc] 30))
  have hs0 : (w.alloc (.cells #[.slice la rs.length lc, .slice ka n kc] 30)).heap.size = w.heap.size + 1 := by simp
  have HM := (show Hid (_ ∧ _ ∧ _ ∧ _) from ⟨hm, B0, O0, hT⟩)
  clear hm B0 O0 hT
  go_enter Try.func12, Try.ntmps12
  go_wp2_with fail
  refine HM.out.1.mono ?_
  rintro e w1 ⟨rfl, hb1⟩
  have O1 : w1.heap[w.heap.size]? = some (.cells #[.slice la rs.length lc, .slice ka n kc] 30 (0, 0)) := (hb1.block _ (by rw [hs0]; omega)).trans HM.out.2.2.1
  have y1 : w1.cell? ⟨w.heap.size, 1, none⟩ = some (.slice ka n kc) := by rw [cell_of_block O1]; rfl
  have B1 : Below w.heap.size w w1 := HM.out.2.1.trans (hb1.mono (by rw [hs0]; omega))
  have hi := heldIntS_any B _ n (markE 1 rs) w1 (by omega) (by omega) (by omega) (by have := (HM.out.2.2.2.below B1).tops; rw [show (markTops 1 rs n).length = n from marksI_len _ _] at this; exact this)
  have hs1 := B1.size
  have hng : ¬ markE 1 rs < 0 := by omega
  have H1 := (show Hid (_ ∧ _) from ⟨hi, B1⟩)
  clear hi B1 hb1 O1 HM
  go_wp2_with fail
  refine H1.out.1.mono ?_
  rintro e w2 ⟨rfl, hb2⟩
  have B2 : Below w.heap.size w w2 := H1.out.2.trans (hb2.mono hs1)
  have hng2 : ¬ markE 1 rs + (n : Int) < 0 := by omega
  clear hb2 H1
  go_wp2
  go_ret
  exact ⟨rfl, B2⟩
end Go.Proofs.Ytnjfccagkeonpaa
