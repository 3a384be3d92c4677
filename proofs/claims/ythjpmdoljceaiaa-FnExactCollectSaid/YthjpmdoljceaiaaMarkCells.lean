/-
  The laws' marking of a heap, and their look whether the marks still stand.
-/
import Derived.Test.YthjpmdoljceaiaaHpRow
namespace Go.Proofs.Ythjpmdoljceaiaa
open Go.RowKit Go.Joins

set_option maxRecDepth 100000

def markL (k : Int) (c : Ce) : Ce := ⟨k, k + 1, k + 1 + 1, marksI (k + 1 + 1 + 1) c.kids.length⟩
def marksL : Int → List (Ce × Value) → List (Ce × Value)
  | _, [] => []
  | k, r :: l => (markL k r.1, r.2) :: marksL (k + 3 + r.1.kids.length) l
def markEL : Int → List (Ce × Value) → Int
  | k, [] => k
  | k, r :: l => markEL (k + 3 + r.1.kids.length) l
theorem marksL_len : ∀ (l : List (Ce × Value)) (k : Int), (marksL k l).length = l.length
  | [], _ => rfl
  | r :: l, k => by rw [marksL, List.length_cons, marksL_len l, List.length_cons]
theorem markEL_ge : ∀ (l : List (Ce × Value)) (k : Int), k ≤ markEL k l
  | [], k => by rw [markEL]; omega
  | r :: l, k => by rw [markEL]; have := markEL_ge l (k + 3 + r.1.kids.length); omega
theorem markEL_app : ∀ (l m : List (Ce × Value)) (k : Int), markEL k (l ++ m) = markEL (markEL k l) m
  | [], m, k => by rw [List.nil_append, markEL]
  | r :: l, m, k => by rw [List.cons_append, markEL, markEL, markEL_app l m]
theorem marksL_app : ∀ (l m : List (Ce × Value)) (k : Int), marksL k (l ++ m) = marksL k l ++ marksL (markEL k l) m
  | [], m, k => by rw [List.nil_append, marksL, markEL, List.nil_append]
  | r :: l, m, k => by rw [List.cons_append, marksL, marksL, markEL, marksL_app l m, List.cons_append]
theorem markEL_take (l : List (Ce × Value)) (k : Int) (j : Nat) : markEL k (l.take j) ≤ markEL k l := by
  conv => rhs; rw [← List.take_append_drop j l, markEL_app]
  exact markEL_ge _ _
theorem markEL_three : ∀ (l : List (Ce × Value)) (k : Int), k + 3 * (l.length : Int) ≤ markEL k l
  | [], k => by rw [markEL]; simp
  | r :: l, k => by rw [markEL]; have := markEL_three l (k + 3 + r.1.kids.length); rw [List.length_cons]; omega
/-- How far the marks of a heap come. -/
theorem markEL_bulk : ∀ (l : List (Ce × Value)) (k : Int), markEL k l = k + 3 * (l.length : Int) + (((l.map Prod.fst).map Ce.bulk).sum : Nat)
  | [], k => by rw [markEL]; simp
  | r :: l, k => by
    rw [markEL, markEL_bulk l]
    simp only [List.map_cons, List.sum_cons, List.length_cons, Ce.bulk]
    omega
theorem marksI_small (k : Int) (n : Nat) (h0 : 0 ≤ k) (h1 : k + n ≤ 1000000000) : ∀ z ∈ marksI k n, inI64 z := by
  intro z hz
  unfold marksI at hz
  obtain ⟨i, hi, rfl⟩ := List.mem_map.1 hz
  have := List.mem_range.1 hi
  exact inI64_small (k := k + (i : Int)) (by omega) (by omega)
theorem lat_split {l : List (Ce × Value)} {j : Nat} (h : j < l.length) (k : Int) : marksL k (l.take j) ++ l.drop j = marksL k (l.take j) ++ (l[j].1, l[j].2) :: l.drop (j + 1) := by
  rw [List.drop_eq_getElem_cons h]
theorem lat_next {l : List (Ce × Value)} {j : Nat} (h : j < l.length) (k : Int) : marksL k (l.take (j + 1)) ++ l.drop (j + 1) = marksL k (l.take j) ++ (markL (markEL k (l.take j)) l[j].1, l[j].2) :: l.drop (j + 1) := by
  rw [List.take_succ_eq_append_getElem h, marksL_app, List.append_assoc]
  rfl
theorem lend_next {l : List (Ce × Value)} {j : Nat} (h : j < l.length) (k : Int) : markEL k (l.take (j + 1)) = markEL k (l.take j) + 3 + (l[j].1.kids.length : Int) := by
  rw [List.take_succ_eq_append_getElem h, markEL_app]
  rfl

set_option maxHeartbeats 6400000 in
theorem markCellS_any (B : Nat) (cv : Value) (rs : List (Ce × Value)) (k0 : Int) (w : World) (hk0 : 0 ≤ k0) (hE : markEL k0 rs ≤ 90000000) (hT : HpAt w B cv rs) :
    Calls Try.prog 18 #[cv, .int .i64 k0] w fun e w' => e = .returned (.int .i64 (markEL k0 rs)) ∧ HpAt w' B cv (marksL k0 rs) ∧ OutsP (HpOwn cv rs) w w' := by
  have h3 := markEL_three rs k0
  by_cases hz : rs.length = 0
  · obtain rfl : rs = [] := List.eq_nil_of_length_eq_zero hz
    obtain ⟨a1, c1, hv⟩ := row_nil hT.cells rfl
    have HR : Hid (HpAt w B cv []) := hT
    clear hT
    rw [hv] at HR ⊢
    go_enter Try.func18, Try.ntmps18
    go_wp2
    refine wp_loop_rounds 1 ?_
    rw [rounds_succ]
    go_wp2
    go_ret
    exact ⟨rfl, HR.out, OutsP.refl _ _⟩
  obtain ⟨g, cap, rfl⟩ := own_some hT.cells (by omega)
  have HT : Hid (HpAt w B (.slice (some ⟨g, 0, none⟩) rs.length cap) rs) := hT
  clear hT
  go_enter Try.func18, Try.ntmps18
  go_wp2
  go_loopw [1, 5] (fun kv i wr => ∃ j : Nat, j ≤ rs.length ∧ i = .int .i64 j ∧ kv = .int .i64 (markEL k0 (rs.take j)) ∧ Hid (HpAt wr B (.slice (some ⟨g, 0, none⟩) rs.length cap) (marksL k0 (rs.take j) ++ rs.drop j)) ∧ Hid (OutsP (HpOwn (.slice (some ⟨g, 0, none⟩) rs.length cap) rs) w wr)) (fun _ i _ => rs.length - (intOf i).toNat)
  case atStart => exact ⟨0, Nat.zero_le _, rfl, rfl, HT.out, OutsP.refl _ _⟩
  case round =>
    obtain ⟨j, hj, rfl, rfl, hTr, hbr⟩ := hrel
    have hke := markEL_take rs k0 j
    have hkg := markEL_ge (rs.take j) k0
    by_cases hlt : j < rs.length
    · have hsp := lat_split hlt k0
      have hnx := lat_next hlt k0
      have hen := lend_next hlt k0
      have hke1 := markEL_take rs k0 (j + 1)
      have hmem : (rs[j].1, rs[j].2) ∈ rs := List.getElem_mem hlt
      rw [hsp] at hTr
      rw [hen] at hke1
      have HOg : HpOwn (.slice (some ⟨g, 0, none⟩) rs.length cap) rs g := .inl rfl
      have HOu : ∀ q, rs[j].2.ownBlock = some q → HpOwn (.slice (some ⟨g, 0, none⟩) rs.length cap) rs q := fun q hq => .inr ⟨_, hmem, hq⟩
      clear hmem
      generalize hPP : HpOwn (.slice (some ⟨g, 0, none⟩) rs.length cap) rs = PP at *
      generalize rs[j].1 = c at *
      generalize rs[j].2 = u at *
      have hAl : (marksL k0 (rs.take j)).length = j := by rw [marksL_len, List.length_take]; omega
      have hnl : rs.length = (marksL k0 (rs.take j) ++ (c, u) :: rs.drop (j + 1)).length := by rw [List.length_append, hAl, List.length_cons, List.length_drop]; omega
      generalize hAA : marksL k0 (rs.take j) = A at *
      generalize hDD : rs.drop (j + 1) = D at *
      have hcd := (hTr.out.kids (c, u) (by simp)).2
      have hform := own_form (hTr.out.kids (c, u) (by simp)).1
      dsimp only at hform
      obtain ⟨ua, uc, rfl⟩ := hform
      generalize hkk : markEL k0 (rs.take j) = k at *
      have hc : ∀ i v, i < 4 → (ceCells (c, .slice ua c.kids.length uc))[i]? = some v → wr.cell? ⟨g, j * 4 + i, none⟩ = some v := fun i v hi hv => by
        have := hTr.out.cells.cells (g := g) rfl (A.length * 4 + i) v (by rw [ce_mid A D c _ i hi]; exact hv)
        rw [addr_addI, Nat.zero_add, hAl] at this
        exact this
      have x0 : wr.cell? ⟨g, j * 4, none⟩ = some (.int .i64 c.kind) := hc 0 _ (by omega) rfl
      have x1 : wr.cell? ⟨g, j * 4 + 1, none⟩ = some (.int .i64 c.n) := hc 1 _ (by omega) rfl
      have x2 : wr.cell? ⟨g, j * 4 + 2, none⟩ = some (.int .i64 c.pos) := hc 2 _ (by omega) rfl
      have x3 : wr.cell? ⟨g, j * 4 + 3, none⟩ = some (.slice ua c.kids.length uc) := hc 3 _ (by omega) rfl
      obtain ⟨hBg, cs, hcs⟩ := own_type hTr.out.cells g rfl
      have f0 : wr.frozen? ⟨g, j * 4, none⟩ = false := unfrozen_of_block hcs _
      have f1 : wr.frozen? ⟨g, j * 4 + 1, none⟩ = false := unfrozen_of_block hcs _
      have f2 : wr.frozen? ⟨g, j * 4 + 2, none⟩ = false := unfrozen_of_block hcs _
      have hglt := own_lt hTr.out.cells g rfl
      have hlt' : ((j : Nat) : Int) < ((rs.length : Nat) : Int) := by omega
      have i0 : inI64 k := inI64_small (k := k) (by omega) (by omega)
      have i1 : inI64 (k + 1) := inI64_small (k := k + 1) (by omega) (by omega)
      have i2 : inI64 (k + 1 + 1) := inI64_small (k := k + 1 + 1) (by omega) (by omega)
      have T1 : HpAt (wr.setCell ⟨g, j * 4, none⟩ (.int .i64 k)) B (.slice (some ⟨g, 0, none⟩) rs.length cap) (A ++ (⟨k, c.n, c.pos, c.kids⟩, .slice ua c.kids.length uc) :: D) := by
        have := hTr.out.field (i := 0) (v := .int .i64 k) (c' := ⟨k, c.n, c.pos, c.kids⟩) hnl (by omega) rfl ⟨i0, hcd.2⟩ rfl
        rw [hAl] at this
        exact this
      have T2 : HpAt ((wr.setCell ⟨g, j * 4, none⟩ (.int .i64 k)).setCell ⟨g, j * 4 + 1, none⟩ (.int .i64 (k + 1))) B (.slice (some ⟨g, 0, none⟩) rs.length cap) (A ++ (⟨k, k + 1, c.pos, c.kids⟩, .slice ua c.kids.length uc) :: D) := by
        have := T1.field (i := 1) (v := .int .i64 (k + 1)) (c' := ⟨k, k + 1, c.pos, c.kids⟩) (by rw [hnl]; simp) (by omega) rfl ⟨i0, i1, hcd.2.2⟩ rfl
        rw [hAl] at this
        exact this
      have T4 : HpAt (((wr.setCell ⟨g, j * 4, none⟩ (.int .i64 k)).setCell ⟨g, j * 4 + 1, none⟩ (.int .i64 (k + 1))).setCell ⟨g, j * 4 + 2, none⟩ (.int .i64 (k + 1 + 1))) B (.slice (some ⟨g, 0, none⟩) rs.length cap) (A ++ (⟨k, k + 1, k + 1 + 1, c.kids⟩, .slice ua c.kids.length uc) :: D) := by
        have := T2.field (i := 2) (v := .int .i64 (k + 1 + 1)) (c' := ⟨k, k + 1, k + 1 + 1, c.kids⟩) (by rw [hnl]; simp) (by omega) rfl ⟨i0, i1, i2, hcd.2.2.2⟩ rfl
        rw [hAl] at this
        exact this
      have B4 : OutsP PP w (((wr.setCell ⟨g, j * 4, none⟩ (.int .i64 k)).setCell ⟨g, j * 4 + 1, none⟩ (.int .i64 (k + 1))).setCell ⟨g, j * 4 + 2, none⟩ (.int .i64 (k + 1 + 1))) :=
        hbr.out.trans (((OutsP.set _ g _ HOg _).trans (OutsP.set _ g _ HOg _)).trans (OutsP.set _ g _ HOg _))
      have hmi := markIntS_any B _ c.kids.length _ (k + 1 + 1 + 1) _ (by omega) (by omega) (by omega) (T4.kids (⟨k, k + 1, k + 1 + 1, c.kids⟩, .slice ua c.kids.length uc) (by simp)).1
      have HX := (show Hid (_ ∧ _ ∧ _ ∧ _ ∧ _ ∧ _ ∧ _) from ⟨T4, B4, hmi, hnx, hen, hDD, HOu⟩)
      clear T1 T2 T4 B4 hmi hTr hbr hc hsp hnx hen hcs hcd hkk hAA hAl hnl HT hDD HOg HOu i0 i1 i2
      go_wp2_with fail
      refine HX.out.2.2.1.mono ?_
      rintro e w5 ⟨rfl, hown5, hgr5⟩
      have T5 := HX.out.1.ints (ks := marksI (k + 1 + 1 + 1) c.kids.length) hown5 (marksI_len _ _) (marksI_small _ _ (by omega) (by omega)) hgr5
      have B5 : OutsP PP w w5 := HX.out.2.1.trans (OutsP.of_grown hgr5 HX.out.2.2.2.2.2.2)
      have HZ := (show Hid (_ ∧ _) from ⟨T5, B5⟩)
      clear T5 B5 hown5 hgr5
      go_wp2
      refine ⟨⟨j + 1, by omega, by go_num, ?_, ?_, HZ.out.2⟩, by simp [intOf]; omega⟩
      · rw [HX.out.2.2.2.2.1]; exact int_eqv (by omega)
      · rw [HX.out.2.2.2.2.2.1, HX.out.2.2.2.1]; exact HZ.out.1
    · obtain rfl : j = rs.length := by omega
      rw [List.take_length, List.drop_length, List.append_nil] at hTr
      rw [List.take_length]
      have HR := (show Hid (_ ∧ _) from ⟨hTr.out, hbr.out⟩)
      clear hTr hbr HT hke hkg
      go_wp2
      go_ret
      exact ⟨rfl, HR.out.1, HR.out.2⟩

theorem lmarks_split {l : List (Ce × Value)} {j : Nat} (h : j < l.length) (k : Int) : marksL k l = marksL k (l.take j) ++ (markL (markEL k (l.take j)) l[j].1, l[j].2) :: marksL (markEL k (l.take (j + 1))) (l.drop (j + 1)) := by
  conv => lhs; rw [← List.take_append_drop j l, marksL_app, List.drop_eq_getElem_cons h, marksL]
  rw [lend_next h]

set_option maxHeartbeats 6400000 in
theorem heldCellS_any (B : Nat) (cv : Value) (rs : List (Ce × Value)) (k0 : Int) (w : World) (hk0 : 0 ≤ k0) (hE : markEL k0 rs ≤ 90000000) (hT : HpAt w B cv (marksL k0 rs)) :
    Calls Try.prog 23 #[cv, .int .i64 k0] w fun e w' => e = .returned (.int .i64 (markEL k0 rs)) ∧ Below w.heap.size w w' := by
  have h3 := markEL_three rs k0
  have hml := marksL_len rs k0
  by_cases hz : rs.length = 0
  · obtain rfl : rs = [] := List.eq_nil_of_length_eq_zero hz
    obtain ⟨a1, c1, rfl⟩ := row_nil hT.cells rfl
    clear hT
    go_enter Try.func23, Try.ntmps23
    go_wp2
    refine wp_loop_rounds 1 ?_
    rw [rounds_succ]
    go_wp2
    go_ret
    exact ⟨rfl, Below.refl _ _⟩
  obtain ⟨g, cap, hv⟩ := own_some hT.cells (by omega)
  rw [hml] at hv
  subst hv
  have hlg := own_lt hT.cells g rfl
  have HC : Hid (∀ (j : Nat) (hj : j < rs.length), (∀ i v, i < 4 → (ceCells (markL (markEL k0 (rs.take j)) rs[j].1, rs[j].2))[i]? = some v → w.cell? ⟨g, j * 4 + i, none⟩ = some v) ∧ w.ownsRow B 3 1 rs[j].2 rs[j].1.kids.length (intVs (marksI (markEL k0 (rs.take j) + 1 + 1 + 1) rs[j].1.kids.length))) := fun j hj => by
    have hsp := lmarks_split hj k0
    have hT' := hT
    rw [hsp] at hT'
    have hAl : (marksL k0 (rs.take j)).length = j := by rw [marksL_len, List.length_take]; omega
    refine ⟨fun i v hi hv => ?_, ?_⟩
    · have := hT'.cells.cells (g := g) rfl ((marksL k0 (rs.take j)).length * 4 + i) v (by rw [ce_mid _ _ _ _ i hi]; exact hv)
      rw [addr_addI, Nat.zero_add, hAl] at this
      exact this
    · have := (hT'.kids (markL (markEL k0 (rs.take j)) rs[j].1, rs[j].2) (by simp)).1
      rw [show (markL (markEL k0 (rs.take j)) rs[j].1).kids = marksI (markEL k0 (rs.take j) + 1 + 1 + 1) rs[j].1.kids.length from rfl, marksI_len] at this
      exact this
  clear hT hml
  go_enter Try.func23, Try.ntmps23
  go_wp2
  go_loopw [1, 5] (fun kv i wr => ∃ j : Nat, j ≤ rs.length ∧ i = .int .i64 j ∧ kv = .int .i64 (markEL k0 (rs.take j)) ∧ Below w.heap.size w wr) (fun _ i _ => rs.length - (intOf i).toNat)
  case atStart => exact ⟨0, Nat.zero_le _, rfl, rfl, Below.refl _ _⟩
  case round =>
    obtain ⟨j, hj, rfl, rfl, hbw⟩ := hrel
    have hke := markEL_take rs k0 j
    have hkg := markEL_ge (rs.take j) k0
    by_cases hlt : j < rs.length
    · obtain ⟨hc, hi⟩ := HC.out j hlt
      have hen := lend_next hlt k0
      have hke1 := markEL_take rs k0 (j + 1)
      rw [hen] at hke1
      have HN : Hid (markEL k0 (rs.take (j + 1)) = markEL k0 (rs.take j) + 3 + (rs[j].1.kids.length : Int)) := hen
      clear hen
      generalize rs[j].1 = c at *
      generalize rs[j].2 = u at *
      obtain ⟨ua, uc, rfl⟩ := own_form hi
      generalize markEL k0 (rs.take j) = k at *
      have a0 : wr.cell? ⟨g, j * 4, none⟩ = some (.int .i64 k) := (hbw.cell (p := ⟨g, j * 4, none⟩) hlg).trans (hc 0 _ (by omega) rfl)
      have a1 : wr.cell? ⟨g, j * 4 + 1, none⟩ = some (.int .i64 (k + 1)) := (hbw.cell (p := ⟨g, j * 4 + 1, none⟩) hlg).trans (hc 1 _ (by omega) rfl)
      have a2 : wr.cell? ⟨g, j * 4 + 2, none⟩ = some (.int .i64 (k + 1 + 1)) := (hbw.cell (p := ⟨g, j * 4 + 2, none⟩) hlg).trans (hc 2 _ (by omega) rfl)
      have a3 : wr.cell? ⟨g, j * 4 + 3, none⟩ = some (.slice ua c.kids.length uc) := (hbw.cell (p := ⟨g, j * 4 + 3, none⟩) hlg).trans (hc 3 _ (by omega) rfl)
      have hlt' : ((j : Nat) : Int) < ((rs.length : Nat) : Int) := by omega
      have hsz := hbw.size
      have e0 : (k != k) = false := by simp
      have e1 : (k + 1 != k + 1) = false := by simp
      have e2 : (k + 1 + 1 != k + 1 + 1) = false := by simp
      have hi2 : wr.ownsRow B 3 1 (.slice ua c.kids.length uc) c.kids.length (intVs (marksI (k + 1 + 1 + 1) c.kids.length)) := own_moved hi (fun q hq => hbw.block q (own_lt hi q hq))
      have hhd := heldIntS_any B _ c.kids.length (k + 1 + 1 + 1) _ (by omega) (by omega) (by omega) hi2
      have HD := (show Hid (_ ∧ _) from ⟨hhd, hbw⟩)
      clear hi2 hhd hbw hc hi HC
      go_wp2_with fail
      refine HD.out.1.mono ?_
      rintro e w2 ⟨rfl, hb2⟩
      have hng : ¬ k + 1 + 1 + 1 + (c.kids.length : Int) < 0 := by omega
      have hbw3 : Below w.heap.size w w2 := HD.out.2.trans (hb2.mono hsz)
      clear hb2
      go_wp2
      refine ⟨⟨j + 1, by omega, by go_num, ?_, hbw3⟩, by simp [intOf]; omega⟩
      rw [HN.out]
      exact int_eqv (by omega)
    · clear HC
      obtain rfl : j = rs.length := by omega
      rw [List.take_length]
      go_wp2
      go_ret
      exact ⟨rfl, hbw⟩
end Go.Proofs.Ythjpmdoljceaiaa
