/-
  The specification's l04Flat: the codes of an expression behind those that stand there.
-/
import Derived.Test.YtdadppjncdkpiaaFlatRow
import Derived.Test.YtdadppjncdkpiaaOwnRow
import Derived.Test.YtdadppjncdkpiaaSpecKids
namespace Go.Proofs.Ytdadppjncdkpiaa
open Go.RowKit Go.Joins

set_option maxRecDepth 100000

/-- What l04Flat does to a row. -/
def FlatS (w0 : World) (S : Nat → Prop) (d : Nat) : Prop := ∀ (ev lv : Value) (e : Ex) (rs : List (Cd × Value)) (Q : Nat → Prop) (w : World), Below w0.heap.size w0 w → ExAt w0 S d ev e → CRow w w0.heap.size Q lv rs → rs.length + e.count ≤ 2000000 →
  Calls Try.prog 61 #[lv, ev] w fun r w' => ∃ lv' rs', r = .returned (.tuple #[lv', .int .i64 (rs.length : Int)]) ∧ CRow w' w0.heap.size (fun b => Q b ∨ w.heap.size ≤ b) lv' (rs ++ rs') ∧ rs'.map Prod.fst = e.flat rs.length ∧ w.grownBy w' lv.ownBlock ∧ (lv'.ownBlock = lv.ownBlock ∨ ∃ g, lv'.ownBlock = some g ∧ w.heap.size ≤ g)

theorem numsL_small : ∀ (es : List Ex) (a : Nat), ∀ z ∈ numsL a es, 0 ≤ z ∧ z ≤ ((a + Ex.countL es : Nat) : Int)
  | [], a, z, h => by simp [numsL] at h
  | e :: r, a, z, h => by
    rw [numsL, List.mem_cons] at h
    rw [Ex.countL]
    rcases h with rfl | h
    · omega
    · have := numsL_small r (a + e.count) z h
      omega
theorem len_countL : ∀ l : List Ex, l.length ≤ Ex.countL l
  | [] => Nat.le_refl _
  | e :: r => by have := len_countL r; have := Ex.count_eq e; rw [Ex.countL, List.length_cons]; omega
theorem countL_take_leF : ∀ (l : List Ex) (n : Nat), Ex.countL (l.take n) ≤ Ex.countL l
  | [], _ => by simp
  | x :: r, 0 => by simp [Ex.countL]
  | x :: r, n + 1 => by have := countL_take_leF r n; rw [List.take_succ_cons, Ex.countL, Ex.countL]; omega
theorem exp_PC {w : World} {b : Nat} {cs : Array Value} (h : w.heap[b]? = some (.cells cs 92 (0, 0))) : ¬ PC w b := by
  rintro ⟨cs', h'⟩
  rw [h] at h'
  simp at h'
theorem exp_PI {w : World} {b : Nat} {cs : Array Value} (h : w.heap[b]? = some (.cells cs 92 (0, 0))) : ¬ PI w b := by
  rintro ⟨cs', h'⟩
  rw [h] at h'
  simp at h'
theorem own_apart {w : World} {B B' n n' : Nat} {v v' : Value} {xs xs' : List Value} (h : w.ownsRow B 173 4 v n xs) (h' : w.ownsRow B' 3 1 v' n' xs') : v.ownBlock = none ∨ v.ownBlock ≠ v'.ownBlock := by
  cases hv : v.ownBlock with
  | none => exact .inl rfl
  | some g => exact .inr fun e => (own_PI h' g e.symm).ne (own_PC h g hv) rfl
theorem own_apart' {w : World} {B B' n n' : Nat} {v v' : Value} {xs xs' : List Value} (h : w.ownsRow B 173 4 v n xs) (h' : w.ownsRow B' 3 1 v' n' xs') : v'.ownBlock = none ∨ v'.ownBlock ≠ v.ownBlock := by
  cases hv : v'.ownBlock with
  | none => exact .inl rfl
  | some g => exact .inr fun e => (own_PI h' g hv).ne (own_PC h g e.symm) rfl
theorem mid_at (pre post : List (Cd × Value)) (c : Cd) (u : Value) : ((pre ++ (c, u) :: post).flatMap cdCells)[pre.length * 4 + 3]? = some u := by
  rw [List.flatMap_append, List.flatMap_cons, List.getElem?_append_right (by rw [cells_len]; omega), cells_len, show pre.length * 4 + 3 - pre.length * 4 = 3 by omega]
  rfl
theorem cell_four_new (w : World) (x y z u : Value) (t : TypeId) : ∀ j v, [x, y, z, u][j]? = some v → (w.alloc (.cells #[x, y, z, u] t)).cell? ((⟨w.heap.size, 0, none⟩ : Addr).add j) = some v := by
  intro j v hj
  rw [addr_addI, cell_of_block (MapKept.heap_alloc w _).1, Nat.zero_add]
  simpa using hj
theorem four_one (k n : Int) (t : ByteArray) : ∀ u ∈ cdCells (⟨k, n, t, []⟩, .slice none 0 0), u.oneCell' = true := by
  intro u hu
  simp only [cdCells, List.mem_cons, List.not_mem_nil, or_false] at hu
  rcases hu with rfl | rfl | rfl | rfl <;> rfl

set_option maxHeartbeats 1600000 in
theorem l04Flat_of (w0 : World) (S : Nat → Prop) (d : Nat) (hE : FlatS w0 S d) : FlatS w0 S (d + 1) := by
  intro ev lv e rs Q w hb he hrow hlen
  obtain ⟨i0, hi, hz0, hz1, hz2⟩ := info_parts infoCode
  obtain ⟨j0, hj, hy0, hy1, hy2⟩ := info_parts infoCdI
  obtain ⟨kv, rfl, r1, r2, r3, hk⟩ := he
  obtain ⟨a, cap, rfl, hl, hc⟩ := hk
  unfold maxLen at hl
  have hcnt := Ex.count_eq e
  have hfe := Ex.flat_eq rs.length e
  have hcb := len_countL e.kids
  have hct := Ex.countL_take e.kids
  obtain ⟨la, lc, rfl⟩ := own_form hrow.1
  have G0 : w.grownBy ((w.alloc (.cells #[.int .i64 e.kind, .int .i64 e.n, .string e.text, .slice a e.kids.length cap] 92)).alloc (.cells #[.int .i64 e.kind, .int .i64 e.n, .string e.text, .slice none 0 0] 173)) none := (World.grownBy_alloc w _ none).trans (World.grownBy_alloc _ _ none)
  have R0 := hrow.keptN G0 (fun b hq _ => hq)
  have P3 : ((w.alloc (.cells #[.int .i64 e.kind, .int .i64 e.n, .string e.text, .slice a e.kids.length cap] 92)).alloc (.cells #[.int .i64 e.kind, .int .i64 e.n, .string e.text, .slice none 0 0] 173)).heap.size = w.heap.size + 2 := by simp
  have hown0 := R0.1
  have O0 : ((w.alloc (.cells #[.int .i64 e.kind, .int .i64 e.n, .string e.text, .slice a e.kids.length cap] 92)).alloc (.cells #[.int .i64 e.kind, .int .i64 e.n, .string e.text, .slice none 0 0] 173)).heap[w.heap.size]? = some (.cells #[.int .i64 e.kind, .int .i64 e.n, .string e.text, .slice a e.kids.length cap] 92) := (Below.heap_alloc _ _ _ (by simp)).trans (MapKept.heap_alloc w _).1
  have N0 : ∀ j v, (cdCells (⟨e.kind, e.n, e.text, []⟩, .slice none 0 0))[j]? = some v → ((w.alloc (.cells #[.int .i64 e.kind, .int .i64 e.n, .string e.text, .slice a e.kids.length cap] 92)).alloc (.cells #[.int .i64 e.kind, .int .i64 e.n, .string e.text, .slice none 0 0] 173)).cell? ((⟨w.heap.size + 1, 0, none⟩ : Addr).add j) = some v := fun j v hj => by
    have := cell_four_new (w.alloc (.cells #[.int .i64 e.kind, .int .i64 e.n, .string e.text, .slice a e.kids.length cap] 92)) (.int .i64 e.kind) (.int .i64 e.n) (.string e.text) (.slice none 0 0) 173 j v hj
    rw [show (w.alloc (.cells #[.int .i64 e.kind, .int .i64 e.n, .string e.text, .slice a e.kids.length cap] 92)).heap.size = w.heap.size + 1 by simp] at this
    exact this
  have hBw := hb.size
  have HH := (show Hid (_ ∧ _ ∧ _ ∧ _ ∧ _ ∧ _) from ⟨hb, hc, R0, G0, O0, N0⟩)
  have HR := (show Hid (_ ∧ _ ∧ _ ∧ _) from ⟨r1, r2, r3, hfe⟩)
  have HE : Hid (FlatS w0 S d) := hE
  have HW := (show Hid (_ ∧ True) from ⟨hrow, trivial⟩)
  clear hb hc R0 G0 O0 N0 r1 r2 r3 hE hrow hfe
  go_enter Try.func61, Try.ntmps61
  go_wp2_with (at_builtin; refine wpList_append_own_at _ rfl _ _ 32 rfl w0.heap.size 173 i0 _ 4 56 Try.underlying32 hi hz0 hz1 hz2 rfl (by decide) _ rs.length _ rfl hown0 ⟨w.heap.size + 1, 0, none⟩ 1 1 (cdCells (⟨e.kind, e.n, e.text, []⟩, .slice none 0 0)) rfl rfl HH.out.2.2.2.2.2 (four_one _ _ _) (by unfold maxLen; omega) (by omega) (by rw [P3]; omega) ?_; intro v3 w3 hown3 hgrow3 hnil3 hat3)
  have R3 := HH.out.2.2.1.push (Q' := fun b => (Q b ∨ w.heap.size ≤ b) ∧ b ≠ w3.heap.size) hown3 hgrow3 ⟨HR.out.1, HR.out.2.1, HR.out.2.2.1⟩ rfl (fun b hq hlt => ⟨.inl hq, by have := hgrow3.size; omega⟩)
  have hs3 : w.heap.size + 2 ≤ w3.heap.size := by have := hgrow3.size; rw [P3] at this; exact this
  have G3 : w.grownBy w3 (Value.ownBlock (.slice la rs.length lc)) := grown_two (HH.out.2.2.2.1.but _) hgrow3 (fun g h => .inl h)
  have T3 : v3.ownBlock = Value.ownBlock (.slice la rs.length lc) ∨ ∃ g, v3.ownBlock = some g ∧ w.heap.size ≤ g := by
    rcases hat3 with h | h
    · exact .inl h
    · exact .inr ⟨_, h, by rw [P3]; omega⟩
  have O3 : w3.heap[w.heap.size]? = some (.cells #[.int .i64 e.kind, .int .i64 e.n, .string e.text, .slice a e.kids.length cap] 92) := by
    refine (hgrow3.block _ (by rw [P3]; omega) (fun hc => ?_)).trans HH.out.2.2.2.2.1
    exact exp_PC HH.out.2.2.2.2.1 (own_PC HH.out.2.2.1.1 _ hc.symm)
  have GA := World.grownBy_alloc w3 (.cells #[] 3) none
  have R4 := R3.keptN (Q' := fun b => (Q b ∨ w.heap.size ≤ b) ∧ b ≠ w3.heap.size) GA (fun b hq _ => hq)
  have K4 := irow_empty w3 w0.heap.size (by omega)
  have G4 : w.grownBy (w3.alloc (.cells #[] 3)) (Value.ownBlock (.slice la rs.length lc)) := grown_two G3 GA (fun g h => by cases h)
  have O4 : (w3.alloc (.cells #[] 3)).heap[w.heap.size]? = some (.cells #[.int .i64 e.kind, .int .i64 e.n, .string e.text, .slice a e.kids.length cap] 92) := (Below.heap_alloc _ _ _ (by omega)).trans O3
  have H4 := (show Hid (_ ∧ _ ∧ _ ∧ _ ∧ _) from ⟨R4, K4, G4, T3, O4⟩)
  have hs4 : (w3.alloc (.cells #[] 3)).heap.size = w3.heap.size + 1 := by simp
  clear hown3 hgrow3 hnil3 hat3 R3 G3 T3 O3 GA R4 K4 G4 O4 hown0
  go_loopw [0, 7, 8] (fun lv' kv i wr => ∃ (j : Nat) (rs' : List (Cd × Value)), j ≤ e.kids.length ∧ i = .int .i64 j ∧ rs'.map Prod.fst = Ex.flatL (rs.length + 1) (e.kids.take j) ∧ wr.ownsRow w0.heap.size 3 1 kv j ((numsL (rs.length + 1) (e.kids.take j)).map (fun z => Value.int .i64 z)) ∧
      CRow wr w0.heap.size (fun b => (Q b ∨ w.heap.size ≤ b) ∧ some b ≠ kv.ownBlock) lv' (rs ++ (⟨e.kind, e.n, e.text, []⟩, .slice none 0 0) :: rs') ∧ w.grownBy wr (Value.ownBlock (.slice la rs.length lc)) ∧ (lv'.ownBlock = Value.ownBlock (.slice la rs.length lc) ∨ ∃ g, lv'.ownBlock = some g ∧ w.heap.size ≤ g) ∧ wr.heap[w.heap.size]? = some (.cells #[.int .i64 e.kind, .int .i64 e.n, .string e.text, .slice a e.kids.length cap] 92) ∧ (∀ g, kv.ownBlock = some g → w.heap.size ≤ g)) (fun _ _ i _ => e.kids.length - (intOf i).toNat)
  case atStart =>
    refine ⟨0, [], Nat.zero_le _, rfl, ?_, ?_, ?_, H4.out.2.2.1, H4.out.2.2.2.1, H4.out.2.2.2.2, fun g hg => ?_⟩
    · rw [List.take_zero, Ex.flatL]; rfl
    · rw [List.take_zero, numsL]; exact H4.out.2.1
    · exact H4.out.1.keptN (World.grownBy.refl _ _) (fun b hq _ => ⟨hq.1, by simp [Value.ownBlock]; exact hq.2⟩)
    · simp [Value.ownBlock] at hg; omega
  case round =>
    obtain ⟨j, rs', hj', rfl, hmap, hkrow, hcrow, hgr, hown', hO, hkg⟩ := hrel
    have P1r : wr.cell? ⟨w.heap.size, 3, none⟩ = some (.slice a e.kids.length cap) := by rw [cell_of_block hO]; rfl
    have hsw : w.heap.size < wr.heap.size := (Array.getElem?_eq_some_iff.1 hO).1
    have hBr : Below w0.heap.size w0 wr := Below.grown HH.out.1 hgr (fun k hk => (HW.out.1.1.lt k hk).1) hBw
    have hl' : rs'.length = Ex.countL (e.kids.take j) := by rw [← List.length_map (f := Prod.fst), hmap, Ex.flatL_len]
    have hnl : (rs ++ ((⟨e.kind, e.n, e.text, []⟩ : Cd), Value.slice none 0 0) :: rs').length = rs.length + 1 + Ex.countL (e.kids.take j) := by rw [List.length_append, List.length_cons, hl']; omega
    have htl := countL_take_leF e.kids (j + 1)
    have htl0 := countL_take_leF e.kids j
    obtain ⟨la', lc', rfl⟩ := own_form hcrow.1
    obtain ⟨ka0, kc0, rfl⟩ := own_form hkrow
    rw [hnl]
    have HS := (show Hid (_ ∧ _ ∧ _ ∧ _ ∧ _ ∧ _ ∧ _ ∧ _) from ⟨hmap, hkrow, hcrow, hgr, hown', hO, hkg, hBr⟩)
    by_cases hjl : j < e.kids.length
    · have he := List.getElem?_eq_getElem hjl
      have hcy := hct j _ he
      have htk : e.kids.take (j + 1) = e.kids.take j ++ [e.kids[j]] := List.take_succ_eq_append_getElem hjl
      generalize e.kids[j] = y at *
      obtain ⟨b, off, kv, rfl, hSb, hl1, c0, c1, c2, c3, q1, q2, q3, kk⟩ := HH.out.2.1 j y he
      rw [← hBr.cell (by exact hl1)] at c0 c1 c2 c3
      have HX : Hid (ExAt w0 S d (.agg #[.int .i64 y.kind, .int .i64 y.n, .string y.text, kv]) y) := ⟨kv, rfl, q1, q2, q3, kk⟩
      obtain ⟨ka, kc, rfl⟩ := kk.form
      have hlt' : ((j : Nat) : Int) < ((e.kids.length : Nat) : Int) := by omega
      have HTK := (show Hid (_ ∧ _ ∧ _) from ⟨htk, hcy, hl'⟩)
      clear kk q1 q2 q3 he htk hcrow hkrow hgr hmap hown' hO hkg hBr hl'
      have hF := HE.out _ _ y _ _ wr HS.out.2.2.2.2.2.2.2 HX.out HS.out.2.2.1 (by rw [hnl]; omega)
      rw [hnl] at hF
      have HF := (show Hid (_ ∧ True) from ⟨hF, trivial⟩)
      clear hF
      have hK5 : ∀ w5 : World, wr.grownBy w5 (Value.ownBlock (.slice la' (rs.length + 1 + Ex.countL (e.kids.take j)) lc')) → w5.ownsRow w0.heap.size 3 1 (.slice ka0 j kc0) j ((numsL (rs.length + 1) (e.kids.take j)).map (fun z => Value.int .i64 z)) := fun w5 hg => HS.out.2.1.kept hg (by have := own_apart' HS.out.2.2.1.1 HS.out.2.1; rw [hnl] at this; exact this)
      have HK5 := (show Hid (_ ∧ True) from ⟨hK5, trivial⟩)
      clear hK5
      go_wp2_with (first
        | (go_at_call 61; refine HF.out.1.mono ?_; rintro r w5 ⟨lv2, rs2, rfl, hC5, hm5, hg5, ho5⟩; have hs5 := hg5.size; have hkr5 := HK5.out.1 w5 hg5; obtain ⟨n2, la2, lc2, hn2, rfl⟩ := own_formN hC5.1; have H5 := (show Hid (_ ∧ _ ∧ _ ∧ _ ∧ _ ∧ _) from ⟨hC5, hm5, hg5, ho5, hn2, hkr5⟩); clear hC5 hm5 hg5 ho5 hn2)
        | (at_builtin; refine wpList_append_own_at _ rfl _ _ 23 rfl w0.heap.size 3 j0 (.int .i64 0) 1 8 Try.underlying23 hj hy0 hy1 hy2 rfl (by decide) _ j _ rfl (hkr5.alloc _) ⟨w5.heap.size, 0, none⟩ 1 1 [.int .i64 ((rs.length : Int) + 1 + (Ex.countL (e.kids.take j) : Int))] rfl rfl (cell_one_new _ _ _) (int_one _) (by unfold maxLen; omega) (by omega) (by simp; omega) ?_; intro v7 w7 hown7 hgrow7 hnil7 hat7))
      have GA := World.grownBy_alloc w5 (.cells #[.int .i64 ((rs.length : Int) + 1 + (Ex.countL (e.kids.take j) : Int))] 3) none
      have hkl : ∀ g, Value.ownBlock (.slice ka0 j kc0) = some g → g < wr.heap.size := fun g hg => (HS.out.2.1.lt g hg).2
      have C6 := H5.out.1.keptN (Q' := fun b => (Q b ∨ w.heap.size ≤ b) ∧ some b ≠ Value.ownBlock (.slice ka0 j kc0)) GA (fun b hq _ => by
        rcases hq with hq | hq
        · exact hq
        · exact ⟨.inr (by omega), fun e => by have := hkl b e.symm; omega⟩)
      have hs6 : (w5.alloc (.cells #[.int .i64 ((rs.length : Int) + 1 + (Ex.countL (e.kids.take j) : Int))] 3)).heap.size = w5.heap.size + 1 := by simp
      have C7 := C6.keptQ (Q' := fun b => (Q b ∨ w.heap.size ≤ b) ∧ some b ≠ v7.ownBlock) hgrow7 (own_apart C6.1 (H5.out.2.2.2.2.2.alloc _)) (fun b _ hq => hq.2) (fun b hq hlt => ⟨hq.1, fun e => by
        rcases hat7 with h | h
        · exact hq.2 (e.trans h)
        · rw [h] at e; cases e; omega⟩)
      have hown'' : ∀ g, Value.ownBlock (.slice la' (rs.length + 1 + Ex.countL (e.kids.take j)) lc') = some g → Value.ownBlock (.slice la rs.length lc) = some g ∨ w.heap.size ≤ g := fun g hg => by
        have h5 := HS.out.2.2.2.2.1
        rw [hnl] at h5
        rcases h5 with h | ⟨g', h, hg'⟩
        · exact .inl (h.symm.trans hg)
        · rw [hg] at h; cases h; exact .inr hg'
      have G5 : w.grownBy w5 (Value.ownBlock (.slice la rs.length lc)) := grown_two HS.out.2.2.2.1 H5.out.2.2.1 hown''
      have G7 : w.grownBy w7 (Value.ownBlock (.slice la rs.length lc)) := grown_two (grown_two G5 GA (fun g h => by cases h)) hgrow7 (fun g h => .inr (HS.out.2.2.2.2.2.2.1 g h))
      have O5 : w5.heap[w.heap.size]? = some (.cells #[.int .i64 e.kind, .int .i64 e.n, .string e.text, .slice (some ⟨b, off, none⟩) e.kids.length cap] 92) := (H5.out.2.2.1.block _ hsw (fun hc => by
        have hp := own_PC HS.out.2.2.1.1 w.heap.size (by rw [hnl]; exact hc.symm)
        exact exp_PC HS.out.2.2.2.2.2.1 hp)).trans HS.out.2.2.2.2.2.1
      have O6 : (w5.alloc (.cells #[.int .i64 ((rs.length : Int) + 1 + (Ex.countL (e.kids.take j) : Int))] 3)).heap[w.heap.size]? = some (.cells #[.int .i64 e.kind, .int .i64 e.n, .string e.text, .slice (some ⟨b, off, none⟩) e.kids.length cap] 92) := (Below.heap_alloc _ _ _ (by omega)).trans O5
      have O7 : w7.heap[w.heap.size]? = some (.cells #[.int .i64 e.kind, .int .i64 e.n, .string e.text, .slice (some ⟨b, off, none⟩) e.kids.length cap] 92) := (hgrow7.block _ (by omega) (fun hc => exp_PI O6 (own_PI (H5.out.2.2.2.2.2.alloc _) _ hc.symm))).trans O6
      refine ⟨⟨j + 1, rs' ++ rs2, by omega, by go_num, ?_, ?_, ?_, G7, ?_, O7, fun g hg => ?_⟩, by simp [intOf]; omega⟩
      · rw [List.map_append, HS.out.1, H5.out.2.1, HTK.out.1, flatL_snoc]
      · rw [HTK.out.1, numsL_snoc, List.map_append]
        have e9 : (((rs.length + 1 + Ex.countL (e.kids.take j) : Nat)) : Int) = (rs.length : Int) + 1 + (Ex.countL (e.kids.take j) : Int) := by omega
        rw [e9]
        exact hown7
      · have := C7
        rw [List.append_assoc, List.cons_append] at this
        exact this
      · rcases H5.out.2.2.2.1 with h | ⟨g, h, hg⟩
        · have h5 := HS.out.2.2.2.2.1
          rw [hnl] at h5
          rcases h5 with h' | ⟨g, h', hg⟩
          · exact .inl (h.trans h')
          · exact .inr ⟨g, h.trans h', hg⟩
        · exact .inr ⟨g, h, by omega⟩
      · rcases hat7 with h | h
        · exact HS.out.2.2.2.2.2.2.1 g (h.symm.trans hg)
        · rw [h] at hg; cases hg; omega
    · obtain rfl : j = e.kids.length := by omega
      have htk : e.kids.take e.kids.length = e.kids := List.take_of_length_le (Nat.le_refl _)
      rw [htk] at hmap hkrow hnl ⊢
      obtain ⟨g, lcap, hv⟩ := own_some hcrow.1 (by rw [hnl]; omega)
      obtain ⟨rfl, rfl⟩ : la' = some ⟨g, 0, none⟩ ∧ lc' = lcap := by simpa using hv
      have hcell := (hcrow.1.cellAt (rs.length * 4 + 3) (by rw [hnl]; omega)).trans (mid_at rs rs' _ _)
      have hfz := hcrow.1.frozenAt (rs.length * 4 + 3)
      have hKA : KAt wr w0.heap.size (fun b => Q b ∨ w.heap.size ≤ b) (.slice ka0 e.kids.length kc0) (numsL (rs.length + 1) e.kids) := by
        refine KAt.of_row ?_ (fun z hz => ?_) (fun g hg => .inr (hkg g hg))
        · rw [numsL_len]; exact hkrow
        · have := numsL_small e.kids (rs.length + 1) z hz
          unfold inI64
          omega
      have hput := CRow.put (c' := ⟨e.kind, e.n, e.text, numsL (rs.length + 1) e.kids⟩) (hcrow.keptN (Q' := fun b => Q b ∨ w.heap.size ≤ b) (World.grownBy.refl _ _) (fun b hq _ => hq.1)) rfl rfl rfl rfl hKA
      rw [hnl] at hput
      have HP := (show Hid (_ ∧ _ ∧ _ ∧ _) from ⟨hput, hgr, hown', hmap⟩)
      have hli : ((rs.length : Nat) : Int) < ((rs.length + 1 + Ex.countL e.kids : Nat) : Int) := by omega
      clear hput hgr hown' hmap hcrow hkrow hKA hO hkg hBr hv HE HS
      go_wp2
      go_ret2
      refine ⟨_, (⟨e.kind, e.n, e.text, numsL (rs.length + 1) e.kids⟩, _) :: rs', rfl, HP.out.1.1, ?_, ?_, HP.out.2.2.1⟩
      · rw [List.map_cons, HP.out.2.2.2, HR.out.2.2.2]
      · exact grown_two HP.out.2.1 HP.out.1.2 (fun g' hg' => by
          rcases HP.out.2.2.1 with h | ⟨g2, h, h2⟩
          · exact .inl (h.symm.trans hg')
          · simp only [Value.ownBlock] at h; cases h; cases hg'; exact .inr h2)
end Go.Proofs.Ytdadppjncdkpiaa
