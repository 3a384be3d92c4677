/-
  The program's reader of a pack.
-/
import Derived.Test.YtfcgpfjmabhmeabDoorPackGet
namespace Go.Proofs.YtfcgpfjmabhmeabDoor
open Go.RowKit Go.Joins

set_option maxRecDepth 100000

abbrev zero6 : Array Value := #[.int .i64 0, .int .i64 0, .int .i64 0, .int .i64 0, .int .i64 0, .string ⟨#[]⟩]
theorem ptr5_is (p : Nat) : ptr5 p = ptrsTo 5 p := rfl
theorem putG_pack (f : Nat → Int) : putG zero6 f 5 = #[.int .i64 (f 0), .int .i64 (f 1), .int .i64 (f 2), .int .i64 (f 3), .int .i64 (f 4), .string ⟨#[]⟩] := by simp [putG]
theorem putN_pack (l : List UInt8) : putN zero6 l 0 5 = #[.int .i64 (numL l 0), .int .i64 (numL l 8), .int .i64 (numL l 16), .int .i64 (numL l 24), .int .i64 (numL l 32), .string ⟨#[]⟩] := by rw [putN_is, putG_pack]
theorem zbox6 {W : World} {b : Nat} {t : TypeId} (h : W.heap[b]? = some (.cells zero6 t)) : W.cell? ⟨b, 0, none⟩ = some (.int .i64 0) ∧ W.cell? ⟨b, 1, none⟩ = some (.int .i64 0) ∧ W.cell? ⟨b, 2, none⟩ = some (.int .i64 0) ∧ W.cell? ⟨b, 3, none⟩ = some (.int .i64 0) ∧ W.cell? ⟨b, 4, none⟩ = some (.int .i64 0) ∧ W.cell? ⟨b, 5, none⟩ = some (.string ⟨#[]⟩) :=
  ⟨(cell_of_block h 0).trans rfl, (cell_of_block h 1).trans rfl, (cell_of_block h 2).trans rfl, (cell_of_block h 3).trans rfl, (cell_of_block h 4).trans rfl, (cell_of_block h 5).trans rfl⟩
theorem fbox6 {W : World} {b : Nat} {cs : Array Value} {t : TypeId} (h : W.heap[b]? = some (.cells cs t)) : W.frozen? ⟨b, 0, none⟩ = false ∧ W.frozen? ⟨b, 1, none⟩ = false ∧ W.frozen? ⟨b, 2, none⟩ = false ∧ W.frozen? ⟨b, 3, none⟩ = false ∧ W.frozen? ⟨b, 4, none⟩ = false ∧ W.frozen? ⟨b, 5, none⟩ = false :=
  ⟨unfrozen_of_block h 0, unfrozen_of_block h 1, unfrozen_of_block h 2, unfrozen_of_block h 3, unfrozen_of_block h 4, unfrozen_of_block h 5⟩
theorem pfit_off {l : List UInt8} (h : ¬ (48 ≤ l.length ∧ (packL l).ok = true ∧ numL l 40 = ((crcSum (l.drop 48) : Nat) : Int))) : packFit l = false := by
  cases hf : packFit l with
  | false => rfl
  | true =>
    unfold packFit at hf
    simp only [Bool.and_eq_true, decide_eq_true_eq, beq_iff_eq] at hf
    exact absurd ⟨hf.1.1, hf.1.2, hf.2⟩ h
theorem pfit_on {l : List UInt8} (h1 : 48 ≤ l.length) (h2 : (packL l).ok = true) (h3 : numL l 40 = ((crcSum (l.drop 48) : Nat) : Int)) : packFit l = true := by
  unfold packFit
  rw [h2, decide_eq_true h1, ← h3]
  simp
/-- What the reader answers. -/
def ReadPEnd (w w' : World) (l : List UInt8) (e : Ending) : Prop := ∃ ev, e = .returned (.tuple #[.agg (packRes l).row, ev]) ∧ ((packFit l = true ∧ ev = .nilIface) ∨ (packFit l = false ∧ ∃ z, ev = .iface 95 (.agg #[.int .i64 z]))) ∧ Below w.heap.size w w'
theorem zero_row : zeroPa.row = zero6 := rfl

set_option maxHeartbeats 1600000 in
theorem readPack_any (g cap : Nat) (l : List UInt8) (w : World) (hg : ET w) (hb : ∃ cs fz, w.heap[g]? = some (.cells cs 5 fz) ∧ ∀ (j : Nat) (x : UInt8), l[j]? = some x → cs[j]? = some (.int .u8 ((x.toNat : Nat) : Int))) (hl : l.length ≤ 1048576) (hcap : l.length ≤ cap) :
    Calls Tryd.prog 29 #[.slice (some ⟨g, 0, none⟩) l.length cap] w fun e w' => ReadPEnd w w' l e := by
  have hnot := ex_not
  have hglt : g < w.heap.size := by obtain ⟨cs, fz, h, -⟩ := hb; exact lt_heap h
  obtain ⟨W2, hW2⟩ : ∃ W2, W2 = ((w.alloc (.cells zero6 26)).alloc (.cells #[.slice (some ⟨g, 0, none⟩) l.length cap, .int .i64 0] 89)).alloc (.cells zero6 26) := ⟨_, rfl⟩
  have s2 : W2.heap.size = w.heap.size + 3 := by rw [hW2]; simp
  have B2 : Below w.heap.size w W2 := by rw [hW2]; exact (((Below.refl _ w).alloc (Nat.le_refl _) _).alloc (by simp) _).alloc (by simp; omega) _
  have R2 : W2.heap[w.heap.size]? = some (.cells zero6 26) := by
    rw [hW2, Below.heap_alloc _ _ _ (by simp; omega), Below.heap_alloc _ _ _ (by simp)]
    exact (MapKept.heap_alloc w _).1
  have Q2 : W2.heap[w.heap.size + 1]? = some (.cells #[.slice (some ⟨g, 0, none⟩) l.length cap, .int .i64 0] 89) := by
    rw [hW2, Below.heap_alloc _ _ _ (by simp)]
    have := (MapKept.heap_alloc (w.alloc (.cells zero6 26)) (.cells #[.slice (some ⟨g, 0, none⟩) l.length cap, .int .i64 0] 89)).1
    simpa using this
  have M2 : W2.heap[w.heap.size + 1 + 1]? = some (.cells zero6 26) := by
    rw [hW2]
    have := (MapKept.heap_alloc ((w.alloc (.cells zero6 26)).alloc (.cells #[.slice (some ⟨g, 0, none⟩) l.length cap, .int .i64 0] 89)) (.cells zero6 26)).1
    simpa using this
  have Wr2 : Wr W2 (w.heap.size + 1) g cap l 0 := by
    obtain ⟨cs, fz, h1, h2⟩ := hb
    exact ⟨Q2, ⟨cs, fz, (B2.block _ hglt).trans h1, h2⟩, by omega, hl, hcap, Nat.zero_le _⟩
  have HET := (show Hid (_ ∧ True) from ⟨hg, trivial⟩)
  have H2 := (show Hid (_ ∧ _ ∧ _ ∧ _ ∧ _ ∧ _) from ⟨Wr2, B2, R2, M2, s2, hW2⟩)
  clear Wr2 B2 R2 M2 s2 hW2 Q2 hb hg
  go_enter Tryd.func29, Tryd.ntmps29
  go_wp2_with fail
  rw [← (show W2 = _ from H2.out.2.2.2.2.2)]
  refine (packFields_any (w.heap.size + 1 + 1) W2).mono ?_
  rintro e w3 ⟨rfl, o3, b3⟩
  rw [ptr5_is] at o3
  have hs2 := (show Hid (_ ∧ True) from ⟨H2.out.2.2.2.2.1, trivial⟩)
  have M3 := (b3.block _ (lt_heap H2.out.2.2.2.1)).trans H2.out.2.2.2.1
  have R3 := (b3.block _ (lt_heap H2.out.2.2.1)).trans H2.out.2.2.1
  have Wr3 := H2.out.1.below b3
  have hF := fill_any (w.heap.size + 1) g cap W2.heap.size (w.heap.size + 1 + 1) 5 l 0 zero6 26 5 w3 Wr3 o3 M3 (by decide) (by decide) (by omega) (by omega) (by have := hs2.out.1; omega) (by have := hs2.out.1; omega)
  have hs3 : w.heap.size + 3 ≤ w3.heap.size := by have := b3.size; have := hs2.out.1; omega
  have H3 := (show Hid (_ ∧ _ ∧ _) from ⟨hF, H2.out.2.1.trans (b3.mono (by have := hs2.out.1; omega)), R3⟩)
  clear hF R3 M3 Wr3 o3 b3 H2
  go_wp2_with fail
  refine H3.out.1.mono ?_
  rintro e w4 (⟨hfit, rfl, Wr4, M4, k4⟩ | ⟨hfit, z, rfl, k4⟩)
  case inr =>
    have R4 := k4.heap H3.out.2.2 (by omega)
    obtain ⟨d0, d1, d2, d3, d4, d5⟩ := zbox6 R4
    obtain ⟨f0, f1, f2, f3, f4, f5⟩ := fbox6 R4
    have HE := (show Hid (_ ∧ _) from ⟨H3.out.2.1.trans (k4.below (B := w.heap.size) (by rintro k (rfl | rfl) <;> omega) (by omega)), pfit_off (l := l) (fun h => hfit (by omega))⟩)
    clear k4 R4 H3 hfit
    go_wp2
    refine bodyPost_ret (v := .tuple #[.agg zero6, .iface 95 (.agg #[.int .i64 z])]) (by simp [results, Tryd.results29, go_sem, d0, d1, d2, d3, d4, d5]) rfl ?_
    refine ⟨_, by rw [pres_no HE.out.2]; rfl, .inr ⟨HE.out.2, z, rfl⟩, ?_⟩
    iterate 6 refine Below.setCell ?_ (by simp) _
    exact HE.out.1
  have R4 := k4.heap H3.out.2.2 (by omega)
  rw [putN_pack] at M4
  have hs4 : w3.heap.size ≤ w4.heap.size := k4.size
  have B4 := H3.out.2.1.trans (k4.below (B := w.heap.size) (by rintro k (rfl | rfl) <;> omega) (by omega))
  have Wr4' : Wr w4 (w.heap.size + 1) g cap l 40 := Wr4
  obtain ⟨-, wc1, -⟩ := Wr4'.cells
  by_cases h48 : 48 ≤ l.length
  case neg =>
    have hN := num_no (w.heap.size + 1) g cap l 40 w4 Wr4' (by omega)
    have H4 := (show Hid (_ ∧ _ ∧ _) from ⟨hN, B4, R4⟩)
    clear hN B4 R4 M4 k4 Wr4 Wr4' H3
    go_wp2_with fail
    refine H4.out.1.mono ?_
    rintro e w5 ⟨rfl, b5⟩
    have R5 := (b5.block _ (lt_heap H4.out.2.2)).trans H4.out.2.2
    obtain ⟨d0, d1, d2, d3, d4, d5⟩ := zbox6 R5
    obtain ⟨f0, f1, f2, f3, f4, f5⟩ := fbox6 R5
    have HE := (show Hid (_ ∧ _) from ⟨H4.out.2.1.trans (b5.mono (by omega)), pfit_off (l := l) (fun h => h48 h.1)⟩)
    clear R5 H4 hfit b5 wc1
    go_wp2
    refine bodyPost_ret (v := .tuple #[.agg zero6, .iface 95 (.agg #[.int .i64 ((40 : Nat) : Int)])]) (by simp [results, Tryd.results29, go_sem, d0, d1, d2, d3, d4, d5]) rfl ?_
    refine ⟨_, by rw [pres_no HE.out.2]; rfl, .inr ⟨HE.out.2, _, rfl⟩, ?_⟩
    iterate 6 refine Below.setCell ?_ (by simp) _
    exact HE.out.1
  have hN := num_ok (w.heap.size + 1) g cap l 40 w4 Wr4' (by omega)
  have H4 := (show Hid (_ ∧ _ ∧ _ ∧ _) from ⟨hN, B4, R4, M4⟩)
  clear hN B4 R4 M4 k4 Wr4 Wr4' H3
  go_wp2_with fail
  refine H4.out.1.mono ?_
  rintro e w5 ⟨rfl, Wr5, k5⟩
  have Wr5' : Wr w5 (w.heap.size + 1) g cap l 48 := Wr5
  have R5 := k5.heap H4.out.2.2.1 (by omega)
  have M5 := k5.heap H4.out.2.2.2 (by omega)
  have hs5 : w4.heap.size ≤ w5.heap.size := k5.size
  have B5 := H4.out.2.1.trans (k5.below (B := w.heap.size) (by rintro k rfl; omega) (by omega))
  have hL := left_any (w.heap.size + 1) g cap l 48 w5 Wr5'
  have H5 := (show Hid (_ ∧ _ ∧ _ ∧ _ ∧ _) from ⟨hL, B5, R5, M5, Wr5'⟩)
  clear hL B5 R5 M5 k5 H4 Wr5 Wr5' wc1
  go_wp2_with fail
  refine H5.out.1.mono ?_
  rintro e w6 ⟨rfl, b6⟩
  obtain ⟨n, hn⟩ : ∃ n : Nat, n = l.length - 48 := ⟨_, rfl⟩
  have hC := cut_any (w.heap.size + 1) g cap l 48 n w6 (H5.out.2.2.2.2.below b6) (by omega)
  rw [show ((n : Nat) : Int) = (l.length : Int) - 48 by omega] at hC
  have hs6 : w5.heap.size ≤ w6.heap.size := b6.size
  have H6 := (show Hid (_ ∧ _ ∧ _ ∧ _ ∧ _) from ⟨hC, H5.out.2.1.trans (b6.mono (by omega)), (b6.block _ (lt_heap H5.out.2.2.1)).trans H5.out.2.2.1, (b6.block _ (lt_heap H5.out.2.2.2.1)).trans H5.out.2.2.2.1, hn⟩)
  clear hC b6 H5 hn
  go_wp2_with fail
  refine H6.out.1.mono ?_
  rintro e w7 ⟨rfl, Wr7, k7⟩
  have hdl : (l.drop 48).length = n := by rw [List.length_drop, H6.out.2.2.2.2]
  have hconv : (convert 51 9 (.slice (some ⟨g, (if n = 0 then 0 else 48), none⟩) n n)).run Tryd.prog w7 = .ok (.string (packL l).body) w7 := by
    have := run_convert_bytes_back (P := Tryd.prog) w7 51 9 5 ⟨g, (if n = 0 then 0 else 48), none⟩ n (l.drop 48) Tryd.underlying51 Tryd.underlying5 Tryd.underlying9 (fun j hj => by
      rw [if_neg (by omega), addr_add]
      have hb := Wr7.btAt 48 n j ((l.drop 48)[j]) (by rw [List.take_of_length_le (by omega), List.getElem?_eq_getElem hj])
      exact hb)
    rw [hdl] at this
    exact this
  have hs7 : w6.heap.size ≤ w7.heap.size := k7.size
  have R7 := k7.heap H6.out.2.2.1 (by omega)
  have M7 := k7.heap H6.out.2.2.2.1 (by omega)
  have B7 := H6.out.2.1.trans (k7.below (B := w.heap.size) (by rintro k rfl; omega) (by omega))
  have m5 : w7.cell? ⟨w.heap.size + 1 + 1, 5, none⟩ = some (.string ⟨#[]⟩) := (cell_of_block M7 5).trans rfl
  have g5 : w7.frozen? ⟨w.heap.size + 1 + 1, 5, none⟩ = false := unfrozen_of_block M7 5
  obtain ⟨W8, hW8⟩ : ∃ W8, W8 = w7.setCell ⟨w.heap.size + 1 + 1, 5, none⟩ (.string (packL l).body) := ⟨_, rfl⟩
  have M8 : W8.heap[w.heap.size + 1 + 1]? = some (.cells (packL l).row 26) := by
    rw [hW8, block_setCell M7]
    rfl
  have K8 : KB (fun k => k = w.heap.size + 1 + 1) w7 W8 := by rw [hW8]; exact KB.setCell (X := fun k => k = w.heap.size + 1 + 1) (KB.refl _ _) (p := ⟨w.heap.size + 1 + 1, 5, none⟩) rfl _
  have R8 := K8.heap R7 (by omega)
  have B8 := B7.trans (K8.below (B := w.heap.size) (by rintro k rfl; omega) (by omega))
  have hs8 : w7.heap.size ≤ W8.heap.size := K8.size
  have E8 : ET W8 := HET.out.1.below B8
  have hbs : (packL l).body.size ≤ 1048576 := by
    have : (packL l).body.size = (packL l).body.data.toList.length := by simp
    rw [this, packL_body, List.length_drop]
    omega
  have hOk := implPackOk_any (packL l) W8 hbs E8
  have HK := (show Hid (_ ∧ _ ∧ _ ∧ _ ∧ _ ∧ _) from ⟨hOk, B8, R8, M8, hW8, hbs⟩)
  obtain ⟨m0, m1, m2, m3, m4, -⟩ : w7.cell? ⟨w.heap.size + 1 + 1, 0, none⟩ = some (.int .i64 (numL l 0)) ∧ w7.cell? ⟨w.heap.size + 1 + 1, 1, none⟩ = some (.int .i64 (numL l 8)) ∧ w7.cell? ⟨w.heap.size + 1 + 1, 2, none⟩ = some (.int .i64 (numL l 16)) ∧ w7.cell? ⟨w.heap.size + 1 + 1, 3, none⟩ = some (.int .i64 (numL l 24)) ∧ w7.cell? ⟨w.heap.size + 1 + 1, 4, none⟩ = some (.int .i64 (numL l 32)) ∧ True :=
    ⟨(cell_of_block M7 0).trans rfl, (cell_of_block M7 1).trans rfl, (cell_of_block M7 2).trans rfl, (cell_of_block M7 3).trans rfl, (cell_of_block M7 4).trans rfl, trivial⟩
  generalize (if n = 0 then 0 else 48) = q at *
  clear Wr7 k7 hdl R7 M7 B7 hW8 M8 K8 R8 B8 E8 hOk H6 hbs
  go_wp2_with fail
  rw [← HK.out.2.2.2.2.1]
  refine (show Calls Tryd.prog 21 #[.agg #[.int .i64 (numL l 0), .int .i64 (numL l 8), .int .i64 (numL l 16), .int .i64 (numL l 24), .int .i64 (numL l 32), .string (packL l).body]] W8 (fun e w' => e = .returned (.bool (packL l).ok) ∧ Below W8.heap.size W8 w') from HK.out.1).mono ?_
  rintro e w9 ⟨rfl, b9⟩
  clear m0 m1 m2 m3 m4 m5 g5 hconv
  have R9 := (b9.block _ (lt_heap HK.out.2.2.1)).trans HK.out.2.2.1
  have M9 := (b9.block _ (lt_heap HK.out.2.2.2.1)).trans HK.out.2.2.2.1
  have B9 := HK.out.2.1.trans (b9.mono (by omega))
  have hs9 : W8.heap.size ≤ w9.heap.size := b9.size
  obtain ⟨d0, d1, d2, d3, d4, d5⟩ := zbox6 R9
  obtain ⟨f0, f1, f2, f3, f4, f5⟩ := fbox6 R9
  cases hok : (packL l).ok with
  | false =>
    have HE := (show Hid (_ ∧ _) from ⟨B9, pfit_off (l := l) (fun h => by rw [hok] at h; exact absurd h.2.1 (by decide))⟩)
    clear B9 M9 R9 b9 HK
    go_wp2
    all_goals (refine bodyPost_ret (v := .tuple #[.agg zero6, .iface 95 (.agg #[.int .i64 0])]) (by simp [results, Tryd.results29, go_sem, d0, d1, d2, d3, d4, d5]) rfl ?_)
    all_goals (refine ⟨_, by rw [pres_no HE.out.2]; rfl, .inr ⟨HE.out.2, _, rfl⟩, ?_⟩)
    all_goals (iterate 6 refine Below.setCell ?_ (by simp) _)
    all_goals (exact HE.out.1)
  | true =>
    obtain ⟨n0, n1, n2, n3, n4, n5⟩ := pbox6 M9
    have hcl := crcSum_lt (packL l).body.data.toList
    have hcw : IntKind.i64.wrap ((crcSum (packL l).body.data.toList : Nat) : Int) = ((crcSum (packL l).body.data.toList : Nat) : Int) := by rw [IntKind.wrap_i64]; omega
    have HC := (show Hid (_ ∧ _ ∧ _ ∧ _) from ⟨implCrc_any (packL l).body w9 (by have := HK.out.2.2.2.2.2; unfold maxLen; omega), B9, hok, packL_body l⟩)
    clear B9 M9 R9 b9 HK hok
    generalize hc : crcSum (packL l).body.data.toList = c at *
    have HCC := (show Hid (_ ∧ True) from ⟨hc, trivial⟩)
    clear hc
    by_cases hsum : numL l 40 = (c : Int)
    · have hne : (numL l 40 != (c : Int)) = false := by simp [hsum]
      have HE := (show Hid (_ ∧ _) from ⟨HC.out.2.1, pfit_on h48 HC.out.2.2.1 (by rw [hsum, ← HCC.out.1, HC.out.2.2.2])⟩)
      clear hsum
      go_wp2_with (go_at_call 26; refine HC.out.1.mono ?_; rintro e wc ⟨rfl, hwc⟩; rw [hwc]; clear hwc)
      all_goals (refine bodyPost_ret (v := .tuple #[.agg (packL l).row, .nilIface]) (by simp [results, Tryd.results29, go_sem, d0, d1, d2, d3, d4, d5]) rfl ?_)
      all_goals (refine ⟨_, by rw [pres_yes HE.out.2], .inl ⟨HE.out.2, rfl⟩, ?_⟩)
      all_goals (iterate 6 refine Below.setCell ?_ (by simp) _)
      all_goals (exact HE.out.1)
    · have hne : (numL l 40 != (c : Int)) = true := by simp [hsum]
      have HE := (show Hid (_ ∧ _) from ⟨HC.out.2.1, pfit_off (l := l) (fun h => hsum (by rw [h.2.2, ← HC.out.2.2.2, HCC.out.1]))⟩)
      clear hsum
      go_wp2_with (go_at_call 26; refine HC.out.1.mono ?_; rintro e wc ⟨rfl, hwc⟩; rw [hwc]; clear hwc)
      all_goals (refine bodyPost_ret (v := .tuple #[.agg zero6, .iface 95 (.agg #[.int .i64 40])]) (by simp [results, Tryd.results29, go_sem, d0, d1, d2, d3, d4, d5]) rfl ?_)
      all_goals (refine ⟨_, by rw [pres_no HE.out.2]; rfl, .inr ⟨HE.out.2, _, rfl⟩, ?_⟩)
      all_goals (iterate 6 refine Below.setCell ?_ (by simp) _)
      all_goals (exact HE.out.1)
end Go.Proofs.YtfcgpfjmabhmeabDoor
