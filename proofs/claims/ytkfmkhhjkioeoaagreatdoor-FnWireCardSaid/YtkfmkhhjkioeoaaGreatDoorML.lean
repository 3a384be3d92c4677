/-
  Packs out of their bytes, in plain words.
  The program's reader of a pack.
  The program's GetPack.
-/
import Derived.Test.YtkfmkhhjkioeoaaGreatDoorMI
import Derived.Lib.ConvBytes
namespace Go.Proofs.YtkfmkhhjkioeoaaGreatDoor
open Go.RowKit Go.Joins

set_option maxRecDepth 100000

theorem digits_back (k : Nat) : ∀ (u : Nat), k ≤ 8 → bytesU ((List.range k).map (fun i => byteAt u (k - 1 - i))) = u % 256 ^ k := by
  induction k with
  | zero => intro u _; simp [bytesU, Nat.mod_one]
  | succ k ih =>
    intro u hk
    have e : (List.range (k + 1)).map (fun i => byteAt u (k + 1 - 1 - i)) = (List.range k).map (fun i => byteAt (u / 256) (k - 1 - i)) ++ [byteAt u 0] := by
      rw [List.range_succ, List.map_append, List.map_singleton]
      congr 1
      · refine List.map_congr_left fun i hi => ?_
        have hi' : i < k := by simpa using hi
        unfold byteAt
        rw [show k + 1 - 1 - i = (k - 1 - i) + 1 by omega, Nat.pow_succ, Nat.mul_comm (256 ^ (k - 1 - i)) 256, ← Nat.div_div_eq_div_mul]
      · rw [show k + 1 - 1 - k = 0 by omega]
    rw [e, bytesU_more, ih (u / 256) (by omega)]
    have hb : (byteAt u 0).toNat = u % 256 := by unfold byteAt; rw [UInt8.toNat_ofNat', Nat.pow_zero, Nat.div_one]; omega
    rw [hb, Nat.pow_succ, Nat.mul_comm (256 ^ k) 256, Nat.mod_mul]
    have hp := pow_small (k + 1) hk
    have hl : u / 256 % 256 ^ k < 256 ^ k := Nat.mod_lt _ (Nat.pow_pos (by decide))
    rw [Nat.pow_succ] at hp
    generalize 256 ^ k = P at *
    generalize u / 256 % P = q at *
    have : 256 * q + u % 256 < 18446744073709551616 := by omega
    rw [Nat.mod_eq_of_lt this]
    omega
theorem numB_inj {a b : Int} (ha : inI64 a) (hb : inI64 b) (h : numB a = numB b) : a = b := by
  have e : ∀ z, bytesU (numB z) = numU z := fun z => by
    have := digits_back 8 (numU z) (by decide)
    rw [Nat.mod_eq_of_lt (show numU z < 256 ^ 8 from numU_lt z)] at this
    exact this
  have h1 := e a
  rw [h, e b] at h1
  unfold numU at h1
  unfold inI64 at ha hb
  omega
/-- The pack that bytes tell. -/
def packL (l : List UInt8) : Pa := ⟨numL l 0, numL l 8, numL l 16, numL l 24, numL l 32, ⟨(l.drop 48).toArray⟩⟩
/-- Whether bytes are a pack's. -/
def packFit (l : List UInt8) : Bool := (decide (48 ≤ l.length) && (packL l).ok) && (numL l 40 == ((crcSum (l.drop 48) : Nat) : Int))
def zeroPa : Pa := ⟨0, 0, 0, 0, 0, ⟨#[]⟩⟩
/-- What is read. -/
def packRes (l : List UInt8) : Pa := if packFit l then packL l else zeroPa
theorem pres_no {l : List UInt8} (h : packFit l = false) : packRes l = zeroPa := by unfold packRes; rw [h]; rfl
theorem pres_yes {l : List UInt8} (h : packFit l = true) : packRes l = packL l := by unfold packRes; rw [h]; rfl
theorem packL_fits (l : List UInt8) : (packL l).fits := ⟨numL_fit _ _, numL_fit _ _, numL_fit _ _, numL_fit _ _, numL_fit _ _⟩
theorem packL_body (l : List UInt8) : (packL l).body.data.toList = l.drop 48 := by unfold packL; simp
theorem bytes_split {l : List UInt8} (h : 48 ≤ l.length) : l = numsB [numL l 0, numL l 8, numL l 16, numL l 24, numL l 32] ++ (numB (numL l 40) ++ l.drop 48) := by
  have e1 := numsB_back l 0 6 (by omega)
  have e2 : numsL l 0 6 = [numL l 0, numL l 8, numL l 16, numL l 24, numL l 32] ++ [numL l 40] := rfl
  rw [e2, numsB_app, List.drop_zero] at e1
  have e3 : numsB [numL l 40] = numB (numL l 40) := by simp [numsB]
  rw [e3] at e1
  rw [← List.append_assoc, e1]
  exact (List.take_append_drop 48 l).symm
theorem pack_bytes {l : List UInt8} (hok : (packL l).ok = true) : (packL l).bytes = numsB [numL l 0, numL l 8, numL l 16, numL l 24, numL l 32] ++ (numB ((crcSum (l.drop 48) : Nat) : Int) ++ l.drop 48) := by
  unfold Pa.bytes Pa.nums
  rw [hok, if_pos rfl, packL_body]
  have : ∀ (a : List Int) (z : Int), numsB (a ++ [z]) = numsB a ++ numB z := fun a z => by rw [numsB_app]; simp [numsB]
  rw [show ([(packL l).kind, (packL l).frm, (packL l).dst, (packL l).seq, (packL l).low, ((crcSum (l.drop 48) : Nat) : Int)] : List Int) = [numL l 0, numL l 8, numL l 16, numL l 24, numL l 32] ++ [((crcSum (l.drop 48) : Nat) : Int)] from rfl, this, List.append_assoc]
theorem packFit_yes {l : List UInt8} (h : packFit l = true) : (packL l).bytes = l := by
  unfold packFit at h
  simp only [Bool.and_eq_true, decide_eq_true_eq, beq_iff_eq] at h
  rw [pack_bytes h.1.2, ← h.2]
  exact (bytes_split h.1.1).symm
theorem packFit_no {l : List UInt8} (h : packFit l = false) (h48 : 48 ≤ l.length) : (packL l).bytes ≠ l := by
  intro hb
  cases hok : (packL l).ok with
  | false =>
    have : (packL l).bytes = [] := by unfold Pa.bytes; rw [hok]; rfl
    rw [this] at hb
    rw [← hb] at h48
    simp at h48
  | true =>
    rw [pack_bytes hok] at hb
    have hs := bytes_split h48
    have h2 := List.append_cancel_left (hb.trans hs)
    have h3 : numB ((crcSum (l.drop 48) : Nat) : Int) = numB (numL l 40) := by
      have := congrArg (List.take 8) h2
      rw [List.take_append_of_le_length (by rw [numB_len]; exact Nat.le_refl 8), List.take_append_of_le_length (by rw [numB_len]; exact Nat.le_refl 8), List.take_of_length_le (by rw [numB_len]; exact Nat.le_refl 8), List.take_of_length_le (by rw [numB_len]; exact Nat.le_refl 8)] at this
      exact this
    have hc := crcSum_lt (l.drop 48)
    have h4 := numB_inj (by unfold inI64; omega) (numL_fit _ _) h3
    unfold packFit at h
    rw [hok, decide_eq_true h48, ← h4] at h
    simp at h
end Go.Proofs.YtkfmkhhjkioeoaaGreatDoor

namespace Go.Proofs.YtkfmkhhjkioeoaaGreatDoor
open Go.RowKit Go.Joins

set_option maxRecDepth 100000

abbrev zero6 : Array Value := #[.int .i64 0, .int .i64 0, .int .i64 0, .int .i64 0, .int .i64 0, .string ⟨#[]⟩]
theorem ptr5_is (p : Nat) : ptr5 p = ptrsTo 5 p := rfl
theorem putG_pack (f : Nat → Int) : putG zero6 f 5 = #[.int .i64 (f 0), .int .i64 (f 1), .int .i64 (f 2), .int .i64 (f 3), .int .i64 (f 4), .string ⟨#[]⟩] := by simp [putG]
theorem putN_pack (l : List UInt8) : putN zero6 l 0 5 = #[.int .i64 (numL l 0), .int .i64 (numL l 8), .int .i64 (numL l 16), .int .i64 (numL l 24), .int .i64 (numL l 32), .string ⟨#[]⟩] := by rw [putN_is, putG_pack]
theorem zbox6 {W : World} {b : Nat} {t : TypeId} (h : W.heap[b]? = some (.cells zero6 t)) : W.cell? ⟨b, 0, none⟩ = some (.int .i64 0) ∧ W.cell? ⟨b, 1, none⟩ = some (.int .i64 0) ∧ W.cell? ⟨b, 2, none⟩ = some (.int .i64 0) ∧ W.cell? ⟨b, 3, none⟩ = some (.int .i64 0) ∧ W.cell? ⟨b, 4, none⟩ = some (.int .i64 0) ∧ W.cell? ⟨b, 5, none⟩ = some (.string ⟨#[]⟩) :=
  ⟨(cell_of_block h 0).trans rfl, (cell_of_block h 1).trans rfl, (cell_of_block h 2).trans rfl, (cell_of_block h 3).trans rfl, (cell_of_block h 4).trans rfl, (cell_of_block h 5).trans rfl⟩
theorem fbox6 {W : World} {b : Nat} {cs : Array Value} {t : TypeId} (h : W.heap[b]? = some (.cells cs t)) : W.frozen? ⟨b, 0, none⟩ = false ∧ W.frozen? ⟨b, 1, none⟩ = false ∧ W.frozen? ⟨b, 2, none⟩ = false ∧ W.frozen? ⟨b, 3, none⟩ = false ∧ W.frozen? ⟨b, 4, none⟩ = false ∧ W.frozen? ⟨b, 5, none⟩ = false :=
  ⟨unfrozen_of_block h 0, unfrozen_of_block h 1, unfrozen_of_block h 2, unfrozen_of_block h 3, unfrozen_of_block h 4, unfrozen_of_block h 5⟩
theorem pfit_off {l : List UInt8} (h : ¬ (48 ≤ l.length ∧ (packL l).ok = true ∧ numL l 40 = ((crcSum (l.drop 48) : Nat) : Int))) : packFit l = false := by
  cases hf : packFit l with
  | false => rfl
  | true =>
    unfold packFit at hf
    simp only [Bool.and_eq_true, decide_eq_true_eq, beq_iff_eq] at hf
    exact absurd ⟨hf.1.1, hf.1.2, hf.2⟩ h
theorem pfit_on {l : List UInt8} (h1 : 48 ≤ l.length) (h2 : (packL l).ok = true) (h3 : numL l 40 = ((crcSum (l.drop 48) : Nat) : Int)) : packFit l = true := by
  unfold packFit
  rw [h2, decide_eq_true h1, ← h3]
  simp
/-- What the reader answers. -/
def ReadPEnd (w w' : World) (l : List UInt8) (e : Ending) : Prop := ∃ ev, e = .returned (.tuple #[.agg (packRes l).row, ev]) ∧ ((packFit l = true ∧ ev = .nilIface) ∨ (packFit l = false ∧ ∃ z, ev = .iface 107 (.agg #[.int .i64 z]))) ∧ Below w.heap.size w w'
theorem zero_row : zeroPa.row = zero6 := rfl

set_option maxHeartbeats 1600000 in
theorem readPack_any (g cap : Nat) (l : List UInt8) (w : World) (hg : ET w) (hb : ∃ cs fz, w.heap[g]? = some (.cells cs 5 fz) ∧ ∀ (j : Nat) (x : UInt8), l[j]? = some x → cs[j]? = some (.int .u8 ((x.toNat : Nat) : Int))) (hl : l.length ≤ 1048576) (hcap : l.length ≤ cap) :
    Calls Tryz.prog 46 #[.slice (some ⟨g, 0, none⟩) l.length cap] w fun e w' => ReadPEnd w w' l e := by
  have hnot := ex_not
  have hglt : g < w.heap.size := by obtain ⟨cs, fz, h, -⟩ := hb; exact lt_heap h
  obtain ⟨W2, hW2⟩ : ∃ W2, W2 = ((w.alloc (.cells zero6 35)).alloc (.cells #[.slice (some ⟨g, 0, none⟩) l.length cap, .int .i64 0] 101)).alloc (.cells zero6 35) := ⟨_, rfl⟩
  have s2 : W2.heap.size = w.heap.size + 3 := by rw [hW2]; simp
  have B2 : Below w.heap.size w W2 := by rw [hW2]; exact (((Below.refl _ w).alloc (Nat.le_refl _) _).alloc (by simp) _).alloc (by simp; omega) _
  have R2 : W2.heap[w.heap.size]? = some (.cells zero6 35) := by
    rw [hW2, Below.heap_alloc _ _ _ (by simp; omega), Below.heap_alloc _ _ _ (by simp)]
    exact (MapKept.heap_alloc w _).1
  have Q2 : W2.heap[w.heap.size + 1]? = some (.cells #[.slice (some ⟨g, 0, none⟩) l.length cap, .int .i64 0] 101) := by
    rw [hW2, Below.heap_alloc _ _ _ (by simp)]
    have := (MapKept.heap_alloc (w.alloc (.cells zero6 35)) (.cells #[.slice (some ⟨g, 0, none⟩) l.length cap, .int .i64 0] 101)).1
    simpa using this
  have M2 : W2.heap[w.heap.size + 1 + 1]? = some (.cells zero6 35) := by
    rw [hW2]
    have := (MapKept.heap_alloc ((w.alloc (.cells zero6 35)).alloc (.cells #[.slice (some ⟨g, 0, none⟩) l.length cap, .int .i64 0] 101)) (.cells zero6 35)).1
    simpa using this
  have Wr2 : Wr W2 (w.heap.size + 1) g cap l 0 := by
    obtain ⟨cs, fz, h1, h2⟩ := hb
    exact ⟨Q2, ⟨cs, fz, (B2.block _ hglt).trans h1, h2⟩, by omega, hl, hcap, Nat.zero_le _⟩
  have HET := (show Hid (_ ∧ True) from ⟨hg, trivial⟩)
  have H2 := (show Hid (_ ∧ _ ∧ _ ∧ _ ∧ _ ∧ _) from ⟨Wr2, B2, R2, M2, s2, hW2⟩)
  clear Wr2 B2 R2 M2 s2 hW2 Q2 hb hg
  go_enter Tryz.func46, Tryz.ntmps46
  go_wp2_with fail
  rw [← (show W2 = _ from H2.out.2.2.2.2.2)]
  refine (packFields_any (w.heap.size + 1 + 1) W2).mono ?_
  rintro e w3 ⟨rfl, o3, b3⟩
  rw [ptr5_is] at o3
  have hs2 := (show Hid (_ ∧ True) from ⟨H2.out.2.2.2.2.1, trivial⟩)
  have M3 := (b3.block _ (lt_heap H2.out.2.2.2.1)).trans H2.out.2.2.2.1
  have R3 := (b3.block _ (lt_heap H2.out.2.2.1)).trans H2.out.2.2.1
  have Wr3 := H2.out.1.below b3
  have hF := fill_any (w.heap.size + 1) g cap W2.heap.size (w.heap.size + 1 + 1) 5 l 0 zero6 35 5 w3 Wr3 o3 M3 (by decide) (by decide) (by omega) (by omega) (by have := hs2.out.1; omega) (by have := hs2.out.1; omega)
  have hs3 : w.heap.size + 3 ≤ w3.heap.size := by have := b3.size; have := hs2.out.1; omega
  have H3 := (show Hid (_ ∧ _ ∧ _) from ⟨hF, H2.out.2.1.trans (b3.mono (by have := hs2.out.1; omega)), R3⟩)
  clear hF R3 M3 Wr3 o3 b3 H2
  go_wp2_with fail
  refine H3.out.1.mono ?_
  rintro e w4 (⟨hfit, rfl, Wr4, M4, k4⟩ | ⟨hfit, z, rfl, k4⟩)
  case inr =>
    have R4 := k4.heap H3.out.2.2 (by omega)
    obtain ⟨d0, d1, d2, d3, d4, d5⟩ := zbox6 R4
    obtain ⟨f0, f1, f2, f3, f4, f5⟩ := fbox6 R4
    have HE := (show Hid (_ ∧ _) from ⟨H3.out.2.1.trans (k4.below (B := w.heap.size) (by rintro k (rfl | rfl) <;> omega) (by omega)), pfit_off (l := l) (fun h => hfit (by omega))⟩)
    clear k4 R4 H3 hfit
    go_wp2
    refine bodyPost_ret (v := .tuple #[.agg zero6, .iface 107 (.agg #[.int .i64 z])]) (by simp [results, Tryz.results46, go_sem, d0, d1, d2, d3, d4, d5]) rfl ?_
    refine ⟨_, by rw [pres_no HE.out.2]; rfl, .inr ⟨HE.out.2, z, rfl⟩, ?_⟩
    iterate 6 refine Below.setCell ?_ (by simp) _
    exact HE.out.1
  have R4 := k4.heap H3.out.2.2 (by omega)
  rw [putN_pack] at M4
  have hs4 : w3.heap.size ≤ w4.heap.size := k4.size
  have B4 := H3.out.2.1.trans (k4.below (B := w.heap.size) (by rintro k (rfl | rfl) <;> omega) (by omega))
  have Wr4' : Wr w4 (w.heap.size + 1) g cap l 40 := Wr4
  obtain ⟨-, wc1, -⟩ := Wr4'.cells
  by_cases h48 : 48 ≤ l.length
  case neg =>
    have hN := num_no (w.heap.size + 1) g cap l 40 w4 Wr4' (by omega)
    have H4 := (show Hid (_ ∧ _ ∧ _) from ⟨hN, B4, R4⟩)
    clear hN B4 R4 M4 k4 Wr4 Wr4' H3
    go_wp2_with fail
    refine H4.out.1.mono ?_
    rintro e w5 ⟨rfl, b5⟩
    have R5 := (b5.block _ (lt_heap H4.out.2.2)).trans H4.out.2.2
    obtain ⟨d0, d1, d2, d3, d4, d5⟩ := zbox6 R5
    obtain ⟨f0, f1, f2, f3, f4, f5⟩ := fbox6 R5
    have HE := (show Hid (_ ∧ _) from ⟨H4.out.2.1.trans (b5.mono (by omega)), pfit_off (l := l) (fun h => h48 h.1)⟩)
    clear R5 H4 hfit b5 wc1
    go_wp2
    refine bodyPost_ret (v := .tuple #[.agg zero6, .iface 107 (.agg #[.int .i64 ((40 : Nat) : Int)])]) (by simp [results, Tryz.results46, go_sem, d0, d1, d2, d3, d4, d5]) rfl ?_
    refine ⟨_, by rw [pres_no HE.out.2]; rfl, .inr ⟨HE.out.2, _, rfl⟩, ?_⟩
    iterate 6 refine Below.setCell ?_ (by simp) _
    exact HE.out.1
  have hN := num_ok (w.heap.size + 1) g cap l 40 w4 Wr4' (by omega)
  have H4 := (show Hid (_ ∧ _ ∧ _ ∧ _) from ⟨hN, B4, R4, M4⟩)
  clear hN B4 R4 M4 k4 Wr4 Wr4' H3
  go_wp2_with fail
  refine H4.out.1.mono ?_
  rintro e w5 ⟨rfl, Wr5, k5⟩
  have Wr5' : Wr w5 (w.heap.size + 1) g cap l 48 := Wr5
  have R5 := k5.heap H4.out.2.2.1 (by omega)
  have M5 := k5.heap H4.out.2.2.2 (by omega)
  have hs5 : w4.heap.size ≤ w5.heap.size := k5.size
  have B5 := H4.out.2.1.trans (k5.below (B := w.heap.size) (by rintro k rfl; omega) (by omega))
  have hL := left_any (w.heap.size + 1) g cap l 48 w5 Wr5'
  have H5 := (show Hid (_ ∧ _ ∧ _ ∧ _ ∧ _) from ⟨hL, B5, R5, M5, Wr5'⟩)
  clear hL B5 R5 M5 k5 H4 Wr5 Wr5' wc1
  go_wp2_with fail
  refine H5.out.1.mono ?_
  rintro e w6 ⟨rfl, b6⟩
  obtain ⟨n, hn⟩ : ∃ n : Nat, n = l.length - 48 := ⟨_, rfl⟩
  have hC := cut_any (w.heap.size + 1) g cap l 48 n w6 (H5.out.2.2.2.2.below b6) (by omega)
  rw [show ((n : Nat) : Int) = (l.length : Int) - 48 by omega] at hC
  have hs6 : w5.heap.size ≤ w6.heap.size := b6.size
  have H6 := (show Hid (_ ∧ _ ∧ _ ∧ _ ∧ _) from ⟨hC, H5.out.2.1.trans (b6.mono (by omega)), (b6.block _ (lt_heap H5.out.2.2.1)).trans H5.out.2.2.1, (b6.block _ (lt_heap H5.out.2.2.2.1)).trans H5.out.2.2.2.1, hn⟩)
  clear hC b6 H5 hn
  go_wp2_with fail
  refine H6.out.1.mono ?_
  rintro e w7 ⟨rfl, Wr7, k7⟩
  have hdl : (l.drop 48).length = n := by rw [List.length_drop, H6.out.2.2.2.2]
  have hconv : (convert 22 9 (.slice (some ⟨g, (if n = 0 then 0 else 48), none⟩) n n)).run Tryz.prog w7 = .ok (.string (packL l).body) w7 := by
    have := run_convert_bytes_back (P := Tryz.prog) w7 22 9 5 ⟨g, (if n = 0 then 0 else 48), none⟩ n (l.drop 48) Tryz.underlying22 Tryz.underlying5 Tryz.underlying9 (fun j hj => by
      rw [if_neg (by omega), addr_add]
      have hb := Wr7.btAt 48 n j ((l.drop 48)[j]) (by rw [List.take_of_length_le (by omega), List.getElem?_eq_getElem hj])
      exact hb)
    rw [hdl] at this
    exact this
  have hs7 : w6.heap.size ≤ w7.heap.size := k7.size
  have R7 := k7.heap H6.out.2.2.1 (by omega)
  have M7 := k7.heap H6.out.2.2.2.1 (by omega)
  have B7 := H6.out.2.1.trans (k7.below (B := w.heap.size) (by rintro k rfl; omega) (by omega))
  have m5 : w7.cell? ⟨w.heap.size + 1 + 1, 5, none⟩ = some (.string ⟨#[]⟩) := (cell_of_block M7 5).trans rfl
  have g5 : w7.frozen? ⟨w.heap.size + 1 + 1, 5, none⟩ = false := unfrozen_of_block M7 5
  obtain ⟨W8, hW8⟩ : ∃ W8, W8 = w7.setCell ⟨w.heap.size + 1 + 1, 5, none⟩ (.string (packL l).body) := ⟨_, rfl⟩
  have M8 : W8.heap[w.heap.size + 1 + 1]? = some (.cells (packL l).row 35) := by
    rw [hW8, block_setCell M7]
    rfl
  have K8 : KB (fun k => k = w.heap.size + 1 + 1) w7 W8 := by rw [hW8]; exact KB.setCell (X := fun k => k = w.heap.size + 1 + 1) (KB.refl _ _) (p := ⟨w.heap.size + 1 + 1, 5, none⟩) rfl _
  have R8 := K8.heap R7 (by omega)
  have B8 := B7.trans (K8.below (B := w.heap.size) (by rintro k rfl; omega) (by omega))
  have hs8 : w7.heap.size ≤ W8.heap.size := K8.size
  have E8 : ET W8 := HET.out.1.below B8
  have hbs : (packL l).body.size ≤ 1048576 := by
    have : (packL l).body.size = (packL l).body.data.toList.length := by simp
    rw [this, packL_body, List.length_drop]
    omega
  have hOk := implPackOk_any (packL l) W8 hbs E8
  have HK := (show Hid (_ ∧ _ ∧ _ ∧ _ ∧ _ ∧ _) from ⟨hOk, B8, R8, M8, hW8, hbs⟩)
  obtain ⟨m0, m1, m2, m3, m4, -⟩ : w7.cell? ⟨w.heap.size + 1 + 1, 0, none⟩ = some (.int .i64 (numL l 0)) ∧ w7.cell? ⟨w.heap.size + 1 + 1, 1, none⟩ = some (.int .i64 (numL l 8)) ∧ w7.cell? ⟨w.heap.size + 1 + 1, 2, none⟩ = some (.int .i64 (numL l 16)) ∧ w7.cell? ⟨w.heap.size + 1 + 1, 3, none⟩ = some (.int .i64 (numL l 24)) ∧ w7.cell? ⟨w.heap.size + 1 + 1, 4, none⟩ = some (.int .i64 (numL l 32)) ∧ True :=
    ⟨(cell_of_block M7 0).trans rfl, (cell_of_block M7 1).trans rfl, (cell_of_block M7 2).trans rfl, (cell_of_block M7 3).trans rfl, (cell_of_block M7 4).trans rfl, trivial⟩
  generalize (if n = 0 then 0 else 48) = q at *
  clear Wr7 k7 hdl R7 M7 B7 hW8 M8 K8 R8 B8 E8 hOk H6 hbs
  go_wp2_with fail
  rw [← HK.out.2.2.2.2.1]
  refine (show Calls Tryz.prog 30 #[.agg #[.int .i64 (numL l 0), .int .i64 (numL l 8), .int .i64 (numL l 16), .int .i64 (numL l 24), .int .i64 (numL l 32), .string (packL l).body]] W8 (fun e w' => e = .returned (.bool (packL l).ok) ∧ Below W8.heap.size W8 w') from HK.out.1).mono ?_
  rintro e w9 ⟨rfl, b9⟩
  clear m0 m1 m2 m3 m4 m5 g5 hconv
  have R9 := (b9.block _ (lt_heap HK.out.2.2.1)).trans HK.out.2.2.1
  have M9 := (b9.block _ (lt_heap HK.out.2.2.2.1)).trans HK.out.2.2.2.1
  have B9 := HK.out.2.1.trans (b9.mono (by omega))
  have hs9 : W8.heap.size ≤ w9.heap.size := b9.size
  obtain ⟨d0, d1, d2, d3, d4, d5⟩ := zbox6 R9
  obtain ⟨f0, f1, f2, f3, f4, f5⟩ := fbox6 R9
  cases hok : (packL l).ok with
  | false =>
    have HE := (show Hid (_ ∧ _) from ⟨B9, pfit_off (l := l) (fun h => by rw [hok] at h; exact absurd h.2.1 (by decide))⟩)
    clear B9 M9 R9 b9 HK
    go_wp2
    all_goals (refine bodyPost_ret (v := .tuple #[.agg zero6, .iface 107 (.agg #[.int .i64 0])]) (by simp [results, Tryz.results46, go_sem, d0, d1, d2, d3, d4, d5]) rfl ?_)
    all_goals (refine ⟨_, by rw [pres_no HE.out.2]; rfl, .inr ⟨HE.out.2, _, rfl⟩, ?_⟩)
    all_goals (iterate 6 refine Below.setCell ?_ (by simp) _)
    all_goals (exact HE.out.1)
  | true =>
    obtain ⟨n0, n1, n2, n3, n4, n5⟩ := pbox6 M9
    have hcl := crcSum_lt (packL l).body.data.toList
    have hcw : IntKind.i64.wrap ((crcSum (packL l).body.data.toList : Nat) : Int) = ((crcSum (packL l).body.data.toList : Nat) : Int) := by rw [IntKind.wrap_i64]; omega
    have HC := (show Hid (_ ∧ _ ∧ _ ∧ _) from ⟨implCrc_any (packL l).body w9 (by have := HK.out.2.2.2.2.2; unfold maxLen; omega), B9, hok, packL_body l⟩)
    clear B9 M9 R9 b9 HK hok
    generalize hc : crcSum (packL l).body.data.toList = c at *
    have HCC := (show Hid (_ ∧ True) from ⟨hc, trivial⟩)
    clear hc
    by_cases hsum : numL l 40 = (c : Int)
    · have hne : (numL l 40 != (c : Int)) = false := by simp [hsum]
      have HE := (show Hid (_ ∧ _) from ⟨HC.out.2.1, pfit_on h48 HC.out.2.2.1 (by rw [hsum, ← HCC.out.1, HC.out.2.2.2])⟩)
      clear hsum
      go_wp2_with (go_at_call 26; refine HC.out.1.mono ?_; rintro e wc ⟨rfl, hwc⟩; rw [hwc]; clear hwc)
      all_goals (refine bodyPost_ret (v := .tuple #[.agg (packL l).row, .nilIface]) (by simp [results, Tryz.results46, go_sem, d0, d1, d2, d3, d4, d5]) rfl ?_)
      all_goals (refine ⟨_, by rw [pres_yes HE.out.2], .inl ⟨HE.out.2, rfl⟩, ?_⟩)
      all_goals (iterate 6 refine Below.setCell ?_ (by simp) _)
      all_goals (exact HE.out.1)
    · have hne : (numL l 40 != (c : Int)) = true := by simp [hsum]
      have HE := (show Hid (_ ∧ _) from ⟨HC.out.2.1, pfit_off (l := l) (fun h => hsum (by rw [h.2.2, ← HC.out.2.2.2, HCC.out.1]))⟩)
      clear hsum
      go_wp2_with (go_at_call 26; refine HC.out.1.mono ?_; rintro e wc ⟨rfl, hwc⟩; rw [hwc]; clear hwc)
      all_goals (refine bodyPost_ret (v := .tuple #[.agg zero6, .iface 107 (.agg #[.int .i64 40])]) (by simp [results, Tryz.results46, go_sem, d0, d1, d2, d3, d4, d5]) rfl ?_)
      all_goals (refine ⟨_, by rw [pres_no HE.out.2]; rfl, .inr ⟨HE.out.2, _, rfl⟩, ?_⟩)
      all_goals (iterate 6 refine Below.setCell ?_ (by simp) _)
      all_goals (exact HE.out.1)
end Go.Proofs.YtkfmkhhjkioeoaaGreatDoor

namespace Go.Proofs.YtkfmkhhjkioeoaaGreatDoor
open Go.RowKit Go.Joins

set_option maxRecDepth 100000

theorem hold18 {W : World} {b r : Nat} {p : Pa} {t t' : TypeId} (h1 : W.heap[b]? = some (.cells p.row t)) (h2 : W.heap[r]? = some (.cells zero6 t')) : (W.cell? ⟨b, 0, none⟩ = some (.int .i64 p.kind) ∧ W.cell? ⟨b, 1, none⟩ = some (.int .i64 p.frm) ∧ W.cell? ⟨b, 2, none⟩ = some (.int .i64 p.dst) ∧ W.cell? ⟨b, 3, none⟩ = some (.int .i64 p.seq) ∧ W.cell? ⟨b, 4, none⟩ = some (.int .i64 p.low) ∧ W.cell? ⟨b, 5, none⟩ = some (.string p.body)) ∧ (W.cell? ⟨r, 0, none⟩ = some (.int .i64 0) ∧ W.cell? ⟨r, 1, none⟩ = some (.int .i64 0) ∧ W.cell? ⟨r, 2, none⟩ = some (.int .i64 0) ∧ W.cell? ⟨r, 3, none⟩ = some (.int .i64 0) ∧ W.cell? ⟨r, 4, none⟩ = some (.int .i64 0) ∧ W.cell? ⟨r, 5, none⟩ = some (.string ⟨#[]⟩)) ∧ (W.frozen? ⟨r, 0, none⟩ = false ∧ W.frozen? ⟨r, 1, none⟩ = false ∧ W.frozen? ⟨r, 2, none⟩ = false ∧ W.frozen? ⟨r, 3, none⟩ = false ∧ W.frozen? ⟨r, 4, none⟩ = false ∧ W.frozen? ⟨r, 5, none⟩ = false) := ⟨pbox6 h1, zbox6 h2, fbox6 h2⟩

set_option maxHeartbeats 1600000 in
theorem implGetPack_any (s : ByteArray) (w : World) (hs : s.size ≤ 1048576) (hg : ET w) :
    Calls Tryz.prog 13 #[.string s] w fun e w' => e = .returned (.tuple #[.agg (packRes s.data.toList).row, .bool (packFit s.data.toList)]) ∧ Below w.heap.size w w' := by
  have hnot := ex_not
  obtain ⟨W0, hW0⟩ : ∃ W0, W0 = w.alloc (.cells zero6 35) := ⟨_, rfl⟩
  have B0 : Below w.heap.size w W0 := by rw [hW0]; exact (Below.refl _ w).alloc (Nat.le_refl _) _
  have R0 : W0.heap[w.heap.size]? = some (.cells zero6 35) := by rw [hW0]; exact (MapKept.heap_alloc w _).1
  have hlen : s.data.toList.length = s.size := by simp
  have hcv : (convert 9 22 (.string s)).run Tryz.prog W0 = .ok (.slice (some ⟨W0.heap.size, 0, none⟩) s.size (grownCap W0 s.size 0 5)) (Lib.bytesWorld W0 5 s) :=
    Lib.run_convert_string_bytes (P := Tryz.prog) W0 9 22 5 s Tryz.underlying9 Tryz.underlying22 Tryz.underlying5
  have hcap := grownCap_ge W0 s.size 0 5
  have b1 := bytes_below W0 5 s
  have hR := readPack_any W0.heap.size (grownCap W0 s.size 0 5) s.data.toList (Lib.bytesWorld W0 5 s) ((hg.below B0).below b1) (bytes_row W0 5 s) (by rw [hlen]; exact hs) (by rw [hlen]; exact hcap)
  rw [hlen, show W0.heap.size = w.heap.size + 1 by rw [hW0]; simp] at hR
  have H0 := (show Hid (_ ∧ _ ∧ _ ∧ _ ∧ _) from ⟨hR, B0.trans (b1.mono B0.size), (b1.block _ (lt_heap R0)).trans R0, (hg.below B0).below b1, hW0⟩)
  have hsb : W0.heap.size ≤ (Lib.bytesWorld W0 5 s).heap.size := b1.size
  have hs0 : w.heap.size + 1 ≤ W0.heap.size := lt_heap R0
  subst hW0
  clear hR B0 R0 hg b1 hcap hlen
  go_enter Tryz.func13, Tryz.ntmps13
  go_wp2_with fail
  refine H0.out.1.mono ?_
  rintro e w2 ⟨ev, rfl, hev, b2⟩
  have R2 := (b2.block _ (lt_heap H0.out.2.2.1)).trans H0.out.2.2.1
  have B2 := H0.out.2.1.trans (b2.mono (by omega))
  have hs2 : w.heap.size + 1 ≤ w2.heap.size := by have := b2.size; omega
  have E2 := H0.out.2.2.2.1.below b2
  generalize hm : packRes s.data.toList = p at *
  obtain ⟨W3, hW3⟩ : ∃ W3, W3 = w2.alloc (.cells p.row 35) := ⟨_, rfl⟩
  have b3 : Below w2.heap.size w2 W3 := by rw [hW3]; exact (Below.refl _ w2).alloc (Nat.le_refl _) _
  have M3 : W3.heap[w2.heap.size]? = some (.cells p.row 35) := by rw [hW3]; exact (MapKept.heap_alloc w2 _).1
  have R3 := (b3.block _ (lt_heap R2)).trans R2
  have H3 := (show Hid (_ ∧ _ ∧ _ ∧ _ ∧ _ ∧ _) from ⟨B2.trans (b3.mono (by omega)), R3, M3, E2.below b3, hm, hW3⟩)
  have hs3 : w2.heap.size + 1 ≤ W3.heap.size := lt_heap M3
  clear R2 B2 E2 b3 M3 R3 hm hW3 b2 H0
  go_wp2_with fail
  rw [← (show W3 = w2.alloc (.cells #[.int .i64 p.kind, .int .i64 p.frm, .int .i64 p.dst, .int .i64 p.seq, .int .i64 p.low, .string p.body] 35) from H3.out.2.2.2.2.2)]
  obtain ⟨⟨y0, y1, y2, y3, y4, y5⟩, ⟨z0, z1, z2, z3, z4, z5⟩, ⟨u0, u1, u2, u3, u4, u5⟩⟩ := hold18 H3.out.2.2.1 H3.out.2.1
  have hne : ¬ w2.heap.size = w.heap.size := by omega
  have hne' : ¬ w.heap.size = w2.heap.size := by omega
  rcases hev with ⟨hf, rfl⟩ | ⟨hf, z, rfl⟩
  · have HI := (show Hid (_ ∧ _) from ⟨isNone_nil, hf⟩)
    clear hf
    go_region_with (first
      | (go_at_call 41; refine (HI.out.1 _).mono ?_; rintro e w4 ⟨rfl, b4'⟩; have b4 : Below W3.heap.size W3 w4 := (((Below.refl _ W3).drew).trans b4'); clear b4'; obtain ⟨⟨y0', y1', y2', y3', y4', y5'⟩, ⟨z0', z1', z2', z3', z4', z5'⟩, ⟨u0', u1', u2', u3', u4', u5'⟩⟩ := hold18 ((b4.block _ (lt_heap H3.out.2.2.1)).trans H3.out.2.2.1) ((b4.block _ (lt_heap H3.out.2.1)).trans H3.out.2.1)))
    all_goals go_wp2
    all_goals (refine bodyPost_ret (v := .tuple #[.agg p.row, .bool true]) (by simp [results, Tryz.results13, go_sem, z0', z1', z2', z3', z4', z5']) rfl ?_)
    all_goals (rw [H3.out.2.2.2.2.1, HI.out.2])
    all_goals (refine ⟨rfl, ?_⟩)
    all_goals (iterate 6 refine Below.setCell ?_ (by simp) _)
    all_goals (exact H3.out.1.trans (b4.mono (by omega)))
  · have HI := (show Hid (_ ∧ _) from ⟨fun wx (hx : ET wx) => isNone_err z wx hx, hf⟩)
    clear hf
    go_region_with (first
      | (go_at_call 41; refine (HI.out.1 _ (H3.out.2.2.2.1.below ((Below.refl _ W3).drew))).mono ?_; rintro e w4 ⟨rfl, b4'⟩; have b4 : Below W3.heap.size W3 w4 := (((Below.refl _ W3).drew).trans b4'); clear b4'; obtain ⟨⟨y0', y1', y2', y3', y4', y5'⟩, ⟨z0', z1', z2', z3', z4', z5'⟩, ⟨u0', u1', u2', u3', u4', u5'⟩⟩ := hold18 ((b4.block _ (lt_heap H3.out.2.2.1)).trans H3.out.2.2.1) ((b4.block _ (lt_heap H3.out.2.1)).trans H3.out.2.1)))
    all_goals go_wp2
    all_goals (refine bodyPost_ret (v := .tuple #[.agg p.row, .bool false]) (by simp [results, Tryz.results13, go_sem, z0', z1', z2', z3', z4', z5']) rfl ?_)
    all_goals (rw [H3.out.2.2.2.2.1, HI.out.2])
    all_goals (refine ⟨rfl, ?_⟩)
    all_goals (iterate 6 refine Below.setCell ?_ (by simp) _)
    all_goals (exact H3.out.1.trans (b4.mono (by omega)))
end Go.Proofs.YtkfmkhhjkioeoaaGreatDoor
