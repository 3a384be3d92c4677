/-
  The program's numbers of a row of places, written behind what a builder holds.
-/
import Derived.Test.YtfcgpfjmabhmeabDoorBuildBL
import Derived.Test.YtfcgpfjmabhmeabDoorSpecNums
import Derived.Test.YtfcgpfjmabhmeabDoorImplPutNum
namespace Go.Proofs.YtfcgpfjmabhmeabDoor
open Go.RowKit Go.Joins

set_option maxRecDepth 100000

theorem bs_is (l : List UInt8) : (⟨l.toArray⟩ : ByteArray) = bsOf l := rfl
/-- A row of pointers that lead to these numbers, in blocks that a writing builder leaves. -/
structure Flds (w : World) (b g fb : Nat) (offs : List Nat) (zs : List Int) : Prop where
  ne1 : g ≠ b
  ne2 : fb ≠ b
  row : w.heap[g]? = some (.cells (offs.map (fun o => Value.pointer (some ⟨fb, o, none⟩))).toArray 82)
  at_ : ∃ cs T, w.heap[fb]? = some (.cells cs T) ∧ T ≠ 5 ∧ ∀ (j o : Nat) (z : Int), offs[j]? = some o → zs[j]? = some z → cs[o]? = some (.int .i64 z)
  len : offs.length = zs.length
  fit : ∀ z ∈ zs, inI64 z
theorem Flds.below {w w' : World} {b g fb : Nat} {offs : List Nat} {zs : List Int} (h : Flds w b g fb offs zs) (hb : Below w.heap.size w w') : Flds w' b g fb offs zs := by
  obtain ⟨cs, T, h1, h2, h3⟩ := h.at_
  exact ⟨h.ne1, h.ne2, (hb.block _ (Array.getElem?_eq_some_iff.1 h.row).1).trans h.row, ⟨cs, T, (hb.block _ (Array.getElem?_eq_some_iff.1 h1).1).trans h1, h2, h3⟩, h.len, h.fit⟩
theorem Flds.kept {w w' : World} {b g fb : Nat} {offs : List Nat} {zs : List Int} (h : Flds w b g fb offs zs) (hk : Lib.OthersKept 5 (some b) w w') : Flds w' b g fb offs zs := by
  obtain ⟨cs, T, h1, h2, h3⟩ := h.at_
  refine ⟨h.ne1, h.ne2, hk _ _ h.row (by simpa using h.ne1) (fun c fz e => by simp at e), ⟨cs, T, hk _ _ h1 (by simpa using h.ne2) (fun c fz e => ?_), h2, h3⟩, h.len, h.fit⟩
  simp at e
  exact h2 e.2.1
theorem Flds.cells {w : World} {b g fb : Nat} {offs : List Nat} {zs : List Int} (h : Flds w b g fb offs zs) {j : Nat} {z : Int} (hz : zs[j]? = some z) : ∃ o, w.cell? ⟨g, j, none⟩ = some (.pointer (some ⟨fb, o, none⟩)) ∧ w.cell? ⟨fb, o, none⟩ = some (.int .i64 z) := by
  obtain ⟨cs, T, h1, h2, h3⟩ := h.at_
  have hj : j < offs.length := by rw [h.len]; exact (List.getElem?_eq_some_iff.1 hz).1
  refine ⟨offs[j], ?_, ?_⟩
  · rw [cell_of_block h.row]
    simp [hj]
  · rw [cell_of_block h1]
    exact h3 j _ z (List.getElem?_eq_getElem hj) hz

set_option maxHeartbeats 3200000 in
theorem putFields_any (B b g fb : Nat) (l : List UInt8) (offs : List Nat) (zs : List Int) (cap : Nat) (w : World) (hF : Flds w b g fb offs zs) (hL : BL B b l w) (hB : B ≤ w.heap.size) (hll : l.length ≤ 100000000) (hzl : zs.length ≤ 1000000) :
    Calls Tryd.prog 22 #[.pointer (some ⟨b, 0, none⟩), .slice (some ⟨g, 0, none⟩) zs.length cap] w fun e w' => e = .returned (.tuple #[]) ∧ BL B b (l ++ numsB zs) w' ∧ Below B w w' ∧ Lib.OthersKept 5 (some b) w w' := by
  have H0 := (show Hid (_ ∧ _) from ⟨hF, hL⟩)
  clear hF hL
  go_enter Tryd.func22, Tryd.ntmps22
  go_wp2_with fail
  go_loopw [8] (fun iv wr => ∃ k : Nat, k ≤ zs.length ∧ iv = .int .i64 k ∧ BL B b (l ++ numsB (zs.take k)) wr ∧ Below B w wr ∧ Lib.OthersKept 5 (some b) w wr) (fun iv _ => zs.length - (intOf iv).toNat)
  case atStart => exact ⟨0, Nat.zero_le _, rfl, by rw [List.take_zero, show numsB [] = [] from rfl, List.append_nil]; exact H0.out.2, Below.refl _ _, Lib.OthersKept.refl _ _ _⟩
  case round =>
    obtain ⟨k, hk, rfl, hLr, hBr, hOr⟩ := hrel
    have HR := (show Hid (_ ∧ _ ∧ _) from ⟨hLr, hBr, hOr⟩)
    have hsr := hBr.size
    clear hLr hBr hOr
    by_cases hkl : k < zs.length
    · have he := List.getElem?_eq_getElem hkl
      generalize zs[k] = z at *
      obtain ⟨o, c1, c2⟩ := (H0.out.1.kept HR.out.2.2).cells he
      have hz := H0.out.1.fit z (List.mem_of_getElem? he)
      have hlt' : ((k : Nat) : Int) < ((zs.length : Nat) : Int) := by omega
      have hn1 := numsB_len (zs.take k)
      rw [List.length_take, Nat.min_eq_left (by omega)] at hn1
      have HN := (show Hid (_ ∧ _ ∧ _) from ⟨numsB_snoc zs k he, hz, hn1⟩)
      clear he hz hn1
      go_wp2_with fail
      refine (implPutNum_any z _ HN.out.2.1.1 HN.out.2.1.2).mono ?_
      rintro e w1 ⟨rfl, b1⟩
      have hW := write_any B b (l ++ numsB (zs.take k)) (numB z) w1 (HR.out.1.below b1) (by rw [List.length_append, HN.out.2.2, numB_len]; omega) (by have := b1.size; omega)
      have HW := (show Hid (_ ∧ _) from ⟨hW, b1⟩)
      clear hW b1
      rw [bs_is]
      go_wp2_with fail
      refine HW.out.1.mono ?_
      rintro e w2 ⟨rfl, hL2, hB2, hO2⟩
      have H2 := (show Hid (_ ∧ _ ∧ _) from ⟨hL2, hB2, hO2⟩)
      clear hL2 hB2 hO2
      go_wp2
      refine ⟨⟨k + 1, by omega, by go_num, ?_, (HR.out.2.1.trans (HW.out.2.mono (by omega))).trans H2.out.2.1, (HR.out.2.2.trans (kept_below HW.out.2)).trans H2.out.2.2⟩, by simp [intOf]; omega⟩
      rw [HN.out.1, ← List.append_assoc]
      exact H2.out.1
    · obtain rfl : k = zs.length := by omega
      go_wp2
      go_end0
      refine ⟨rfl, ?_, HR.out.2.1, HR.out.2.2⟩
      have := HR.out.1
      rwa [List.take_length] at this
end Go.Proofs.YtfcgpfjmabhmeabDoor
