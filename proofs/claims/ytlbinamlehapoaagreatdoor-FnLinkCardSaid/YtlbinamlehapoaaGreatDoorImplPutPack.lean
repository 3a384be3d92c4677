/-
  The program's PutPack.
-/
import Derived.Test.YtlbinamlehapoaaGreatDoorMI
import Derived.Test.YtlbinamlehapoaaGreatDoorShelf
namespace Go.Proofs.YtlbinamlehapoaaGreatDoor
open Go.RowKit Go.Joins

set_option maxRecDepth 100000

set_option maxHeartbeats 1600000 in
theorem implPutPack_any (p : Pa) (w : World) (hs : p.body.size ≤ 1048576) (hp : p.fits) (hg : ET w) :
    Calls Tryz.prog 60 #[.agg p.row] w fun e w' => e = .returned (.string ⟨p.bytes.toArray⟩) ∧ Below w.heap.size w w' := by
  obtain ⟨W0, hW0⟩ : ∃ W0, W0 = w.alloc (.cells p.row 38) := ⟨_, rfl⟩
  have B0 : Below w.heap.size w W0 := by rw [hW0]; exact (Below.refl _ w).alloc (Nat.le_refl _) _
  have O0 : W0.heap[w.heap.size]? = some (.cells p.row 38) := by rw [hW0]; exact (MapKept.heap_alloc w _).1
  have H0 := (show Hid (_ ∧ _ ∧ _ ∧ _) from ⟨hg.below B0, B0, O0, hW0⟩)
  clear hg B0 O0 hW0
  have hnot := ex_not
  have hlen : p.body.data.toList.length = p.body.size := by simp
  have HLen := (show Hid (_ ∧ True) from ⟨hlen, trivial⟩)
  clear hlen
  go_enter Tryz.func60, Tryz.ntmps60
  go_wp2_with fail
  rw [← (show W0 = _ from H0.out.2.2.2)]
  refine (implPackOk_any p W0 hs H0.out.1).mono ?_
  rintro e w1 ⟨rfl, b1⟩
  have o1 := (b1.block _ (lt_heap H0.out.2.2.1)).trans H0.out.2.2.1
  have hs1 : w.heap.size + 1 ≤ w1.heap.size := lt_heap o1
  have H1 := (show Hid (_ ∧ _) from ⟨H0.out.2.1.trans (b1.mono H0.out.2.1.size), o1⟩)
  clear b1 o1 H0
  cases hok : p.ok with
  | false =>
    have HB : Hid (p.bytes = []) := by unfold Pa.bytes; rw [hok]; exact rfl
    clear hok
    go_wp2
    all_goals (go_ret; exact ⟨by rw [HB.out]; exact rfl, H1.out.1⟩)
  | true =>
    have HB : Hid (p.bytes = numsB p.nums ++ p.body.data.toList) := by unfold Pa.bytes; rw [hok]; exact rfl
    clear hok
    obtain ⟨W2, hW2⟩ : ∃ W2, W2 = w1.alloc (.cells #[.pointer none, .slice none 0 0] 127) := ⟨_, rfl⟩
    have B2 : Below w1.heap.size w1 W2 := by rw [hW2]; exact (Below.refl _ w1).alloc (Nat.le_refl _) _
    have O2 : W2.heap[w1.heap.size]? = some (.cells #[.pointer none, .slice none 0 0] 127) := by rw [hW2]; exact (MapKept.heap_alloc w1 _).1
    have hBL : BL w1.heap.size w1.heap.size [] W2 := .inl ⟨Nat.le_refl _, .slice none 0 0, O2, World.ownsRowF_nil _ _ _ _, by simp [Value.ownBlock]⟩
    have M2 := (B2.block _ (lt_heap H1.out.2)).trans H1.out.2
    have hs2 : w1.heap.size + 1 ≤ W2.heap.size := lt_heap O2
    have H2 := (show Hid (_ ∧ _ ∧ _ ∧ _) from ⟨hBL, B2, M2, hW2⟩)
    clear hBL B2 O2 M2 hW2
    go_wp2_with fail
    rw [← H2.out.2.2.2]
    refine (packFields_any w.heap.size W2).mono ?_
    rintro e w3 ⟨rfl, o3, b3⟩
    have M3 := (b3.block _ (lt_heap H2.out.2.2.1)).trans H2.out.2.2.1
    have F3 := pack_flds (b := w1.heap.size) (by omega) (by omega) o3 M3 hp
    have hP := putFields_any w1.heap.size w1.heap.size W2.heap.size w.heap.size [] _ _ 5 w3 F3 (H2.out.1.below b3) (by have := b3.size; omega) (by simp) (by simp)
    have HP := (show Hid (_ ∧ _ ∧ _) from ⟨hP, M3, H2.out.2.1.trans (b3.mono (by omega))⟩)
    clear hP M3 F3 o3 b3
    go_wp2_with fail
    refine HP.out.1.mono ?_
    rintro e w4 ⟨rfl, hL4, hB4, hO4⟩
    have M4 := hO4 _ _ HP.out.2.1 (by simp; omega) (fun c fz e => by simp at e)
    have H4 := (show Hid (_ ∧ _ ∧ _) from ⟨hL4, HP.out.2.2.trans hB4, M4⟩)
    clear hL4 hB4 hO4 HP
    obtain ⟨-, -, -, -, -, y5⟩ := pbox6 M4
    clear M4
    have hs4 := H4.out.2.1.size
    have hcl := crcSum_lt p.body.data.toList
    have hcw : IntKind.i64.wrap ((crcSum p.body.data.toList : Nat) : Int) = ((crcSum p.body.data.toList : Nat) : Int) := by rw [IntKind.wrap_i64]; omega
    go_wp2_with fail
    refine (implCrc_any p.body w4 (by unfold maxLen; omega)).mono ?_
    rintro e w5 ⟨rfl, hw5⟩
    rw [hw5]
    clear hw5
    go_wp2_with fail
    refine (implPutNum_any ((crcSum p.body.data.toList : Nat) : Int) _ (by omega) (by omega)).mono ?_
    rintro e w5 ⟨rfl, b5⟩
    have hW5 := write_any w1.heap.size w1.heap.size _ (numB ((crcSum p.body.data.toList : Nat) : Int)) w5 (H4.out.1.below b5) (by rw [List.nil_append, numsB_len, numB_len]; simp) (by have := b5.size; omega)
    have HW5 := (show Hid (_ ∧ _ ∧ _) from ⟨hW5, H4.out.2.1.trans (b5.mono hs4), (b5.block _ (lt_heap H4.out.2.2)).trans H4.out.2.2⟩)
    clear hW5 b5 y5
    rw [bs_is]
    go_wp2_with fail
    refine HW5.out.1.mono ?_
    rintro e w6 ⟨rfl, hL6, hB6, hO6⟩
    have M6 := hO6 _ _ HW5.out.2.2 (by simp; omega) (fun c fz e => by simp at e)
    have hnu : ([] ++ numsB [p.kind, p.frm, p.dst, p.seq, p.low]) ++ numB ((crcSum p.body.data.toList : Nat) : Int) = numsB p.nums := by
      rw [List.nil_append]
      have : p.nums = [p.kind, p.frm, p.dst, p.seq, p.low] ++ [((crcSum p.body.data.toList : Nat) : Int)] := rfl
      rw [this, numsB_app]
      simp [numsB]
    rw [hnu] at hL6
    obtain ⟨-, -, -, -, -, y5⟩ := pbox6 M6
    have hB7 := HW5.out.2.1.trans hB6
    have hs6 := hB7.size
    have hn6 : Hid ((numsB p.nums).length = 48) := by show _ = _; rw [numsB_len]; rfl
    have hW7 := write_any w1.heap.size w1.heap.size _ p.body.data.toList w6 hL6 (by rw [hn6.out, HLen.out.1]; omega) (by omega)
    rw [bsOf_data] at hW7
    have H6 := (show Hid (_ ∧ _) from ⟨hW7, hB7⟩)
    clear hL6 hB6 hO6 M6 hnu HW5 hB7 hW7 H4
    go_wp2_with fail
    refine H6.out.1.mono ?_
    rintro e w7 ⟨rfl, hL7, hB7, -⟩
    have hs7 : w1.heap.size ≤ w7.heap.size := (H6.out.2.trans hB7).size
    have hSt := Tryz.Builder_String_any_k w1.heap.size w1.heap.size _ w7 hL7 hs7
    have HSt := (show Hid (_ ∧ _) from ⟨hSt, H1.out.1.trans ((H6.out.2.trans hB7).mono (by omega))⟩)
    clear hSt hL7 hB7 H6
    go_wp2_with fail
    refine HSt.out.1.mono ?_
    rintro e w9 ⟨rfl, -, hB9, -⟩
    go_wp2
    go_ret
    exact ⟨by rw [HB.out]; rfl, HSt.out.2.trans (hB9.mono (by omega))⟩
end Go.Proofs.YtlbinamlehapoaaGreatDoor
