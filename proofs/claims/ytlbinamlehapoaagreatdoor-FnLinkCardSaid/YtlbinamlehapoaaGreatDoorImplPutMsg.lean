/-
  The program's PutMsg.
-/
import Derived.Test.YtlbinamlehapoaaGreatDoorMJ
import Derived.Test.YtlbinamlehapoaaGreatDoorME
import Derived.Test.YtlbinamlehapoaaGreatDoorMT
import Derived.Test.YtlbinamlehapoaaGreatDoorSpecPutMsg
import Derived.Test.YtlbinamlehapoaaGreatDoorShelf
namespace Go.Proofs.YtlbinamlehapoaaGreatDoor
open Go.RowKit Go.Joins

set_option maxRecDepth 100000

theorem msg_flds {w : World} {b g fb : Nat} {m : Ms} {kv : Value} (h1 : g ≠ b) (h2 : fb ≠ b) (hg : w.heap[g]? = some (.cells (ptr8 fb) 166)) (hf : w.heap[fb]? = some (.cells (m.row kv) 32))
    (i0 : inI64 m.kind ∧ inI64 m.frm ∧ inI64 m.dst ∧ inI64 m.id ∧ inI64 m.want) (i5 : inI64 m.cell.kind) (i6 : inI64 m.cell.n) (i7 : inI64 m.cell.pos) :
    Flds w b g fb [0, 1, 2, 3, 4, 5, 6, 7] [m.kind, m.frm, m.dst, m.id, m.want, m.cell.kind, m.cell.n, m.cell.pos] := by
  refine ⟨h1, h2, hg, ⟨_, _, hf, by decide, ?_⟩, rfl, ?_⟩
  · intro j o z ho hz
    have hj : j < 8 := (List.getElem?_eq_some_iff.1 hz).1
    have : j = 0 ∨ j = 1 ∨ j = 2 ∨ j = 3 ∨ j = 4 ∨ j = 5 ∨ j = 6 ∨ j = 7 := by omega
    rcases this with rfl | rfl | rfl | rfl | rfl | rfl | rfl | rfl <;> (cases ho; cases hz; rfl)
  · intro z hz
    simp only [List.mem_cons, List.not_mem_nil, or_false] at hz
    rcases hz with rfl | rfl | rfl | rfl | rfl | rfl | rfl | rfl
    · exact i0.1
    · exact i0.2.1
    · exact i0.2.2.1
    · exact i0.2.2.2.1
    · exact i0.2.2.2.2
    · exact i5
    · exact i6
    · exact i7

set_option maxHeartbeats 6400000 in
theorem implPutMsg_any (v : Value) (m : Ms) (S : Nat → Prop) (w : World) (h : MsAt w S v m) :
    Calls Tryz.prog 57 #[v] w fun e w' => e = .returned (.string ⟨m.bytes.toArray⟩) ∧ Below w.heap.size w w' := by
  obtain ⟨a, c, rfl⟩ := h.form
  obtain ⟨W0, hW0⟩ : ∃ W0, W0 = w.alloc (.cells (m.row (.slice a m.cell.kids.length c)) 32) := ⟨_, rfl⟩
  have B0 : Below w.heap.size w W0 := by rw [hW0]; exact (Below.refl _ w).alloc (Nat.le_refl _) _
  have O0 : W0.heap[w.heap.size]? = some (.cells (m.row (.slice a m.cell.kids.length c)) 32) := by rw [hW0]; exact (MapKept.heap_alloc w _).1
  have H0 := (show Hid (_ ∧ _ ∧ _ ∧ _) from ⟨h.below B0, B0, O0, hW0⟩)
  clear h B0 O0 hW0
  have hnot := ex_not
  go_enter Tryz.func57, Tryz.ntmps57
  go_wp2_with fail
  rw [← H0.out.2.2.2]
  refine (implMsgOk_any _ m _ W0 H0.out.1).mono ?_
  rintro e w1 ⟨rfl, b1⟩
  have o1 := (b1.block _ (Array.getElem?_eq_some_iff.1 H0.out.2.2.1).1).trans H0.out.2.2.1
  have hs1 : w.heap.size + 1 ≤ w1.heap.size := by have := (Array.getElem?_eq_some_iff.1 o1).1; omega
  have H1 := (show Hid (_ ∧ _ ∧ _) from ⟨H0.out.1.below b1, H0.out.2.1.trans (b1.mono H0.out.2.1.size), o1⟩)
  clear b1 o1 H0
  cases hok : m.ok with
  | false =>
    have HB : Hid (m.bytes = []) := by unfold Ms.bytes; rw [hok]; exact rfl
    clear hok
    go_wp2
    all_goals (go_ret; exact ⟨by rw [HB.out]; exact rfl, H1.out.2.1⟩)
  | true =>
    have HB : Hid (m.bytes = numsB m.nums ++ numsB m.cell.kids) := by unfold Ms.bytes; rw [hok]; exact rfl
    have h100 := ok_len hok
    clear hok
    obtain ⟨W2, hW2⟩ : ∃ W2, W2 = w1.alloc (.cells #[.pointer none, .slice none 0 0] 127) := ⟨_, rfl⟩
    have B2 : Below w1.heap.size w1 W2 := by rw [hW2]; exact (Below.refl _ w1).alloc (Nat.le_refl _) _
    have O2 : W2.heap[w1.heap.size]? = some (.cells #[.pointer none, .slice none 0 0] 127) := by rw [hW2]; exact (MapKept.heap_alloc w1 _).1
    have hBL : BL w1.heap.size w1.heap.size [] W2 := .inl ⟨Nat.le_refl _, .slice none 0 0, O2, World.ownsRowF_nil _ _ _ _, by simp [Value.ownBlock]⟩
    have M2 := (B2.block _ (Array.getElem?_eq_some_iff.1 H1.out.2.2).1).trans H1.out.2.2
    have hs2 : w1.heap.size + 1 ≤ W2.heap.size := by have := (Array.getElem?_eq_some_iff.1 O2).1; omega
    have H2 := (show Hid (_ ∧ _ ∧ _ ∧ _) from ⟨hBL, B2, M2, hW2⟩)
    clear hBL B2 O2 M2 hW2
    go_wp2_with fail
    rw [← H2.out.2.2.2]
    refine (msgFields_any w.heap.size W2).mono ?_
    rintro e w3 ⟨rfl, o3, b3⟩
    obtain ⟨kv, hkv, i0, i5, i6, i7, hk⟩ := H1.out.1
    have : kv = .slice a m.cell.kids.length c := by simp [Ms.row] at hkv; exact hkv.symm
    subst this
    have M3 := (b3.block _ (Array.getElem?_eq_some_iff.1 H2.out.2.2.1).1).trans H2.out.2.2.1
    have F3 := msg_flds (b := w1.heap.size) (by omega) (by omega) o3 M3 i0 i5 i6 i7
    have hP := putFields_any w1.heap.size w1.heap.size W2.heap.size w.heap.size [] _ _ 8 w3 F3 (H2.out.1.below b3) (by have := b3.size; omega) (by simp) (by simp)
    have HP := (show Hid (_ ∧ _ ∧ _ ∧ _) from ⟨hP, M3, H2.out.2.1.trans (b3.mono (by omega)), hk⟩)
    clear hP M3 F3 o3 b3 hkv i0 i5 i6 i7 hk
    go_wp2_with fail
    refine HP.out.1.mono ?_
    rintro e w4 ⟨rfl, hL4, hB4, hO4⟩
    have M4 := hO4 _ _ HP.out.2.1 (by simp; omega) (fun c fz e => by simp at e)
    have H4 := (show Hid (_ ∧ _ ∧ _) from ⟨hL4, HP.out.2.2.1.trans hB4, M4⟩)
    have hK4 := HP.out.2.2.2
    clear hL4 hB4 hO4
    have y8 : w4.cell? ⟨w.heap.size, 8, none⟩ = some (.slice a m.cell.kids.length c) := (cell_of_block M4 8).trans rfl
    clear M4
    have hs4 := H4.out.2.1.size
    go_wp2_with fail
    refine (implPutNum_any ((m.cell.kids.length : Nat) : Int) _ (by omega) (by omega)).mono ?_
    rintro e w5 ⟨rfl, b5⟩
    have hW5 := write_any w1.heap.size w1.heap.size _ (numB ((m.cell.kids.length : Nat) : Int)) w5 (H4.out.1.below b5) (by rw [List.nil_append, numsB_len, numB_len]; simp) (by have := b5.size; omega)
    have HW5 := (show Hid (_ ∧ _ ∧ _) from ⟨hW5, H4.out.2.1.trans (b5.mono hs4), (b5.block _ (Array.getElem?_eq_some_iff.1 H4.out.2.2).1).trans H4.out.2.2⟩)
    clear hW5 b5 y8
    rw [bs_is]
    go_wp2_with fail
    refine HW5.out.1.mono ?_
    rintro e w6 ⟨rfl, hL6, hB6, hO6⟩
    have M6 := hO6 _ _ HW5.out.2.2 (by simp; omega) (fun c fz e => by simp at e)
    have hnu : ([] ++ numsB [m.kind, m.frm, m.dst, m.id, m.want, m.cell.kind, m.cell.n, m.cell.pos]) ++ numB ((m.cell.kids.length : Nat) : Int) = numsB m.nums := by
      rw [List.nil_append]
      have : m.nums = [m.kind, m.frm, m.dst, m.id, m.want, m.cell.kind, m.cell.n, m.cell.pos] ++ [((m.cell.kids.length : Nat) : Int)] := rfl
      rw [this, numsB_app]
      simp [numsB]
    rw [hnu] at hL6
    have y8 : w6.cell? ⟨w.heap.size, 8, none⟩ = some (.slice a m.cell.kids.length c) := (cell_of_block M6 8).trans rfl
    have H6 := (show Hid (_ ∧ _ ∧ _) from ⟨hL6, HW5.out.2.1.trans hB6, hK4⟩)
    have hn9 : Hid ((numsB m.nums).length = 72) := by show _ = _; rw [numsB_len]; rfl
    clear hL6 hB6 hO6 M6 hnu HW5 HP H4 hK4
    go_wp2_with fail
    go_loopw [21] (fun iv wr => ∃ k : Nat, k ≤ m.cell.kids.length ∧ iv = .int .i64 k ∧ BL w1.heap.size w1.heap.size (numsB m.nums ++ numsB (m.cell.kids.take k)) wr ∧ Below w1.heap.size w1 wr) (fun iv _ => m.cell.kids.length - (intOf iv).toNat)
    case atStart => exact ⟨0, Nat.zero_le _, rfl, by rw [List.take_zero, show numsB [] = [] from rfl, List.append_nil]; exact H6.out.1, H6.out.2.1⟩
    case round =>
      clear y8
      obtain ⟨k, hk, rfl, hLr, hBr⟩ := hrel
      have HR := (show Hid (_ ∧ _) from ⟨hLr, hBr⟩)
      have hsr := hBr.size
      clear hLr
      by_cases hkl : k < m.cell.kids.length
      · have he := List.getElem?_eq_getElem hkl
        generalize m.cell.kids[k] = z at *
        obtain ⟨a', cap', hv, -, hc⟩ := H6.out.2.2
        obtain ⟨bb, off, ha, -, hlt2, c0, hz⟩ := hc k z he
        have : a = some ⟨bb, off, none⟩ := by simp at hv; exact hv.1.trans ha
        subst this
        rw [← hBr.cell (by exact hlt2)] at c0
        have hlt' : ((k : Nat) : Int) < ((m.cell.kids.length : Nat) : Int) := by omega
        have hn1 := numsB_len (m.cell.kids.take k)
        rw [List.length_take, Nat.min_eq_left (by omega)] at hn1
        have HN := (show Hid (_ ∧ _ ∧ _) from ⟨numsB_snoc m.cell.kids k he, hz, hn1⟩)
        clear he hz hn1 hBr hc hv ha
        go_wp2_with fail
        refine (implPutNum_any z _ HN.out.2.1.1 HN.out.2.1.2).mono ?_
        rintro e w7 ⟨rfl, b7⟩
        have hW := write_any w1.heap.size w1.heap.size _ (numB z) w7 (HR.out.1.below b7) (by rw [List.length_append, hn9.out, HN.out.2.2, numB_len]; omega) (by have := b7.size; omega)
        have HW := (show Hid (_ ∧ _) from ⟨hW, b7⟩)
        clear hW b7
        rw [bs_is]
        go_wp2_with fail
        refine HW.out.1.mono ?_
        rintro e w8 ⟨rfl, hL8, hB8, -⟩
        have H8 := (show Hid (_ ∧ _) from ⟨hL8, hB8⟩)
        clear hL8 hB8
        go_wp2
        refine ⟨⟨k + 1, by omega, by go_num, ?_, (HR.out.2.trans (HW.out.2.mono (by omega))).trans H8.out.2⟩, by simp [intOf]; omega⟩
        rw [HN.out.1, ← List.append_assoc]
        exact H8.out.1
      · obtain rfl : k = m.cell.kids.length := by omega
        have hLL := HR.out.1
        rw [List.take_length] at hLL
        have hSt := Tryz.Builder_String_any_k w1.heap.size w1.heap.size _ wr hLL (by omega)
        have HSt := (show Hid (_ ∧ _) from ⟨hSt, H1.out.2.1.trans (HR.out.2.mono (by omega))⟩)
        clear hSt hLL hBr
        go_wp2_with fail
        refine HSt.out.1.mono ?_
        rintro e w9 ⟨rfl, -, hB9, -⟩
        go_wp2
        go_ret
        exact ⟨by rw [HB.out]; rfl, HSt.out.2.trans (hB9.mono (by omega))⟩
end Go.Proofs.YtlbinamlehapoaaGreatDoor
