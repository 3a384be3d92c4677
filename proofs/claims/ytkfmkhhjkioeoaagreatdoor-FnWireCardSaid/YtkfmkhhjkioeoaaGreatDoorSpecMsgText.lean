/-
  The specification's MsgText.
-/
import Derived.Test.YtkfmkhhjkioeoaaGreatDoorMO
import Derived.Test.YtkfmkhhjkioeoaaGreatDoorSpecMsgOk
import Derived.BigQuiet
import Derived.Deep.QuietTactic
import Derived.Deep.RegionHeld3
import Derived.Test.YtkfmkhhjkioeoaaGreatDoorHeldMore
namespace Go.Proofs.YtkfmkhhjkioeoaaGreatDoor
open Go.RowKit Go.Joins

set_option maxRecDepth 100000

theorem cell_len (c : Ce) (h1 : inI64 c.n) (h2 : inI64 c.pos) (h3 : ∀ z ∈ c.kids, inI64 z) : c.textOf.length ≤ 100 + 22 * c.kids.length := by
  unfold Ce.textOf
  split
  · have e1 := itoa_len c.n h1
    have e2 := itoa_len c.pos h2
    have e3 := lineL_len c.kids h3
    have e4 : (cellLetters.extract c.kind.toNat (c.kind.toNat + 1)).data.toList.length ≤ 1 := by simp; omega
    simp only [List.length_append, List.length_cons]
    omega
  · simp
theorem lt_heapS {w : World} {b : Nat} {o : Obj} (h : w.heap[b]? = some o) : b < w.heap.size := (Array.getElem?_eq_some_iff.1 h).1
theorem box5 {W : World} {b : Nat} {m : Ms} {kv : Value} {t : TypeId} (h : W.heap[b]? = some (.cells (m.row kv) t)) : W.cell? ⟨b, 3, none⟩ = some (.int .i64 m.id) ∧ W.cell? ⟨b, 5, none⟩ = some (.int .i64 m.cell.kind) ∧ W.cell? ⟨b, 6, none⟩ = some (.int .i64 m.cell.n) ∧ W.cell? ⟨b, 7, none⟩ = some (.int .i64 m.cell.pos) ∧ W.cell? ⟨b, 8, none⟩ = some kv := by
  obtain ⟨_, _, _, y3, _, y5, y6, y7, y8⟩ := boxM h
  exact ⟨y3, y5, y6, y7, y8⟩

theorem box34 {W : World} {b : Nat} {m : Ms} {kv : Value} {t : TypeId} (h : W.heap[b]? = some (.cells (m.row kv) t)) : W.cell? ⟨b, 3, none⟩ = some (.int .i64 m.id) ∧ W.cell? ⟨b, 4, none⟩ = some (.int .i64 m.want) := by
  obtain ⟨_, _, _, y3, y4, _⟩ := boxM h
  exact ⟨y3, y4⟩

set_option maxHeartbeats 1600000 in
theorem specMsgText_any (v : Value) (m : Ms) (S : Nat → Prop) (w : World) (h : MsAt w S v m) (hl : m.cell.kids.length ≤ 4194304) :
    Calls Tryz.prog 25 #[v] w fun e w' => e = .returned (.string ⟨m.textOf.toArray⟩) ∧ Below w.heap.size w w' := by
  obtain ⟨a, c, rfl⟩ := h.form
  obtain ⟨W0, hW0⟩ : ∃ W0, W0 = w.alloc (.cells (m.row (.slice a m.cell.kids.length c)) 28) := ⟨_, rfl⟩
  have B0 : Below w.heap.size w W0 := by rw [hW0]; exact (Below.refl _ w).alloc (Nat.le_refl _) _
  have O0 : W0.heap[w.heap.size]? = some (.cells (m.row (.slice a m.cell.kids.length c)) 28) := by rw [hW0]; exact (MapKept.heap_alloc w _).1
  have H0 := (show Hid (_ ∧ _ ∧ _ ∧ _) from ⟨h.below B0, B0, O0, hW0⟩)
  clear h B0 O0 hW0
  have hnot := ex_not
  go_enter Tryz.func25, Tryz.ntmps25
  go_wp2_with fail
  rw [← H0.out.2.2.2]
  refine (specMsgOk_any _ m S W0 H0.out.1 hl).mono ?_
  rintro e w1 ⟨rfl, b1⟩
  have o1 := (b1.block _ (Array.getElem?_eq_some_iff.1 H0.out.2.2.1).1).trans H0.out.2.2.1
  have hbl : w.heap.size < w1.heap.size := (Array.getElem?_eq_some_iff.1 o1).1
  have H1 := (show Hid (_ ∧ _ ∧ _) from ⟨H0.out.1.below b1, H0.out.2.1.trans (b1.mono H0.out.2.1.size), o1⟩)
  clear b1 o1 H0
  cases hok : m.ok with
  | false =>
    have HB : Hid (m.textOf = []) := by unfold Ms.textOf; rw [hok]; exact rfl
    clear hok
    go_wp2
    all_goals (go_ret; exact ⟨by rw [HB.out]; exact rfl, H1.out.2.1⟩)
  | true =>
    have hkk := ok_kind hok
    have HB : Hid (m.textOf = m.head ++ (if m.kind = 0 then 32 :: Lib.itoa m.id ++ 32 :: Lib.itoa m.want else if m.kind = 2 then [] else 32 :: Lib.itoa m.id ++ 32 :: m.cell.textOf)) := by unfold Ms.textOf; rw [hok]; exact rfl
    obtain ⟨y0, y1, y2, y3, y4, y5, y6, y7, y8⟩ := boxM H1.out.2.2
    obtain ⟨kv, hkv, ⟨i0, i1, i2, i3, i4⟩, i5, i6, i7, hk⟩ := H1.out.1
    have hl1 := itoa_len m.frm i1
    have hl2 := itoa_len m.dst i2
    have hl3 := itoa_len m.id i3
    have hl4 := itoa_len m.want i4
    have hl5 : m.cell.textOf.length ≤ 10000 := by
      obtain ⟨a', c', he, hm', hi⟩ := hk
      have := cell_len m.cell i6 i7 (fun z hz => by obtain ⟨j, hj⟩ := List.getElem?_of_mem hz; obtain ⟨_, _, _, _, _, _, h64⟩ := hi j z hj; exact h64)
      have := ok_len hok
      omega
    have HD := (show Hid (_ ∧ _ ∧ _ ∧ _) from ⟨fun wx => specDec_any m.frm wx i1.1 i1.2, fun wx => specDec_any m.dst wx i2.1 i2.2, fun wx => specDec_any m.id wx i3.1 i3.2, fun wx => specDec_any m.want wx i4.1 i4.2⟩)
    clear hok i0 i1 i2 i3 i4 i5 i6 i7 hkv hk
    have HC := (show Hid (_ ∧ True) from ⟨fun wx (hx : Below w1.heap.size w1 wx) => specCellText_any (.agg #[.int .i64 m.cell.kind, .int .i64 m.cell.n, .int .i64 m.cell.pos, .slice a m.cell.kids.length c]) m.cell S wx (H1.out.1.cellAt.belowM hx) (by omega), trivial⟩)
    have HE := (show Hid (_ ∧ _) from ⟨H1.out.2.1, H1.out.2.2⟩)
    clear H1
    have hkt := kind_at hkk
    have hks := kind_len m.kind
    have hka : 0 ≤ m.kind ∧ m.kind < 4 := by omega
    obtain ⟨kind, frm, dst, id, want, cell⟩ := m
    simp only [] at *
    unfold Ms.head at HB
    simp only [] at HB
    generalize hkw : kindW kind = kw at *
    obtain ⟨F, hF⟩ : ∃ F : ByteArray, F = ⟨(Lib.itoa frm).toArray⟩ := ⟨_, rfl⟩
    obtain ⟨T, hT⟩ : ∃ T : ByteArray, T = ⟨(Lib.itoa dst).toArray⟩ := ⟨_, rfl⟩
    obtain ⟨I, hI⟩ : ∃ I : ByteArray, I = ⟨(Lib.itoa id).toArray⟩ := ⟨_, rfl⟩
    obtain ⟨U, hU⟩ : ∃ U : ByteArray, U = ⟨(Lib.itoa want).toArray⟩ := ⟨_, rfl⟩
    have sF : F.size ≤ 21 := by rw [hF]; simpa [ByteArray.size] using hl1
    have sT : T.size ≤ 21 := by rw [hT]; simpa [ByteArray.size] using hl2
    have sI : I.size ≤ 21 := by rw [hI]; simpa [ByteArray.size] using hl3
    have sU : U.size ≤ 21 := by rw [hU]; simpa [ByteArray.size] using hl4
    obtain ⟨Z, hZ⟩ : ∃ Z : ByteArray, Z = ⟨cell.textOf.toArray⟩ := ⟨_, rfl⟩
    have sZ : Z.size ≤ 10000 := by rw [hZ]; simpa [ByteArray.size] using hl5
    have HFT := (show Hid (_ ∧ _ ∧ _ ∧ _ ∧ _) from ⟨hF, hT, hI, hU, hZ⟩)
    rw [← hZ] at HC
    rw [← hF, ← hT, ← hI, ← hU] at HD
    clear hF hT hI hU hZ hl1 hl2 hl3 hl4 hl5
    have hadd : ∀ (x y : ByteArray) (n : Nat), x.size + y.size ≤ n → n ≤ 1000000 → ∀ wx : World, (Op.stringOp .add x y).run Tryz.prog wx = .ok (.string (x ++ y)) wx := fun x y n h1 h2 wx => run_string_add_sum wx _ _ (by omega)
    have HADD := (show Hid (_ ∧ True) from ⟨hadd, trivial⟩)
    clear hadd
    have hq1 := HADD.out.1 kw ⟨#[32]⟩ 10 (by have : (⟨#[32]⟩ : ByteArray).size = 1 := rfl; omega) (by decide)
    have h2 := HADD.out.1 (kw ++ ⟨#[32]⟩) F 40 (by simp only [ByteArray.size_append]; have : (⟨#[32]⟩ : ByteArray).size = 1 := rfl; omega) (by decide)
    have h3 := HADD.out.1 (kw ++ ⟨#[32]⟩ ++ F) ⟨#[32, 62, 32]⟩ 50 (by simp only [ByteArray.size_append]; have : (⟨#[32]⟩ : ByteArray).size = 1 := rfl; have : (⟨#[32, 62, 32]⟩ : ByteArray).size = 3 := rfl; omega) (by decide)
    have h4 := HADD.out.1 (kw ++ ⟨#[32]⟩ ++ F ++ ⟨#[32, 62, 32]⟩) T 80 (by simp only [ByteArray.size_append]; have : (⟨#[32]⟩ : ByteArray).size = 1 := rfl; have : (⟨#[32, 62, 32]⟩ : ByteArray).size = 3 := rfl; omega) (by decide)
    have h5 := HADD.out.1 (kw ++ ⟨#[32]⟩ ++ F ++ ⟨#[32, 62, 32]⟩ ++ T) ⟨#[32]⟩ 20000 (by simp only [ByteArray.size_append]; have : (⟨#[32]⟩ : ByteArray).size = 1 := rfl; have : (⟨#[32, 62, 32]⟩ : ByteArray).size = 3 := rfl; omega) (by decide)
    have h6 := HADD.out.1 ((kw ++ ⟨#[32]⟩ ++ F ++ ⟨#[32, 62, 32]⟩ ++ T) ++ ⟨#[32]⟩) I 20000 (by simp only [ByteArray.size_append]; have : (⟨#[32]⟩ : ByteArray).size = 1 := rfl; have : (⟨#[32, 62, 32]⟩ : ByteArray).size = 3 := rfl; omega) (by decide)
    have h7 := HADD.out.1 ((kw ++ ⟨#[32]⟩ ++ F ++ ⟨#[32, 62, 32]⟩ ++ T) ++ ⟨#[32]⟩ ++ I) ⟨#[32]⟩ 20000 (by simp only [ByteArray.size_append]; have : (⟨#[32]⟩ : ByteArray).size = 1 := rfl; have : (⟨#[32, 62, 32]⟩ : ByteArray).size = 3 := rfl; omega) (by decide)
    have h8 := HADD.out.1 ((kw ++ ⟨#[32]⟩ ++ F ++ ⟨#[32, 62, 32]⟩ ++ T) ++ ⟨#[32]⟩ ++ I ++ ⟨#[32]⟩) U 20000 (by simp only [ByteArray.size_append]; have : (⟨#[32]⟩ : ByteArray).size = 1 := rfl; have : (⟨#[32, 62, 32]⟩ : ByteArray).size = 3 := rfl; omega) (by decide)
    have h9 := HADD.out.1 ((kw ++ ⟨#[32]⟩ ++ F ++ ⟨#[32, 62, 32]⟩ ++ T) ++ ⟨#[32]⟩ ++ I ++ ⟨#[32]⟩) Z 20000 (by simp only [ByteArray.size_append]; have : (⟨#[32]⟩ : ByteArray).size = 1 := rfl; have : (⟨#[32, 62, 32]⟩ : ByteArray).size = 3 := rfl; omega) (by decide)
    have HBY := (show Hid (_ ∧ True) from ⟨(fun (wx : World) (hh : (w1.alloc (.cells #[.string ⟨#[102, 101, 116, 99, 104]⟩, .string ⟨#[103, 105, 118, 101]⟩, .string ⟨#[102, 105, 115, 104]⟩, .string ⟨#[119, 111, 114, 107]⟩] 9)).heap = wx.heap) => (by rw [← hh]; exact (Below.heap_alloc w1 _ _ hbl).trans HE.out.2 : wx.heap[w.heap.size]? = some (.cells ((⟨kind, frm, dst, id, want, cell⟩ : Ms).row (.slice a cell.kids.length c)) 28))), trivial⟩)
    have hbx : ∀ wx : World, (w1.alloc (.cells #[.string ⟨#[102, 101, 116, 99, 104]⟩, .string ⟨#[103, 105, 118, 101]⟩, .string ⟨#[102, 105, 115, 104]⟩, .string ⟨#[119, 111, 114, 107]⟩] 9)).heap = wx.heap → (wx.cell? ⟨w.heap.size, 0, none⟩ = some (.int .i64 kind) ∧ wx.cell? ⟨w.heap.size, 1, none⟩ = some (.int .i64 frm) ∧ wx.cell? ⟨w.heap.size, 2, none⟩ = some (.int .i64 dst)) ∧ wx.cell? ⟨w1.heap.size, kind.toNat, none⟩ = some (.string kw) := fun wx hh => by
      have hbo : wx.heap[w.heap.size]? = w1.heap[w.heap.size]? := by rw [← hh]; exact Below.heap_alloc w1 _ _ hbl
      have hnw : wx.heap[w1.heap.size]? = some (.cells #[.string ⟨#[102, 101, 116, 99, 104]⟩, .string ⟨#[103, 105, 118, 101]⟩, .string ⟨#[102, 105, 115, 104]⟩, .string ⟨#[119, 111, 114, 107]⟩] 9) := by rw [← hh]; exact (MapKept.heap_alloc w1 _).1
      refine ⟨⟨?_, ?_, ?_⟩, ?_⟩
      · rw [← y0]; simp only [World.cell?, hbo]
      · rw [← y1]; simp only [World.cell?, hbo]
      · rw [← y2]; simp only [World.cell?, hbo]
      · rw [cell_of_block hnw]; exact hkt
    have HBX := (show Hid (_ ∧ True) from ⟨hbx, trivial⟩)
    clear hbx
    go_wp2_with fail
    refine wp_region_held_drew (S := fun w' => w'.cell? ⟨w.heap.size, 0, none⟩ = some (.int .i64 kind) ∧ w'.cell? ⟨w.heap.size, 1, none⟩ = some (.int .i64 frm) ∧ w'.cell? ⟨w.heap.size, 2, none⟩ = some (.int .i64 dst)) (by kernel_rfl) ⟨y0, y1, y2⟩ (fun hS => ?_)
    refine wpAnyH_take (i := 1) (v := .pointer (some ⟨w.heap.size, 0, none⟩)) rfl (by kernel_rfl) (by kernel_rfl) (by kernel_rfl) (fun _ _ _ h => h) (Or.inl ⟨by rfl, ?_⟩) hS ?_
    · intro wq hSw
      obtain ⟨q0, q1, q2⟩ := hSw
      go_simp
    simp only [Act.put]
    refine wpAnyH_take (i := 2) (v := .int .i64 kind) rfl (by kernel_rfl) (by kernel_rfl) (by kernel_rfl) (fun _ _ _ h => h) (Or.inl ⟨by rfl, ?_⟩) hS ?_
    · intro wq hSw
      obtain ⟨q0, q1, q2⟩ := hSw
      go_simp
    simp only [Act.put]
    refine wpAnyH_take (i := 6) (v := .pointer (some ⟨w.heap.size, 1, none⟩)) rfl (by kernel_rfl) (by kernel_rfl) (by kernel_rfl) (fun _ _ _ h => h) (Or.inl ⟨by rfl, ?_⟩) hS ?_
    · intro wq hSw
      obtain ⟨q0, q1, q2⟩ := hSw
      go_simp
    simp only [Act.put]
    refine wpAnyH_take (i := 7) (v := .int .i64 frm) rfl (by kernel_rfl) (by kernel_rfl) (by kernel_rfl) (fun _ _ _ h => h) (Or.inl ⟨by rfl, ?_⟩) hS ?_
    · intro wq hSw
      obtain ⟨q0, q1, q2⟩ := hSw
      go_simp
    simp only [Act.put]
    refine wpAnyH_take (i := 11) (v := .pointer (some ⟨w.heap.size, 2, none⟩)) rfl (by kernel_rfl) (by kernel_rfl) (by kernel_rfl) (fun _ _ _ h => h) (Or.inl ⟨by rfl, ?_⟩) hS ?_
    · intro wq hSw
      obtain ⟨q0, q1, q2⟩ := hSw
      go_simp
    simp only [Act.put]
    refine wpAnyH_take (i := 12) (v := .int .i64 dst) rfl (by kernel_rfl) (by kernel_rfl) (by kernel_rfl) (fun _ _ _ h => h) (Or.inl ⟨by rfl, ?_⟩) hS ?_
    · intro wq hSw
      obtain ⟨q0, q1, q2⟩ := hSw
      go_simp
    simp only [Act.put]
    refine wpAnyH_ready (rs := [0, 8]) (by kernel_rfl) (by simp) ?_
    refine AllReadyH.cons rfl (fun K hK => ?_) (AllReadyH.cons rfl (fun K hK => ?_) AllReadyH.nil)
    · go_simp
      refine hK.out _ _ (HBX.out.1 _ rfl).1 (fun _ => ?_)
      have hS4 := HBX.out.1 ((w1.alloc (.cells #[.string ⟨#[102, 101, 116, 99, 104]⟩, .string ⟨#[103, 105, 118, 101]⟩, .string ⟨#[102, 105, 115, 104]⟩, .string ⟨#[119, 111, 114, 107]⟩] 9)).drew) rfl
      refine wpAnyH_more (S' := fun w' => (w'.cell? ⟨w.heap.size, 0, none⟩ = some (.int .i64 kind) ∧ w'.cell? ⟨w.heap.size, 1, none⟩ = some (.int .i64 frm) ∧ w'.cell? ⟨w.heap.size, 2, none⟩ = some (.int .i64 dst)) ∧ w'.cell? ⟨w1.heap.size, kind.toNat, none⟩ = some (.string kw)) (fun _ h => h.1) _ _ _ _ ?_
      refine wpAnyH_take (i := 3) (v := .pointer (some ⟨w1.heap.size, kind.toNat, none⟩)) rfl (by kernel_rfl) (by kernel_rfl) (by kernel_rfl) (fun _ _ _ h => h) (Or.inl ⟨by rfl, ?_⟩) hS4 ?_
      · intro wq hSw
        obtain ⟨⟨q0, q1, q2⟩, q3⟩ := hSw
        go_simp
      simp only [Act.put]
      refine wpAnyH_take (i := 4) (v := .string kw) rfl (by kernel_rfl) (by kernel_rfl) (by kernel_rfl) (fun _ _ _ h => h) (Or.inl ⟨by rfl, ?_⟩) hS4 ?_
      · intro wq hSw
        obtain ⟨⟨q0, q1, q2⟩, q3⟩ := hSw
        go_simp
      simp only [Act.put]
      refine wpAnyH_take (i := 5) (v := .string (kw ++ ⟨#[32]⟩)) rfl (by kernel_rfl) (by kernel_rfl) (by kernel_rfl) (fun _ _ _ h => h) (Or.inl ⟨by rfl, ?_⟩) hS4 ?_
      · intro wq hSw
        obtain ⟨⟨q0, q1, q2⟩, q3⟩ := hSw
        go_simp
      simp only [Act.put]
      refine wpAnyH_ready (rs := [8]) (by kernel_rfl) (by simp) ?_
      refine AllReadyH.cons rfl (fun K hK => ?_) AllReadyH.nil
      go_simp
      refine (HD.out.1 _).mono ?_
      rintro e wd ⟨rfl, rfl⟩
      go_wp2_with fail
      refine hK.out _ _ hS4 (fun _ => ?_)
      refine wpAnyH_take (i := 9) (v := .string (kw ++ ⟨#[32]⟩ ++ F)) rfl (by kernel_rfl) (by kernel_rfl) (by kernel_rfl) (fun _ _ _ h => h) (Or.inl ⟨by rfl, ?_⟩) hS4 ?_
      · intro wq hSw
        obtain ⟨⟨q0, q1, q2⟩, q3⟩ := hSw
        go_simp
      simp only [Act.put]
      refine wpAnyH_take (i := 10) (v := .string (kw ++ ⟨#[32]⟩ ++ F ++ ⟨#[32, 62, 32]⟩)) rfl (by kernel_rfl) (by kernel_rfl) (by kernel_rfl) (fun _ _ _ h => h) (Or.inl ⟨by rfl, ?_⟩) hS4 ?_
      · intro wq hSw
        obtain ⟨⟨q0, q1, q2⟩, q3⟩ := hSw
        go_simp
      simp only [Act.put]
      refine wpAnyH_ready (rs := [13]) (by kernel_rfl) (by simp) ?_
      refine AllReadyH.cons rfl (fun K hK => ?_) AllReadyH.nil
      go_simp
      refine (HD.out.2.1 _).mono ?_
      rintro e wd ⟨rfl, rfl⟩
      go_wp2_with fail
      refine hK.out _ _ hS4 (fun _ => ?_)
      refine wpAnyH_take (i := 14) (v := .string (kw ++ ⟨#[32]⟩ ++ F ++ ⟨#[32, 62, 32]⟩ ++ T)) rfl (by kernel_rfl) (by kernel_rfl) (by kernel_rfl) (fun _ _ _ h => h) (Or.inl ⟨by rfl, ?_⟩) hS4 ?_
      · intro wq hSw
        obtain ⟨⟨q0, q1, q2⟩, q3⟩ := hSw
        go_simp
      simp only [Act.put]
      refine wpAnyH_take (i := 15) (v := .string (kw ++ ⟨#[32]⟩ ++ F ++ ⟨#[32, 62, 32]⟩ ++ T)) rfl (by kernel_rfl) (by kernel_rfl) (by kernel_rfl) (fun _ _ _ h => h) (Or.inl ⟨by rfl, ?_⟩) hS4 ?_
      · intro wq hSw
        obtain ⟨⟨q0, q1, q2⟩, q3⟩ := hSw
        go_simp
      simp only [Act.put]
      refine wpAnyH_done (by kernel_rfl) ?_ _
      rcases hkk with rfl | rfl | rfl | rfl
      · go_wp2_with fail
        go_region_held3 (fun w' => w'.cell? ⟨w.heap.size, 3, none⟩ = some (.int .i64 id) ∧ w'.cell? ⟨w.heap.size, 4, none⟩ = some (.int .i64 want)) (exact box34 (HBY.out.1 _ rfl)) (first
          | (go_at_call_of 56 (Value.int .i64 id); refine (HD.out.2.2.1 _).mono ?_; rintro e we ⟨rfl, rfl⟩)
          | (go_at_call_of 56 (Value.int .i64 want); refine (HD.out.2.2.2 _).mono ?_; rintro e we ⟨rfl, rfl⟩))
        go_wp2
        go_ret
        exact ⟨ret_str (by rw [HB.out, HFT.out.1, HFT.out.2.1, HFT.out.2.2.1, HFT.out.2.2.2.1]; apply ByteArray.ext; simp [ByteArray.data_append]), HE.out.1.trans (((((Below.refl _ w1).alloc (Nat.le_refl _) _).drew).drew).mono (Nat.le_of_lt hbl))⟩
      · go_wp2_with fail
        go_region_held3 (fun w' => w'.cell? ⟨w.heap.size, 3, none⟩ = some (.int .i64 id) ∧ w'.cell? ⟨w.heap.size, 5, none⟩ = some (.int .i64 cell.kind) ∧ w'.cell? ⟨w.heap.size, 6, none⟩ = some (.int .i64 cell.n) ∧ w'.cell? ⟨w.heap.size, 7, none⟩ = some (.int .i64 cell.pos) ∧ w'.cell? ⟨w.heap.size, 8, none⟩ = some (.slice a cell.kids.length c)) (first | exact box5 H5.out.1 | exact box5 (HBY.out.1 _ rfl)) (first
          | (go_at_call 56; refine (HD.out.2.2.1 _).mono ?_; rintro e we ⟨rfl, rfl⟩)
          | (go_at_call 57; refine (HC.out.1 _ ((((Below.refl _ w1).alloc (Nat.le_refl _) _).drew).drew)).mono ?_; rintro e w5 ⟨rfl, b5⟩; have H5 := (show Hid (_ ∧ _) from ⟨(b5.block _ (lt_heapS (HBY.out.1 _ rfl))).trans (HBY.out.1 _ rfl), (((((Below.refl _ w1).alloc (Nat.le_refl _) _).drew).drew).trans (b5.mono (by simp <;> omega)))⟩); clear b5))
        go_wp2
        go_ret
        exact ⟨ret_str (by rw [HB.out, HFT.out.1, HFT.out.2.1, HFT.out.2.2.1, HFT.out.2.2.2.2]; apply ByteArray.ext; simp [ByteArray.data_append]), HE.out.1.trans (H5.out.2.mono (Nat.le_of_lt hbl))⟩
      · go_wp2
        go_ret
        exact ⟨ret_str (by rw [HB.out, HFT.out.1, HFT.out.2.1]; apply ByteArray.ext; simp [ByteArray.data_append]), HE.out.1.trans ((((Below.refl _ w1).alloc (Nat.le_refl _) _).drew).mono (Nat.le_of_lt hbl))⟩
      · go_wp2_with fail
        go_region_held3 (fun w' => w'.cell? ⟨w.heap.size, 3, none⟩ = some (.int .i64 id) ∧ w'.cell? ⟨w.heap.size, 5, none⟩ = some (.int .i64 cell.kind) ∧ w'.cell? ⟨w.heap.size, 6, none⟩ = some (.int .i64 cell.n) ∧ w'.cell? ⟨w.heap.size, 7, none⟩ = some (.int .i64 cell.pos) ∧ w'.cell? ⟨w.heap.size, 8, none⟩ = some (.slice a cell.kids.length c)) (first | exact box5 H5.out.1 | exact box5 (HBY.out.1 _ rfl)) (first
          | (go_at_call 56; refine (HD.out.2.2.1 _).mono ?_; rintro e we ⟨rfl, rfl⟩)
          | (go_at_call 57; refine (HC.out.1 _ ((((Below.refl _ w1).alloc (Nat.le_refl _) _).drew).drew)).mono ?_; rintro e w5 ⟨rfl, b5⟩; have H5 := (show Hid (_ ∧ _) from ⟨(b5.block _ (lt_heapS (HBY.out.1 _ rfl))).trans (HBY.out.1 _ rfl), (((((Below.refl _ w1).alloc (Nat.le_refl _) _).drew).drew).trans (b5.mono (by simp <;> omega)))⟩); clear b5))
        go_wp2
        go_ret
        exact ⟨ret_str (by rw [HB.out, HFT.out.1, HFT.out.2.1, HFT.out.2.2.1, HFT.out.2.2.2.2]; apply ByteArray.ext; simp [ByteArray.data_append]), HE.out.1.trans (H5.out.2.mono (Nat.le_of_lt hbl))⟩
    · go_simp
      refine (HD.out.1 _).mono ?_
      rintro e wd ⟨rfl, rfl⟩
      go_wp2_with fail
      refine hK.out _ _ hS (fun _ => ?_)
      refine wpAnyH_ready (rs := [0, 13]) (by kernel_rfl) (by simp) ?_
      refine AllReadyH.cons rfl (fun K hK => ?_) (AllReadyH.cons rfl (fun K hK => ?_) AllReadyH.nil)
      · go_simp
        refine hK.out _ _ (HBX.out.1 _ rfl).1 (fun _ => ?_)
        have hS4 := HBX.out.1 ((w1.alloc (.cells #[.string ⟨#[102, 101, 116, 99, 104]⟩, .string ⟨#[103, 105, 118, 101]⟩, .string ⟨#[102, 105, 115, 104]⟩, .string ⟨#[119, 111, 114, 107]⟩] 9)).drew) rfl
        refine wpAnyH_more (S' := fun w' => (w'.cell? ⟨w.heap.size, 0, none⟩ = some (.int .i64 kind) ∧ w'.cell? ⟨w.heap.size, 1, none⟩ = some (.int .i64 frm) ∧ w'.cell? ⟨w.heap.size, 2, none⟩ = some (.int .i64 dst)) ∧ w'.cell? ⟨w1.heap.size, kind.toNat, none⟩ = some (.string kw)) (fun _ h => h.1) _ _ _ _ ?_
        refine wpAnyH_take (i := 3) (v := .pointer (some ⟨w1.heap.size, kind.toNat, none⟩)) rfl (by kernel_rfl) (by kernel_rfl) (by kernel_rfl) (fun _ _ _ h => h) (Or.inl ⟨by rfl, ?_⟩) hS4 ?_
        · intro wq hSw
          obtain ⟨⟨q0, q1, q2⟩, q3⟩ := hSw
          go_simp
        simp only [Act.put]
        refine wpAnyH_take (i := 4) (v := .string kw) rfl (by kernel_rfl) (by kernel_rfl) (by kernel_rfl) (fun _ _ _ h => h) (Or.inl ⟨by rfl, ?_⟩) hS4 ?_
        · intro wq hSw
          obtain ⟨⟨q0, q1, q2⟩, q3⟩ := hSw
          go_simp
        simp only [Act.put]
        refine wpAnyH_take (i := 5) (v := .string (kw ++ ⟨#[32]⟩)) rfl (by kernel_rfl) (by kernel_rfl) (by kernel_rfl) (fun _ _ _ h => h) (Or.inl ⟨by rfl, ?_⟩) hS4 ?_
        · intro wq hSw
          obtain ⟨⟨q0, q1, q2⟩, q3⟩ := hSw
          go_simp
        simp only [Act.put]
        refine wpAnyH_take (i := 9) (v := .string (kw ++ ⟨#[32]⟩ ++ F)) rfl (by kernel_rfl) (by kernel_rfl) (by kernel_rfl) (fun _ _ _ h => h) (Or.inl ⟨by rfl, ?_⟩) hS4 ?_
        · intro wq hSw
          obtain ⟨⟨q0, q1, q2⟩, q3⟩ := hSw
          go_simp
        simp only [Act.put]
        refine wpAnyH_take (i := 10) (v := .string (kw ++ ⟨#[32]⟩ ++ F ++ ⟨#[32, 62, 32]⟩)) rfl (by kernel_rfl) (by kernel_rfl) (by kernel_rfl) (fun _ _ _ h => h) (Or.inl ⟨by rfl, ?_⟩) hS4 ?_
        · intro wq hSw
          obtain ⟨⟨q0, q1, q2⟩, q3⟩ := hSw
          go_simp
        simp only [Act.put]
        refine wpAnyH_ready (rs := [13]) (by kernel_rfl) (by simp) ?_
        refine AllReadyH.cons rfl (fun K hK => ?_) AllReadyH.nil
        go_simp
        refine (HD.out.2.1 _).mono ?_
        rintro e wd ⟨rfl, rfl⟩
        go_wp2_with fail
        refine hK.out _ _ hS4 (fun _ => ?_)
        refine wpAnyH_take (i := 14) (v := .string (kw ++ ⟨#[32]⟩ ++ F ++ ⟨#[32, 62, 32]⟩ ++ T)) rfl (by kernel_rfl) (by kernel_rfl) (by kernel_rfl) (fun _ _ _ h => h) (Or.inl ⟨by rfl, ?_⟩) hS4 ?_
        · intro wq hSw
          obtain ⟨⟨q0, q1, q2⟩, q3⟩ := hSw
          go_simp
        simp only [Act.put]
        refine wpAnyH_take (i := 15) (v := .string (kw ++ ⟨#[32]⟩ ++ F ++ ⟨#[32, 62, 32]⟩ ++ T)) rfl (by kernel_rfl) (by kernel_rfl) (by kernel_rfl) (fun _ _ _ h => h) (Or.inl ⟨by rfl, ?_⟩) hS4 ?_
        · intro wq hSw
          obtain ⟨⟨q0, q1, q2⟩, q3⟩ := hSw
          go_simp
        simp only [Act.put]
        refine wpAnyH_done (by kernel_rfl) ?_ _
        rcases hkk with rfl | rfl | rfl | rfl
        · go_wp2_with fail
          go_region_held3 (fun w' => w'.cell? ⟨w.heap.size, 3, none⟩ = some (.int .i64 id) ∧ w'.cell? ⟨w.heap.size, 4, none⟩ = some (.int .i64 want)) (exact box34 (HBY.out.1 _ rfl)) (first
            | (go_at_call_of 56 (Value.int .i64 id); refine (HD.out.2.2.1 _).mono ?_; rintro e we ⟨rfl, rfl⟩)
            | (go_at_call_of 56 (Value.int .i64 want); refine (HD.out.2.2.2 _).mono ?_; rintro e we ⟨rfl, rfl⟩))
          go_wp2
          go_ret
          exact ⟨ret_str (by rw [HB.out, HFT.out.1, HFT.out.2.1, HFT.out.2.2.1, HFT.out.2.2.2.1]; apply ByteArray.ext; simp [ByteArray.data_append]), HE.out.1.trans (((((Below.refl _ w1).alloc (Nat.le_refl _) _).drew).drew).mono (Nat.le_of_lt hbl))⟩
        · go_wp2_with fail
          go_region_held3 (fun w' => w'.cell? ⟨w.heap.size, 3, none⟩ = some (.int .i64 id) ∧ w'.cell? ⟨w.heap.size, 5, none⟩ = some (.int .i64 cell.kind) ∧ w'.cell? ⟨w.heap.size, 6, none⟩ = some (.int .i64 cell.n) ∧ w'.cell? ⟨w.heap.size, 7, none⟩ = some (.int .i64 cell.pos) ∧ w'.cell? ⟨w.heap.size, 8, none⟩ = some (.slice a cell.kids.length c)) (first | exact box5 H5.out.1 | exact box5 (HBY.out.1 _ rfl)) (first
            | (go_at_call 56; refine (HD.out.2.2.1 _).mono ?_; rintro e we ⟨rfl, rfl⟩)
            | (go_at_call 57; refine (HC.out.1 _ ((((Below.refl _ w1).alloc (Nat.le_refl _) _).drew).drew)).mono ?_; rintro e w5 ⟨rfl, b5⟩; have H5 := (show Hid (_ ∧ _) from ⟨(b5.block _ (lt_heapS (HBY.out.1 _ rfl))).trans (HBY.out.1 _ rfl), (((((Below.refl _ w1).alloc (Nat.le_refl _) _).drew).drew).trans (b5.mono (by simp <;> omega)))⟩); clear b5))
          go_wp2
          go_ret
          exact ⟨ret_str (by rw [HB.out, HFT.out.1, HFT.out.2.1, HFT.out.2.2.1, HFT.out.2.2.2.2]; apply ByteArray.ext; simp [ByteArray.data_append]), HE.out.1.trans (H5.out.2.mono (Nat.le_of_lt hbl))⟩
        · go_wp2
          go_ret
          exact ⟨ret_str (by rw [HB.out, HFT.out.1, HFT.out.2.1]; apply ByteArray.ext; simp [ByteArray.data_append]), HE.out.1.trans ((((Below.refl _ w1).alloc (Nat.le_refl _) _).drew).mono (Nat.le_of_lt hbl))⟩
        · go_wp2_with fail
          go_region_held3 (fun w' => w'.cell? ⟨w.heap.size, 3, none⟩ = some (.int .i64 id) ∧ w'.cell? ⟨w.heap.size, 5, none⟩ = some (.int .i64 cell.kind) ∧ w'.cell? ⟨w.heap.size, 6, none⟩ = some (.int .i64 cell.n) ∧ w'.cell? ⟨w.heap.size, 7, none⟩ = some (.int .i64 cell.pos) ∧ w'.cell? ⟨w.heap.size, 8, none⟩ = some (.slice a cell.kids.length c)) (first | exact box5 H5.out.1 | exact box5 (HBY.out.1 _ rfl)) (first
            | (go_at_call 56; refine (HD.out.2.2.1 _).mono ?_; rintro e we ⟨rfl, rfl⟩)
            | (go_at_call 57; refine (HC.out.1 _ ((((Below.refl _ w1).alloc (Nat.le_refl _) _).drew).drew)).mono ?_; rintro e w5 ⟨rfl, b5⟩; have H5 := (show Hid (_ ∧ _) from ⟨(b5.block _ (lt_heapS (HBY.out.1 _ rfl))).trans (HBY.out.1 _ rfl), (((((Below.refl _ w1).alloc (Nat.le_refl _) _).drew).drew).trans (b5.mono (by simp <;> omega)))⟩); clear b5))
          go_wp2
          go_ret
          exact ⟨ret_str (by rw [HB.out, HFT.out.1, HFT.out.2.1, HFT.out.2.2.1, HFT.out.2.2.2.2]; apply ByteArray.ext; simp [ByteArray.data_append]), HE.out.1.trans (H5.out.2.mono (Nat.le_of_lt hbl))⟩
      · go_simp
        refine (HD.out.2.1 _).mono ?_
        rintro e wd ⟨rfl, rfl⟩
        go_wp2_with fail
        refine hK.out _ _ hS (fun _ => ?_)
        refine wpAnyH_ready (rs := [0]) (by kernel_rfl) (by simp) ?_
        refine AllReadyH.cons rfl (fun K hK => ?_) AllReadyH.nil
        go_simp
        refine hK.out _ _ (HBX.out.1 _ rfl).1 (fun _ => ?_)
        have hS4 := HBX.out.1 ((w1.alloc (.cells #[.string ⟨#[102, 101, 116, 99, 104]⟩, .string ⟨#[103, 105, 118, 101]⟩, .string ⟨#[102, 105, 115, 104]⟩, .string ⟨#[119, 111, 114, 107]⟩] 9)).drew) rfl
        refine wpAnyH_more (S' := fun w' => (w'.cell? ⟨w.heap.size, 0, none⟩ = some (.int .i64 kind) ∧ w'.cell? ⟨w.heap.size, 1, none⟩ = some (.int .i64 frm) ∧ w'.cell? ⟨w.heap.size, 2, none⟩ = some (.int .i64 dst)) ∧ w'.cell? ⟨w1.heap.size, kind.toNat, none⟩ = some (.string kw)) (fun _ h => h.1) _ _ _ _ ?_
        refine wpAnyH_take (i := 3) (v := .pointer (some ⟨w1.heap.size, kind.toNat, none⟩)) rfl (by kernel_rfl) (by kernel_rfl) (by kernel_rfl) (fun _ _ _ h => h) (Or.inl ⟨by rfl, ?_⟩) hS4 ?_
        · intro wq hSw
          obtain ⟨⟨q0, q1, q2⟩, q3⟩ := hSw
          go_simp
        simp only [Act.put]
        refine wpAnyH_take (i := 4) (v := .string kw) rfl (by kernel_rfl) (by kernel_rfl) (by kernel_rfl) (fun _ _ _ h => h) (Or.inl ⟨by rfl, ?_⟩) hS4 ?_
        · intro wq hSw
          obtain ⟨⟨q0, q1, q2⟩, q3⟩ := hSw
          go_simp
        simp only [Act.put]
        refine wpAnyH_take (i := 5) (v := .string (kw ++ ⟨#[32]⟩)) rfl (by kernel_rfl) (by kernel_rfl) (by kernel_rfl) (fun _ _ _ h => h) (Or.inl ⟨by rfl, ?_⟩) hS4 ?_
        · intro wq hSw
          obtain ⟨⟨q0, q1, q2⟩, q3⟩ := hSw
          go_simp
        simp only [Act.put]
        refine wpAnyH_take (i := 9) (v := .string (kw ++ ⟨#[32]⟩ ++ F)) rfl (by kernel_rfl) (by kernel_rfl) (by kernel_rfl) (fun _ _ _ h => h) (Or.inl ⟨by rfl, ?_⟩) hS4 ?_
        · intro wq hSw
          obtain ⟨⟨q0, q1, q2⟩, q3⟩ := hSw
          go_simp
        simp only [Act.put]
        refine wpAnyH_take (i := 10) (v := .string (kw ++ ⟨#[32]⟩ ++ F ++ ⟨#[32, 62, 32]⟩)) rfl (by kernel_rfl) (by kernel_rfl) (by kernel_rfl) (fun _ _ _ h => h) (Or.inl ⟨by rfl, ?_⟩) hS4 ?_
        · intro wq hSw
          obtain ⟨⟨q0, q1, q2⟩, q3⟩ := hSw
          go_simp
        simp only [Act.put]
        refine wpAnyH_take (i := 14) (v := .string (kw ++ ⟨#[32]⟩ ++ F ++ ⟨#[32, 62, 32]⟩ ++ T)) rfl (by kernel_rfl) (by kernel_rfl) (by kernel_rfl) (fun _ _ _ h => h) (Or.inl ⟨by rfl, ?_⟩) hS4 ?_
        · intro wq hSw
          obtain ⟨⟨q0, q1, q2⟩, q3⟩ := hSw
          go_simp
        simp only [Act.put]
        refine wpAnyH_take (i := 15) (v := .string (kw ++ ⟨#[32]⟩ ++ F ++ ⟨#[32, 62, 32]⟩ ++ T)) rfl (by kernel_rfl) (by kernel_rfl) (by kernel_rfl) (fun _ _ _ h => h) (Or.inl ⟨by rfl, ?_⟩) hS4 ?_
        · intro wq hSw
          obtain ⟨⟨q0, q1, q2⟩, q3⟩ := hSw
          go_simp
        simp only [Act.put]
        refine wpAnyH_done (by kernel_rfl) ?_ _
        rcases hkk with rfl | rfl | rfl | rfl
        · go_wp2_with fail
          go_region_held3 (fun w' => w'.cell? ⟨w.heap.size, 3, none⟩ = some (.int .i64 id) ∧ w'.cell? ⟨w.heap.size, 4, none⟩ = some (.int .i64 want)) (exact box34 (HBY.out.1 _ rfl)) (first
            | (go_at_call_of 56 (Value.int .i64 id); refine (HD.out.2.2.1 _).mono ?_; rintro e we ⟨rfl, rfl⟩)
            | (go_at_call_of 56 (Value.int .i64 want); refine (HD.out.2.2.2 _).mono ?_; rintro e we ⟨rfl, rfl⟩))
          go_wp2
          go_ret
          exact ⟨ret_str (by rw [HB.out, HFT.out.1, HFT.out.2.1, HFT.out.2.2.1, HFT.out.2.2.2.1]; apply ByteArray.ext; simp [ByteArray.data_append]), HE.out.1.trans (((((Below.refl _ w1).alloc (Nat.le_refl _) _).drew).drew).mono (Nat.le_of_lt hbl))⟩
        · go_wp2_with fail
          go_region_held3 (fun w' => w'.cell? ⟨w.heap.size, 3, none⟩ = some (.int .i64 id) ∧ w'.cell? ⟨w.heap.size, 5, none⟩ = some (.int .i64 cell.kind) ∧ w'.cell? ⟨w.heap.size, 6, none⟩ = some (.int .i64 cell.n) ∧ w'.cell? ⟨w.heap.size, 7, none⟩ = some (.int .i64 cell.pos) ∧ w'.cell? ⟨w.heap.size, 8, none⟩ = some (.slice a cell.kids.length c)) (first | exact box5 H5.out.1 | exact box5 (HBY.out.1 _ rfl)) (first
            | (go_at_call 56; refine (HD.out.2.2.1 _).mono ?_; rintro e we ⟨rfl, rfl⟩)
            | (go_at_call 57; refine (HC.out.1 _ ((((Below.refl _ w1).alloc (Nat.le_refl _) _).drew).drew)).mono ?_; rintro e w5 ⟨rfl, b5⟩; have H5 := (show Hid (_ ∧ _) from ⟨(b5.block _ (lt_heapS (HBY.out.1 _ rfl))).trans (HBY.out.1 _ rfl), (((((Below.refl _ w1).alloc (Nat.le_refl _) _).drew).drew).trans (b5.mono (by simp <;> omega)))⟩); clear b5))
          go_wp2
          go_ret
          exact ⟨ret_str (by rw [HB.out, HFT.out.1, HFT.out.2.1, HFT.out.2.2.1, HFT.out.2.2.2.2]; apply ByteArray.ext; simp [ByteArray.data_append]), HE.out.1.trans (H5.out.2.mono (Nat.le_of_lt hbl))⟩
        · go_wp2
          go_ret
          exact ⟨ret_str (by rw [HB.out, HFT.out.1, HFT.out.2.1]; apply ByteArray.ext; simp [ByteArray.data_append]), HE.out.1.trans ((((Below.refl _ w1).alloc (Nat.le_refl _) _).drew).mono (Nat.le_of_lt hbl))⟩
        · go_wp2_with fail
          go_region_held3 (fun w' => w'.cell? ⟨w.heap.size, 3, none⟩ = some (.int .i64 id) ∧ w'.cell? ⟨w.heap.size, 5, none⟩ = some (.int .i64 cell.kind) ∧ w'.cell? ⟨w.heap.size, 6, none⟩ = some (.int .i64 cell.n) ∧ w'.cell? ⟨w.heap.size, 7, none⟩ = some (.int .i64 cell.pos) ∧ w'.cell? ⟨w.heap.size, 8, none⟩ = some (.slice a cell.kids.length c)) (first | exact box5 H5.out.1 | exact box5 (HBY.out.1 _ rfl)) (first
            | (go_at_call 56; refine (HD.out.2.2.1 _).mono ?_; rintro e we ⟨rfl, rfl⟩)
            | (go_at_call 57; refine (HC.out.1 _ ((((Below.refl _ w1).alloc (Nat.le_refl _) _).drew).drew)).mono ?_; rintro e w5 ⟨rfl, b5⟩; have H5 := (show Hid (_ ∧ _) from ⟨(b5.block _ (lt_heapS (HBY.out.1 _ rfl))).trans (HBY.out.1 _ rfl), (((((Below.refl _ w1).alloc (Nat.le_refl _) _).drew).drew).trans (b5.mono (by simp <;> omega)))⟩); clear b5))
          go_wp2
          go_ret
          exact ⟨ret_str (by rw [HB.out, HFT.out.1, HFT.out.2.1, HFT.out.2.2.1, HFT.out.2.2.2.2]; apply ByteArray.ext; simp [ByteArray.data_append]), HE.out.1.trans (H5.out.2.mono (Nat.le_of_lt hbl))⟩
end Go.Proofs.YtkfmkhhjkioeoaaGreatDoor
