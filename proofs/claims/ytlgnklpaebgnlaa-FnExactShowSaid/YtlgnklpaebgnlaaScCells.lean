/-
  The specification's copy of a heap.
-/
import Derived.Test.YtlgnklpaebgnlaaDtApp
namespace Go.Proofs.Ytlgnklpaebgnlaa
open Go.RowKit Go.Joins

set_option maxRecDepth 100000

theorem infoACell : (Try.prog.info? 114).map (fun i => (i.zero, i.size, i.bytes)) = some (some (.agg #[.int .i64 0, .int .i64 0, .int .i64 0, .slice none 0 0]), 4, 48) := by kernel_rfl
set_option maxHeartbeats 6400000 in
theorem l05Copy_dt : ToS 58 CellR := by
  intro v xs S w hP h hb
  have hlen := bulkS_len xs
  have hBA := @bulkS_at xs
  obtain ⟨iI, hiI, hzI0, hzI1, hzI2⟩ := info_parts infoAI
  obtain ⟨iX, hiX, hzX0, hzX1, hzX2⟩ := info_parts infoACell
  have HP := (show Hid (_ ∧ _ ∧ _) from ⟨hP, hP.len CellR.len, h⟩)
  obtain ⟨a, cap, rfl⟩ := h.form
  have G0 : Grow (w.alloc (.cells #[] 114)) w.heap.size 114 4 (.slice (some ⟨w.heap.size, 0, none⟩) 0 0) 0 xs := Grow.start (World.ownsRow_made (size := 4) (e := 114) w #[] 0 (Nat.le_refl _) (Nat.zero_le _) (by simp)) xs
  have H0 := (show Hid (_ ∧ _) from ⟨G0, (Below.refl _ w).alloc (Nat.le_refl _) (.cells #[] 114)⟩)
  clear h hP G0
  go_enter Try.func58, Try.ntmps58
  go_wp2
  go_loopw [3, 4] (fun ov i wr => ∃ (k : Nat) (oa : Option Addr) (oc : Nat), k ≤ xs.length ∧ i = .int .i64 k ∧ ov = .slice oa k oc ∧ Hid (Grow wr w.heap.size 114 4 (.slice oa k oc) k xs) ∧ Below w.heap.size w wr) (fun _ i _ => xs.length - (intOf i).toNat)
  case atStart => exact ⟨0, _, _, Nat.zero_le _, rfl, rfl, H0.out.1, H0.out.2⟩
  case round =>
    clear H0
    obtain ⟨k, oa, oc, hk, rfl, rfl, HG, hbw⟩ := hrel
    by_cases hkl : k < xs.length
    · have he := List.getElem?_eq_getElem hkl
      have hbk := hBA he
      generalize xs[k] = r at *
      obtain ⟨z0, z1, z2, x3, rfl, q3⟩ := HP.out.1 k r he
      obtain ⟨b, off, rfl, -, hlb, us, hhus⟩ := HP.out.2.2.at he
      have c0 : w.cell? ⟨b, off + k * 4, none⟩ = some (us 0) := (hhus 0 _ rfl).1
      have a0 := (hhus 0 _ rfl).2
      have c1 : w.cell? ⟨b, off + k * 4 + 1, none⟩ = some (us 1) := (hhus 1 _ rfl).1
      have a1 := (hhus 1 _ rfl).2
      have c2 : w.cell? ⟨b, off + k * 4 + 2, none⟩ = some (us 2) := (hhus 2 _ rfl).1
      have a2 := (hhus 2 _ rfl).2
      have c3 : w.cell? ⟨b, off + k * 4 + 3, none⟩ = some (us 3) := (hhus 3 _ rfl).1
      have a3 := (hhus 3 _ rfl).2
      clear hhus
      obtain ⟨a0e, a0r⟩ := a0.ofInt
      rw [a0e] at c0 a0
      clear a0e
      obtain ⟨a1e, a1r⟩ := a1.ofInt
      rw [a1e] at c1 a1
      clear a1e
      obtain ⟨a2e, a2r⟩ := a2.ofInt
      rw [a2e] at c2 a2
      clear a2e
      obtain ⟨p3, d3, a3e⟩ := a3.form
      rw [a3e] at c3 a3
      clear a3e
      rw [← hbw.cell (by exact hlb)] at c0 c1 c2 c3
      have hlw : b < wr.heap.size := Nat.lt_of_lt_of_le hlb hbw.size
      have hlt' : ((k : Nat) : Int) < ((xs.length : Nat) : Int) := by omega
      have hlo : w.heap.size ≤ wr.heap.size := hbw.size
      have hwlo : w.heap.size ≤ w.heap.size := Nat.le_refl _
      clear hBA
      have hkl3 : x3.length ≤ 1048576 := by
        have h1 := bulkS_len x3
        have h2 : Dt.bulkS x3 ≤ Dt.bulkR [.int z0, .int z1, .int z2, .row x3] := by simp [Dt.bulkR, Dt.bulk]
        omega
      have B2 : Below wr.heap.size wr ((wr.alloc (.cells #[.int .i64 z0, .int .i64 z1, .int .i64 z2, .slice p3 x3.length d3] 114)).alloc (.cells #[] 3)) := ((Below.refl _ wr).alloc (Nat.le_refl _) _).alloc (by simp) _
      have R2 : ((wr.alloc (.cells #[.int .i64 z0, .int .i64 z1, .int .i64 z2, .slice p3 x3.length d3] 114)).alloc (.cells #[] 3)).ownsRow wr.heap.size 3 1 (.slice (some ⟨wr.heap.size + 1, 0, none⟩) 0 0) 0 [] := by
        have := World.ownsRow_made (size := 1) (e := 3) (wr.alloc (.cells #[.int .i64 z0, .int .i64 z1, .int .i64 z2, .slice p3 x3.length d3] 114)) #[] 0 (show wr.heap.size ≤ (wr.alloc (.cells #[.int .i64 z0, .int .i64 z1, .int .i64 z2, .slice p3 x3.length d3] 114)).heap.size by simp) (Nat.zero_le _) (by simp)
        simpa using this
      have O2 : ((wr.alloc (.cells #[.int .i64 z0, .int .i64 z1, .int .i64 z2, .slice p3 x3.length d3] 114)).alloc (.cells #[] 3)).heap[wr.heap.size]? = some (.cells #[.int .i64 z0, .int .i64 z1, .int .i64 z2, .slice p3 x3.length d3] 114) := (Below.heap_alloc _ _ _ (by simp)).trans (MapKept.heap_alloc wr _).1
      have HX := (show Hid (_ ∧ _ ∧ _ ∧ _ ∧ _ ∧ _ ∧ _ ∧ _ ∧ _ ∧ _ ∧ _) from ⟨R2, (a3.up hbw).up B2, B2, O2, q3, he, hbw, a0r, a1r, a2r, trivial⟩)
      clear B2 R2 O2 he hbw q3 a0 a1 a2 a3 a0r a1r a2r
      go_wp2_with (at_builtin; refine wpList_append_fat rfl _ _ 23 rfl wr.heap.size 3 iI (.int .i64 0) 1 8 Try.underlying23 hiI hzI0 hzI1 hzI2 rfl (by decide) (.slice (some ⟨wr.heap.size + 1, 0, none⟩) 0 0) 0 _ rfl HX.out.1 _ rfl x3 S HX.out.2.1 (HX.out.2.2.2.2.1.len IntR.len) (by unfold maxLen; omega) (by omega) HX.out.2.2.1.size ?_; intro v5 w5 flat5 hown5 hgrow5 hat5 hf5; have H5 := (show Hid (_ ∧ _ ∧ _ ∧ _) from ⟨hown5, hgrow5, hat5, hf5⟩); rw [Nat.zero_add] at hown5; obtain ⟨a5, c5, rfl⟩ := own_form hown5; have o5 := (hgrow5.block wr.heap.size (lt_heap HX.out.2.2.2.1) (fun e => (by simp [Value.ownBlock] at e))).trans HX.out.2.2.2.1; have y0 : w5.cell? ⟨wr.heap.size, 0, none⟩ = some (.int .i64 z0) := (by rw [cell_of_block o5]; rfl); have y1 : w5.cell? ⟨wr.heap.size, 1, none⟩ = some (.int .i64 z1) := (by rw [cell_of_block o5]; rfl); have y2 : w5.cell? ⟨wr.heap.size, 2, none⟩ = some (.int .i64 z2) := (by rw [cell_of_block o5]; rfl); have y3 : w5.cell? ⟨wr.heap.size, 3, none⟩ = some (.slice p3 x3.length d3) := (by rw [cell_of_block o5]; rfl); have f3 : w5.frozen? ⟨wr.heap.size, 3, none⟩ = false := unfrozen_of_block o5 3; have HO5 := (show Hid (_ ∧ True) from ⟨o5, trivial⟩); clear hown5 hgrow5 hat5 hf5 o5; refine Hid.out ?_)
      have B5 : Below wr.heap.size wr w5 := Below.grown HX.out.2.2.1 H5.out.2.1 HX.out.2.2.1.size (fun b hb => (own_type HX.out.1 b hb).1)
      have B7 : Below wr.heap.size wr ((w5.setCell ⟨wr.heap.size, 3, none⟩ (.slice a5 x3.length c5)).alloc (.cells #[.int .i64 z0, .int .i64 z1, .int .i64 z2, .slice a5 x3.length c5] 114)) := (B5.setCell (p := ⟨wr.heap.size, 3, none⟩) (Nat.le_refl _) _).alloc (by simp; exact B5.size) _
      obtain ⟨flatk, hflatk⟩ := HG.out.row
      have R7 := own_moved (W' := ((w5.setCell ⟨wr.heap.size, 3, none⟩ (.slice a5 x3.length c5)).alloc (.cells #[.int .i64 z0, .int .i64 z1, .int .i64 z2, .slice a5 x3.length c5] 114))) hflatk (fun b hb => B7.block b (own_lt hflatk b hb))
      have hown5 := H5.out.1
      rw [Nat.zero_add, List.nil_append] at hown5
      have own5 := own_atoms hown5 (HX.out.2.2.2.2.1.len IntR.len) H5.out.2.2.2 (fun i j r d hr hj => (HX.out.2.2.2.2.1 i r hr).atoms j d hj)
      have hne5 : ∀ b, Value.ownBlock (.slice a5 x3.length c5) = some b → b ≠ wr.heap.size := fun b hb e => by
        subst e
        rcases H5.out.2.2.1 with h | h
        · rw [h] at hb; simp [Value.ownBlock] at hb
        · rw [h] at hb; simp at hb; omega
      have own7 : Own ((w5.setCell ⟨wr.heap.size, 3, none⟩ (.slice a5 x3.length c5)).alloc (.cells #[.int .i64 z0, .int .i64 z1, .int .i64 z2, .slice a5 x3.length c5] 114)) (.slice a5 x3.length c5) (.row x3) (Btw wr.heap.size ((w5.setCell ⟨wr.heap.size, 3, none⟩ (.slice a5 x3.length c5)).alloc (.cells #[.int .i64 z0, .int .i64 z1, .int .i64 z2, .slice a5 x3.length c5] 114)).heap.size) := by
        refine (own5.dom.moved (w' := ((w5.setCell ⟨wr.heap.size, 3, none⟩ (.slice a5 x3.length c5)).alloc (.cells #[.int .i64 z0, .int .i64 z1, .int .i64 z2, .slice a5 x3.length c5] 114))) (fun b hb hlt => ?_)).mono (fun b hb => ⟨hb.1.1, by simp; have := hb.2; omega⟩)
        rw [Below.heap_alloc _ _ _ (by simpa using hlt), Below.heap_setCell _ _ _ _ (by simpa using hne5 b hb.1.2)]
      have ofs : OFs ((w5.setCell ⟨wr.heap.size, 3, none⟩ (.slice a5 x3.length c5)).alloc (.cells #[.int .i64 z0, .int .i64 z1, .int .i64 z2, .slice a5 x3.length c5] 114)) [.int .i64 z0, .int .i64 z1, .int .i64 z2, .slice a5 x3.length c5] [.int z0, .int z1, .int z2, .row x3] (Btw wr.heap.size ((w5.setCell ⟨wr.heap.size, 3, none⟩ (.slice a5 x3.length c5)).alloc (.cells #[.int .i64 z0, .int .i64 z1, .int .i64 z2, .slice a5 x3.length c5] 114)).heap.size) := (OFs.int HX.out.2.2.2.2.2.2.2.1 (OFs.int HX.out.2.2.2.2.2.2.2.2.1 (OFs.int HX.out.2.2.2.2.2.2.2.2.2.1 (OFs.cons own7 (show OFs _ [] [] _ from trivial) B7.size (Nat.le_refl _)))))
      have hnews : ∀ (j : Nat) (u : Value), ([.int .i64 z0, .int .i64 z1, .int .i64 z2, .slice a5 x3.length c5] : List Value)[j]? = some u → ((w5.setCell ⟨wr.heap.size, 3, none⟩ (.slice a5 x3.length c5)).alloc (.cells #[.int .i64 z0, .int .i64 z1, .int .i64 z2, .slice a5 x3.length c5] 114)).cell? ((⟨w5.heap.size, 0, none⟩ : Addr).add j) = some u := fun j u hj => by
        rw [addr_add, Nat.zero_add]
        have hb7 := (MapKept.heap_alloc (w5.setCell ⟨wr.heap.size, 3, none⟩ (.slice a5 x3.length c5)) (.cells #[.int .i64 z0, .int .i64 z1, .int .i64 z2, .slice a5 x3.length c5] 114)).1
        rw [show (w5.setCell ⟨wr.heap.size, 3, none⟩ (.slice a5 x3.length c5)).heap.size = w5.heap.size by simp] at hb7
        rw [cell_of_block hb7]
        simpa using hj
      have h1 : ∀ u ∈ ([.int .i64 z0, .int .i64 z1, .int .i64 z2, .slice a5 x3.length c5] : List Value), u.oneCell' = true := by intro u hu; simp at hu; rcases hu with rfl | rfl | rfl | rfl <;> rfl
      have H7 := (show Hid (_ ∧ _ ∧ _ ∧ _ ∧ _ ∧ _) from ⟨R7, hnews, h1, B7, ofs, hflatk⟩)
      clear B5 B7 R7 hnews h1 hown5 own5 hne5 own7 ofs hflatk
      unfold Hid
      go_wp2_with (at_builtin; refine wpList_append_own_at _ rfl _ _ 35 rfl w.heap.size 114 iX _ 4 48 Try.underlying35 hiX hzX0 hzX1 hzX2 rfl (by decide) (.slice oa k oc) k _ rfl H7.out.1 ⟨w5.heap.size, 0, none⟩ 1 1 [.int .i64 z0, .int .i64 z1, .int .i64 z2, .slice a5 x3.length c5] rfl rfl H7.out.2.1 H7.out.2.2.1 (by unfold maxLen; omega) (by omega) (Nat.le_trans hlo H7.out.2.2.2.1.size) ?_; intro v8 w8 hown8 hgrow8 hnil8 hat8; obtain ⟨a8, c8, rfl⟩ := own_form hown8; have H8 := (show Hid (_ ∧ _ ∧ _) from ⟨Grow.next HG.out H7.out.2.2.2.1 hlo HX.out.2.2.2.2.2.1 HP.out.2.1 H7.out.2.2.2.2.1 H7.out.2.2.2.2.2 hown8 hgrow8 hat8, Below.grown (HX.out.2.2.2.2.2.2.1.trans (H7.out.2.2.2.1.mono HX.out.2.2.2.2.2.2.1.size)) hgrow8 (Nat.le_trans HX.out.2.2.2.2.2.2.1.size H7.out.2.2.2.1.size) (fun b hb => Nat.le_trans hwlo (own_type H7.out.1 b hb).1), Below.grown (H7.out.2.2.2.1.mono hlo) hgrow8 (Nat.le_trans hlo H7.out.2.2.2.1.size) (fun b hb => (own_type H7.out.1 b hb).1)⟩); clear hown8 hgrow8 hnil8 hat8)
      exact ⟨⟨k + 1, _, _, by omega, by go_num, rfl, H8.out.1, H8.out.2.1⟩, by simp [intOf]; omega⟩
    · obtain rfl : k = xs.length := by omega
      have HF := (show Hid (_ ∧ _) from ⟨HG.out.done HP.out.2.1, trivial⟩)
      clear HG HP
      go_wp2
      go_ret
      exact ⟨_, rfl, HF.out.1, hbw⟩

end Go.Proofs.Ytlgnklpaebgnlaa
