/-
  The specification's copy of a table.
-/
import Derived.Test.YtlgnklpaebgnlaaDtApp
namespace Go.Proofs.Ytlgnklpaebgnlaa
open Go.RowKit Go.Joins

set_option maxRecDepth 100000

theorem infoACode : (Try.prog.info? 145).map (fun i => (i.zero, i.size, i.bytes)) = some (some (.agg #[.int .i64 0, .int .i64 0, .string ⟨#[]⟩, .slice none 0 0]), 4, 56) := by kernel_rfl
set_option maxHeartbeats 12800000 in
theorem l06CopyTable_dt : ToC 57 TableR := by
  rintro vs r S w ⟨X0, X1, rfl, Q0, Q1⟩ h hb
  obtain ⟨v0, v1, rfl, A0, A1⟩ := fs2 h
  obtain ⟨P0, C0, rfl⟩ := A0.form
  obtain ⟨P1, C1, rfl⟩ := A1.form
  rw [show Dt.bulkR [.row X0, .row X1] = Dt.bulkS X0 + Dt.bulkS X1 from by simp [Dt.bulkR, Dt.bulk]] at hb
  have hl0 := bulkS_len X0
  have hl1 := bulkS_len X1
  have hBA := @bulkS_at X0
  obtain ⟨iI, hiI, hzI0, hzI1, hzI2⟩ := info_parts infoAI
  obtain ⟨iX, hiX, hzX0, hzX1, hzX2⟩ := info_parts infoACode
  have HT := (show Hid (_ ∧ _ ∧ _) from ⟨Q0, Q0.len CodeR.len, A0⟩)
  obtain ⟨W1, hW1⟩ : ∃ W1, W1 = ((w.alloc (.cells #[.slice P0 X0.length C0, .slice P1 X1.length C1] 34)).alloc (.cells #[.slice none 0 0, .slice none 0 0] 34)).alloc (.cells #[] 3) := ⟨_, rfl⟩
  have B1 : Below w.heap.size w W1 := by rw [hW1]; exact (((Below.refl _ w).alloc (Nat.le_refl _) _).alloc (by simp) _).alloc (by simp; omega) _
  have s1 : W1.heap.size = w.heap.size + 3 := by rw [hW1]; simp
  have O0 : W1.heap[w.heap.size]? = some (.cells #[.slice P0 X0.length C0, .slice P1 X1.length C1] 34) := by rw [hW1]; exact (Below.heap_alloc _ _ _ (by simp; omega)).trans ((Below.heap_alloc _ _ _ (by simp)).trans (MapKept.heap_alloc w _).1)
  have O1 : W1.heap[w.heap.size + 1]? = some (.cells #[.slice none 0 0, .slice none 0 0] 34) := by
    rw [hW1]
    have := (MapKept.heap_alloc (w.alloc (.cells #[.slice P0 X0.length C0, .slice P1 X1.length C1] 34)) (.cells #[.slice none 0 0, .slice none 0 0] 34)).1
    exact (Below.heap_alloc _ _ _ (by simp)).trans (by simpa using this)
  have R1 : W1.ownsRow (w.heap.size + 2) 3 1 (.slice (some ⟨w.heap.size + 1 + 1, 0, none⟩) 0 0) 0 [] := by
    rw [hW1]
    have := World.ownsRow_made (size := 1) (e := 3) ((w.alloc (.cells #[.slice P0 X0.length C0, .slice P1 X1.length C1] 34)).alloc (.cells #[.slice none 0 0, .slice none 0 0] 34)) #[] 0 (show w.heap.size + 2 ≤ ((w.alloc (.cells #[.slice P0 X0.length C0, .slice P1 X1.length C1] 34)).alloc (.cells #[.slice none 0 0, .slice none 0 0] 34)).heap.size by simp) (Nat.zero_le _) (by simp)
    simpa using this
  have HX0 := (show Hid (_ ∧ _ ∧ _ ∧ _ ∧ _ ∧ _ ∧ _) from ⟨R1, A1.up B1, B1, O0, O1, s1, Q1⟩)
  have HW1 := (show Hid (_ ∧ True) from ⟨hW1, trivial⟩)
  clear B1 s1 O0 O1 R1 hW1 A0 A1 Q0 Q1 h
  go_enter Try.func57, Try.ntmps57
  go_wp2_with (at_builtin; rw [← HW1.out.1]; refine wpList_append_fat rfl _ _ 23 rfl (w.heap.size + 2) 3 iI (.int .i64 0) 1 8 Try.underlying23 hiI hzI0 hzI1 hzI2 rfl (by decide) (.slice (some ⟨w.heap.size + 1 + 1, 0, none⟩) 0 0) 0 _ rfl HX0.out.1 _ rfl X1 S HX0.out.2.1 (HX0.out.2.2.2.2.2.2.len IntR.len) (by unfold maxLen; omega) (by omega) (by have := HX0.out.2.2.2.2.2.1; omega) ?_; intro vA wA flatA hownA hgrowA hatA hfA; have HA5 := (show Hid (_ ∧ _ ∧ _ ∧ _) from ⟨hownA, hgrowA, hatA, hfA⟩); rw [Nat.zero_add] at hownA; obtain ⟨aA, cA, rfl⟩ := own_form hownA; clear hownA hgrowA hatA hfA; refine Hid.out ?_)
  obtain ⟨R1, F1, B1, O0, O1, s1, Q1⟩ := HX0.out
  obtain ⟨hownA, hgrowA, hatA, hfA⟩ := HA5.out
  have OA0 := (hgrowA.block w.heap.size (lt_heap O0) (fun e => by simp [Value.ownBlock] at e; omega)).trans O0
  have OA1 := (hgrowA.block (w.heap.size + 1) (lt_heap O1) (fun e => by simp [Value.ownBlock] at e)).trans O1
  have BA : Below w.heap.size w wA := Below.grown B1 hgrowA B1.size (fun b hb => by have := (own_type R1 b hb).1; omega)
  have hsA : w.heap.size + 3 ≤ wA.heap.size := by have := hgrowA.size; omega
  rw [Nat.zero_add, List.nil_append] at hownA
  have ownA := own_atoms hownA (Q1.len IntR.len) hfA (fun i j r d hr hj => (Q1 i r hr).atoms j d hj)
  obtain ⟨Ws, hWs⟩ : ∃ Ws, Ws = wA.alloc (.cells #[.slice none 0 0, .slice aA X1.length cA] 34) := ⟨_, rfl⟩
  have ss : Ws.heap.size = wA.heap.size + 1 := by rw [hWs]; simp
  have eS : Below wA.heap.size wA Ws := by rw [hWs]; exact (Below.refl _ wA).alloc (Nat.le_refl _) _
  have OS0 := (eS.block _ (lt_heap OA0)).trans OA0
  have OS1 := (eS.block _ (lt_heap OA1)).trans OA1
  have OSb : Ws.heap[wA.heap.size]? = some (.cells #[.slice none 0 0, .slice aA X1.length cA] 34) := by rw [hWs]; exact (MapKept.heap_alloc wA _).1
  have BS : Below w.heap.size w Ws := BA.trans (eS.mono BA.size)
  have ownS : Own Ws (.slice aA X1.length cA) (.row X1) (Btw (w.heap.size + 2) wA.heap.size) := (ownA.dom.up eS).mono (fun b hb => ⟨hb.1.1, hb.2⟩)
  have GS : Grow Ws (wA.heap.size + 1) 145 4 (.slice none 0 0) 0 X0 := Grow.start ⟨rfl, .inl ⟨rfl, rfl⟩⟩ X0
  have HSs := (show Hid (_ ∧ _ ∧ _ ∧ _ ∧ _ ∧ _ ∧ _) from ⟨OS0, OS1, BS, ownS, GS, ss, OSb⟩)
  have HWs := (show Hid (_ ∧ True) from ⟨hWs, trivial⟩)
  clear R1 F1 B1 O0 O1 s1 Q1 hownA hgrowA hatA hfA OA0 OA1 BA ownA hWs eS OS0 OS1 BS ownS GS ss OSb HA5 HX0 HW1
  unfold Hid
  go_wp2
  go_loopw [4] (fun i wr => ∃ (k : Nat) (oa : Option Addr) (oc : Nat), k ≤ X0.length ∧ i = .int .i64 k ∧ Hid (Grow wr (wA.heap.size + 1) 145 4 (.slice oa k oc) k X0) ∧ Hid (wr.heap[wA.heap.size]? = some (.cells #[.slice oa k oc, .slice aA X1.length cA] 34)) ∧ Hid (Below wA.heap.size Ws wr)) (fun i _ => X0.length - (intOf i).toNat)
  case atStart =>
    rw [← HWs.out.1]
    exact ⟨0, _, _, Nat.zero_le _, rfl, HSs.out.2.2.2.2.1, HSs.out.2.2.2.2.2.2, Below.refl _ _⟩
  case round =>
    clear HWs
    obtain ⟨k, oa, oc, hk, rfl, HG, HOB, HBs⟩ := hrel
    have hlw0 : w.heap.size < wA.heap.size := by omega
    have hbw : Below w.heap.size w wr := HSs.out.2.2.1.trans (HBs.out.mono (by omega))
    have ob := (HBs.out.block w.heap.size hlw0).trans HSs.out.1
    have Y0 : wr.cell? ⟨w.heap.size, 0, none⟩ = some (.slice P0 X0.length C0) := by rw [cell_of_block ob]; rfl
    have hobw : wA.heap.size < wr.heap.size := lt_heap HOB.out
    by_cases hkl : k < X0.length
    · have he := List.getElem?_eq_getElem hkl
      have hbk := hBA he
      generalize X0[k] = r at *
      obtain ⟨z0, z1, b2, x3, rfl, q3⟩ := HT.out.1 k r he
      obtain ⟨b, off, rfl, -, hlb, us, hhus⟩ := HT.out.2.2.at he
      have c0 : w.cell? ⟨b, off + k * 4, none⟩ = some (us 0) := (hhus 0 _ rfl).1
      have a0 := (hhus 0 _ rfl).2
      have c1 : w.cell? ⟨b, off + k * 4 + 1, none⟩ = some (us 1) := (hhus 1 _ rfl).1
      have a1 := (hhus 1 _ rfl).2
      have c2 : w.cell? ⟨b, off + k * 4 + 2, none⟩ = some (us 2) := (hhus 2 _ rfl).1
      have a2 := (hhus 2 _ rfl).2
      have c3 : w.cell? ⟨b, off + k * 4 + 3, none⟩ = some (us 3) := (hhus 3 _ rfl).1
      have a3 := (hhus 3 _ rfl).2
      clear hhus
      obtain ⟨a0e, a0r⟩ := a0.ofInt
      rw [a0e] at c0 a0
      clear a0e
      obtain ⟨a1e, a1r⟩ := a1.ofInt
      rw [a1e] at c1 a1
      clear a1e
      obtain ⟨a2e, a2r⟩ := a2.ofStr
      rw [a2e] at c2 a2
      clear a2e
      obtain ⟨p3, d3, a3e⟩ := a3.form
      rw [a3e] at c3 a3
      clear a3e
      rw [← hbw.cell (by exact hlb)] at c0 c1 c2 c3
      have hlw : b < wr.heap.size := Nat.lt_of_lt_of_le hlb hbw.size
      have hlt' : ((k : Nat) : Int) < ((X0.length : Nat) : Int) := by omega
      have hlo : wA.heap.size + 1 ≤ wr.heap.size := hobw
      have hwlo : w.heap.size ≤ wA.heap.size + 1 := by omega
      have hoblo : wA.heap.size < wA.heap.size + 1 := by omega
      have HP := HT
      clear hBA ob
      have hkl3 : x3.length ≤ 1048576 := by
        have h1 := bulkS_len x3
        have h2 : Dt.bulkS x3 ≤ Dt.bulkR [.int z0, .int z1, .str b2, .row x3] := by simp [Dt.bulkR, Dt.bulk]
        omega
      have B2 : Below wr.heap.size wr ((wr.alloc (.cells #[.int .i64 z0, .int .i64 z1, .string b2, .slice p3 x3.length d3] 145)).alloc (.cells #[] 3)) := ((Below.refl _ wr).alloc (Nat.le_refl _) _).alloc (by simp) _
      have R2 : ((wr.alloc (.cells #[.int .i64 z0, .int .i64 z1, .string b2, .slice p3 x3.length d3] 145)).alloc (.cells #[] 3)).ownsRow wr.heap.size 3 1 (.slice (some ⟨wr.heap.size + 1, 0, none⟩) 0 0) 0 [] := by
        have := World.ownsRow_made (size := 1) (e := 3) (wr.alloc (.cells #[.int .i64 z0, .int .i64 z1, .string b2, .slice p3 x3.length d3] 145)) #[] 0 (show wr.heap.size ≤ (wr.alloc (.cells #[.int .i64 z0, .int .i64 z1, .string b2, .slice p3 x3.length d3] 145)).heap.size by simp) (Nat.zero_le _) (by simp)
        simpa using this
      have O2 : ((wr.alloc (.cells #[.int .i64 z0, .int .i64 z1, .string b2, .slice p3 x3.length d3] 145)).alloc (.cells #[] 3)).heap[wr.heap.size]? = some (.cells #[.int .i64 z0, .int .i64 z1, .string b2, .slice p3 x3.length d3] 145) := (Below.heap_alloc _ _ _ (by simp)).trans (MapKept.heap_alloc wr _).1
      have HX := (show Hid (_ ∧ _ ∧ _ ∧ _ ∧ _ ∧ _ ∧ _ ∧ _ ∧ _ ∧ _ ∧ _) from ⟨R2, (a3.up hbw).up B2, B2, O2, q3, he, hbw, a0r, a1r, a2r, trivial⟩)
      clear B2 R2 O2 he hbw q3 a0 a1 a2 a3 a0r a1r a2r
      go_wp2_with (at_builtin; refine wpList_append_fat rfl _ _ 23 rfl wr.heap.size 3 iI (.int .i64 0) 1 8 Try.underlying23 hiI hzI0 hzI1 hzI2 rfl (by decide) (.slice (some ⟨wr.heap.size + 1, 0, none⟩) 0 0) 0 _ rfl HX.out.1 _ rfl x3 S HX.out.2.1 (HX.out.2.2.2.2.1.len IntR.len) (by unfold maxLen; omega) (by omega) HX.out.2.2.1.size ?_; intro v5 w5 flat5 hown5 hgrow5 hat5 hf5; have H5 := (show Hid (_ ∧ _ ∧ _ ∧ _) from ⟨hown5, hgrow5, hat5, hf5⟩); rw [Nat.zero_add] at hown5; obtain ⟨a5, c5, rfl⟩ := own_form hown5; have o5 := (hgrow5.block wr.heap.size (lt_heap HX.out.2.2.2.1) (fun e => (by simp [Value.ownBlock] at e))).trans HX.out.2.2.2.1; have y0 : w5.cell? ⟨wr.heap.size, 0, none⟩ = some (.int .i64 z0) := (by rw [cell_of_block o5]; rfl); have y1 : w5.cell? ⟨wr.heap.size, 1, none⟩ = some (.int .i64 z1) := (by rw [cell_of_block o5]; rfl); have y2 : w5.cell? ⟨wr.heap.size, 2, none⟩ = some (.string b2) := (by rw [cell_of_block o5]; rfl); have y3 : w5.cell? ⟨wr.heap.size, 3, none⟩ = some (.slice p3 x3.length d3) := (by rw [cell_of_block o5]; rfl); have f3 : w5.frozen? ⟨wr.heap.size, 3, none⟩ = false := unfrozen_of_block o5 3; have ob5 := (hgrow5.block wA.heap.size (Nat.lt_of_lt_of_le (lt_heap HOB.out) HX.out.2.2.1.size) (fun e => (by simp [Value.ownBlock] at e; have := lt_heap HOB.out; omega))).trans ((HX.out.2.2.1.block _ (lt_heap HOB.out)).trans HOB.out); have yo5 : w5.cell? ⟨wA.heap.size, 0, none⟩ = some (.slice oa k oc) := (by rw [cell_of_block ob5]; rfl); have HO5 := (show Hid (_ ∧ True) from ⟨o5, trivial⟩); clear hown5 hgrow5 hat5 hf5 o5; refine Hid.out ?_)
      have B5 : Below wr.heap.size wr w5 := Below.grown HX.out.2.2.1 H5.out.2.1 HX.out.2.2.1.size (fun b hb => (own_type HX.out.1 b hb).1)
      have B7 : Below wr.heap.size wr ((w5.setCell ⟨wr.heap.size, 3, none⟩ (.slice a5 x3.length c5)).alloc (.cells #[.int .i64 z0, .int .i64 z1, .string b2, .slice a5 x3.length c5] 145)) := (B5.setCell (p := ⟨wr.heap.size, 3, none⟩) (Nat.le_refl _) _).alloc (by simp; exact B5.size) _
      obtain ⟨flatk, hflatk⟩ := HG.out.row
      have R7 := own_moved (W' := ((w5.setCell ⟨wr.heap.size, 3, none⟩ (.slice a5 x3.length c5)).alloc (.cells #[.int .i64 z0, .int .i64 z1, .string b2, .slice a5 x3.length c5] 145))) hflatk (fun b hb => B7.block b (own_lt hflatk b hb))
      have hown5 := H5.out.1
      rw [Nat.zero_add, List.nil_append] at hown5
      have own5 := own_atoms hown5 (HX.out.2.2.2.2.1.len IntR.len) H5.out.2.2.2 (fun i j r d hr hj => (HX.out.2.2.2.2.1 i r hr).atoms j d hj)
      have hne5 : ∀ b, Value.ownBlock (.slice a5 x3.length c5) = some b → b ≠ wr.heap.size := fun b hb e => by
        subst e
        rcases H5.out.2.2.1 with h | h
        · rw [h] at hb; simp [Value.ownBlock] at hb
        · rw [h] at hb; simp at hb; omega
      have own7 : Own ((w5.setCell ⟨wr.heap.size, 3, none⟩ (.slice a5 x3.length c5)).alloc (.cells #[.int .i64 z0, .int .i64 z1, .string b2, .slice a5 x3.length c5] 145)) (.slice a5 x3.length c5) (.row x3) (Btw wr.heap.size ((w5.setCell ⟨wr.heap.size, 3, none⟩ (.slice a5 x3.length c5)).alloc (.cells #[.int .i64 z0, .int .i64 z1, .string b2, .slice a5 x3.length c5] 145)).heap.size) := by
        refine (own5.dom.moved (w' := ((w5.setCell ⟨wr.heap.size, 3, none⟩ (.slice a5 x3.length c5)).alloc (.cells #[.int .i64 z0, .int .i64 z1, .string b2, .slice a5 x3.length c5] 145))) (fun b hb hlt => ?_)).mono (fun b hb => ⟨hb.1.1, by simp; have := hb.2; omega⟩)
        rw [Below.heap_alloc _ _ _ (by simpa using hlt), Below.heap_setCell _ _ _ _ (by simpa using hne5 b hb.1.2)]
      have ofs : OFs ((w5.setCell ⟨wr.heap.size, 3, none⟩ (.slice a5 x3.length c5)).alloc (.cells #[.int .i64 z0, .int .i64 z1, .string b2, .slice a5 x3.length c5] 145)) [.int .i64 z0, .int .i64 z1, .string b2, .slice a5 x3.length c5] [.int z0, .int z1, .str b2, .row x3] (Btw wr.heap.size ((w5.setCell ⟨wr.heap.size, 3, none⟩ (.slice a5 x3.length c5)).alloc (.cells #[.int .i64 z0, .int .i64 z1, .string b2, .slice a5 x3.length c5] 145)).heap.size) := (OFs.int HX.out.2.2.2.2.2.2.2.1 (OFs.int HX.out.2.2.2.2.2.2.2.2.1 (OFs.str HX.out.2.2.2.2.2.2.2.2.2.1 (OFs.cons own7 (show OFs _ [] [] _ from trivial) B7.size (Nat.le_refl _)))))
      have hnews : ∀ (j : Nat) (u : Value), ([.int .i64 z0, .int .i64 z1, .string b2, .slice a5 x3.length c5] : List Value)[j]? = some u → ((w5.setCell ⟨wr.heap.size, 3, none⟩ (.slice a5 x3.length c5)).alloc (.cells #[.int .i64 z0, .int .i64 z1, .string b2, .slice a5 x3.length c5] 145)).cell? ((⟨w5.heap.size, 0, none⟩ : Addr).add j) = some u := fun j u hj => by
        rw [addr_add, Nat.zero_add]
        have hb7 := (MapKept.heap_alloc (w5.setCell ⟨wr.heap.size, 3, none⟩ (.slice a5 x3.length c5)) (.cells #[.int .i64 z0, .int .i64 z1, .string b2, .slice a5 x3.length c5] 145)).1
        rw [show (w5.setCell ⟨wr.heap.size, 3, none⟩ (.slice a5 x3.length c5)).heap.size = w5.heap.size by simp] at hb7
        rw [cell_of_block hb7]
        simpa using hj
      have h1 : ∀ u ∈ ([.int .i64 z0, .int .i64 z1, .string b2, .slice a5 x3.length c5] : List Value), u.oneCell' = true := by intro u hu; simp at hu; rcases hu with rfl | rfl | rfl | rfl <;> rfl
      have H7 := (show Hid (_ ∧ _ ∧ _ ∧ _ ∧ _ ∧ _) from ⟨R7, hnews, h1, B7, ofs, hflatk⟩)
      clear B5 B7 R7 hnews h1 hown5 own5 hne5 own7 ofs hflatk
      unfold Hid
      go_wp2_with (at_builtin; refine wpList_append_own_at _ rfl _ _ 32 rfl (wA.heap.size + 1) 145 iX _ 4 56 Try.underlying32 hiX hzX0 hzX1 hzX2 rfl (by decide) (.slice oa k oc) k _ rfl H7.out.1 ⟨w5.heap.size, 0, none⟩ 1 1 [.int .i64 z0, .int .i64 z1, .string b2, .slice a5 x3.length c5] rfl rfl H7.out.2.1 H7.out.2.2.1 (by unfold maxLen; omega) (by omega) (Nat.le_trans hlo H7.out.2.2.2.1.size) ?_; intro v8 w8 hown8 hgrow8 hnil8 hat8; obtain ⟨a8, c8, rfl⟩ := own_form hown8; have H8 := (show Hid (_ ∧ _ ∧ _) from ⟨Grow.next HG.out H7.out.2.2.2.1 hlo HX.out.2.2.2.2.2.1 HP.out.2.1 H7.out.2.2.2.2.1 H7.out.2.2.2.2.2 hown8 hgrow8 hat8, Below.grown (HX.out.2.2.2.2.2.2.1.trans (H7.out.2.2.2.1.mono HX.out.2.2.2.2.2.2.1.size)) hgrow8 (Nat.le_trans HX.out.2.2.2.2.2.2.1.size H7.out.2.2.2.1.size) (fun b hb => Nat.le_trans hwlo (own_type H7.out.1 b hb).1), Below.grown (H7.out.2.2.2.1.mono hlo) hgrow8 (Nat.le_trans hlo H7.out.2.2.2.1.size) (fun b hb => (own_type H7.out.1 b hb).1)⟩); have ob8 := (H8.out.2.2.block _ hoblo).trans HOB.out; have yo8 : w8.cell? ⟨wA.heap.size, 0, none⟩ = some (.slice oa k oc) := (by rw [cell_of_block ob8]; rfl); have fo8 : w8.frozen? ⟨wA.heap.size, 0, none⟩ = false := unfrozen_of_block ob8 0; clear hown8 hgrow8 hnil8 hat8)
      refine ⟨⟨k + 1, a8, c8, by omega, by go_num, H8.out.1.moved (fun b hb _ => Below.heap_setCell _ _ _ _ (by simp; omega)) (by simp), ?_, ?_⟩, by simp [intOf]; omega⟩
      · have ob8 := (H8.out.2.2.block _ hoblo).trans HOB.out
        have := block_setCell (i := 0) ob8 (.slice a8 (k + 1) c8)
        simp only [List.setIfInBounds_toArray, List.set_cons_zero] at this
        exact this
      · exact (HBs.out.trans (H8.out.2.2.mono (by omega))).setCell (p := ⟨wA.heap.size, 0, none⟩) (Nat.le_refl _) _
    · obtain rfl : k = X0.length := by omega
      have ob1 := (HBs.out.block (w.heap.size + 1) (by omega)).trans HSs.out.2.1
      have U0 : wr.cell? ⟨wA.heap.size, 0, none⟩ = some (.slice oa X0.length oc) := by rw [cell_of_block HOB.out]; rfl
      have U1 : wr.cell? ⟨wA.heap.size, 1, none⟩ = some (.slice aA X1.length cA) := by rw [cell_of_block HOB.out]; rfl
      have D0 : wr.cell? ⟨w.heap.size + 1, 0, none⟩ = some (.slice none 0 0) := by rw [cell_of_block ob1]; rfl
      have D1 : wr.cell? ⟨w.heap.size + 1, 1, none⟩ = some (.slice none 0 0) := by rw [cell_of_block ob1]; rfl
      have G0 : wr.frozen? ⟨w.heap.size + 1, 0, none⟩ = false := unfrozen_of_block ob1 0
      have G1 : wr.frozen? ⟨w.heap.size + 1, 1, none⟩ = false := unfrozen_of_block ob1 1
      have oK : Own wr (.slice aA X1.length cA) (.row X1) (Btw (w.heap.size + 2) wA.heap.size) := HSs.out.2.2.2.1.moved (fun b hb _ => HBs.out.block b hb.2)
      have key : OFs wr [.slice oa X0.length oc, .slice aA X1.length cA] [.row X0, .row X1] (Btw (w.heap.size + 2) wr.heap.size) :=
        ⟨_, _, fun b hb => ⟨by have := hb.1; omega, hb.2⟩, fun b hb => ⟨hb.1, by have := hb.2; omega⟩, fun b hb hb' => by have := hb.1; have := hb'.2; omega, HG.out.done HT.out.2.1, ⟨_, fun _ => False, fun _ hb => hb, fun _ hf => hf.elim, fun _ _ hf => hf, oK, trivial⟩⟩
      have HF := (show Hid (_ ∧ _) from ⟨key, hbw⟩)
      clear key oK hbw ob ob1 HG HBs HOB
      go_wp2
      refine bodyPost_ret (v := .agg #[.slice oa X0.length oc, .slice aA X1.length cA]) (by simp [results, Try.results57, go_sem, D0, D1]) rfl ⟨_, rfl, ?_, ?_⟩
      · refine (HF.out.1.moved (fun b hb' _ => ?_)).mono (fun b hb' => ⟨by have := hb'.1; omega, by have := hb'.2; simpa using this⟩)
        have e1 : ∀ (j : Nat) (u : Value) (W : World), (W.setCell ⟨w.heap.size + 1, j, none⟩ u).heap[b]? = W.heap[b]? := fun j u W => Below.heap_setCell W _ u b (by have := hb'.1; simp; omega)
        simp only [e1]
      · iterate 2 refine Below.setCell ?_ (by simp) _
        exact HF.out.2

end Go.Proofs.Ytlgnklpaebgnlaa
