/-
  What the law of chapter 7 draws: a message, a pack, texts and numbers, all small; nothing that was there has turned.
-/
import Derived.Test.YtkfmkhhjkioeoaaGreatDoorDrawPack
namespace Go.Proofs.YtkfmkhhjkioeoaaGreatDoor
open Go.RowKit Go.Joins

set_option maxRecDepth 100000

theorem below_drawn {w w1 w2 : World} (hb : Below w.heap.size w w1) (hg : w1.grownBy w2 (some w.heap.size)) : Below w.heap.size w w2 :=
  Below.grown hb hg (fun k hk => by cases hk; exact Nat.le_refl _) hb.size
theorem code_upW {w w' : World} {V : Value} {len : Nat} (h : CodeIs w.heap.size w V len) (hb : Below w.heap.size w w') : CodeIs w'.heap.size w' V len := by
  obtain ⟨a, cap, hv, hl, hc⟩ := h
  refine ⟨a, cap, hv, hl, fun h0 => ?_⟩
  obtain ⟨b, off, ha, hb1, hcell⟩ := hc h0
  refine ⟨b, off, ha, Nat.lt_of_lt_of_le hb1 hb.size, fun j hj => ?_⟩
  obtain ⟨z, h1, h2, h3⟩ := hcell j hj
  exact ⟨z, h1, h2, (World.cell?_of_block (hb.block b hb1)).trans h3⟩
theorem pack_short {p : Pa} (hb : p.body.size ≤ 1000) : (⟨p.bytes.toArray⟩ : ByteArray).size ≤ 1100 := by
  show p.bytes.toArray.size ≤ 1100
  rw [List.size_toArray]
  cases hok : p.ok with
  | false => unfold Pa.bytes; rw [hok]; simp
  | true =>
    unfold Pa.bytes
    rw [hok]
    have : p.body.data.toList.length = p.body.size := by simp
    simp only [if_true, List.length_append]
    rw [numsB_len]
    have h6 : p.nums.length = 6 := rfl
    omega

set_option maxHeartbeats 1600000 in
theorem drawPutMsg_any (V : Value) (len : Nat) (w : World) (hcode : CodeIs w.heap.size w V len) :
    Calls Tryz.prog 5 #[V] w fun e w' => ∃ (v : Value) (m : Ms), e = .returned v ∧ MsAt w' (fun _ => True) v m ∧ m.cell.kids.length ≤ 101 ∧ Below w.heap.size w w' := by
  have hbA : Below w.heap.size w (w.alloc (.cells #[.int .i64 0, .int .i64 0, .int .i64 0, .int .i64 0, .int .i64 0, .int .i64 0, .int .i64 0, .int .i64 0, .slice none 0 0] 28)) := (Below.refl _ w).alloc (Nat.le_refl _) _
  have hcA := code_upW hcode hbA
  have hsA : (w.alloc (.cells #[.int .i64 0, .int .i64 0, .int .i64 0, .int .i64 0, .int .i64 0, .int .i64 0, .int .i64 0, .int .i64 0, .slice none 0 0] 28)).heap.size = w.heap.size + 1 := by simp
  have HA := (show Hid (_ ∧ _ ∧ _ ∧ _) from ⟨hbA, hcA, (MapKept.heap_alloc w (.cells #[.int .i64 0, .int .i64 0, .int .i64 0, .int .i64 0, .int .i64 0, .int .i64 0, .int .i64 0, .int .i64 0, .slice none 0 0] 28)).1, hsA⟩)
  clear hbA hcA hcode hsA
  go_enter Tryz.func5, Tryz.ntmps5
  go_wp2_with fail
  generalize w.alloc (.cells #[.int .i64 0, .int .i64 0, .int .i64 0, .int .i64 0, .int .i64 0, .int .i64 0, .int .i64 0, .int .i64 0, .slice none 0 0] 28) = wA at *
  refine (new_dr V len wA HA.out.2.1).mono ?_
  rintro e w1 ⟨rfl, h1, b1⟩
  have H1 := (show Hid (Dr wA.heap.size w1 wA.heap.size V len ∧ Below wA.heap.size wA w1) from ⟨h1, b1⟩)
  clear h1 b1
  go_wp2_with fail
  refine (l07Msg_dr _ _ V len w1 H1.out.1).mono ?_
  rintro e w2 ⟨v, m, rfl, hm, hl, h2, g2⟩
  obtain ⟨ka, kc, rfl⟩ := hm.form
  have hs1 := H1.out.2.size
  have hs0 := HA.out.2.2.2
  have hbx := ((below_drawn H1.out.2 g2).block w.heap.size (by omega)).trans HA.out.2.2.1
  have H2 := (show Hid (_ ∧ _ ∧ _) from ⟨hm, HA.out.1.trans ((below_drawn H1.out.2 g2).mono (by omega)), hbx⟩)
  have hk1 : w.heap.size < w1.heap.size := by omega
  clear hm h2 g2 hbx hs1 hs0
  have z0 : w2.cell? ⟨w.heap.size, 0, none⟩ = some (.int .i64 0) := by rw [cell_of_block H2.out.2.2]; rfl
  have f0 : w2.frozen? ⟨w.heap.size, 0, none⟩ = false := unfrozen_of_block H2.out.2.2 0
  have z1 : w2.cell? ⟨w.heap.size, 1, none⟩ = some (.int .i64 0) := by rw [cell_of_block H2.out.2.2]; rfl
  have f1 : w2.frozen? ⟨w.heap.size, 1, none⟩ = false := unfrozen_of_block H2.out.2.2 1
  have z2 : w2.cell? ⟨w.heap.size, 2, none⟩ = some (.int .i64 0) := by rw [cell_of_block H2.out.2.2]; rfl
  have f2 : w2.frozen? ⟨w.heap.size, 2, none⟩ = false := unfrozen_of_block H2.out.2.2 2
  have z3 : w2.cell? ⟨w.heap.size, 3, none⟩ = some (.int .i64 0) := by rw [cell_of_block H2.out.2.2]; rfl
  have f3 : w2.frozen? ⟨w.heap.size, 3, none⟩ = false := unfrozen_of_block H2.out.2.2 3
  have z4 : w2.cell? ⟨w.heap.size, 4, none⟩ = some (.int .i64 0) := by rw [cell_of_block H2.out.2.2]; rfl
  have f4 : w2.frozen? ⟨w.heap.size, 4, none⟩ = false := unfrozen_of_block H2.out.2.2 4
  have z5 : w2.cell? ⟨w.heap.size, 5, none⟩ = some (.int .i64 0) := by rw [cell_of_block H2.out.2.2]; rfl
  have f5 : w2.frozen? ⟨w.heap.size, 5, none⟩ = false := unfrozen_of_block H2.out.2.2 5
  have z6 : w2.cell? ⟨w.heap.size, 6, none⟩ = some (.int .i64 0) := by rw [cell_of_block H2.out.2.2]; rfl
  have f6 : w2.frozen? ⟨w.heap.size, 6, none⟩ = false := unfrozen_of_block H2.out.2.2 6
  have z7 : w2.cell? ⟨w.heap.size, 7, none⟩ = some (.int .i64 0) := by rw [cell_of_block H2.out.2.2]; rfl
  have f7 : w2.frozen? ⟨w.heap.size, 7, none⟩ = false := unfrozen_of_block H2.out.2.2 7
  have z8 : w2.cell? ⟨w.heap.size, 8, none⟩ = some (.slice none 0 0) := by rw [cell_of_block H2.out.2.2]; rfl
  have f8 : w2.frozen? ⟨w.heap.size, 8, none⟩ = false := unfrozen_of_block H2.out.2.2 8
  go_wp2_with fail
  refine bodyPost_ret (v := .agg (m.row (.slice ka m.cell.kids.length kc))) (by simp [results, Tryz.results5, go_sem, z0, z1, z2, z3, z4, z5, z6, z7, z8]) rfl ?_
  have hg9 := grown9 w2 w.heap.size (.int .i64 m.kind) (.int .i64 m.frm) (.int .i64 m.dst) (.int .i64 m.id) (.int .i64 m.want) (.int .i64 m.cell.kind) (.int .i64 m.cell.n) (.int .i64 m.cell.pos) (.slice ka m.cell.kids.length kc)
  obtain ⟨kv', hv, e1, e2, e3, e4, hk⟩ := H2.out.1
  exact ⟨_, m, rfl, ⟨kv', hv, e1, e2, e3, e4, hk.kept (fun b (hb : w1.heap.size ≤ b) hlt => hg9.block b hlt (fun e => by have := Option.some.inj e; omega)) hg9.size (fun _ _ _ => trivial)⟩, hl, Below.grown H2.out.2.1 hg9 (fun k hk => by cases hk; exact Nat.le_refl _) H2.out.2.1.size⟩
set_option maxHeartbeats 1600000 in
theorem drawGetMsg_any (V : Value) (len : Nat) (w : World) (hcode : CodeIs w.heap.size w V len) :
    Calls Tryz.prog 7 #[V] w fun e w' => ∃ s : ByteArray, e = .returned (.string s) ∧ s.size ≤ 2000 ∧ Below w.heap.size w w' := by
  go_enter Tryz.func7, Tryz.ntmps7
  go_wp2_with fail
  refine (new_dr V len w hcode).mono ?_
  rintro e w1 ⟨rfl, h1, b1⟩
  have H1 := (show Hid (Dr w.heap.size w1 w.heap.size V len ∧ Below w.heap.size w w1) from ⟨h1, b1⟩)
  clear h1 b1
  go_wp2_with fail
  refine (l07Msg_dr _ _ V len w1 H1.out.1).mono ?_
  rintro e w2 ⟨v, m, rfl, hm, hl, h2, g2⟩
  obtain ⟨ka, kc, rfl⟩ := hm.form
  have H2 := (show Hid (_ ∧ Dr w.heap.size w2 w.heap.size V len ∧ Below w.heap.size w w2 ∧ _) from ⟨hm, h2, below_drawn H1.out.2 g2, hl⟩)
  clear hm h2 g2 H1 hl
  go_wp2_with fail
  refine (specPutMsg_any _ m _ _ H2.out.1 (by have := H2.out.2.2.2; omega)).mono ?_
  rintro e w3 ⟨rfl, b3⟩
  have H3 := (show Hid (Dr w.heap.size w3 w.heap.size V len ∧ Below w.heap.size w w3 ∧ _) from ⟨H2.out.2.1.below b3, H2.out.2.2.1.trans (b3.mono H2.out.2.2.1.size), msg_short H2.out.2.2.2⟩)
  clear b3 H2
  go_wp2_with fail
  refine (spoil_dr _ _ V len _ _ (by have := H3.out.2.2; omega) H3.out.1).mono ?_
  rintro e w4 ⟨s', rfl, hs, h4, g4⟩
  have hs2 : s'.size ≤ 2000 := by have := H3.out.2.2; omega
  go_wp2_with fail
  go_ret
  exact ⟨_, rfl, hs2, below_drawn H3.out.2.1 g4⟩
set_option maxHeartbeats 1600000 in
theorem drawPutPack_any (V : Value) (len : Nat) (w : World) (hcode : CodeIs w.heap.size w V len) :
    Calls Tryz.prog 10 #[V] w fun e w' => ∃ (p : Pa), e = .returned (.agg p.row) ∧ p.fits ∧ p.body.size ≤ 1000 ∧ Below w.heap.size w w' := by
  have hbA : Below w.heap.size w (w.alloc (.cells #[.int .i64 0, .int .i64 0, .int .i64 0, .int .i64 0, .int .i64 0, .string ⟨#[]⟩] 35)) := (Below.refl _ w).alloc (Nat.le_refl _) _
  have hcA := code_upW hcode hbA
  have hsA : (w.alloc (.cells #[.int .i64 0, .int .i64 0, .int .i64 0, .int .i64 0, .int .i64 0, .string ⟨#[]⟩] 35)).heap.size = w.heap.size + 1 := by simp
  have HA := (show Hid (_ ∧ _ ∧ _ ∧ _) from ⟨hbA, hcA, (MapKept.heap_alloc w (.cells #[.int .i64 0, .int .i64 0, .int .i64 0, .int .i64 0, .int .i64 0, .string ⟨#[]⟩] 35)).1, hsA⟩)
  clear hbA hcA hcode hsA
  go_enter Tryz.func10, Tryz.ntmps10
  go_wp2_with fail
  generalize w.alloc (.cells #[.int .i64 0, .int .i64 0, .int .i64 0, .int .i64 0, .int .i64 0, .string ⟨#[]⟩] 35) = wA at *
  refine (new_dr V len wA HA.out.2.1).mono ?_
  rintro e w1 ⟨rfl, h1, b1⟩
  have H1 := (show Hid (Dr wA.heap.size w1 wA.heap.size V len ∧ Below wA.heap.size wA w1) from ⟨h1, b1⟩)
  clear h1 b1
  go_wp2_with fail
  refine (pack_dr _ _ V len w1 H1.out.1).mono ?_
  rintro e w2 ⟨p, rfl, hf, hb, h2, g2⟩
  have hs1 := H1.out.2.size
  have hs0 := HA.out.2.2.2
  have hbx := ((below_drawn H1.out.2 g2).block w.heap.size (by omega)).trans HA.out.2.2.1
  have H2 := (show Hid (p.fits ∧ _ ∧ _) from ⟨hf, HA.out.1.trans ((below_drawn H1.out.2 g2).mono (by omega)), hbx⟩)
  clear hf h2 g2 hbx hs1 hs0
  have z0 : w2.cell? ⟨w.heap.size, 0, none⟩ = some (.int .i64 0) := by rw [cell_of_block H2.out.2.2]; rfl
  have f0 : w2.frozen? ⟨w.heap.size, 0, none⟩ = false := unfrozen_of_block H2.out.2.2 0
  have z1 : w2.cell? ⟨w.heap.size, 1, none⟩ = some (.int .i64 0) := by rw [cell_of_block H2.out.2.2]; rfl
  have f1 : w2.frozen? ⟨w.heap.size, 1, none⟩ = false := unfrozen_of_block H2.out.2.2 1
  have z2 : w2.cell? ⟨w.heap.size, 2, none⟩ = some (.int .i64 0) := by rw [cell_of_block H2.out.2.2]; rfl
  have f2 : w2.frozen? ⟨w.heap.size, 2, none⟩ = false := unfrozen_of_block H2.out.2.2 2
  have z3 : w2.cell? ⟨w.heap.size, 3, none⟩ = some (.int .i64 0) := by rw [cell_of_block H2.out.2.2]; rfl
  have f3 : w2.frozen? ⟨w.heap.size, 3, none⟩ = false := unfrozen_of_block H2.out.2.2 3
  have z4 : w2.cell? ⟨w.heap.size, 4, none⟩ = some (.int .i64 0) := by rw [cell_of_block H2.out.2.2]; rfl
  have f4 : w2.frozen? ⟨w.heap.size, 4, none⟩ = false := unfrozen_of_block H2.out.2.2 4
  have z5 : w2.cell? ⟨w.heap.size, 5, none⟩ = some (.string ⟨#[]⟩) := by rw [cell_of_block H2.out.2.2]; rfl
  have f5 : w2.frozen? ⟨w.heap.size, 5, none⟩ = false := unfrozen_of_block H2.out.2.2 5
  go_wp2_with fail
  refine bodyPost_ret (v := .agg p.row) (by simp [results, Tryz.results10, go_sem, z0, z1, z2, z3, z4, z5]) rfl ?_
  exact ⟨p, rfl, H2.out.1, hb, Below.grown H2.out.2.1 (grown6 w2 w.heap.size (.int .i64 p.kind) (.int .i64 p.frm) (.int .i64 p.dst) (.int .i64 p.seq) (.int .i64 p.low) (.string p.body)) (fun k hk => by cases hk; exact Nat.le_refl _) H2.out.2.1.size⟩
set_option maxHeartbeats 1600000 in
theorem drawGetPack_any (V : Value) (len : Nat) (w : World) (hcode : CodeIs w.heap.size w V len) :
    Calls Tryz.prog 12 #[V] w fun e w' => ∃ s : ByteArray, e = .returned (.string s) ∧ s.size ≤ 2000 ∧ Below w.heap.size w w' := by
  go_enter Tryz.func12, Tryz.ntmps12
  go_wp2_with fail
  refine (new_dr V len w hcode).mono ?_
  rintro e w1 ⟨rfl, h1, b1⟩
  have H1 := (show Hid (Dr w.heap.size w1 w.heap.size V len ∧ Below w.heap.size w w1) from ⟨h1, b1⟩)
  clear h1 b1
  go_wp2_with fail
  refine (pack_dr _ _ V len w1 H1.out.1).mono ?_
  rintro e w2 ⟨p, rfl, hf, hb, h2, g2⟩
  have H2 := (show Hid (p.fits ∧ Dr w.heap.size w2 w.heap.size V len ∧ Below w.heap.size w w2 ∧ p.body.size ≤ 1000) from ⟨hf, h2, below_drawn H1.out.2 g2, hb⟩)
  clear hf h2 g2 H1 hb
  go_wp2_with fail
  refine (specPutPack_any p _ (by have := H2.out.2.2.2; omega) H2.out.1).mono ?_
  rintro e w3 ⟨rfl, b3⟩
  have H3 := (show Hid (Dr w.heap.size w3 w.heap.size V len ∧ Below w.heap.size w w3 ∧ _) from ⟨H2.out.2.1.below b3, H2.out.2.2.1.trans (b3.mono H2.out.2.2.1.size), pack_short H2.out.2.2.2⟩)
  clear b3 H2
  go_wp2_with fail
  refine (spoil_dr _ _ V len _ _ (by have := H3.out.2.2; omega) H3.out.1).mono ?_
  rintro e w4 ⟨s', rfl, hs, h4, g4⟩
  have hs2 : s'.size ≤ 2000 := by have := H3.out.2.2; omega
  go_wp2_with fail
  go_ret
  exact ⟨_, rfl, hs2, below_drawn H3.out.2.1 g4⟩
set_option maxHeartbeats 1600000 in
theorem drawPutNum_any (V : Value) (len : Nat) (w : World) (hcode : CodeIs w.heap.size w V len) :
    Calls Tryz.prog 15 #[V] w fun e w' => ∃ n : Int, e = .returned (.int .i64 n) ∧ inI64 n ∧ Below w.heap.size w w' := by
  go_enter Tryz.func15, Tryz.ntmps15
  go_wp2_with fail
  refine (new_dr V len w hcode).mono ?_
  rintro e w1 ⟨rfl, h1, b1⟩
  have H1 := (show Hid (Dr w.heap.size w1 w.heap.size V len ∧ Below w.heap.size w w1) from ⟨h1, b1⟩)
  clear h1 b1
  go_wp2_with fail
  refine (below_dr _ _ V len 100000 w1 (by omega) (by omega) H1.out.1).mono ?_
  rintro e w2 ⟨x, rfl, x0, x1, h2, g2⟩
  have H2 := (show Hid (Dr w.heap.size w2 w.heap.size V len ∧ Below w.heap.size w w2) from ⟨h2, below_drawn H1.out.2 g2⟩)
  clear h2 g2 H1
  have hgw := H2.out.1.glt
  go_wp2_with fail
  refine (pickInt_dr _ _ V len _ 7 7 [0, 1, -1, 256, 9223372036854775807, -9223372036854775808, x] _ (by decide) (by decide) rfl (by omega) (ints_lit [0, 1, -1, 256, 9223372036854775807, -9223372036854775808, x] w2) (H2.out.1.alloc _)).mono ?_
  rintro e w3 ⟨y, rfl, hy, h3, g3⟩
  have hyb : inI64 y := by
    simp only [List.mem_cons, List.not_mem_nil, or_false] at hy
    exact ⟨by omega, by omega⟩
  go_wp2_with fail
  go_ret
  exact ⟨y, rfl, hyb, below_drawn (H2.out.2.alloc H2.out.2.size _) g3⟩
set_option maxHeartbeats 1600000 in
theorem drawGetNum_any (V : Value) (len : Nat) (w : World) (hcode : CodeIs w.heap.size w V len) :
    Calls Tryz.prog 16 #[V] w fun e w' => ∃ (s : ByteArray) (i : Int), e = .returned (.tuple #[.string s, .int .i64 i]) ∧ s.size ≤ 2000 ∧ inI64 i ∧ Below w.heap.size w w' := by
  go_enter Tryz.func16, Tryz.ntmps16
  go_wp2_with fail
  refine (new_dr V len w hcode).mono ?_
  rintro e w1 ⟨rfl, h1, b1⟩
  have H1 := (show Hid (Dr w.heap.size w1 w.heap.size V len ∧ Below w.heap.size w w1) from ⟨h1, b1⟩)
  clear h1 b1
  go_wp2_with fail
  refine (below_dr _ _ V len 1000 w1 (by omega) (by omega) H1.out.1).mono ?_
  rintro e w2 ⟨x, rfl, x0, x1, h2, g2⟩
  have H2 := (show Hid (Dr w.heap.size w2 w.heap.size V len ∧ Below w.heap.size w w2) from ⟨h2, below_drawn H1.out.2 g2⟩)
  clear h2 g2 H1
  go_wp2_with fail
  refine (specPutNum_any x w2 (by omega) (by omega)).mono ?_
  rintro e w3 ⟨rfl, b3⟩
  have H3 := (show Hid (Dr w.heap.size w3 w.heap.size V len ∧ Below w.heap.size w w3) from ⟨H2.out.1.below b3, H2.out.2.trans (b3.mono H2.out.2.size)⟩)
  clear b3 H2
  have hnl : (⟨(numB x).toArray⟩ : ByteArray).size = 8 := by show (numB x).toArray.size = 8; rw [List.size_toArray, numB_len]
  generalize (⟨(numB x).toArray⟩ : ByteArray) = nb at *
  have hgw := H3.out.1.glt
  go_wp2_with fail
  refine (pickInt_dr _ _ V len _ 6 6 [0, 1, 2, 3, -1, 9223372036854775807] _ (by decide) (by decide) rfl (by omega) (ints_lit [0, 1, 2, 3, -1, 9223372036854775807] w3) (H3.out.1.alloc _)).mono ?_
  rintro e w4 ⟨y, rfl, hy, h4, g4⟩
  have hyb : inI64 y := by
    simp only [List.mem_cons, List.not_mem_nil, or_false] at hy
    exact ⟨by omega, by omega⟩
  have hsz : ((⟨#[120]⟩ : ByteArray) ++ nb ++ ⟨#[121]⟩).size ≤ 2000 := by
    have e1 : (⟨#[120]⟩ : ByteArray).size = 1 := rfl
    have e2 : (⟨#[121]⟩ : ByteArray).size = 1 := rfl
    rw [ByteArray.size_append, ByteArray.size_append, hnl, e1, e2]
    omega
  go_wp2_with fail
  go_ret2
  exact ⟨_, y, rfl, hsz, hyb, below_drawn (H3.out.2.alloc H3.out.2.size _) g4⟩
end Go.Proofs.YtkfmkhhjkioeoaaGreatDoor
