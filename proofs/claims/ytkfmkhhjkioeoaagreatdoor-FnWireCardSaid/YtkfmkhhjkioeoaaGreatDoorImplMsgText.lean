/-
  The program's MsgText.
-/
import Derived.Test.YtkfmkhhjkioeoaaGreatDoorMsgWords
import Derived.Test.YtkfmkhhjkioeoaaGreatDoorImplMsgOk
import Derived.BigQuiet
import Derived.Deep.QuietTactic
import Derived.Deep.RegionHeld3
import Derived.Test.YtkfmkhhjkioeoaaGreatDoorMS
import Derived.WalkSmall
namespace Go.Proofs.YtkfmkhhjkioeoaaGreatDoor
open Go.RowKit Go.Joins Go.Shelf

set_option maxRecDepth 100000

theorem infoStrM : (Tryz.prog.info? 9).map (fun i => (i.zero, i.size, i.bytes)) = some (some (.string ⟨#[]⟩), 1, 16) := by kernel_rfl
theorem ent_dec : ∀ args w, (callFunc 53 args).run Tryz.prog w = .ok (.enter 53 args) w := enters_of Tryz.func53 (by kernel_rfl) rfl
theorem ent_cellText : ∀ args w, (callFunc 54 args).run Tryz.prog w = .ok (.enter 54 args) w := enters_of Tryz.func54 (by kernel_rfl) rfl
theorem join_row (B : Nat) (v : Value) (ws : List ByteArray) (wr : World) (h : wr.ownsRow B 9 1 v ws.length (strVs ws)) (h0 : 0 < ws.length) (h1 : ws.length ≤ 1000) (hl : (Lib.join (ws.map (·.data.toList)) [32]).length ≤ 140737488355328) :
    ∃ g gc, v = .slice (some ⟨g, 0, none⟩) ws.length gc ∧ Calls Tryz.prog 55 #[.slice (some ⟨g, 0, none⟩) ws.length gc, .string ⟨#[32]⟩] wr fun e w' => e = .returned (.string ⟨(Lib.join (ws.map (·.data.toList)) [32]).toArray⟩) ∧ Below wr.heap.size wr w' := by
  obtain ⟨g, gc, rfl, hg1, hg2, hg3⟩ := ow_some h h0
  refine ⟨g, gc, rfl, ?_⟩
  have hjo := Tryz.strings_Join g 0 gc ws ⟨#[32]⟩ wr (fun j x hj => by
    rw [Nat.zero_add, h.cellAt j (by have := (List.getElem?_eq_some_iff.1 hj).1; omega), List.getElem?_map, hj]
    rfl) hg1 (by omega) (by omega) hl
  exact hjo

set_option maxHeartbeats 1600000 in
theorem implMsgText_any (v : Value) (m : Ms) (S : Nat → Prop) (w : World) (htab : Lib.TabIs Tryz.prog w "internal/strconv.uint64pow10" .u64 Lib.pow10Tab) (h : MsAt w S v m) (hl : m.cell.kids.length ≤ 2000000) :
    Calls Tryz.prog 24 #[v] w fun e w' => e = .returned (.string ⟨m.textOf.toArray⟩) ∧ Below w.heap.size w w' := by
  obtain ⟨a, c, rfl⟩ := h.form
  obtain ⟨W0, hW0⟩ : ∃ W0, W0 = w.alloc (.cells (m.row (.slice a m.cell.kids.length c)) 28) := ⟨_, rfl⟩
  have B0 : Below w.heap.size w W0 := by rw [hW0]; exact (Below.refl _ w).alloc (Nat.le_refl _) _
  have O0 : W0.heap[w.heap.size]? = some (.cells (m.row (.slice a m.cell.kids.length c)) 28) := by rw [hW0]; exact (MapKept.heap_alloc w _).1
  have H0 := (show Hid (_ ∧ _ ∧ _ ∧ _) from ⟨h.below B0, B0, O0, hW0⟩)
  clear h B0 O0 hW0
  have hnot := ex_not
  go_enter Tryz.func24, Tryz.ntmps24
  go_wp2_with fail
  rw [← H0.out.2.2.2]
  refine (implMsgOk_any _ m S W0 H0.out.1).mono ?_
  rintro e w1 ⟨rfl, b1⟩
  have o1 := (b1.block _ (Array.getElem?_eq_some_iff.1 H0.out.2.2.1).1).trans H0.out.2.2.1
  have hbl : w.heap.size < w1.heap.size := (Array.getElem?_eq_some_iff.1 o1).1
  have H1 := (show Hid (_ ∧ _ ∧ _ ∧ _) from ⟨H0.out.1.below b1, H0.out.2.1.trans (b1.mono H0.out.2.1.size), o1, htab⟩)
  clear b1 o1 H0 htab
  cases hok : m.ok with
  | false =>
    have HB : Hid (m.textOf = []) := by unfold Ms.textOf; rw [hok]; exact rfl
    clear hok
    go_wp2
    all_goals (go_ret; exact ⟨by rw [HB.out]; exact rfl, H1.out.2.1⟩)
  | true =>
    have hkk := ok_kind hok
    have HO : Hid (Lib.join ((m.wordsA ++ m.wordsB).map (·.data.toList)) [32] = m.textOf) := msg_words hok
    have hka := kind_at hkk
    obtain ⟨y0, y1, y2, y3, y4, y5, y6, y7, y8⟩ := boxM H1.out.2.2.1
    obtain ⟨kv, hkv, ⟨i0, i1, i2, i3, i4⟩, i5, i6, i7, hk⟩ := H1.out.1
    have HJL : Hid ((Lib.join ((m.wordsA ++ m.wordsB).map (·.data.toList)) [32]).length ≤ 140737488355328) := by
      show _ ≤ _
      rw [HO.out]
      have hz : ∀ z ∈ m.cell.kids, inI64 z := fun z hz => by
        obtain ⟨a', c', _, _, hi⟩ := hk
        obtain ⟨j, hj⟩ := List.getElem?_of_mem hz
        obtain ⟨_, _, _, _, _, _, h64⟩ := hi j z hj
        exact h64
      have := msg_text_len m i1 i2 i3 i4 i6 i7 hz
      omega
    clear hok hkv hk y3 y4 y5 y6 y7 y8
    go_wp2_with fail
    obtain ⟨W2, hW2⟩ : ∃ W2, W2 = w1.alloc (.cells #[.string ⟨#[102, 101, 116, 99, 104]⟩, .string ⟨#[103, 105, 118, 101]⟩, .string ⟨#[102, 105, 115, 104]⟩, .string ⟨#[119, 111, 114, 107]⟩] 85) := ⟨_, rfl⟩
    rw [← hW2]
    have HB12 : Hid (Below w1.heap.size w1 W2) := by show Below _ _ _; rw [hW2]; exact (Below.refl _ w1).alloc (Nat.le_refl _) _
    have hb2 : Below w.heap.size w W2 := by rw [hW2]; exact H1.out.2.1.alloc (Nat.le_of_lt hbl) _
    have ho2 : W2.heap[w.heap.size]? = some (.cells (m.row (.slice a m.cell.kids.length c)) 28) := by rw [hW2]; exact (Below.heap_alloc w1 _ _ hbl).trans H1.out.2.2.1
    have hr2 : W2.heap[w1.heap.size]? = some (.cells #[.string ⟨#[102, 101, 116, 99, 104]⟩, .string ⟨#[103, 105, 118, 101]⟩, .string ⟨#[102, 105, 115, 104]⟩, .string ⟨#[119, 111, 114, 107]⟩] 85) := by rw [hW2]; exact (MapKept.heap_alloc w1 _).1
    have HZ := (show Hid (_ ∧ True) from ⟨(fun (wx : World) (hh : Below W2.heap.size W2 wx) => (by
      have e1 := (hh.block _ (Array.getElem?_eq_some_iff.1 ho2).1).trans ho2
      have e2 := (hh.block _ (Array.getElem?_eq_some_iff.1 hr2).1).trans hr2
      obtain ⟨z0, z1, z2, _⟩ := boxM e1
      refine ⟨z0, z1, z2, ?_⟩
      simp only [World.cell?, e2]
      exact hka : wx.cell? ⟨w.heap.size, 0, none⟩ = some (.int .i64 m.kind) ∧ wx.cell? ⟨w.heap.size, 1, none⟩ = some (.int .i64 m.frm) ∧ wx.cell? ⟨w.heap.size, 2, none⟩ = some (.int .i64 m.dst) ∧ wx.cell? ⟨w1.heap.size, m.kind.toNat, none⟩ = some (.string (kindW m.kind)))), trivial⟩)
    have HT := (show Hid (_ ∧ _ ∧ _ ∧ _) from ⟨(fun (wx : World) (hh : Below W2.heap.size W2 wx) => tabC_below H1.out.2.2.2 (hb2.trans (hh.mono hb2.size))), hb2, i1, i2⟩)
    have HX2 := (show Hid (_ ∧ True) from ⟨ho2, trivial⟩)
    clear ho2 hr2 hW2 y0 y1 y2
    have hkn : (m.kind.toNat : Int) = m.kind := by rcases hkk with h | h | h | h <;> rw [h] <;> rfl
    have hk0 : 0 ≤ m.kind := by omega
    have hk4 : m.kind < 4 := by omega
    have hk3 : m.kind ≤ 3 := by omega
    have hk5 : ¬ m.kind < 0 := by omega
    have hk6 : ¬ 4 ≤ m.kind := by omega
    have hk7 : m.kind.toNat < 4 := by omega
    go_region_held3 (fun w' => w'.cell? ⟨w.heap.size, 0, none⟩ = some (.int .i64 m.kind) ∧ w'.cell? ⟨w.heap.size, 1, none⟩ = some (.int .i64 m.frm) ∧ w'.cell? ⟨w.heap.size, 2, none⟩ = some (.int .i64 m.dst) ∧ w'.cell? ⟨w1.heap.size, m.kind.toNat, none⟩ = some (.string (kindW m.kind))) (first | exact HZ.out.1 _ H4.out.1 | exact HZ.out.1 _ H3.out.1 | exact HZ.out.1 _ ((Below.refl _ W2).drew) | exact HZ.out.1 _ (H4.out.1.alloc H4.out.1.size _)) (first
      | (go_at_call_of 53 (Value.int .i64 m.frm); refine (DecText_any m.frm _ HT.out.2.2.1.1 HT.out.2.2.1.2 (HT.out.1 _ ((Below.refl _ W2).drew))).mono ?_; rintro e w3 ⟨rfl, b3⟩; have H3 := (show Hid (Below W2.heap.size W2 w3 ∧ True) from ⟨((Below.refl _ W2).drew).trans b3, trivial⟩); clear b3)
      | (go_at_call_of 53 (Value.int .i64 m.dst); refine (DecText_any m.dst _ HT.out.2.2.2.1 HT.out.2.2.2.2 (HT.out.1 _ H3.out.1)).mono ?_; rintro e w4 ⟨rfl, b4⟩; have H4 := (show Hid (Below W2.heap.size W2 w4 ∧ True) from ⟨H3.out.1.trans (b4.mono H3.out.1.size), trivial⟩); clear b4))
    obtain ⟨W5, hW5⟩ : ∃ W5, W5 = w4.alloc (.cells #[.string (kindW m.kind), .string ⟨(Lib.itoa m.frm).toArray⟩, .string ⟨#[62]⟩, .string ⟨(Lib.itoa m.dst).toArray⟩] 9) := ⟨_, rfl⟩
    rw [← hW5]
    have hb4 : Below w.heap.size w w4 := HT.out.2.1.trans (H4.out.1.mono HT.out.2.1.size)
    have hb5 : Below W2.heap.size W2 W5 := by rw [hW5]; exact H4.out.1.alloc H4.out.1.size _
    have hb05 : Below w.heap.size w W5 := HT.out.2.1.trans (hb5.mono HT.out.2.1.size)
    have ho5 : W5.ownsRow w.heap.size 9 1 (.slice (some ⟨w4.heap.size, 0, none⟩) 4 4) 4 (strVs m.wordsA) := by
      refine ⟨rfl, .inr ⟨w4.heap.size, 4, #[.string (kindW m.kind), .string ⟨(Lib.itoa m.frm).toArray⟩, .string ⟨#[62]⟩, .string ⟨(Lib.itoa m.dst).toArray⟩], rfl, hb4.size, ?_, Nat.le_refl _, by unfold maxLen; omega, rfl, rfl⟩⟩
      rw [hW5]
      exact (MapKept.heap_alloc w4 _).1
    have hbox5 : W5.heap[w.heap.size]? = some (.cells (m.row (.slice a m.cell.kids.length c)) 28) := (hb5.block _ (Array.getElem?_eq_some_iff.1 HX2.out.1).1).trans HX2.out.1
    obtain ⟨y0, y1, y2, y3, y4, y5, y6, y7, y8⟩ := boxM hbox5
    have HV := (show Hid (_ ∧ _ ∧ _) from ⟨(fun (wx : World) (hh : Below W5.heap.size W5 wx) => (by
      have e1 := (hh.block _ (Array.getElem?_eq_some_iff.1 hbox5).1).trans hbox5
      obtain ⟨_, _, _, z3, z4, z5, z6, z7, z8⟩ := boxM e1
      exact ⟨z3, z4, z5, z6, z7, z8⟩ : wx.cell? ⟨w.heap.size, 3, none⟩ = some (.int .i64 m.id) ∧ wx.cell? ⟨w.heap.size, 4, none⟩ = some (.int .i64 m.want) ∧ wx.cell? ⟨w.heap.size, 5, none⟩ = some (.int .i64 m.cell.kind) ∧ wx.cell? ⟨w.heap.size, 6, none⟩ = some (.int .i64 m.cell.n) ∧ wx.cell? ⟨w.heap.size, 7, none⟩ = some (.int .i64 m.cell.pos) ∧ wx.cell? ⟨w.heap.size, 8, none⟩ = some (.slice a m.cell.kids.length c))), (fun (wx : World) (hh : Below W5.heap.size W5 wx) => HT.out.1 wx (hb5.trans (hh.mono hb5.size))), (fun (wx : World) (hh : Below W5.heap.size W5 wx) => H1.out.1.cellAt.belowM ((HB12.out.trans (hb5.mono HB12.out.size)).trans (hh.mono (HB12.out.trans (hb5.mono HB12.out.size)).size)))⟩)
    have H5 := (show Hid (_ ∧ _ ∧ _ ∧ _) from ⟨ho5, hb05, hb5, hbox5⟩)
    clear hW5 hb4 hb5 hb05 ho5 hbox5 hk0 hk4 hk3 hk5 hk6 hk7 hkn hka
    obtain ⟨i00, hi, hz0, hz1, hz2⟩ := info_parts infoStrM
    clear y1 y2
    rcases hkk with hk | hk | hk | hk
    · have HWB : Hid (m.wordsB = [⟨(Lib.itoa m.id).toArray⟩, ⟨(Lib.itoa m.want).toArray⟩]) := by show _ = _; unfold Ms.wordsB; simp [hk]
      have g0 : (m.kind == 0) = true := by rw [hk]; rfl
      clear hk
      go_wp2_with fail
      go_region_law (first
        | (refine step_call1 rfl 53 (.tmp 26) _ rfl ent_dec (.int .i64 m.id) (by simp [Act.eval]) (fun r w' => r = .string ⟨(Lib.itoa m.id).toArray⟩ ∧ Below W5.heap.size W5 w') ((DecText_any m.id _ i3.1 i3.2 (HV.out.2.1 _ ((Below.refl _ W5).drew))).mono (fun e w' h => ⟨_, h.1, rfl, ((Below.refl _ W5).drew).trans h.2⟩)) ?_; rintro r6 w6 ⟨rfl, b6⟩; obtain ⟨z3, z4, z5, z6, z7, z8⟩ := HV.out.1 _ b6; have H6 := (show Hid (Below W5.heap.size W5 w6 ∧ True) from ⟨b6, trivial⟩); clear b6)
        | (refine step_call1 rfl 53 (.tmp 29) _ rfl ent_dec (.int .i64 m.want) (by simp [Act.eval]) (fun r w' => r = .string ⟨(Lib.itoa m.want).toArray⟩ ∧ Below W5.heap.size W5 w') ((DecText_any m.want _ i4.1 i4.2 (HV.out.2.1 _ H6.out.1)).mono (fun e w' h => ⟨_, h.1, rfl, H6.out.1.trans (h.2.mono H6.out.1.size)⟩)) ?_; rintro r7 w7 ⟨rfl, b7⟩; have H7 := (show Hid (Below W5.heap.size W5 w7 ∧ True) from ⟨b7, trivial⟩); clear b7)
        | (refine step_append_row rfl (.tmp 24) (.tmp 31) 86 rfl w.heap.size 9 i00 (.string ⟨#[]⟩) 1 16 Tryz.underlying86 hi hz0 hz1 hz2 rfl (by decide) (.slice (some ⟨w4.heap.size, 0, none⟩) 4 4) 4 (strVs m.wordsA) (by simp [Act.eval]) ((own_moved H5.out.1 (fun g hg => H7.out.1.block g (own_lt H5.out.1 g hg))).alloc (.cells #[.string ⟨(Lib.itoa m.id).toArray⟩, .string ⟨(Lib.itoa m.want).toArray⟩] 9)) ⟨w7.heap.size, 0, none⟩ 2 2 [.string ⟨(Lib.itoa m.id).toArray⟩, .string ⟨(Lib.itoa m.want).toArray⟩] (by simp [Act.eval]) rfl (Go.cell_two_new w7 _ _ _) (by simp [Value.oneCell']) (by unfold maxLen; omega) (by omega) (by have := H7.out.1.size; have := H5.out.2.1.size; simp; omega) ?_; intro v8 w8 hown8 hgrow8 hat8))
      all_goals
        have hs7 := H7.out.1.size
        have hs5 := H5.out.2.1.size
        have hB8 : Below w.heap.size w w8 := ((H5.out.2.1.trans (H7.out.1.mono hs5)).alloc (by omega) (.cells #[.string ⟨(Lib.itoa m.id).toArray⟩, .string ⟨(Lib.itoa m.want).toArray⟩] 9)).grown hgrow8 (by simp; omega) (fun q hq => (own_type H5.out.1 q hq).1)
        have hrow8 : w8.ownsRow w.heap.size 9 1 v8 (m.wordsA ++ m.wordsB).length (strVs (m.wordsA ++ m.wordsB)) := by
          have e : m.wordsB = [⟨(Lib.itoa m.id).toArray⟩, ⟨(Lib.itoa m.want).toArray⟩] := HWB.out
          rw [e]
          exact hown8
        obtain ⟨g, gc, rfl, hjo⟩ := join_row w.heap.size v8 (m.wordsA ++ m.wordsB) w8 hrow8 (by rw [List.length_append, wordsA_len]; omega) (by rw [List.length_append, wordsA_len]; have := wordsB_len m; split at this <;> omega) HJL.out
        have HX := (show Hid (_ ∧ _) from ⟨hjo, hB8⟩)
        have hlen8 : (m.wordsA ++ m.wordsB).length = 6 := by
          have e : m.wordsB = [⟨(Lib.itoa m.id).toArray⟩, ⟨(Lib.itoa m.want).toArray⟩] := HWB.out
          rw [e]; rfl
        rw [hlen8] at HX
        clear hjo hB8 hrow8 hown8 hgrow8 hat8
        try rw [hlen8]
        clear hlen8
        go_wp2_with (go_at_call 55; refine HX.out.1.mono ?_; rintro e w9 ⟨rfl, b9⟩)
        go_ret
        exact ⟨by first | (rw [← List.map_append, HO.out]; rfl) | (rw [HO.out]; rfl), HX.out.2.trans (b9.mono HX.out.2.size)⟩
    · have HWB : Hid (m.wordsB = [⟨(Lib.itoa m.id).toArray⟩, ⟨m.cell.textOf.toArray⟩]) := by show _ = _; unfold Ms.wordsB; simp [hk]
      have g0 : (m.kind == 0) = false := by rw [hk]; rfl
      have g1 : (m.kind == 1) = true := by rw [hk]; rfl
      clear hk
      go_wp2_with fail
      go_region_law (first
        | (refine step_call1 rfl 53 (.tmp 38) _ rfl ent_dec (.int .i64 m.id) (by simp [Act.eval]) (fun r w' => r = .string ⟨(Lib.itoa m.id).toArray⟩ ∧ Below W5.heap.size W5 w') ((DecText_any m.id _ i3.1 i3.2 (HV.out.2.1 _ ((Below.refl _ W5).drew))).mono (fun e w' h => ⟨_, h.1, rfl, ((Below.refl _ W5).drew).trans h.2⟩)) ?_; rintro r6 w6 ⟨rfl, b6⟩; obtain ⟨z3, z4, z5, z6, z7, z8⟩ := HV.out.1 _ b6; have H6 := (show Hid (Below W5.heap.size W5 w6 ∧ True) from ⟨b6, trivial⟩); clear b6)
        | (refine step_call1 rfl 54 (.tmp 41) _ rfl ent_cellText (.agg #[.int .i64 m.cell.kind, .int .i64 m.cell.n, .int .i64 m.cell.pos, .slice a m.cell.kids.length c]) (by simp [Act.eval]) (fun r w' => r = .string ⟨m.cell.textOf.toArray⟩ ∧ Below W5.heap.size W5 w') ((implCellText_any _ m.cell S _ (HV.out.2.1 _ H6.out.1) (HV.out.2.2 _ H6.out.1) hl).mono (fun e w' h => ⟨_, h.1, rfl, H6.out.1.trans (h.2.mono H6.out.1.size)⟩)) ?_; rintro r7 w7 ⟨rfl, b7⟩; have H7 := (show Hid (Below W5.heap.size W5 w7 ∧ True) from ⟨b7, trivial⟩); clear b7)
        | (refine step_append_row rfl (.tmp 36) (.tmp 43) 86 rfl w.heap.size 9 i00 (.string ⟨#[]⟩) 1 16 Tryz.underlying86 hi hz0 hz1 hz2 rfl (by decide) (.slice (some ⟨w4.heap.size, 0, none⟩) 4 4) 4 (strVs m.wordsA) (by simp [Act.eval]) ((own_moved H5.out.1 (fun g hg => H7.out.1.block g (own_lt H5.out.1 g hg))).alloc (.cells #[.string ⟨(Lib.itoa m.id).toArray⟩, .string ⟨m.cell.textOf.toArray⟩] 9)) ⟨w7.heap.size, 0, none⟩ 2 2 [.string ⟨(Lib.itoa m.id).toArray⟩, .string ⟨m.cell.textOf.toArray⟩] (by simp [Act.eval]) rfl (Go.cell_two_new w7 _ _ _) (by simp [Value.oneCell']) (by unfold maxLen; omega) (by omega) (by have := H7.out.1.size; have := H5.out.2.1.size; simp; omega) ?_; intro v8 w8 hown8 hgrow8 hat8))
      all_goals
        have hs7 := H7.out.1.size
        have hs5 := H5.out.2.1.size
        have hB8 : Below w.heap.size w w8 := ((H5.out.2.1.trans (H7.out.1.mono hs5)).alloc (by omega) (.cells #[.string ⟨(Lib.itoa m.id).toArray⟩, .string ⟨m.cell.textOf.toArray⟩] 9)).grown hgrow8 (by simp; omega) (fun q hq => (own_type H5.out.1 q hq).1)
        have hrow8 : w8.ownsRow w.heap.size 9 1 v8 (m.wordsA ++ m.wordsB).length (strVs (m.wordsA ++ m.wordsB)) := by
          have e : m.wordsB = [⟨(Lib.itoa m.id).toArray⟩, ⟨m.cell.textOf.toArray⟩] := HWB.out
          rw [e]
          exact hown8
        obtain ⟨g, gc, rfl, hjo⟩ := join_row w.heap.size v8 (m.wordsA ++ m.wordsB) w8 hrow8 (by rw [List.length_append, wordsA_len]; omega) (by rw [List.length_append, wordsA_len]; have := wordsB_len m; split at this <;> omega) HJL.out
        have HX := (show Hid (_ ∧ _) from ⟨hjo, hB8⟩)
        have hlen8 : (m.wordsA ++ m.wordsB).length = 6 := by
          have e : m.wordsB = [⟨(Lib.itoa m.id).toArray⟩, ⟨m.cell.textOf.toArray⟩] := HWB.out
          rw [e]; rfl
        rw [hlen8] at HX
        clear hjo hB8 hrow8 hown8 hgrow8 hat8
        try rw [hlen8]
        clear hlen8
        go_wp2_with (go_at_call 55; refine HX.out.1.mono ?_; rintro e w9 ⟨rfl, b9⟩)
        go_ret
        exact ⟨by first | (rw [← List.map_append, HO.out]; rfl) | (rw [HO.out]; rfl), HX.out.2.trans (b9.mono HX.out.2.size)⟩
    · have HWB : Hid (m.wordsB = []) := by show _ = _; unfold Ms.wordsB; simp [hk]
      have g0 : (m.kind == 0) = false := by rw [hk]; rfl
      have g1 : (m.kind == 1) = false := by rw [hk]; rfl
      have g3 : (m.kind == 3) = false := by rw [hk]; rfl
      clear hk
      go_wp2_with fail
      have hrow8 : W5.ownsRow w.heap.size 9 1 (.slice (some ⟨w4.heap.size, 0, none⟩) 4 4) (m.wordsA ++ m.wordsB).length (strVs (m.wordsA ++ m.wordsB)) := by
        have e : m.wordsB = [] := HWB.out
        rw [e]
        exact H5.out.1
      obtain ⟨g, gc, hv, hjo⟩ := join_row w.heap.size _ (m.wordsA ++ m.wordsB) W5 hrow8 (by rw [List.length_append, wordsA_len]; omega) (by rw [List.length_append, wordsA_len]; have := wordsB_len m; split at this <;> omega) HJL.out
      have HX := (show Hid (_ ∧ _) from ⟨hjo, H5.out.2.1⟩)
      rw [← hv] at HX
      clear hjo hrow8
      refine HX.out.1.mono ?_
      rintro e w9 ⟨rfl, b9⟩
      go_wp2
      go_ret
      exact ⟨by first | (rw [← List.map_append, HO.out]; rfl) | (rw [HO.out]; rfl), HX.out.2.trans (b9.mono HX.out.2.size)⟩
    · have HWB : Hid (m.wordsB = [⟨(Lib.itoa m.id).toArray⟩, ⟨m.cell.textOf.toArray⟩]) := by show _ = _; unfold Ms.wordsB; simp [hk]
      have g0 : (m.kind == 0) = false := by rw [hk]; rfl
      have g1 : (m.kind == 1) = false := by rw [hk]; rfl
      have g3 : (m.kind == 3) = true := by rw [hk]; rfl
      clear hk
      go_wp2_with fail
      go_region_law (first
        | (refine step_call1 rfl 53 (.tmp 38) _ rfl ent_dec (.int .i64 m.id) (by simp [Act.eval]) (fun r w' => r = .string ⟨(Lib.itoa m.id).toArray⟩ ∧ Below W5.heap.size W5 w') ((DecText_any m.id _ i3.1 i3.2 (HV.out.2.1 _ ((Below.refl _ W5).drew))).mono (fun e w' h => ⟨_, h.1, rfl, ((Below.refl _ W5).drew).trans h.2⟩)) ?_; rintro r6 w6 ⟨rfl, b6⟩; obtain ⟨z3, z4, z5, z6, z7, z8⟩ := HV.out.1 _ b6; have H6 := (show Hid (Below W5.heap.size W5 w6 ∧ True) from ⟨b6, trivial⟩); clear b6)
        | (refine step_call1 rfl 54 (.tmp 41) _ rfl ent_cellText (.agg #[.int .i64 m.cell.kind, .int .i64 m.cell.n, .int .i64 m.cell.pos, .slice a m.cell.kids.length c]) (by simp [Act.eval]) (fun r w' => r = .string ⟨m.cell.textOf.toArray⟩ ∧ Below W5.heap.size W5 w') ((implCellText_any _ m.cell S _ (HV.out.2.1 _ H6.out.1) (HV.out.2.2 _ H6.out.1) hl).mono (fun e w' h => ⟨_, h.1, rfl, H6.out.1.trans (h.2.mono H6.out.1.size)⟩)) ?_; rintro r7 w7 ⟨rfl, b7⟩; have H7 := (show Hid (Below W5.heap.size W5 w7 ∧ True) from ⟨b7, trivial⟩); clear b7)
        | (refine step_append_row rfl (.tmp 36) (.tmp 43) 86 rfl w.heap.size 9 i00 (.string ⟨#[]⟩) 1 16 Tryz.underlying86 hi hz0 hz1 hz2 rfl (by decide) (.slice (some ⟨w4.heap.size, 0, none⟩) 4 4) 4 (strVs m.wordsA) (by simp [Act.eval]) ((own_moved H5.out.1 (fun g hg => H7.out.1.block g (own_lt H5.out.1 g hg))).alloc (.cells #[.string ⟨(Lib.itoa m.id).toArray⟩, .string ⟨m.cell.textOf.toArray⟩] 9)) ⟨w7.heap.size, 0, none⟩ 2 2 [.string ⟨(Lib.itoa m.id).toArray⟩, .string ⟨m.cell.textOf.toArray⟩] (by simp [Act.eval]) rfl (Go.cell_two_new w7 _ _ _) (by simp [Value.oneCell']) (by unfold maxLen; omega) (by omega) (by have := H7.out.1.size; have := H5.out.2.1.size; simp; omega) ?_; intro v8 w8 hown8 hgrow8 hat8))
      all_goals
        have hs7 := H7.out.1.size
        have hs5 := H5.out.2.1.size
        have hB8 : Below w.heap.size w w8 := ((H5.out.2.1.trans (H7.out.1.mono hs5)).alloc (by omega) (.cells #[.string ⟨(Lib.itoa m.id).toArray⟩, .string ⟨m.cell.textOf.toArray⟩] 9)).grown hgrow8 (by simp; omega) (fun q hq => (own_type H5.out.1 q hq).1)
        have hrow8 : w8.ownsRow w.heap.size 9 1 v8 (m.wordsA ++ m.wordsB).length (strVs (m.wordsA ++ m.wordsB)) := by
          have e : m.wordsB = [⟨(Lib.itoa m.id).toArray⟩, ⟨m.cell.textOf.toArray⟩] := HWB.out
          rw [e]
          exact hown8
        obtain ⟨g, gc, rfl, hjo⟩ := join_row w.heap.size v8 (m.wordsA ++ m.wordsB) w8 hrow8 (by rw [List.length_append, wordsA_len]; omega) (by rw [List.length_append, wordsA_len]; have := wordsB_len m; split at this <;> omega) HJL.out
        have HX := (show Hid (_ ∧ _) from ⟨hjo, hB8⟩)
        have hlen8 : (m.wordsA ++ m.wordsB).length = 6 := by
          have e : m.wordsB = [⟨(Lib.itoa m.id).toArray⟩, ⟨m.cell.textOf.toArray⟩] := HWB.out
          rw [e]; rfl
        rw [hlen8] at HX
        clear hjo hB8 hrow8 hown8 hgrow8 hat8
        try rw [hlen8]
        clear hlen8
        go_wp2_with (go_at_call 55; refine HX.out.1.mono ?_; rintro e w9 ⟨rfl, b9⟩)
        go_ret
        exact ⟨by first | (rw [← List.map_append, HO.out]; rfl) | (rw [HO.out]; rfl), HX.out.2.trans (b9.mono HX.out.2.size)⟩
end Go.Proofs.YtkfmkhhjkioeoaaGreatDoor
