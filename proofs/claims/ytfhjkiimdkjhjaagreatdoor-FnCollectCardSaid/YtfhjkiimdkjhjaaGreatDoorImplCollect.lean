/-
  The program's Collect.
-/
import Derived.Test.YtfhjkiimdkjhjaaGreatDoorMG
import Derived.Test.YtfhjkiimdkjhjaaGreatDoorAliveFrom
import Derived.Test.YtfhjkiimdkjhjaaGreatDoorStepCall
import Derived.Test.YtfhjkiimdkjhjaaGreatDoorME
namespace Go.Proofs.YtfhjkiimdkjhjaaGreatDoor
open Go.RowKit Go.Joins Go.Maps

set_option maxRecDepth 100000

theorem put_cell {W : World} {B g cap n k : Nat} {u : Value} {A D : List (Ce × Value)} {c : Ce} (h : HpAt W B (.slice (some ⟨g, 0, none⟩) n cap) (A ++ (c, u) :: D)) (hk : A.length = k) (i : Nat) (hi : i < 4) : (∃ v, W.cell? ⟨g, k * 4 + i, none⟩ = some v) ∧ W.frozen? ⟨g, k * 4 + i, none⟩ = false := by
  subst hk
  have hc := ce_mid A D c u i hi
  have h4 : i < (ceCells (c, u)).length := by simp [ceCells]; omega
  rw [List.getElem?_eq_getElem h4] at hc
  have := h.cells.cells (g := g) rfl (A.length * 4 + i) _ hc
  rw [addr_addI, Nat.zero_add] at this
  refine ⟨⟨_, this⟩, ?_⟩
  rcases h.cells.2 with ⟨h', _⟩ | ⟨g', cap', cur, h', _, hc', _⟩
  · simp at h'
  · simp only [Value.slice.injEq, Option.some.injEq, Addr.mk.injEq, and_true] at h'
    obtain ⟨rfl, _⟩ := h'
    exact unfrozen_of_block hc' _

set_option maxHeartbeats 12800000 in
theorem implCollect_any (v rv : Value) (es : List Ce) (rts : List Int) (S S2 : Nat → Prop) (w : World) (h : CellsAt w S v es) (h2 : IntsAt w S2 rv rts) (hn : bulkL es + rts.length ≤ 4194304) (hn2 : es.length ≤ 2000000) :
    Calls Tryz.prog 6 #[v, rv] w fun e w' => ∃ cv tv cs, e = .returned (.tuple #[cv, tv]) ∧ HpAt w' w.heap.size cv cs ∧ cs.map Prod.fst = collectC es rts ∧ w'.ownsRow w.heap.size 3 1 tv (collectR es rts).length (intVs (collectR es rts)) ∧ (∀ b, tv.ownBlock = some b → ¬ HpOwn cv cs b) ∧ Below w.heap.size w w' := by
  have hBA := @bulkL_at es
  have hmk := makeC_row es.length (by omega)
  have hends := endsOf_any v es S w h hn2
  obtain ⟨a, cap, rfl⟩ := h.form
  obtain ⟨ra, rcap, rfl⟩ := h2.form
  have HC := (show Hid (_ ∧ _ ∧ _) from ⟨h, h2, hends⟩)
  clear h h2 hends
  go_enter Tryz.func6, Tryz.ntmps6
  go_wp2_with (go_at_call 26; refine HC.out.2.2.mono ?_; rintro e w1 ⟨rfl, he1, hb1⟩; have HE := (show Hid (_ ∧ _) from ⟨he1, hb1⟩); have hg1 : w.heap.size < w1.heap.size := own_lt he1 _ rfl; clear he1 hb1)
  clear hmk
  have R0 := hp_room w1 w.heap.size es.length HE.out.2.size (by unfold maxLen; omega)
  have B0 : Below w.heap.size w (w1.alloc (.cells (madeCells #[.int .i64 0, .int .i64 0, .int .i64 0, .slice none 0 0] (es.length * 4)) 32)) := HE.out.2.alloc HE.out.2.size _
  have HR0 := (show Hid (_ ∧ _ ∧ _) from ⟨R0, B0, HE.out.1.alloc (.cells (madeCells #[.int .i64 0, .int .i64 0, .int .i64 0, .slice none 0 0] (es.length * 4)) 32)⟩)
  clear R0 B0 HE
  generalize hG : w1.heap.size = G at *
  have HG := (show Hid (_ ∧ True) from ⟨hG, trivial⟩)
  clear hG
  go_loopw [24] (fun i wr => ∃ (k : Nat) (ds : List (Ce × Value)), k ≤ es.length ∧ i = .int .i64 k ∧ ds.length = k ∧ ds.map Prod.fst = (es.take k).map (Ce.short es) ∧ HpAt wr w.heap.size (.slice (some ⟨G, 0, none⟩) es.length es.length) (ds ++ room (es.length - k)) ∧ wr.ownsRow w.heap.size 3 1 (.slice (some ⟨w.heap.size, 0, none⟩) es.length es.length) es.length (intVs (endsL es)) ∧ Below w.heap.size w wr) (fun i _ => es.length - (intOf i).toNat)
  case atStart => exact ⟨0, [], Nat.zero_le _, rfl, rfl, by simp, HR0.out.1, HR0.out.2.2, HR0.out.2.1⟩
  case round =>
    clear HR0
    obtain ⟨k, ds, hk, rfl, hdl, hmap, hhp, hen, hbw⟩ := hrel
    have hsz := hbw.size
    by_cases hkl : k < es.length
    · have he := List.getElem?_eq_getElem hkl
      have hbk := hBA he
      have htk := shortC_take es k he
      generalize es[k] = x at *
      obtain ⟨a0, cap0, hv0, -, hcc⟩ := HC.out.1
      obtain ⟨b, off, kv, ha0, hSb, hlt2, c0, c1, c2, c3, r1, r2, r3, hkk⟩ := hcc k x he
      cases hv0
      subst ha0
      rw [← hbw.cell (by exact hlt2)] at c0 c1 c2 c3
      have hki : ∀ z ∈ x.kids, inI64 z := by
        intro z hz
        obtain ⟨i, hi⟩ := List.getElem?_of_mem hz
        obtain ⟨_, _, _, _, hic⟩ := hkk
        obtain ⟨_, _, _, _, _, _, h64⟩ := hic i z hi
        exact h64
      have hkb := hkk.below hbw
      obtain ⟨ka, kc, rfl⟩ := hkk.form
      have hbx : x.bulk = x.kids.length := rfl
      have hbl : b < wr.heap.size := by omega
      have hbn : ¬ b = wr.heap.size := by omega
      have hlt' : ((k : Nat) : Int) < ((es.length : Nat) : Int) := by omega
      have hB1 : Below wr.heap.size wr (wr.alloc (.cells #[.int .i64 x.kind, .int .i64 x.n, .int .i64 x.pos, .slice ka x.kids.length kc] 32)).drew := ((Below.refl _ wr).alloc (Nat.le_refl _) _).drew
      have hO0 : (wr.alloc (.cells #[.int .i64 x.kind, .int .i64 x.n, .int .i64 x.pos, .slice ka x.kids.length kc] 32)).drew.heap[wr.heap.size]? = some (.cells #[.int .i64 x.kind, .int .i64 x.n, .int .i64 x.pos, .slice ka x.kids.length kc] 32 (0, 0)) := (MapKept.heap_alloc wr _).1
      have hs0 : (wr.alloc (.cells #[.int .i64 x.kind, .int .i64 x.n, .int .i64 x.pos, .slice ka x.kids.length kc] 32)).drew.heap.size = wr.heap.size + 1 := by simp
      have hto := toldBy_any _ es x.kids S (wr.alloc (.cells #[.int .i64 x.kind, .int .i64 x.n, .int .i64 x.pos, .slice ka x.kids.length kc] 32)).drew w.heap.size w.heap.size es.length (own_moved hen (fun g hg => hB1.block g (own_lt hen g hg))) (hkb.below hB1) hn2 (by omega)
      have HX := (show Hid (_ ∧ _ ∧ _ ∧ _ ∧ _ ∧ _) from ⟨hto, hO0, hhp, hen, hbw, hB1⟩)
      have HY := (show Hid (_ ∧ _ ∧ _ ∧ _) from ⟨htk, hmap, (⟨r1, r2, r3⟩ : inI64 x.kind ∧ inI64 x.n ∧ inI64 x.pos), hki⟩)
      clear hto hO0 hhp hen hbw hB1 hkk hkb he hcc r1 r2 r3 htk hmap hBA hki
      go_wp2_with fail
      have hroom : room (es.length - k) = (ce0, .slice none 0 0) :: room (es.length - k - 1) := by
        unfold room
        rw [show es.length - k = es.length - k - 1 + 1 by omega, List.replicate_succ]
        rfl
      have HRM := (show Hid (_ ∧ True) from ⟨hroom, trivial⟩)
      clear hroom
      generalize hW0 : wr.alloc (.cells #[.int .i64 x.kind, .int .i64 x.n, .int .i64 x.pos, .slice ka x.kids.length kc] 32) = W0 at *
      have HW0 := (show Hid (_ ∧ True) from ⟨hW0, trivial⟩)
      clear hW0
      have y0 : W0.cell? ⟨wr.heap.size, 0, none⟩ = some (.int .i64 x.kind) := by have := cell_of_block HX.out.2.1 0; exact this.trans rfl
      have y1 : W0.cell? ⟨wr.heap.size, 1, none⟩ = some (.int .i64 x.n) := by have := cell_of_block HX.out.2.1 1; exact this.trans rfl
      have y2 : W0.cell? ⟨wr.heap.size, 2, none⟩ = some (.int .i64 x.pos) := by have := cell_of_block HX.out.2.1 2; exact this.trans rfl
      have y3 : W0.cell? ⟨wr.heap.size, 3, none⟩ = some (.slice ka x.kids.length kc) := by have := cell_of_block HX.out.2.1 3; exact this.trans rfl
      have hG2 : G < wr.heap.size := own_lt HX.out.2.2.1.cells G rfl
      clear c0 c1 c2 c3
      go_region_with (first
        | (go_at_call 28; refine HX.out.1.mono ?_; rintro e w2 ⟨tv, rfl, ht2, hb2⟩; obtain ⟨tl, ta, tc, htl, rfl⟩ := own_formN ht2; have O2 := (hb2.block wr.heap.size (by rw [hs0]; omega)).trans HX.out.2.1; have z0 : w2.cell? ⟨wr.heap.size, 0, none⟩ = some (.int .i64 x.kind) := (by have := cell_of_block O2 0; exact this.trans rfl); have z1 : w2.cell? ⟨wr.heap.size, 1, none⟩ = some (.int .i64 x.n) := (by have := cell_of_block O2 1; exact this.trans rfl); have z2 : w2.cell? ⟨wr.heap.size, 2, none⟩ = some (.int .i64 x.pos) := (by have := cell_of_block O2 2; exact this.trans rfl); have z3 : w2.cell? ⟨wr.heap.size, 3, none⟩ = some (.slice ka x.kids.length kc) := (by have := cell_of_block O2 3; exact this.trans rfl); have HT2 := (show Hid (_ ∧ _ ∧ _) from ⟨ht2, hb2, htl⟩); clear ht2 hb2 htl O2)
        | (go_at_call 27; refine (withKids_any x _ _ _ ka ta _ _ _ _ rfl rfl).mono ?_; rintro e w3 ⟨rfl, hb3⟩; have hp3 := ((HX.out.2.2.1.below HX.out.2.2.2.2.2).below HT2.out.2.1).below hb3; rw [HRM.out.1] at hp3; obtain ⟨⟨u0, d0⟩, f0⟩ := put_cell hp3 hdl 0 (by omega); obtain ⟨⟨u1, d1⟩, f1⟩ := put_cell hp3 hdl 1 (by omega); obtain ⟨⟨u2, d2⟩, f2⟩ := put_cell hp3 hdl 2 (by omega); obtain ⟨⟨u3, d3⟩, f3⟩ := put_cell hp3 hdl 3 (by omega); rw [Nat.add_zero] at d0 f0; have HP3 := (show Hid (_ ∧ _) from ⟨hp3, hb3⟩); clear hp3 hb3))
      all_goals
        have hx3 : w3.ownsRow w.heap.size 3 1 (.slice ta tl tc) (Ce.short es x).kids.length (intVs (Ce.short es x).kids) := by
          have h1 := own_moved HT2.out.1 (fun g hg => HP3.out.2.block g (own_lt HT2.out.1 g hg))
          show w3.ownsRow w.heap.size 3 1 (.slice ta tl tc) (shortL es x.kids).length (intVs (shortL es x.kids))
          rw [shortL_len]
          exact own_mono h1 (by rw [hs0]; omega)
        have hput := HP3.out.1.put (kv := .slice ta tl tc) (x := Ce.short es x) (by rw [List.length_append, List.length_cons, hdl]; simp [room]; omega) hx3 ⟨HY.out.2.2.1.1, HY.out.2.2.1.2.1, HY.out.2.2.1.2.2, shortL_in HY.out.2.2.2 (by omega)⟩ (fun r hr => by
          cases hb : r.2.ownBlock with
          | none => exact .inl hb
          | some q =>
            refine .inr fun e => ?_
            have hr' : r ∈ ds ++ room (es.length - k) := by
              rw [HRM.out.1]
              rw [List.mem_append] at hr ⊢
              rcases hr with hr | hr
              · exact .inl hr
              · exact .inr (by simp [hr])
            have h4 := own_lt (HX.out.2.2.1.kids r hr').1 q hb
            have h5 := (own_type HT2.out.1 q (e.symm.trans hb)).1
            rw [hs0] at h5
            omega)
        rw [hdl] at hput
        have hbw3 : Below w.heap.size w w3 := ((HX.out.2.2.2.2.1.trans (HX.out.2.2.2.2.2.mono hsz)).trans (HT2.out.2.1.mono (by rw [hs0]; omega))).trans (HP3.out.2.mono (by have := HT2.out.2.1.size; rw [hs0] at this; omega))
        have hen3 := own_moved HX.out.2.2.2.1 (fun g hg => ((HP3.out.2.block g (by have := own_lt HX.out.2.2.2.1 g hg; have := HT2.out.2.1.size; rw [hs0] at this; omega)).trans (HT2.out.2.1.block g (by have := own_lt HX.out.2.2.2.1 g hg; rw [hs0]; omega))).trans (HX.out.2.2.2.2.2.block g (own_lt HX.out.2.2.2.1 g hg)))
        have hen4 : ((((w3.setCell ⟨G, k * 4, none⟩ (.int .i64 x.kind)).setCell ⟨G, k * 4 + 1, none⟩ (.int .i64 x.n)).setCell ⟨G, k * 4 + 2, none⟩ (.int .i64 x.pos)).setCell ⟨G, k * 4 + 3, none⟩ (.slice ta tl tc)).ownsRow w.heap.size 3 1 (.slice (some ⟨w.heap.size, 0, none⟩) es.length es.length) es.length (intVs (endsL es)) := own_moved hen3 (fun q hq => by
          have hne : ∀ (j : Nat), q ≠ (⟨G, j, none⟩ : Addr).block := fun j e => own_ne hen3 HP3.out.1.cells (by decide) q hq (congrArg some e)
          rw [Below.heap_setCell _ _ _ _ (hne _), Below.heap_setCell _ _ _ _ (hne _), Below.heap_setCell _ _ _ _ (hne _), Below.heap_setCell _ _ _ _ (hne _)])
        have hbw4 : Below w.heap.size w ((((w3.setCell ⟨G, k * 4, none⟩ (.int .i64 x.kind)).setCell ⟨G, k * 4 + 1, none⟩ (.int .i64 x.n)).setCell ⟨G, k * 4 + 2, none⟩ (.int .i64 x.pos)).setCell ⟨G, k * 4 + 3, none⟩ (.slice ta tl tc)) :=
          (((hbw3.setCell (p := ⟨G, k * 4, none⟩) (by simp; omega) _).setCell (p := ⟨G, k * 4 + 1, none⟩) (by simp; omega) _).setCell (p := ⟨G, k * 4 + 2, none⟩) (by simp; omega) _).setCell (p := ⟨G, k * 4 + 3, none⟩) (by simp; omega) _
        have HF := (show Hid (_ ∧ _ ∧ _) from ⟨hput, hen4, hbw4⟩)
        clear hx3 hput hbw3 hen3 hen4 hbw4 y0 y1 y2 y3 z0 z1 z2 z3 d0 d1 d2 d3 f0 f1 f2 f3
        go_wp2
        refine ⟨⟨k + 1, ds ++ [(Ce.short es x, .slice ta tl tc)], by omega, by go_num, by rw [List.length_append, List.length_singleton, hdl], by rw [List.map_append, HY.out.2.1, HY.out.1]; rfl, ?_, HF.out.2.1, HF.out.2.2⟩, by simp [intOf]; omega⟩
        rw [List.append_assoc, List.singleton_append, show es.length - (k + 1) = es.length - k - 1 by omega]
        exact HF.out.1
    · obtain rfl : k = es.length := by omega
      rw [List.take_length] at hmap
      rw [Nat.sub_self, show room 0 = [] from rfl, List.append_nil] at hhp
      have hto := toldBy_any _ es rts S2 wr w.heap.size w.heap.size es.length hen (HC.out.2.1.below hbw) hn2 (by omega)
      have HX := (show Hid (_ ∧ _ ∧ _ ∧ _) from ⟨hto, hhp, hmap, hbw⟩)
      clear hto hhp hen hmap hbw hBA
      go_wp2_with (go_at_call 28; refine HX.out.1.mono ?_; rintro e w2 ⟨tv, rfl, ht2, hb2⟩; obtain ⟨tl, ta, tc, htl, rfl⟩ := own_formN ht2; have HT2 := (show Hid (_ ∧ _ ∧ _) from ⟨ht2, hb2, htl⟩); clear ht2 hb2 htl)
      have hrtl : (shortL es rts).length = rts.length := shortL_len es rts
      have hcl : (shortC es).length = es.length := by simp [shortC]
      have htin : ∀ z ∈ shortL es rts, inI64 z := by
        refine shortL_in (fun z hz => ?_) (by omega)
        obtain ⟨i, hi⟩ := List.getElem?_of_mem hz
        obtain ⟨_, _, _, _, hic⟩ := HC.out.2.1
        obtain ⟨_, _, _, _, _, _, h64⟩ := hic i z hi
        exact h64
      have hmp : ds.map Prod.fst = shortC es := HX.out.2.2.1
      have hhp2 := HX.out.2.1.below HT2.out.2.1
      have hca2 := hhp2.at
      rw [hmp] at hca2
      have hti2 : IntsAt w2 (fun b => wr.heap.size ≤ b ∧ Pl w2 b) (.slice ta tl tc) (shortL es rts) := ow_ints (by rw [hrtl]; exact HT2.out.1) htin
      have hal := aliveFrom_any _ _ (shortC es) (shortL es rts) _ _ w2 hca2 hti2 (by omega)
      have hbw2 : Below w.heap.size w w2 := HX.out.2.2.2.trans (HT2.out.2.1.mono hsz)
      have HY := (show Hid (_ ∧ _ ∧ _ ∧ _ ∧ _) from ⟨hal, hhp2, hti2, hbw2, hmp⟩)
      clear hal hhp2 hti2 hbw2 hmp hca2 htin HX HC
      refine HY.out.1.mono ?_
      rintro e w3 ⟨M, n, rfl, hM, hnn, him, hb3⟩
      have hml : (marksOf (shortC es) (shortL es rts)).length = es.length := by rw [marksOf_len, hcl]
      have hcd : collectTo es rts = toOf 0 (marksOf (shortC es) (shortL es rts)) := rfl
      have hcc : collectC es rts = (keepT (shortC es) (marksOf (shortC es) (shortL es rts))).map (Ce.moved (toOf 0 (marksOf (shortC es) (shortL es rts)))) := rfl
      have hcr : collectR es rts = movedL (toOf 0 (marksOf (shortC es) (shortL es rts))) (shortL es rts) := rfl
      have HCD := (show Hid (_ ∧ _ ∧ _) from ⟨hcd, hcc, hcr⟩)
      clear hcd hcc hcr
      generalize marksOf (shortC es) (shortL es rts) = bs at *
      have hsz2 := HY.out.2.2.2.1.size
      have hhp3 := HY.out.2.1.below hb3
      have hca3 := hhp3.at
      rw [HY.out.2.2.2.2] at hca3
      have hti3 := HY.out.2.2.1.below hb3
      have hbw3 : Below w.heap.size w w3 := HY.out.2.2.2.1.trans (hb3.mono hsz2)
      have H3 := (show Hid (_ ∧ _ ∧ _ ∧ _) from ⟨him, hca3, hti3, hbw3⟩)
      clear him hca3 hti3 hbw3 hhp3 hb3 HY HT2
      obtain ⟨i0, hi, hz0, hz1, hz2⟩ := info_parts infoCell
      have hBS := @bulkL_at (shortC es)
      have hsb : bulkL (shortC es) = bulkL es := by
        rw [bulkL_eq, bulkL_eq, hcl]
        congr 1
        unfold shortC
        rw [List.map_map]
        congr 1
        refine List.map_congr_left fun c _ => ?_
        show (shortL es c.kids).length = c.kids.length
        exact shortL_len es c.kids
      rw [hsb] at hBS
      clear hsb
      go_wp2
      generalize hto : toOf 0 bs = to at *
      have htol : to.length = es.length := by rw [← hto, toOf_len, hml]
      have hoin : ∀ z ∈ to, inI64 z := fun z hz => by
        rw [← hto] at hz
        have := toOf_in bs 0 (by omega) z hz
        exact ⟨by omega, by omega⟩
      have HTO := (show Hid (_ ∧ _) from ⟨hto, hoin⟩)
      clear hto hoin
      go_loopw [12, 47] (fun ov i wr => ∃ (k : Nat) (rs' : List (Ce × Value)), k ≤ es.length ∧ i = .int .i64 k ∧ rs'.length ≤ k ∧ rs'.map Prod.fst = (keepT ((shortC es).take k) (bs.take k)).map (Ce.moved to) ∧ HpAt wr w3.heap.size ov rs' ∧ Below w3.heap.size w3 wr) (fun _ i _ => es.length - (intOf i).toNat)
      case atStart => exact ⟨0, [], Nat.zero_le _, rfl, Nat.zero_le _, by simp [keepT], ⟨⟨rfl, .inl ⟨rfl, rfl⟩⟩, fun r hr => by simp at hr, by simp⟩, Below.refl _ _⟩
      case round =>
        obtain ⟨k, rs', hk, rfl, hrl, hmap, hrow, hbw⟩ := hrel
        have hsz4 := hbw.size
        by_cases hkl : k < es.length
        · have hlt' : ((k : Nat) : Int) < ((es.length : Nat) : Int) := by omega
          have he := List.getElem?_eq_getElem (l := bs) (i := k) (by omega)
          have hex := List.getElem?_eq_getElem (l := shortC es) (i := k) (by omega)
          have hbk := hBS hex
          generalize (shortC es)[k] = x at *
          have htk : (shortC es).take (k + 1) = (shortC es).take k ++ [x] := take_snoc _ k hex
          have hll : ((shortC es).take k).length = (bs.take k).length := by rw [List.length_take, List.length_take, hcl, hml]
          have hki : inI64 (k : Int) := inI64_small (by omega) (by omega)
          have hIM := H3.out.1.block (hbw.block M H3.out.1.lt)
          have hfa : (fAlive bs (k : Int)).isSome = bs[k] := by
            unfold fAlive
            rw [if_pos (by omega), Int.toNat_natCast, he]
            cases bs[k] <;> rfl
          obtain ⟨a0, cap0, hv0, -, hcc⟩ := H3.out.2.1
          obtain ⟨b, off, kv, ha0, hSb, hlt2, c0, c1, c2, c3, r1, r2, r3, hkk⟩ := hcc k x hex
          simp only [Value.slice.injEq] at hv0
          obtain ⟨rfl, -, rfl⟩ := hv0
          simp only [Option.some.injEq, Addr.mk.injEq, and_true] at ha0
          obtain ⟨rfl, rfl⟩ := ha0
          rw [← hbw.cell (by exact hlt2), Nat.zero_add] at c0 c1 c2 c3
          have hkb := hkk.below hbw
          obtain ⟨ka, kc, rfl⟩ := hkk.form
          have hbx : x.bulk = x.kids.length := rfl
          have hbl : G < wr.heap.size := by omega
          have hbn : ¬ G = wr.heap.size := by omega
          obtain ⟨fv, hfv⟩ : ∃ fv, (fAlive bs (k : Int)).getD 0 = fv := ⟨_, rfl⟩
          cases hbv : bs[k] with
          | true =>
            rw [hbv] at he hfa
            have hkeep : (keepT ((shortC es).take (k + 1)) (bs.take (k + 1))).map (Ce.moved to) = (keepT ((shortC es).take k) (bs.take k)).map (Ce.moved to) ++ [Ce.moved to x] := by
              rw [htk, take_snoc bs k he, keepT_app _ _ _ _ hll, List.map_append]
              rfl
            have hB1 : Below wr.heap.size wr (wr.alloc (.cells #[.int .i64 x.kind, .int .i64 x.n, .int .i64 x.pos, .slice ka x.kids.length kc] 32)).drew := ((Below.refl _ wr).alloc (Nat.le_refl _) _).drew
            have hO0 : (wr.alloc (.cells #[.int .i64 x.kind, .int .i64 x.n, .int .i64 x.pos, .slice ka x.kids.length kc] 32)).drew.heap[wr.heap.size]? = some (.cells #[.int .i64 x.kind, .int .i64 x.n, .int .i64 x.pos, .slice ka x.kids.length kc] 32 (0, 0)) := (MapKept.heap_alloc wr _).1
            have hs0 : (wr.alloc (.cells #[.int .i64 x.kind, .int .i64 x.n, .int .i64 x.pos, .slice ka x.kids.length kc] 32)).drew.heap.size = wr.heap.size + 1 := by simp
            have him2 := H3.out.1.block (hbw.block M H3.out.1.lt)
            have hnp := newPlaces_any _ x.kids _ (wr.alloc (.cells #[.int .i64 x.kind, .int .i64 x.n, .int .i64 x.pos, .slice ka x.kids.length kc] 32)).drew M n bs (him2.block (hB1.block M him2.lt)) (hkb.below hB1) (by omega)
            rw [HTO.out.1] at hnp
            obtain ⟨ol, oa, oc, hol, hov⟩ := own_formN hrow.cells
            subst hov
            have hlk2 : ∀ o : Obj, (Instr.lookup 48 (.map (some M)) (.int .i64 (k : Int)) true).run Tryz.prog (wr.alloc o) = .ok (.tuple #[.int .i64 fv, .bool true]) (wr.alloc o) := fun o => by
              have h := (hIM.alloc o).look_ok hki
              rw [hfa, hfv] at h
              exact h
            have HX := (show Hid (_ ∧ _ ∧ _ ∧ _ ∧ _) from ⟨hnp, hO0, hrow, hbw, hB1⟩)
            have HY := (show Hid (_ ∧ _ ∧ _ ∧ _) from ⟨hkeep, hmap, (⟨r1, r2, r3⟩ : inI64 x.kind ∧ inI64 x.n ∧ inI64 x.pos), hol⟩)
            clear hnp hO0 hrow hbw hB1 hkk hkb he hcc r1 r2 r3 htk hmap hkeep hll hbv hfa him2 hex hBS hol hIM hfv
            go_wp2_with fail
            generalize hW0 : wr.alloc (.cells #[.int .i64 x.kind, .int .i64 x.n, .int .i64 x.pos, .slice ka x.kids.length kc] 32) = W0 at *
            have HW0 := (show Hid (_ ∧ True) from ⟨hW0, trivial⟩)
            clear hW0
            have y0 : W0.cell? ⟨wr.heap.size, 0, none⟩ = some (.int .i64 x.kind) := by have := cell_of_block HX.out.2.1 0; exact this.trans rfl
            have y1 : W0.cell? ⟨wr.heap.size, 1, none⟩ = some (.int .i64 x.n) := by have := cell_of_block HX.out.2.1 1; exact this.trans rfl
            have y2 : W0.cell? ⟨wr.heap.size, 2, none⟩ = some (.int .i64 x.pos) := by have := cell_of_block HX.out.2.1 2; exact this.trans rfl
            have y3 : W0.cell? ⟨wr.heap.size, 3, none⟩ = some (.slice ka x.kids.length kc) := by have := cell_of_block HX.out.2.1 3; exact this.trans rfl
            clear c0 c1 c2 c3 hlk2
            go_region_law (first
              | (refine step_call2 rfl 30 (.tmp 61) (.tmp 63) _ rfl ent_new (.map (some M)) (.slice ka x.kids.length kc) (by simp [Act.eval]) (by simp [Act.eval]) (fun r w' => w'.ownsRow W0.drew.heap.size 3 1 r x.kids.length (intVs (movedL to x.kids)) ∧ Below W0.drew.heap.size W0.drew w') HX.out.1 ?_; rintro mv w5 ⟨ho5, hb5⟩; obtain ⟨ml, ma, mc, hml5, rfl⟩ := own_formN ho5; have O5 := (hb5.block wr.heap.size (by rw [hs0]; omega)).trans HX.out.2.1; have z0 : w5.cell? ⟨wr.heap.size, 0, none⟩ = some (.int .i64 x.kind) := (by have := cell_of_block O5 0; exact this.trans rfl); have z1 : w5.cell? ⟨wr.heap.size, 1, none⟩ = some (.int .i64 x.n) := (by have := cell_of_block O5 1; exact this.trans rfl); have z2 : w5.cell? ⟨wr.heap.size, 2, none⟩ = some (.int .i64 x.pos) := (by have := cell_of_block O5 2; exact this.trans rfl); have z3 : w5.cell? ⟨wr.heap.size, 3, none⟩ = some (.slice ka x.kids.length kc) := (by have := cell_of_block O5 3; exact this.trans rfl); have H5 := (show Hid (_ ∧ _ ∧ _) from ⟨ho5, hb5, hml5⟩); clear ho5 hb5 hml5 O5)
              | (refine step_call2 rfl 27 (.tmp 60) (.tmp 64) _ rfl ent_with (.agg #[.int .i64 x.kind, .int .i64 x.n, .int .i64 x.pos, .slice ka x.kids.length kc]) (.slice ma ml mc) (by simp [Act.eval]) (by simp [Act.eval]) (fun r w' => r = .agg #[.int .i64 x.kind, .int .i64 x.n, .int .i64 x.pos, .slice ma ml mc] ∧ Below w5.heap.size w5 w') ((withKids_any x _ _ w5 ka ma _ _ _ _ rfl rfl).mono (fun e w' h => ⟨_, h.1, rfl, h.2⟩)) ?_; rintro r6 w6 ⟨rfl, hb6⟩; have H6 := (show Hid (_ ∧ True) from ⟨hb6, trivial⟩); clear hb6)
              | (refine step_append_row rfl (.tmp 59) (.tmp 66) 24 rfl w3.heap.size 32 i0 _ 4 48 Tryz.underlying24 hi hz0 hz1 hz2 rfl (by decide) (.slice oa ol oc) rs'.length _ (by simp [Act.eval]) (((((HX.out.2.2.1.below HX.out.2.2.2.2).below H5.out.2.1).below H6.out.1).alloc (.cells #[.int .i64 x.kind, .int .i64 x.n, .int .i64 x.pos, .slice ma ml mc] 32)).cells) ⟨w6.heap.size, 0, none⟩ 1 1 (ceCells (Ce.moved to x, .slice ma ml mc)) (by simp [Act.eval]) rfl (cell_four5 w6 _ _ _ _ _) (four_ok _ _ _ _) (by unfold maxLen; omega) (by omega) (by have h1 := H5.out.2.1.size; have h2 := H6.out.1.size; rw [hs0] at h1; simp; omega) ?_; intro v7 w7 hown7 hgrow7 hat7))
            all_goals
              have hW6 := ((HX.out.2.2.1.below HX.out.2.2.2.2).below H5.out.2.1).below H6.out.1
              have h5s := H5.out.2.1.size
              have h6s := H6.out.1.size
              rw [hs0] at h5s
              have hk6 := own_moved H5.out.1 (fun g hg => H6.out.1.block g (own_lt H5.out.1 g hg))
              have hP := HpAt.push (x := Ce.moved to x) (kv := .slice ma ml mc) (hW6.alloc (.cells #[.int .i64 x.kind, .int .i64 x.n, .int .i64 x.pos, .slice ma ml mc] 32)) hown7 hgrow7 (by
                  show World.ownsRow _ _ _ _ _ (movedL to x.kids).length (intVs (movedL to x.kids))
                  rw [movedL_len]
                  exact own_mono (hk6.alloc _) (by rw [hs0]; omega)) ⟨HY.out.2.2.1.1, HY.out.2.2.1.2.1, HY.out.2.2.1.2.2, movedL_in to HTO.out.2 x.kids⟩ (fun r hr => by
                  cases hb : r.2.ownBlock with
                  | none => exact .inl hb
                  | some q =>
                    refine .inr fun e => ?_
                    have h4 := own_lt (HX.out.2.2.1.kids r hr).1 q hb
                    have h5 := (own_type H5.out.1 q (e.symm.trans hb)).1
                    rw [hs0] at h5
                    omega)
              have hB6 : Below w3.heap.size w3 w6 := ((HX.out.2.2.2.1.trans (HX.out.2.2.2.2.mono hsz4)).trans (H5.out.2.1.mono (by rw [hs0]; omega))).trans (H6.out.1.mono (by omega))
              have hB7 : Below w3.heap.size w3 w7 := (hB6.alloc (by omega) (.cells #[.int .i64 x.kind, .int .i64 x.n, .int .i64 x.pos, .slice ma ml mc] 32)).grown hgrow7 (by simp; omega) (fun q hq => (own_type hW6.cells q hq).1)
              have HF := (show Hid (_ ∧ _) from ⟨hP, hB7⟩)
              clear hP hB6 hB7 hW6 hk6 hown7 hgrow7 hat7 y0 y1 y2 y3 z0 z1 z2 z3
              go_wp2
              refine ⟨⟨k + 1, rs' ++ [(Ce.moved to x, .slice ma ml mc)], by omega, by go_num, by rw [List.length_append, List.length_singleton]; omega, by rw [List.map_append, HY.out.2.1, HY.out.1]; rfl, HF.out.1, HF.out.2⟩, by simp [intOf]; omega⟩
          | false =>
            rw [hbv] at he hfa
            have hkeep : (keepT ((shortC es).take (k + 1)) (bs.take (k + 1))).map (Ce.moved to) = (keepT ((shortC es).take k) (bs.take k)).map (Ce.moved to) := by
              rw [htk, take_snoc bs k he, keepT_app _ _ _ _ hll, List.map_append]
              simp [keepT]
            have hlk2 : ∀ o : Obj, (Instr.lookup 48 (.map (some M)) (.int .i64 (k : Int)) true).run Tryz.prog (wr.alloc o) = .ok (.tuple #[.int .i64 fv, .bool false]) (wr.alloc o) := fun o => by
              have h := (hIM.alloc o).look_ok hki
              rw [hfa, hfv] at h
              exact h
            have HX := (show Hid (_ ∧ _ ∧ _ ∧ _) from ⟨hkeep, hmap, hrow.alloc (.cells #[.int .i64 x.kind, .int .i64 x.n, .int .i64 x.pos, .slice ka x.kids.length kc] 32), hbw.alloc hsz4 (.cells #[.int .i64 x.kind, .int .i64 x.n, .int .i64 x.pos, .slice ka x.kids.length kc] 32)⟩)
            clear he hex htk hmap hrow hbw hBS hkeep hll hbv hfa hkk hkb hcc hIM hfv
            go_wp2
            refine ⟨⟨k + 1, rs', by omega, by go_num, by omega, ?_, HX.out.2.2.1, HX.out.2.2.2⟩, by simp [intOf]; omega⟩
            rw [HX.out.1]
            exact HX.out.2.1
        · obtain rfl : k = es.length := by omega
          rw [List.take_of_length_le (by omega), List.take_of_length_le (by omega)] at hmap
          obtain ⟨ol, oa, oc, hol, hov⟩ := own_formN hrow.cells
          subst hov
          have hIM := H3.out.1.block (hbw.block M H3.out.1.lt)
          have hnp := newPlaces_any _ (shortL es rts) _ wr M n bs hIM (H3.out.2.2.1.below hbw) (by omega)
          rw [HTO.out.1] at hnp
          have HX := (show Hid (_ ∧ _ ∧ _ ∧ _) from ⟨hmap, hrow, hnp, H3.out.2.2.2.trans (hbw.mono H3.out.2.2.2.size)⟩)
          have hs3 := H3.out.2.2.2.size
          clear hmap hrow hbw hBS hIM hnp hol
          have HZ := (show Hid (_ ∧ True) from ⟨hrtl, trivial⟩)
          clear hrtl
          go_wp2_with (go_at_call 30; refine (Calls.mono (by have h := HX.out.2.2.1; rw [HZ.out.1] at h; exact h) ?_); rintro e w7 ⟨mv, rfl, ho7, hb7⟩; obtain ⟨ml, ma, mc, hml7, rfl⟩ := own_formN ho7; have H7 := (show Hid (_ ∧ _) from ⟨ho7, hb7⟩); clear ho7 hb7 hml7)
          go_ret2
          have hH7 := HX.out.2.1.below H7.out.2
          have hsw := HX.out.2.2.2.size
          refine ⟨_, _, rs', rfl, ⟨own_mono hH7.cells (by omega), fun r hr => ⟨own_mono (hH7.kids r hr).1 (by omega), (hH7.kids r hr).2⟩, hH7.apart⟩, ?_, ?_, ?_, HX.out.2.2.2.trans (H7.out.2.mono hsw)⟩
          · rw [HCD.out.2.1]
            exact HX.out.1
          · rw [HCD.out.2.2, movedL_len, HZ.out.1]
            exact own_mono H7.out.1 hsw
          · intro q hq hown
            have h1 := (own_type H7.out.1 q hq).1
            have h2 := (HX.out.2.1.own hown).2
            omega
end Go.Proofs.YtfhjkiimdkjhjaaGreatDoor
