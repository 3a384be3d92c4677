/-
  The specification's Collect.
-/
import Derived.Test.YthjpmdoljceaiaaSpecShort
import Derived.Test.YthjpmdoljceaiaaSpecMark
import Derived.Test.YthjpmdoljceaiaaHpRow
import Derived.Test.YthjpmdoljceaiaaInts
namespace Go.Proofs.Ythjpmdoljceaiaa
open Go.RowKit Go.Joins

set_option maxRecDepth 100000

theorem cell_four5 (w : World) (x y z u : Value) (t : TypeId) : ∀ j v, [x, y, z, u][j]? = some v → (w.alloc (.cells #[x, y, z, u] t)).cell? ((⟨w.heap.size, 0, none⟩ : Addr).add j) = some v := by
  intro j v hj
  rw [addr_addI, cell_of_block (MapKept.heap_alloc w _).1, Nat.zero_add]
  simpa using hj
theorem four_ok (x : Ce) (a : Option Addr) (n c : Nat) : ∀ u ∈ ceCells (x, .slice a n c), u.oneCell' = true := by
  intro u hu
  simp only [ceCells, List.mem_cons, List.not_mem_nil, or_false] at hu
  rcases hu with rfl | rfl | rfl | rfl <;> rfl
theorem hp_nil (w : World) (B : Nat) (h : B ≤ w.heap.size) : HpAt (w.alloc (.cells #[] 42)) B (.slice (some ⟨w.heap.size, 0, none⟩) 0 0) [] :=
  ⟨World.ownsRow_made (size := 4) (e := 42) w #[] 0 h (Nat.zero_le _) (by simp), fun r hr => by simp at hr, by simp⟩
theorem shortC_take (es : List Ce) (k : Nat) {c : Ce} (h : es[k]? = some c) : (es.take (k + 1)).map (Ce.short es) = (es.take k).map (Ce.short es) ++ [Ce.short es c] := by
  have hk := (List.getElem?_eq_some_iff.1 h).1
  rw [List.take_succ_eq_append_getElem hk, List.map_append, (List.getElem?_eq_some_iff.1 h).2]
  rfl

set_option maxHeartbeats 12800000 in
theorem specCollect_any (v rv : Value) (es : List Ce) (rts : List Int) (S S2 : Nat → Prop) (w : World) (h : CellsAt w S v es) (h2 : IntsAt w S2 rv rts) (hn : bulkL es + rts.length ≤ 4194304) :
    Calls Try.prog 21 #[v, rv] w fun e w' => ∃ cv tv rs, e = .returned (.tuple #[cv, tv]) ∧ HpAt w' w.heap.size cv rs ∧ rs.map Prod.fst = collectC es rts ∧ w'.ownsRow w.heap.size 3 1 tv (collectR es rts).length (intVs (collectR es rts)) ∧ Below w.heap.size w w' := by
  have hlen : es.length ≤ bulkL es := Nat.le_add_right _ _
  have hBA := @bulkL_at es
  obtain ⟨i0, hi, hz0, hz1, hz2⟩ := info_parts infoCell
  obtain ⟨a, cap, rfl⟩ := h.form
  obtain ⟨ra, rcap, rfl⟩ := h2.form
  have HC := (show Hid (_ ∧ _) from ⟨h, h2⟩)
  have HE := (show Hid (_ ∧ _) from ⟨hp_nil w w.heap.size (Nat.le_refl _), (Below.refl w.heap.size w).alloc (Nat.le_refl _) (.cells #[] 42)⟩)
  clear h h2
  go_enter Try.func21, Try.ntmps21
  go_wp2
  go_loopw [6, 7] (fun sv i wr => ∃ (k : Nat) (rs : List (Ce × Value)), k ≤ es.length ∧ i = .int .i64 k ∧ rs.length = k ∧ rs.map Prod.fst = (es.take k).map (Ce.short es) ∧ HpAt wr w.heap.size sv rs ∧ Below w.heap.size w wr) (fun _ i _ => es.length - (intOf i).toNat)
  case atStart => exact ⟨0, [], Nat.zero_le _, rfl, rfl, by simp, HE.out.1, HE.out.2⟩
  case round =>
    clear HE
    obtain ⟨k, rs, hk, rfl, hrl, hmap, hrow, hbw⟩ := hrel
    have hsz := hbw.size
    obtain ⟨sa, sc, hsv⟩ := own_form hrow.cells
    rw [hrl] at hsv
    subst hsv
    by_cases hkl : k < es.length
    · have he := List.getElem?_eq_getElem hkl
      have hbk := hBA he
      have htk := shortC_take es k he
      generalize es[k] = x at *
      obtain ⟨a0, cap0, hv0, -, hcc⟩ := HC.out.1
      obtain ⟨b, off, kv, ha0, hSb, hlt2, c0, c1, c2, c3, r1, r2, r3, hkk⟩ := hcc k x he
      cases hv0
      subst ha0
      rw [← hbw.cell (by exact hlt2)] at c0 c1 c2 c3
      obtain ⟨ka, kc, rfl⟩ := hkk.form
      have hlt' : ((k : Nat) : Int) < ((es.length : Nat) : Int) := by omega
      have hB1 : Below w.heap.size w (wr.alloc (.cells #[.int .i64 x.kind, .int .i64 x.n, .int .i64 x.pos, .slice ka x.kids.length kc] 42)) := hbw.alloc hsz _
      have HX := (show Hid (_ ∧ _ ∧ _ ∧ _ ∧ _ ∧ _) from ⟨htk, hmap, hrow, hrl, HC.out.1.below hB1, hkk.below hB1⟩)
      have HB := (show Hid (_ ∧ _) from ⟨hbw, hB1⟩)
      have hbx : x.bulk = x.kids.length := rfl
      have hbl : b < wr.heap.size := by omega
      have hbn : ¬ b = wr.heap.size := by omega
      have hO0 : (wr.alloc (.cells #[.int .i64 x.kind, .int .i64 x.n, .int .i64 x.pos, .slice ka x.kids.length kc] 42)).heap[wr.heap.size]? = some (.cells #[.int .i64 x.kind, .int .i64 x.n, .int .i64 x.pos, .slice ka x.kids.length kc] 42 (0, 0)) := (MapKept.heap_alloc wr _).1
      have HO := (show Hid (_ ∧ _) from ⟨hO0, (⟨r1, r2, r3⟩ : inI64 x.kind ∧ inI64 x.n ∧ inI64 x.pos)⟩)
      have hs0 : (wr.alloc (.cells #[.int .i64 x.kind, .int .i64 x.n, .int .i64 x.pos, .slice ka x.kids.length kc] 42)).heap.size = wr.heap.size + 1 := by simp
      clear hkk he htk hmap hrow hrl hbw hB1 hcc hBA hO0 r1 r2 r3
      go_wp2_with fail
      refine (l05Short_any _ _ es x.kids S S _ HX.out.2.2.2.2.1 HX.out.2.2.2.2.2 (by omega) (by omega)).mono ?_
      rintro e w1 ⟨ov, rfl, ho, hoin, hob, b1⟩
      have O1 : w1.heap[wr.heap.size]? = some (.cells #[.int .i64 x.kind, .int .i64 x.n, .int .i64 x.pos, .slice ka x.kids.length kc] 42 (0, 0)) := (b1.block _ (by rw [hs0]; omega)).trans HO.out.1
      have y0 : w1.cell? ⟨wr.heap.size, 0, none⟩ = some (.int .i64 x.kind) := by rw [cell_of_block O1]; rfl
      have y1 : w1.cell? ⟨wr.heap.size, 1, none⟩ = some (.int .i64 x.n) := by rw [cell_of_block O1]; rfl
      have y2 : w1.cell? ⟨wr.heap.size, 2, none⟩ = some (.int .i64 x.pos) := by rw [cell_of_block O1]; rfl
      have y3 : w1.cell? ⟨wr.heap.size, 3, none⟩ = some (.slice ka x.kids.length kc) := by rw [cell_of_block O1]; rfl
      have f3 : w1.frozen? ⟨wr.heap.size, 3, none⟩ = false := unfrozen_of_block O1 3
      have hs1 := b1.size
      rw [hs0] at hs1 ho hob
      obtain ⟨oa, oc, rfl⟩ := own_form ho
      have hW1 : HpAt w1 w.heap.size (.slice sa k sc) rs := (HX.out.2.2.1.alloc _).below b1
      have hnO : ¬ HpOwn (.slice sa k sc) rs wr.heap.size := fun hp => by have := (HX.out.2.2.1.own hp).2; omega
      have hW2 := hW1.store (off := 3) hnO (.slice oa x.kids.length oc)
      have ho2 : (w1.setCell ⟨wr.heap.size, 3, none⟩ (.slice oa x.kids.length oc)).ownsRow (wr.heap.size + 1) 3 1 (.slice oa x.kids.length oc) x.kids.length (intVs (shortL es x.kids)) :=
        own_moved ho (fun g hg => Below.heap_setCell _ _ _ _ (fun e => by have e' : g = wr.heap.size := e; have := hob g hg; omega))
      have hB1 : Below w.heap.size w (w1.setCell ⟨wr.heap.size, 3, none⟩ (.slice oa x.kids.length oc)) := ((HB.out.2).trans (b1.mono (by rw [hs0]; omega))).setCell (p := ⟨wr.heap.size, 3, none⟩) (by simp; omega) _
      have hs2 : (w1.setCell ⟨wr.heap.size, 3, none⟩ (.slice oa x.kids.length oc)).heap.size = w1.heap.size := by simp
      have hcw := hW2.cells
      rw [HX.out.2.2.2.1] at hcw
      have HY := (show Hid (_ ∧ _ ∧ _ ∧ _ ∧ _) from ⟨hW2, ho2, hB1, hoin, hcw.alloc (.cells #[.int .i64 x.kind, .int .i64 x.n, .int .i64 x.pos, .slice oa x.kids.length oc] 42)⟩)
      have hnews := cell_four5 (w1.setCell ⟨wr.heap.size, 3, none⟩ (.slice oa x.kids.length oc)) (.int .i64 x.kind) (.int .i64 x.n) (.int .i64 x.pos) (.slice oa x.kids.length oc) 42
      have HNW := (show Hid (_ ∧ True) from ⟨hnews, trivial⟩)
      clear ho hoin hob b1 O1 hW1 hW2 ho2 hB1 hcw hnews hnO
      go_wp2_with (at_builtin; refine wpList_append_own_at _ rfl _ _ 25 rfl w.heap.size 42 i0 _ 4 48 Try.underlying25 hi hz0 hz1 hz2 rfl (by decide) _ k _ rfl HY.out.2.2.2.2 ⟨w1.heap.size, 0, none⟩ 1 1 (ceCells (Ce.short es x, .slice oa x.kids.length oc)) rfl rfl (by have := HNW.out.1; rw [hs2] at this; exact this) (four_ok _ _ _ _) (by unfold maxLen; omega) (by omega) (by simp; omega) ?_; intro v3 w3 hown3 hgrow3 hnil3 hat3)
      have hxk : (HY.out.1.alloc (.cells #[.int .i64 x.kind, .int .i64 x.n, .int .i64 x.pos, .slice oa x.kids.length oc] 42)).cells = (HY.out.1.alloc (.cells #[.int .i64 x.kind, .int .i64 x.n, .int .i64 x.pos, .slice oa x.kids.length oc] 42)).cells := rfl
      clear hxk
      have hP := HpAt.push (x := Ce.short es x) (kv := .slice oa x.kids.length oc) (HY.out.1.alloc (.cells #[.int .i64 x.kind, .int .i64 x.n, .int .i64 x.pos, .slice oa x.kids.length oc] 42)) (by rw [HX.out.2.2.2.1]; exact hown3) hgrow3 (by
          show World.ownsRow _ _ _ _ _ (shortL es x.kids).length (intVs (shortL es x.kids))
          rw [shortL_len]
          exact own_mono (HY.out.2.1.alloc _) (by omega)) ⟨HO.out.2.1, HO.out.2.2.1, HO.out.2.2.2, HY.out.2.2.2.1⟩ (fun r hr => by
          cases hb : r.2.ownBlock with
          | none => exact .inl hb
          | some q =>
            refine .inr fun e => ?_
            have h4 := own_lt (HX.out.2.2.1.kids r hr).1 q hb
            have h5 := (own_type HY.out.2.1 q (e.symm.trans hb)).1
            omega)
      refine ⟨⟨k + 1, rs ++ [(Ce.short es x, .slice oa x.kids.length oc)], by omega, by go_num, by rw [List.length_append, HX.out.2.2.2.1]; rfl, by rw [List.map_append, HX.out.2.1, HX.out.1]; rfl, hP, ?_⟩, by simp [intOf]; omega⟩
      exact Below.grown (HY.out.2.2.1.alloc (by rw [hs2]; omega) _) hgrow3 (fun j hj => (HY.out.2.2.2.2.lt j hj).1) (by simp; omega)
    · obtain rfl : k = es.length := by omega
      rw [List.take_length] at hmap
      have hmap' : rs.map Prod.fst = shortC es := hmap
      have HW := (show Hid (_ ∧ _ ∧ _ ∧ _) from ⟨hrow, hmap', HC.out.1.below hbw, HC.out.2.below hbw⟩)
      have HB := (show Hid (_ ∧ _) from ⟨hbw, hrl⟩)
      clear hrow hmap hmap' hbw hrl hBA
      have hsb := shortC_bulk es
      have hsl := shortC_len es
      go_wp2_with fail
      refine (l05Short_any _ _ es rts S S2 _ HW.out.2.2.1 HW.out.2.2.2 (by omega) (by omega)).mono ?_
      rintro e w2 ⟨fv, rfl, hf, hfin, hfb, d2⟩
      obtain ⟨fa, fc, rfl⟩ := own_form hf
      have hs2 := d2.size
      have hB2 : Below w.heap.size w w2 := HB.out.1.trans (d2.mono hsz)
      have hW2 := HW.out.1.below d2
      have hA2 : CellsAt w2 (fun b => w.heap.size ≤ b ∧ Pl w2 b) (.slice sa es.length sc) (shortC es) := by
        have := hW2.at
        rw [HW.out.2.1] at this
        exact this
      have hI2 : IntsAt w2 (fun b => wr.heap.size ≤ b ∧ Pl w2 b) (.slice fa rts.length fc) (shortL es rts) := own_ints (by rw [shortL_len]; exact hf) hfin
      have H2 := (show Hid (_ ∧ _ ∧ _ ∧ _ ∧ _ ∧ _) from ⟨hW2, hA2, hI2, hf, hfin, hB2⟩)
      have hfl := shortL_len es rts
      clear hf hfin hfb d2 hW2 hA2 hI2 hB2
      go_wp2_with fail
      refine (l05Mark_any _ _ (shortC es) (shortL es rts) _ _ _ H2.out.2.1 H2.out.2.2.1 (by omega)).mono ?_
      rintro e w3 ⟨sv, rfl, hS, d3⟩
      have hml := marksOf_len (shortC es) (shortL es rts)
      rw [hsl] at hS hml
      obtain ⟨ba, bc, rfl⟩ := own_form hS
      have hs3 := d3.size
      have HC3 := (show Hid (_ ∧ _ ∧ _ ∧ _) from ⟨H2.out.2.1.below d3, H2.out.2.2.1.below d3, hS, H2.out.2.2.2.2.2.trans (d3.mono H2.out.2.2.2.2.2.size)⟩)
      have HCD : Hid (collectTo es rts = toOf 0 (marksOf (shortC es) (shortL es rts)) ∧ collectC es rts = (keepT (shortC es) (marksOf (shortC es) (shortL es rts))).map (Ce.moved (collectTo es rts)) ∧ collectR es rts = movedL (collectTo es rts) (shortL es rts)) := ⟨rfl, rfl, rfl⟩
      generalize marksOf (shortC es) (shortL es rts) = bs at *
      have hb3 := HC3.out.2.2.2.size
      have E3 := ow_empty w3 w3.heap.size 3 (Nat.le_refl _)
      have HE3 := (show Hid (_ ∧ _) from ⟨E3, (Below.refl w3.heap.size w3).alloc (Nat.le_refl _) (.cells #[] 3)⟩)
      clear hS d3 E3 H2 HW HB
      obtain ⟨j0, hj, hy0, hy1, hy2⟩ := info_parts infoCdI
      go_wp2
      go_loopw [11, 12, 13] (fun tv nv i wr => ∃ k : Nat, k ≤ es.length ∧ i = .int .i64 k ∧ nv = .int .i64 (countT (bs.take k) : Int) ∧ wr.ownsRow w3.heap.size 3 1 tv k (intVs (toOf 0 (bs.take k))) ∧ Below w3.heap.size w3 wr) (fun _ _ i _ => es.length - (intOf i).toNat)
      case atStart => exact ⟨0, Nat.zero_le _, rfl, rfl, HE3.out.1, HE3.out.2⟩
      case round =>
        clear HE3
        rename_i wr0
        obtain ⟨k, hk, rfl, rfl, hO, hbw⟩ := hrel
        have hsz3 := hbw.size
        obtain ⟨oa, oc, rfl⟩ := own_form hO
        have hct := countT_le (bs.take k)
        have htl : (bs.take k).length ≤ k := by rw [List.length_take]; omega
        by_cases hkl : k < es.length
        · have hlt' : ((k : Nat) : Int) < ((es.length : Nat) : Int) := by omega
          have he := List.getElem?_eq_getElem (l := bs) (i := k) (by omega)
          obtain ⟨gs, sc', hs', hgs1, -, -⟩ := ow_some HC3.out.2.2.1 (by omega)
          simp only [Value.slice.injEq, true_and] at hs'
          obtain ⟨rfl, rfl⟩ := hs'
          have s0 := HC3.out.2.2.1.cellAt k (by omega)
          rw [List.getElem?_map, he, Option.map_some, ← hbw.cell (by exact hgs1)] at s0
          cases hbv : bs[k] with
          | true =>
            rw [hbv] at s0 he
            have HN := (show Hid (_ ∧ _ ∧ _ ∧ _) from ⟨(by rw [take_snoc bs k he, toOf_app]; simp [toOf] : toOf 0 (bs.take (k + 1)) = toOf 0 (bs.take k) ++ [(countT (bs.take k) : Int)]), (by rw [take_snoc bs k he, countT_app]; simp [countT] : countT (bs.take (k + 1)) = countT (bs.take k) + 1), hO.alloc (.cells #[.int .i64 (countT (bs.take k) : Int)] 3), hbw.alloc hsz3 (.cells #[.int .i64 (countT (bs.take k) : Int)] 3)⟩)
            clear hO hbw he hbv
            generalize countT (bs.take k) = n at *
            go_wp2_with (at_builtin; refine wpList_append_own_at _ rfl _ _ 30 rfl w3.heap.size 3 j0 (.int .i64 0) 1 8 Try.underlying30 hj hy0 hy1 hy2 rfl (by decide) _ k _ rfl HN.out.2.2.1 ⟨wr.heap.size, 0, none⟩ 1 1 [.int .i64 (n : Int)] rfl rfl (cell_one_new _ _ _) (int_one _) (by unfold maxLen; omega) (by omega) (by simp; omega) ?_; intro v4 w4 hown4 hgrow4 hnil4 hat4)
            refine ⟨⟨k + 1, by omega, by go_num, ?_, ?_, Below.grown HN.out.2.2.2 hgrow4 (fun j hj => (HN.out.2.2.1.lt j hj).1) (by simp; omega)⟩, by simp [intOf]; omega⟩
            · rw [HN.out.2.1]; exact int_eqv (by omega)
            · rw [HN.out.1]
              unfold intVs
              rw [List.map_append]
              exact hown4
          | false =>
            rw [hbv] at s0 he
            have HN := (show Hid (_ ∧ _ ∧ _ ∧ _) from ⟨(by rw [take_snoc bs k he, toOf_app]; simp [toOf] : toOf 0 (bs.take (k + 1)) = toOf 0 (bs.take k) ++ [(-1 : Int)]), (by rw [take_snoc bs k he, countT_app]; simp [countT] : countT (bs.take (k + 1)) = countT (bs.take k)), hO.alloc (.cells #[.int .i64 (-1)] 3), hbw.alloc hsz3 (.cells #[.int .i64 (-1)] 3)⟩)
            clear hO hbw he hbv
            generalize countT (bs.take k) = n at *
            go_wp2_with (at_builtin; refine wpList_append_own_at _ rfl _ _ 30 rfl w3.heap.size 3 j0 (.int .i64 0) 1 8 Try.underlying30 hj hy0 hy1 hy2 rfl (by decide) _ k _ rfl HN.out.2.2.1 ⟨wr.heap.size, 0, none⟩ 1 1 [.int .i64 (-1)] rfl rfl (cell_one_new _ _ _) (int_one _) (by unfold maxLen; omega) (by omega) (by simp; omega) ?_; intro v4 w4 hown4 hgrow4 hnil4 hat4)
            refine ⟨⟨k + 1, by omega, by go_num, ?_, ?_, Below.grown HN.out.2.2.2 hgrow4 (fun j hj => (HN.out.2.2.1.lt j hj).1) (by simp; omega)⟩, by simp [intOf]; omega⟩
            · rw [HN.out.2.1]
            · rw [HN.out.1]
              unfold intVs
              rw [List.map_append]
              exact hown4
        · obtain rfl : k = es.length := by omega
          rw [List.take_of_length_le (by omega)] at hO
          have hto : collectTo es rts = toOf 0 bs := HCD.out.1
          have htol : (toOf 0 bs).length = es.length := by rw [toOf_len, hml]
          have hoin : ∀ z ∈ toOf 0 bs, inI64 z := fun z hz => by
            have := toOf_in bs 0 (by omega) z hz
            exact ⟨by omega, by omega⟩
          have HT := (show Hid (_ ∧ _ ∧ _) from ⟨hto, hO, hoin⟩)
          generalize toOf 0 bs = to at *
          have hB4 := HC3.out.2.2.2.trans (hbw.mono hb3)
          have H4 := (show Hid (_ ∧ _ ∧ _ ∧ _ ∧ _) from ⟨HC3.out.1.below hbw, HC3.out.2.1.below hbw, own_moved HC3.out.2.2.1 (fun g hg => hbw.block g (own_lt HC3.out.2.2.1 g hg)), hB4, own_ints (by rw [htol]; exact hO) hoin⟩)
          have HE4 := (show Hid (_ ∧ _) from ⟨hp_nil wr wr.heap.size (Nat.le_refl _), (Below.refl wr.heap.size wr).alloc (Nat.le_refl _) (.cells #[] 42)⟩)
          have hs4 := hB4.size
          have hBS := @bulkL_at (shortC es)
          rw [hsb] at hBS
          clear hO hbw hto hoin hB4 HC3 hct htl
          obtain ⟨w4, rfl⟩ : ∃ w4, w4 = wr := ⟨wr, rfl⟩
          go_wp2
          go_loopw [14, 15] (fun ov i wr => ∃ (k : Nat) (rs' : List (Ce × Value)), k ≤ es.length ∧ i = .int .i64 k ∧ rs'.length ≤ k ∧ rs'.map Prod.fst = (keepT ((shortC es).take k) (bs.take k)).map (Ce.moved to) ∧ HpAt wr w4.heap.size ov rs' ∧ Below w4.heap.size w4 wr) (fun _ i _ => es.length - (intOf i).toNat)
          case atStart => exact ⟨0, [], Nat.zero_le _, rfl, Nat.zero_le _, by simp [keepT], HE4.out.1, HE4.out.2⟩
          case round =>
            clear HE4
            obtain ⟨k, rs', hk, rfl, hrl, hmap, hrow, hbw⟩ := hrel
            have hsz4 := hbw.size
            by_cases hkl : k < es.length
            · have hlt' : ((k : Nat) : Int) < ((es.length : Nat) : Int) := by omega
              have he := List.getElem?_eq_getElem (l := bs) (i := k) (by omega)
              have hex := List.getElem?_eq_getElem (l := shortC es) (i := k) (by omega)
              obtain ⟨gs, sc', hs', hgs1, -, -⟩ := ow_some H4.out.2.2.1 (by omega)
              simp only [Value.slice.injEq, true_and] at hs'
              obtain ⟨rfl, rfl⟩ := hs'
              have s0 := H4.out.2.2.1.cellAt k (by omega)
              rw [List.getElem?_map, he, Option.map_some, ← hbw.cell (by exact hgs1)] at s0
              have hbk := hBS hex
              generalize (shortC es)[k] = x at *
              have htk : (shortC es).take (k + 1) = (shortC es).take k ++ [x] := take_snoc _ k hex
              have hll : ((shortC es).take k).length = (bs.take k).length := by rw [List.length_take, List.length_take, hsl, hml]
              cases hbv : bs[k] with
              | true =>
                rw [hbv] at s0 he
                have hkeep : (keepT ((shortC es).take (k + 1)) (bs.take (k + 1))).map (Ce.moved to) = (keepT ((shortC es).take k) (bs.take k)).map (Ce.moved to) ++ [Ce.moved to x] := by
                  rw [htk, take_snoc bs k he, keepT_app _ _ _ _ hll, List.map_append]
                  rfl
                obtain ⟨a0, cap0, hv0, -, hcc⟩ := H4.out.1
                obtain ⟨b, off, kv, ha0, hSb, hlt2, c0, c1, c2, c3, r1, r2, r3, hkk⟩ := hcc k x hex
                simp only [Value.slice.injEq] at hv0
                obtain ⟨rfl, -, rfl⟩ := hv0
                subst ha0
                rw [← hbw.cell (by exact hlt2)] at c0 c1 c2 c3
                obtain ⟨ka, kc, rfl⟩ := hkk.form
                obtain ⟨oa, oc, hov⟩ := own_form hrow.cells
                have hB1 : Below w4.heap.size w4 (wr.alloc (.cells #[.int .i64 x.kind, .int .i64 x.n, .int .i64 x.pos, .slice ka x.kids.length kc] 42)) := hbw.alloc hsz4 _
                have hO0 : (wr.alloc (.cells #[.int .i64 x.kind, .int .i64 x.n, .int .i64 x.pos, .slice ka x.kids.length kc] 42)).heap[wr.heap.size]? = some (.cells #[.int .i64 x.kind, .int .i64 x.n, .int .i64 x.pos, .slice ka x.kids.length kc] 42 (0, 0)) := (MapKept.heap_alloc wr _).1
                have HX := (show Hid (_ ∧ _ ∧ _ ∧ _ ∧ _) from ⟨hkeep, hmap, hrow, H4.out.2.2.2.2.below hB1, hkk.below hB1⟩)
                have HB := (show Hid (_ ∧ _) from ⟨hbw, hB1⟩)
                have HO := (show Hid (_ ∧ _) from ⟨hO0, (⟨r1, r2, r3⟩ : inI64 x.kind ∧ inI64 x.n ∧ inI64 x.pos)⟩)
                have hbx : x.bulk = x.kids.length := rfl
                have hbl : b < wr.heap.size := by omega
                have hbn : ¬ b = wr.heap.size := by omega
                have hs0 : (wr.alloc (.cells #[.int .i64 x.kind, .int .i64 x.n, .int .i64 x.pos, .slice ka x.kids.length kc] 42)).heap.size = wr.heap.size + 1 := by simp
                subst hov
                clear hkk he hex htk hmap hrow hbw hB1 hcc hBS hO0 r1 r2 r3 hkeep hll hbv
                have HRL := (show Hid (_ ∧ True) from ⟨hrl, trivial⟩)
                go_wp2_with fail
                refine (l05Moved_any _ _ to x.kids _ _ _ HX.out.2.2.2.1 HX.out.2.2.2.2 (by omega) (by omega)).mono ?_
                rintro e w5 ⟨mv, rfl, ho, b1⟩
                have O1 : w5.heap[wr.heap.size]? = some (.cells #[.int .i64 x.kind, .int .i64 x.n, .int .i64 x.pos, .slice ka x.kids.length kc] 42 (0, 0)) := (b1.block _ (by rw [hs0]; omega)).trans HO.out.1
                have y0 : w5.cell? ⟨wr.heap.size, 0, none⟩ = some (.int .i64 x.kind) := by rw [cell_of_block O1]; rfl
                have y1 : w5.cell? ⟨wr.heap.size, 1, none⟩ = some (.int .i64 x.n) := by rw [cell_of_block O1]; rfl
                have y2 : w5.cell? ⟨wr.heap.size, 2, none⟩ = some (.int .i64 x.pos) := by rw [cell_of_block O1]; rfl
                have y3 : w5.cell? ⟨wr.heap.size, 3, none⟩ = some (.slice ka x.kids.length kc) := by rw [cell_of_block O1]; rfl
                have f3 : w5.frozen? ⟨wr.heap.size, 3, none⟩ = false := unfrozen_of_block O1 3
                have hs1 := b1.size
                rw [hs0] at hs1 ho
                obtain ⟨ma, mc, rfl⟩ := own_form ho
                have hob : ∀ g, Value.ownBlock (.slice ma x.kids.length mc) = some g → wr.heap.size + 1 ≤ g := fun g hg => (own_type ho g hg).1
                have hW1 : HpAt w5 w4.heap.size (.slice oa rs'.length oc) rs' := (HX.out.2.2.1.alloc _).below b1
                have hnO : ¬ HpOwn (.slice oa rs'.length oc) rs' wr.heap.size := fun hp => by have := (HX.out.2.2.1.own hp).2; omega
                have hW2 := hW1.store (off := 3) hnO (.slice ma x.kids.length mc)
                have ho2 : (w5.setCell ⟨wr.heap.size, 3, none⟩ (.slice ma x.kids.length mc)).ownsRow (wr.heap.size + 1) 3 1 (.slice ma x.kids.length mc) x.kids.length (intVs (movedL to x.kids)) :=
                  own_moved ho (fun g hg => Below.heap_setCell _ _ _ _ (fun e => by have e' : g = wr.heap.size := e; have := hob g hg; omega))
                have hB1 : Below w4.heap.size w4 (w5.setCell ⟨wr.heap.size, 3, none⟩ (.slice ma x.kids.length mc)) := ((HB.out.2).trans (b1.mono (by rw [hs0]; omega))).setCell (p := ⟨wr.heap.size, 3, none⟩) (by simp; omega) _
                have hs2 : (w5.setCell ⟨wr.heap.size, 3, none⟩ (.slice ma x.kids.length mc)).heap.size = w5.heap.size := by simp
                have HY := (show Hid (_ ∧ _ ∧ _ ∧ _) from ⟨hW2, ho2, hB1, hW2.cells.alloc (.cells #[.int .i64 x.kind, .int .i64 x.n, .int .i64 x.pos, .slice ma x.kids.length mc] 42)⟩)
                have hnews := cell_four5 (w5.setCell ⟨wr.heap.size, 3, none⟩ (.slice ma x.kids.length mc)) (.int .i64 x.kind) (.int .i64 x.n) (.int .i64 x.pos) (.slice ma x.kids.length mc) 42
                have HNW := (show Hid (_ ∧ True) from ⟨hnews, trivial⟩)
                clear ho hob b1 O1 hW1 hW2 ho2 hB1 hnews hnO
                go_wp2_with (at_builtin; refine wpList_append_own_at _ rfl _ _ 25 rfl w4.heap.size 42 i0 _ 4 48 Try.underlying25 hi hz0 hz1 hz2 rfl (by decide) _ rs'.length _ rfl HY.out.2.2.2 ⟨w5.heap.size, 0, none⟩ 1 1 (ceCells (Ce.moved to x, .slice ma x.kids.length mc)) rfl rfl (by have := HNW.out.1; rw [hs2] at this; exact this) (four_ok _ _ _ _) (by unfold maxLen; omega) (by omega) (by simp; omega) ?_; intro v6 w6 hown6 hgrow6 hnil6 hat6)
                have hP := HpAt.push (x := Ce.moved to x) (kv := .slice ma x.kids.length mc) (HY.out.1.alloc (.cells #[.int .i64 x.kind, .int .i64 x.n, .int .i64 x.pos, .slice ma x.kids.length mc] 42)) hown6 hgrow6 (by
                    show World.ownsRow _ _ _ _ _ (movedL to x.kids).length (intVs (movedL to x.kids))
                    rw [movedL_len]
                    exact own_mono (HY.out.2.1.alloc _) (by omega)) ⟨HO.out.2.1, HO.out.2.2.1, HO.out.2.2.2, movedL_in to HT.out.2.2 x.kids⟩ (fun r hr => by
                    cases hb : r.2.ownBlock with
                    | none => exact .inl hb
                    | some q =>
                      refine .inr fun e => ?_
                      have h4 := own_lt (HX.out.2.2.1.kids r hr).1 q hb
                      have h5 := (own_type HY.out.2.1 q (e.symm.trans hb)).1
                      omega)
                refine ⟨⟨k + 1, rs' ++ [(Ce.moved to x, .slice ma x.kids.length mc)], by omega, by go_num, by rw [List.length_append, List.length_singleton]; omega, by rw [List.map_append, HX.out.2.1, HX.out.1]; rfl, hP, ?_⟩, by simp [intOf]; omega⟩
                exact Below.grown (HY.out.2.2.1.alloc (by rw [hs2]; omega) _) hgrow6 (fun j hj => (HY.out.2.2.2.lt j hj).1) (by simp; omega)
              | false =>
                rw [hbv] at s0 he
                have hkeep : (keepT ((shortC es).take (k + 1)) (bs.take (k + 1))).map (Ce.moved to) = (keepT ((shortC es).take k) (bs.take k)).map (Ce.moved to) := by
                  rw [htk, take_snoc bs k he, keepT_app _ _ _ _ hll, List.map_append]
                  simp [keepT]
                have HX := (show Hid (_ ∧ _ ∧ _ ∧ _) from ⟨hkeep, hmap, hrow, hbw⟩)
                clear he hex htk hmap hrow hbw hBS hkeep hll hbv
                go_wp2
                refine ⟨⟨k + 1, rs', by omega, by go_num, by omega, ?_, HX.out.2.2.1, HX.out.2.2.2⟩, by simp [intOf]; omega⟩
                rw [HX.out.1]
                exact HX.out.2.1
            · obtain rfl : k = es.length := by omega
              rw [List.take_of_length_le (by omega), List.take_of_length_le (by omega)] at hmap
              obtain ⟨oa, oc, hov⟩ := own_form hrow.cells
              have HX := (show Hid (_ ∧ _ ∧ _ ∧ _ ∧ _) from ⟨hmap, hrow, H4.out.2.2.2.2.below hbw, H4.out.2.1.below hbw, H4.out.2.2.2.1.trans (hbw.mono hs4)⟩)
              subst hov
              clear hmap hrow hbw hBS
              go_wp2_with fail
              refine (l05Moved_any _ _ to (shortL es rts) _ _ _ HX.out.2.2.1 HX.out.2.2.2.1 (by omega) (by omega)).mono ?_
              rintro e w7 ⟨mv, rfl, ho, b1⟩
              have hB7 : Below w.heap.size w w7 := HX.out.2.2.2.2.trans (b1.mono HX.out.2.2.2.2.size)
              have hs7 := HX.out.2.2.2.2.size
              have hH := HX.out.2.1.below b1
              rw [hfl] at ho
              have HY := (show Hid (_ ∧ _ ∧ _) from ⟨hH, ho, hB7⟩)
              obtain ⟨ma, mc, rfl⟩ := own_form ho
              clear hH ho hB7 b1
              go_wp2
              go_ret2
              refine ⟨_, _, rs', rfl, ⟨own_mono HY.out.1.cells (by omega), fun r hr => ⟨own_mono (HY.out.1.kids r hr).1 (by omega), (HY.out.1.kids r hr).2⟩, HY.out.1.apart⟩, ?_, ?_, HY.out.2.2⟩
              · rw [HCD.out.2.1, HT.out.1]; exact HX.out.1
              · rw [HCD.out.2.2, HT.out.1, movedL_len, hfl]; exact own_mono HY.out.2.1 (by omega)
end Go.Proofs.Ythjpmdoljceaiaa
