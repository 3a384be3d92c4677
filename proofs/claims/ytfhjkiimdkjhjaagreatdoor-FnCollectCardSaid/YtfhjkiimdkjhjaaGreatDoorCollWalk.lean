/-
  The law of chapter 5 returns true at every code: its walk.
-/
import Derived.Test.YtfhjkiimdkjhjaaGreatDoorCollSt
import Derived.BigRegion
import Derived.Deep.RegionWith
import Derived.Deep.RegionHeld3
namespace Go.Proofs.YtfhjkiimdkjhjaaGreatDoor
open Go.RowKit Go.Joins

set_option maxRecDepth 100000

set_option maxHeartbeats 12800000 in
theorem coll_small (V : Value) (len : Nat) (w : World) (hlen : len ≤ 1048576) (hcode : CodeIs w.heap.size w V len) (htab : Lib.TabIs Tryz.prog w "internal/strconv.uint64pow10" .u64 Lib.pow10Tab) :
    Calls Tryz.prog 3 #[V] w fun e w' => e = .returned (.bool true) ∧ Below w.heap.size w w' := by
  have HT := (show Hid (_ ∧ True) from ⟨htab, trivial⟩)
  have HC := (show Hid (_ ∧ True) from ⟨hcode, trivial⟩)
  obtain ⟨a, cap, rfl, -, -⟩ := hcode
  clear htab
  have hbig : decide ((1048576 : Int) < (len : Int)) = false := by simp; omega
  go_enter Tryz.func3, Tryz.ntmps3
  go_wp2_with fail
  refine (bigC_any a len cap _).mono ?_
  rintro e w' ⟨rfl, hw'⟩
  rw [hbig, hw']
  clear hw' w' hbig
  go_wp2_with fail
  refine (drawCollect_any _ len w HC.out.1).mono ?_
  rintro e w1 ⟨hv, rv, es, zs, rfl, hh, hr, hz3, hzr, b1⟩
  have H1 := (show Hid (_ ∧ _ ∧ _ ∧ _ ∧ _) from ⟨hh, hr, hz3, hzr, b1⟩)
  have hl8 := hh.len
  have hb40 := hh.bulk
  obtain ⟨ha, hc, rfl⟩ := hh.at_.form
  obtain ⟨ra, rc, rfl⟩ := hr.form
  clear hh hr hzr b1
  go_wp2_with fail
  refine (implCollect_any _ _ es zs AnyB AnyB w1 H1.out.1.at_ H1.out.2.1 (by omega) (by omega)).mono ?_
  rintro e w2 ⟨gv, lv, cs, rfl, hg, hcs, hlr, -, b2⟩
  have hG : CellsAt w2 AnyB gv (collectC es zs) := by have := any_cells hg.at; rw [hcs] at this; exact this
  have hll : IntsAt w2 AnyB lv (collectR es zs) := any_ints (own_ints hlr (roots_in hl8))
  have H2 := (show Hid (_ ∧ _ ∧ _) from ⟨hG, hll, b2⟩)
  obtain ⟨la, lc, rfl⟩ := hll.form
  obtain ⟨ga, gc, rfl⟩ := hG.form
  clear hg hcs hlr b2 hll hG
  go_wp2_with fail
  refine (specCollect_any _ _ es zs AnyB AnyB w2 (H1.out.1.at_.below H2.out.2.2) (H1.out.2.1.below H2.out.2.2) (by omega)).mono ?_
  rintro e w3 ⟨wv, tv, cs, rfl, hg, hcs, hlr, b3⟩
  have hSA : StA w3 (.slice ha es.length hc) (.slice ra zs.length rc) (.slice ga (collectC es zs).length gc) (.slice la (collectR es zs).length lc) wv tv es zs :=
    ⟨(H1.out.1.below H2.out.2.2).below b3, (H1.out.2.1.below H2.out.2.2).below b3, H2.out.1.below b3, H2.out.2.1.below b3, by have := any_cells hg.at; rw [hcs] at this; exact this, any_ints (own_ints hlr (roots_in hl8))⟩
  have B3 : Below w.heap.size w w3 := H1.out.2.2.2.2.trans ((H2.out.2.2.trans (b3.mono H2.out.2.2.size)).mono H1.out.2.2.2.2.size)
  have HZ := (show Hid (_ ∧ _) from ⟨H1.out.2.2.1, H1.out.2.2.2.1⟩)
  have H3 := (show Hid (_ ∧ _) from ⟨hSA, B3⟩)
  obtain ⟨wa, wc, rfl⟩ := hSA.w.form
  obtain ⟨ta, tc, rfl⟩ := hSA.t.form
  clear hg hcs hlr b3 hSA B3 H1 H2 hz3
  go_wp2_with fail
  refine (drawFollow_any _ len w3 (code_up HC.out.1 H3.out.2)).mono ?_
  rintro e w4 ⟨fv, fs, fi, rfl, hf, hf1, hf2, b4⟩
  have H4 := (show Hid (_ ∧ _ ∧ _) from ⟨H3.out.1.below b4, hf, H3.out.2.trans (b4.mono H3.out.2.size)⟩)
  obtain ⟨fa, fc, rfl⟩ := hf.at_.form
  clear hf hf1 hf2 b4 H3
  go_wp2_with fail
  refine (drawAlive_any _ len w4 (code_up HC.out.1 H4.out.2.2)).mono ?_
  rintro e w5 ⟨av, sv, bs, ss, rfl, hb, hs, hs3, -, b5⟩
  have H5 := (show Hid (_ ∧ _ ∧ _ ∧ _ ∧ _) from ⟨H4.out.1.below b5, H4.out.2.1.below b5, hb, hs, H4.out.2.2.trans (b5.mono H4.out.2.2.size)⟩)
  obtain ⟨aa, ac, rfl⟩ := hb.at_.form
  obtain ⟨sa, sc, rfl⟩ := hs.form
  clear hb hs b5 H4
  go_wp2_with fail
  refine (drawHeapOk_any _ len w5 (code_up HC.out.1 H5.out.2.2.2.2)).mono ?_
  rintro e w6 ⟨ov, os, codes, rfl, ho, b6⟩
  have H6 := (show Hid (_ ∧ _ ∧ _) from ⟨H5.out.1.below b6, (⟨H5.out.2.1.below b6, H5.out.2.2.1.below b6, H5.out.2.2.2.1.below b6, ho⟩ : StB w6 _ _ _ _ fs bs os ss), H5.out.2.2.2.2.trans (b6.mono H5.out.2.2.2.2.size)⟩)
  obtain ⟨oa, oc, rfl⟩ := ho.at_.form
  clear ho b6 H5
  go_wp2_with fail
  refine (drawCellText_any _ len w6 (code_up HC.out.1 H6.out.2.2)).mono ?_
  rintro e w7 ⟨xv, x, rfl, hx, hx4, b7⟩
  obtain ⟨kv, rfl, r1, r2, r3, hk⟩ := hx
  obtain ⟨xa, xc, rfl⟩ := hk.form
  have H7 := (show Hid (_ ∧ _ ∧ _ ∧ _) from ⟨H6.out.1.below b7, H6.out.2.1.below b7, (⟨_, rfl, r1, r2, r3, hk⟩ : CeAt w7 AnyB (.agg #[.int .i64 x.kind, .int .i64 x.n, .int .i64 x.pos, .slice xa x.kids.length xc]) x), H6.out.2.2.trans (b7.mono H6.out.2.2.size)⟩)
  clear r1 r2 r3 hk b7 H6
  go_wp2_with fail
  obtain ⟨W8, hW8⟩ : ∃ W8, W8 = w7.alloc (.cells #[.int .i64 x.kind, .int .i64 x.n, .int .i64 x.pos, .slice xa x.kids.length xc] 32) := ⟨_, rfl⟩
  rw [← hW8]
  have S8 : StC w W8.drew (.slice ha es.length hc) (.slice ra zs.length rc) (.slice ga (collectC es zs).length gc) (.slice la (collectR es zs).length lc) (.slice wa (collectC es zs).length wc) (.slice ta (collectR es zs).length tc) (.slice fa fs.length fc) (.slice aa bs.length ac) (.slice sa ss.length sc) (.slice oa os.length oc) (.agg #[.int .i64 x.kind, .int .i64 x.n, .int .i64 x.pos, .slice xa x.kids.length xc]) w7.heap.size (.cells #[.int .i64 x.kind, .int .i64 x.n, .int .i64 x.pos, .slice xa x.kids.length xc] 32) es fs bs os zs ss x := by
    have hb : Below w7.heap.size w7 W8.drew := by rw [hW8]; exact ((Below.refl _ w7).alloc (Nat.le_refl _) _).drew
    exact ⟨H7.out.1.below hb, H7.out.2.1.below hb, CeAt.belowC (S := AnyB) (c := x) H7.out.2.2.1 hb, H7.out.2.2.2.trans (hb.mono H7.out.2.2.2.size), by rw [hW8]; exact (MapKept.heap_alloc w7 _).1⟩
  have H8 := (show Hid (_ ∧ True) from ⟨S8, trivial⟩)
  have hfl := S8.b.f.len
  have hal := S8.b.a.len
  have hab := S8.b.a.bulk
  have hol := S8.b.o.len
  have hss : ss.length ≤ 3 := hs3
  clear S8 hW8 H7
  have hfe : ∀ z : Int, (z != z) = false := fun z => by simp
  have hbe : ∀ b : Bool, (b != b) = false := fun b => by simp
  have hte : (x.textOf != x.textOf) = false := by simp
  go_region_held3 (fun w' => w'.cell? ⟨w7.heap.size, 0, none⟩ = some (.int .i64 x.kind) ∧ w'.cell? ⟨w7.heap.size, 1, none⟩ = some (.int .i64 x.n) ∧ w'.cell? ⟨w7.heap.size, 2, none⟩ = some (.int .i64 x.pos) ∧ w'.cell? ⟨w7.heap.size, 3, none⟩ = some (.slice xa x.kids.length xc)) (first | exact box_cells H19.out.1.box | exact box_cells H18.out.1.box | exact box_cells H17.out.1.box | exact box_cells H16.out.1.box | exact box_cells H15.out.1.box | exact box_cells H14.out.1.box | exact box_cells H13.out.1.box | exact box_cells H12.out.1.box | exact box_cells H11.out.1.box | exact box_cells H10.out.1.box | exact box_cells H9.out.1.box | exact box_cells H8.out.1.box) (first
    | (go_at_call 12; refine (sameHeap_same _ _ _ AnyB AnyB _ H8.out.1.a.g H8.out.1.a.w).mono ?_; rintro e w9 ⟨rfl, d9⟩; have H9 := (show Hid (_ ∧ True) from ⟨H8.out.1.below d9, trivial⟩); clear d9 H8)
    | (go_at_call 13; refine (sameInts_same _ _ _ AnyB AnyB _ H9.out.1.a.l H9.out.1.a.t).mono ?_; rintro e w10 ⟨rfl, d10⟩; have H10 := (show Hid (_ ∧ True) from ⟨H9.out.1.below d10, trivial⟩); clear d10 H9)
    | (go_at_call 14; refine (implFollow_any _ fs fi AnyB _ H10.out.1.b.f.at_ (by omega)).mono ?_; rintro e w11 ⟨rfl, d11⟩; have H11 := (show Hid (_ ∧ True) from ⟨H10.out.1.below d11, trivial⟩); clear d11 H10)
    | (go_at_call 15; refine (specFollow_any _ fs fi AnyB _ H11.out.1.b.f.at_ (by omega)).mono ?_; rintro e w12 ⟨rfl, d12⟩; have H12 := (show Hid (_ ∧ True) from ⟨H11.out.1.below d12, trivial⟩); clear d12 H11)
    | (go_at_call 16; refine (implAlive_any _ _ bs ss AnyB AnyB _ H12.out.1.b.a.at_ H12.out.1.b.s (by omega)).mono ?_; rintro e w13 ⟨pv, rfl, ho13, d13⟩; have hp13 := any_ints (own_ints ho13 (aliveC_in bs ss (by omega))); obtain ⟨pa, pc, rfl⟩ := hp13.form; have H13 := (show Hid (_ ∧ _) from ⟨H12.out.1.below d13, hp13⟩); clear d13 H12 hp13 ho13)
    | (go_at_call 17; refine (specAlive_any _ _ bs ss AnyB AnyB _ H13.out.1.b.a.at_ H13.out.1.b.s (by omega)).mono ?_; rintro e w14 ⟨qv, rfl, ho14, d14⟩; have hq14 := any_ints (own_ints ho14 (aliveC_in bs ss (by omega))); obtain ⟨qa, qc, rfl⟩ := hq14.form; have H14 := (show Hid (_ ∧ _ ∧ _) from ⟨H13.out.1.below d14, H13.out.2.below d14, hq14⟩); clear d14 H13 hq14 ho14)
    | (go_at_call 13; refine (sameInts_same _ _ _ AnyB AnyB _ H14.out.2.1 H14.out.2.2).mono ?_; rintro e w15 ⟨rfl, d15⟩; have H15 := (show Hid (_ ∧ True) from ⟨H14.out.1.below d15, trivial⟩); clear d15 H14)
    | (go_at_call 18; refine (implHeapOk_any _ os codes AnyB _ H15.out.1.b.o.at_ (by omega)).mono ?_; rintro e w16 ⟨rfl, d16⟩; have H16 := (show Hid (_ ∧ True) from ⟨H15.out.1.below d16, trivial⟩); clear d16 H15)
    | (go_at_call 19; refine (specHeap_any _ os codes AnyB _ H16.out.1.b.o.at_ (by omega)).mono ?_; rintro e w17 ⟨rfl, d17⟩; have H17 := (show Hid (_ ∧ True) from ⟨H16.out.1.below d17, trivial⟩); clear d17 H16)
    | (go_at_call 20; refine (implCellText_any _ x AnyB _ (tabC_below HT.out.1 H17.out.1.base) H17.out.1.x (by omega)).mono ?_; rintro e w18 ⟨rfl, d18⟩; have H18 := (show Hid (_ ∧ True) from ⟨H17.out.1.below d18, trivial⟩); clear d18 H17)
    | (go_at_call 21; refine (specCellText_any _ x AnyB _ H18.out.1.x (by omega)).mono ?_; rintro e w19 ⟨rfl, d19⟩; have H19 := (show Hid (_ ∧ True) from ⟨H18.out.1.below d19, trivial⟩); clear d19 H18))
  clear hfl hal hab hol hss hfe hbe hte hs3 hx4
  have hlen := H19.out.1.a.h.len
  have HSm := (show Hid (_ ∧ True) from ⟨H19.out.1.a.h.small, trivial⟩)
  go_wp2_with fail
  refine (specHeap_any _ es 20 AnyB _ H19.out.1.a.h.at_ (by omega)).mono ?_
  rintro e w20 ⟨rfl, d20⟩
  have H20 := (show Hid (_ ∧ _) from ⟨H19.out.1.a.below d20, H19.out.1.base.trans (d20.mono H19.out.1.base.size)⟩)
  clear d20 H19
  obtain ⟨ok, hok⟩ : ∃ b, heapOk es 20 = b := ⟨_, rfl⟩
  rw [hok]
  have HOK := (show Hid (_ ∧ True) from ⟨hok, trivial⟩)
  clear hok
  cases ok with
  | false =>
    go_wp2
    go_ret
    exact ⟨rfl, H20.out.2⟩
  | true =>
    have hz3 := HZ.out.1
    go_wp2_with fail
    go_loopw [16, 17] (fun kv tv wr => ∃ n : Nat, n ≤ zs.length ∧ kv = .int .i64 n ∧ Below w20.heap.size w20 wr) (fun kv _ _ => zs.length - (intOf kv).toNat)
    case atStart => exact ⟨0, Nat.zero_le _, rfl, Below.refl _ _⟩
    case round =>
      obtain ⟨n, hn, rfl, hbw⟩ := hrel
      have HB := (show Hid (_ ∧ _) from ⟨H20.out.1.below hbw, H20.out.2.trans (hbw.mono H20.out.2.size)⟩)
      by_cases hnl : n < zs.length
      · have hnl' : ((n : Nat) : Int) < ((zs.length : Nat) : Int) := by omega
        have hze := List.getElem?_eq_getElem hnl
        generalize zs[n] = z at hze
        obtain ⟨y, hy, hyi, hcase⟩ := root_case (by omega) HOK.out.1 hze
        have hcl := collR_len es zs
        have hnl2 : n < (collectR es zs).length := by omega
        have hnl2' : ((n : Nat) : Int) < (((collectR es zs).length : Nat) : Int) := by omega
        obtain ⟨rb, ro, hra, hrl, rx⟩ := ints_cell HB.out.1.r hze
        obtain ⟨lb, lo, hla, hll, lx⟩ := ints_cell HB.out.1.l hy
        subst hra hla
        have HCL := (show Hid (_ ∧ True) from ⟨hcl, trivial⟩)
        have hcw : es.length ≤ 100 := by omega
        clear hze hy hcl hyi
        rcases hcase with ⟨hno, hy0⟩ | ⟨hz0, hzl, hy0, hal⟩
        · have hy1 : ¬ (0 : Int) ≤ y := by omega
          have hyb : decide ((0 : Int) ≤ y) = false := decide_eq_false hy1
          by_cases hz0 : (0 : Int) ≤ z
          · have hzl : ¬ z < ((es.length : Nat) : Int) := by omega
            clear hno
            go_wp2_with fail
            go_big_quiet (fail)
            go_wp2_with fail
            exact ⟨⟨n + 1, by omega, by go_num, drewN_below hbw _⟩, by simp [intOf]; omega⟩
          · clear hno
            go_wp2_with fail
            go_big_quiet (fail)
            go_wp2_with fail
            exact ⟨⟨n + 1, by omega, by go_num, drewN_below hbw _⟩, by simp [intOf]; omega⟩
        · have hzl' : z < ((es.length : Nat) : Int) := hzl
          have HAL : Hid (∀ wx : World, Below wr.heap.size wr wx → Calls Tryz.prog 22 #[.slice ha es.length hc, .int .i64 z, .slice ga (collectC es zs).length gc, .int .i64 y, .int .i64 4] wx fun e w' => e = .returned (.bool true) ∧ Below wx.heap.size wx w') := fun wx hx =>
            alike_any 4 (by decide) _ _ es (collectC es zs) AnyB AnyB wx z y (HB.out.1.h.at_.below hx) (HB.out.1.g.below hx) (by omega) (by have := collectC_le (es := es) (rs := zs); omega) hal
          have K1 := cell_regrown rx
          have K2 := cell_regrown lx
          clear hal
          go_wp2_with fail
          clear rx lx
          refine wp_region_quiet_below (by kernel_rfl) (by kernel_rfl) ?_
          repeat (go_big_quiet_step (first | (go_at_call 22; exact Calls.regrown_of (HAL.out _ (below_regrown wr _ _)))))
          refine wpQuiet_nil ?_
          intro _ hw'
          obtain ⟨⟨dq, osq⟩, hw''⟩ := hw'
          subst hw''
          have b6 := below_regrown wr dq osq
          clear K1 K2
          generalize Go.Sort.grow (redrawn wr dq) osq = w6 at *
          have HB6 : Hid (Below wr.heap.size wr w6) := b6
          clear b6
          go_wp2_with fail
          exact ⟨⟨n + 1, by omega, by go_num, hbw.trans (HB6.out.mono hbw.size)⟩, by simp [intOf]; omega⟩
      · have hnl' : ¬ ((n : Nat) : Int) < ((zs.length : Nat) : Int) := by omega
        go_wp2_with fail
        have hgl : (collectC es zs).length ≤ 8 := by have := collectC_le (es := es) (rs := zs); omega
        have hcl := collR_len es zs
        have HNB := (show Hid (_ ∧ _) from ⟨new_bulk (zs := zs) hlen HSm.out.1, hcl⟩)
        clear hcl
        refine (implCollect_any _ _ (collectC es zs) (collectR es zs) AnyB AnyB wr HB.out.1.g HB.out.1.l (by have := HNB.out.1; have := HNB.out.2; omega) (by omega)).mono ?_
        rintro e w21 ⟨gv, lv, cs, rfl, hg, hcs, hlr, -, b21⟩
        have hG : CellsAt w21 AnyB gv (collectC es zs) := by
          have := any_cells hg.at
          rw [hcs, collect_again (heapOk_kids HOK.out.1) (heapOk_one HOK.out.1)] at this
          exact this
        have hL : IntsAt w21 AnyB lv (collectR es zs) := by
          rw [collect_againR (heapOk_kids HOK.out.1) (heapOk_one HOK.out.1)] at hlr
          exact any_ints (own_ints hlr (roots_in (by omega)))
        have H21 := (show Hid (_ ∧ _ ∧ _ ∧ _) from ⟨HB.out.1.below b21, hG, hL, HB.out.2.trans (b21.mono HB.out.2.size)⟩)
        obtain ⟨ga2, gc2, rfl⟩ := hG.form
        obtain ⟨la2, lc2, rfl⟩ := hL.form
        have hok2 := heapOk_new (rs := zs) HOK.out.1
        have hle := collectC_le (es := es) (rs := zs)
        have hle' : (((collectC es zs).length : Nat) : Int) ≤ ((es.length : Nat) : Int) := by omega
        have hbz : ((((collectC es zs).length : Nat) : Int) == (((collectC es zs).length : Nat) : Int)) = true := by simp
        have HA := (show Hid (_ ∧ _) from ⟨alive_new (es := es) (rs := zs), hok2⟩)
        clear hg hcs hlr b21 hG hL HB hok2 hle
        go_wp2_with (first
          | (go_at_call 18; refine (implHeapOk_any _ (collectC es zs) 20 AnyB _ H21.out.1.g (by omega)).mono ?_; rintro e w22 ⟨rfl, d22⟩; rw [HA.out.2]; have H22 := (show Hid (_ ∧ _ ∧ _ ∧ _) from ⟨H21.out.1.below d22, H21.out.2.1.below d22, H21.out.2.2.1.below d22, H21.out.2.2.2.trans (d22.mono H21.out.2.2.2.size)⟩); clear d22 H21)
          | (go_at_call 16; refine (implAlive_any _ _ (collectC es zs) (collectR es zs) AnyB AnyB _ H22.out.1.g H22.out.1.l (by omega)).mono ?_; rintro e w23 ⟨pv, rfl, ho23, d23⟩; rw [HA.out.1] at ho23; obtain ⟨pa, pc, rfl⟩ := own_form ho23; have H23 := (show Hid (_ ∧ _ ∧ _ ∧ _) from ⟨H22.out.1.below d23, H22.out.2.1.below d23, H22.out.2.2.1.below d23, H22.out.2.2.2.trans (d23.mono H22.out.2.2.2.size)⟩); clear d23 H22 ho23)
          | (go_at_call 12; refine (sameHeap_same _ _ _ AnyB AnyB _ H23.out.2.1 H23.out.1.g).mono ?_; rintro e w24 ⟨rfl, d24⟩; have H24 := (show Hid (_ ∧ _ ∧ _) from ⟨H23.out.2.2.1.below d24, H23.out.1.l.below d24, H23.out.2.2.2.trans (d24.mono H23.out.2.2.2.size)⟩); clear d24 H23)
          | (go_at_call 13; refine (sameInts_same _ _ _ AnyB AnyB _ H24.out.1 H24.out.2.1).mono ?_; rintro e w25 ⟨rfl, d25⟩; have H25 := (show Hid (_ ∧ True) from ⟨H24.out.2.2.trans (d25.mono H24.out.2.2.size), trivial⟩); clear d25 H24))
        go_ret
        exact ⟨rfl, H25.out.1⟩
end Go.Proofs.YtfhjkiimdkjhjaaGreatDoor
