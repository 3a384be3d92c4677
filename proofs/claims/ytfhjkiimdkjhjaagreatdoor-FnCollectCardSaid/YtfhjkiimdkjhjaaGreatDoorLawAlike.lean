/-
  The laws' look whether two places of two heaps are alike to a depth.
-/
import Derived.Test.YtfhjkiimdkjhjaaGreatDoorCollectFacts
import Derived.Test.YtfhjkiimdkjhjaaGreatDoorSpecFollow
import Derived.Lib.QuietBelow
import Derived.BigQuiet
namespace Go.Proofs.YtfhjkiimdkjhjaaGreatDoor
open Go.RowKit Go.Joins

set_option maxRecDepth 100000

theorem alikeB_is {es gs : List Ce} {deep : Nat} {i k : Int} (h : alikeB es gs deep i k = true) :
    (follow es i < 0 ∧ follow gs k < 0) ∨ ((follow es i < 0 ∨ follow gs k < 0) ∧ deep = 0) ∨
    ∃ (x y : Nat) (c d : Ce), follow es i = x ∧ follow gs k = y ∧ es[x]? = some c ∧ gs[y]? = some d ∧ c.kind = d.kind ∧ c.n = d.n ∧ c.pos = d.pos ∧ c.kids.length = d.kids.length ∧
      ∀ m, deep = m + 1 → ∀ (n : Nat) (p q : Int), c.kids[n]? = some p → d.kids[n]? = some q → alikeB es gs m p q = true := by
  rw [alikeB] at h
  split at h
  · rename_i hn
    rw [Bool.or_eq_true, Bool.and_eq_true, decide_eq_true_eq, decide_eq_true_eq, decide_eq_true_eq] at h
    rcases h with h | h
    · exact .inl h
    · exact .inr (.inl ⟨hn, h⟩)
  · rename_i hn
    refine .inr (.inr ?_)
    obtain ⟨x, hx⟩ := Int.eq_ofNat_of_zero_le (show 0 ≤ follow es i by omega)
    obtain ⟨y, hy⟩ := Int.eq_ofNat_of_zero_le (show 0 ≤ follow gs k by omega)
    rw [hx, hy, cellAt_nat, cellAt_nat] at h
    split at h
    · rename_i c d hc hd
      simp only [Bool.and_eq_true, decide_eq_true_eq] at h
      obtain ⟨⟨⟨⟨h1, h2⟩, h3⟩, h4⟩, h5⟩ := h
      refine ⟨x, y, c, d, hx, hy, hc, hd, h1, h2, h3, h4, fun m hm n p q hp hq => ?_⟩
      subst hm
      simp only at h5
      have hn' := (List.getElem?_eq_some_iff.1 hp).1
      have := List.all_eq_true.1 h5 n (List.mem_range.2 hn')
      rw [List.getD_eq_getElem?_getD, List.getD_eq_getElem?_getD, hp, hq] at this
      exact this
    · exact absurd h (by simp)

theorem ints_cell {w : World} {S : Nat → Prop} {a : Option Addr} {n cap i : Nat} {ts : List Int} {t : Int} (h : IntsAt w S (.slice a n cap) ts) (hi : ts[i]? = some t) : ∃ b off, a = some ⟨b, off, none⟩ ∧ b < w.heap.size ∧ w.cell? ⟨b, off + i, none⟩ = some (.int .i64 t) := by
  obtain ⟨a', cap', hv, _, hc⟩ := h
  obtain ⟨b, off, ha, _, hl, hcell, _⟩ := hc i t hi
  simp at hv
  exact ⟨b, off, hv.1.trans ha, hl, hcell⟩
theorem two_new (w : World) (o1 o2 : Obj) : ((w.alloc o1).alloc o2).drew.heap[w.heap.size]? = some o1 ∧ ((w.alloc o1).alloc o2).drew.heap[w.heap.size + 1]? = some o2 := by
  refine ⟨(Below.heap_alloc _ _ _ (by simp)).trans (MapKept.heap_alloc w o1).1, ?_⟩
  have := (MapKept.heap_alloc (w.alloc o1) o2).1
  rw [show (w.alloc o1).heap.size = w.heap.size + 1 by simp] at this
  exact this

def AlikeS (deep : Nat) : Prop := ∀ (v1 v2 : Value) (es gs : List Ce) (S1 S2 : Nat → Prop) (w : World) (i k : Int), CellsAt w S1 v1 es → CellsAt w S2 v2 gs → es.length ≤ 4194304 → gs.length ≤ 4194304 → alikeB es gs deep i k = true →
  Calls Tryz.prog 22 #[v1, .int .i64 i, v2, .int .i64 k, .int .i64 (deep : Int)] w fun e w' => e = .returned (.bool true) ∧ Below w.heap.size w w'

set_option maxHeartbeats 6400000 in
theorem alike_of (deep : Nat) (hd : deep ≤ 100) (ih : ∀ m, deep = m + 1 → AlikeS m) : AlikeS deep := by
  intro v1 v2 es gs S1 S2 w i k h1 h2 hl1 hl2 hal
  have hw2 := alikeB_is hal
  clear hal
  have HF1 : Hid (∀ wx : World, Below w.heap.size w wx → Calls Tryz.prog 15 #[v1, .int .i64 i] wx fun e w' => e = .returned (.int .i64 (follow es i)) ∧ Below wx.heap.size wx w') := fun wx hb => specFollow_any v1 es i S1 wx (h1.below hb) hl1
  have HF2 : Hid (∀ wx : World, Below w.heap.size w wx → Calls Tryz.prog 15 #[v2, .int .i64 k] wx fun e w' => e = .returned (.int .i64 (follow gs k)) ∧ Below wx.heap.size wx w') := fun wx hb => specFollow_any v2 gs k S2 wx (h2.below hb) hl2
  obtain ⟨a1, cap1, rfl, hm1, hc1⟩ := h1
  obtain ⟨a2, cap2, rfl, hm2, hc2⟩ := h2
  have H1 := (show Hid (_ ∧ True) from ⟨hc1, trivial⟩)
  have H2 := (show Hid (_ ∧ True) from ⟨hc2, trivial⟩)
  have HIH := (show Hid (_ ∧ True) from ⟨ih, trivial⟩)
  have HLL := (show Hid (_ ∧ _) from ⟨hm1, hm2⟩)
  clear hc1 hc2 ih hm1 hm2
  obtain ⟨x, hx⟩ : ∃ x, follow es i = x := ⟨_, rfl⟩
  obtain ⟨y, hy⟩ : ∃ y, follow gs k = y := ⟨_, rfl⟩
  rw [hx] at HF1
  rw [hy] at HF2
  rw [hx, hy] at hw2
  clear hx hy
  go_enter Tryz.func22, Tryz.ntmps22
  go_wp2_with fail
  refine (HF1.out w (Below.refl _ _)).mono ?_
  rintro e w4 ⟨rfl, b4⟩
  have HB4 : Hid (Below w.heap.size w w4) := b4
  clear b4
  go_wp2_with fail
  refine (HF2.out w4 HB4.out).mono ?_
  rintro e w5 ⟨rfl, b5⟩
  have HB5 : Hid (Below w.heap.size w w5) := HB4.out.trans (b5.mono HB4.out.size)
  have hs5 := HB5.out.size
  clear b5 HF1 HF2 HB4
  rcases hw2 with ⟨hx, hy⟩ | ⟨hxy, h0⟩ | ⟨x', y', c, d, rfl, rfl, hc, hdd, e1, e2, e3, e4, hkids⟩
  · go_wp2
    go_ret
    exact ⟨rfl, HB5.out⟩
  · subst h0
    by_cases hx : x < 0
    · by_cases hy : y < 0
      · go_wp2
        go_ret
        exact ⟨rfl, HB5.out⟩
      · go_wp2
        go_ret
        exact ⟨rfl, HB5.out⟩
    · have hy : y < 0 := by omega
      go_wp2
      go_ret
      exact ⟨rfl, HB5.out⟩
  · obtain ⟨b1, off1, kv1, rfl, -, hb1, c0, c1, c2, c3, r1, r2, r3, k1⟩ := H1.out.1 x' c hc
    obtain ⟨b2, off2, kv2, rfl, -, hb2, d0, d1, d2, d3, -, -, -, k2⟩ := H2.out.1 y' d hdd
    have hxl := (List.getElem?_eq_some_iff.1 hc).1
    have hyl := (List.getElem?_eq_some_iff.1 hdd).1
    rw [← HB5.out.cell (by exact hb1)] at c0 c1 c2 c3
    rw [← HB5.out.cell (by exact hb2)] at d0 d1 d2 d3
    rw [← e1] at d0
    rw [← e2] at d1
    rw [← e3] at d2
    obtain ⟨ka1, kc1, rfl⟩ := k1.form
    obtain ⟨ka2, kc2, rfl⟩ := k2.form
    rw [← e4] at d3
    have g1 : (c.kind != c.kind) = false := by simp
    have g2 : (c.n != c.n) = false := by simp
    have g3 : (c.pos != c.pos) = false := by simp
    have g4 : (((c.kids.length : Nat) : Int) != ((c.kids.length : Nat) : Int)) = false := by simp
    have hkl := k1.len
    have HK := (show Hid (_ ∧ _ ∧ _ ∧ _ ∧ _ ∧ _ ∧ _) from ⟨k1, k2, hkids, e4, H1.out.1, H2.out.1, HIH.out.1⟩)
    clear k1 k2 hkids hc hdd H1 H2 HIH r1 r2 r3 e1 e2 e3
    clear e4
    have g5 : b1 < w5.heap.size := by omega
    have j5 : ¬ b1 = w5.heap.size := by omega
    have g6 : b1 < w5.heap.size + 1 := by omega
    have j6 : ¬ b1 = w5.heap.size + 1 := by omega
    have g7 : b2 < w5.heap.size := by omega
    have j7 : ¬ b2 = w5.heap.size := by omega
    have g8 : b2 < w5.heap.size + 1 := by omega
    have j8 : ¬ b2 = w5.heap.size + 1 := by omega
    go_wp2_with fail
    go_region
    all_goals
      first
        | (obtain ⟨WX, hWX⟩ : ∃ WX, WX = ((w5.alloc (.cells #[.int .i64 c.kind, .int .i64 c.n, .int .i64 c.pos, .slice ka1 c.kids.length kc1] 32)).alloc (.cells #[.int .i64 c.kind, .int .i64 c.n, .int .i64 c.pos, .slice ka2 c.kids.length kc2] 32)).drew := ⟨_, rfl⟩; rw [← hWX]; have BX : Below w5.heap.size w5 WX := (by rw [hWX]; exact (((Below.refl _ w5).alloc (Nat.le_refl _) _).alloc (by simp) _).drew); have OC : WX.heap[w5.heap.size]? = some (.cells #[.int .i64 c.kind, .int .i64 c.n, .int .i64 c.pos, .slice ka1 c.kids.length kc1] 32) := (by rw [hWX]; exact (two_new w5 _ _).1); have OD : WX.heap[w5.heap.size + 1]? = some (.cells #[.int .i64 c.kind, .int .i64 c.n, .int .i64 c.pos, .slice ka2 c.kids.length kc2] 32) := (by rw [hWX]; exact (two_new w5 _ _).2); clear hWX)
        | (obtain ⟨WX, hWX⟩ : ∃ WX, WX = ((w5.alloc (.cells #[.int .i64 c.kind, .int .i64 c.n, .int .i64 c.pos, .slice ka2 c.kids.length kc2] 32)).alloc (.cells #[.int .i64 c.kind, .int .i64 c.n, .int .i64 c.pos, .slice ka1 c.kids.length kc1] 32)).drew := ⟨_, rfl⟩; rw [← hWX]; have BX : Below w5.heap.size w5 WX := (by rw [hWX]; exact (((Below.refl _ w5).alloc (Nat.le_refl _) _).alloc (by simp) _).drew); have OC : WX.heap[w5.heap.size + 1]? = some (.cells #[.int .i64 c.kind, .int .i64 c.n, .int .i64 c.pos, .slice ka1 c.kids.length kc1] 32) := (by rw [hWX]; exact (two_new w5 _ _).2); have OD : WX.heap[w5.heap.size]? = some (.cells #[.int .i64 c.kind, .int .i64 c.n, .int .i64 c.pos, .slice ka2 c.kids.length kc2] 32) := (by rw [hWX]; exact (two_new w5 _ _).1); clear hWX)
      clear c0 c1 c2 c3 d0 d1 d2 d3 g5 g6 g7 g8 j5 j6 j7 j8
      have y0 := cell_of_block OC 0
      have y1 := cell_of_block OC 1
      have y2 := cell_of_block OC 2
      have y3 := cell_of_block OC 3
      have u0 := cell_of_block OD 0
      have u1 := cell_of_block OD 1
      have u2 := cell_of_block OD 2
      have u3 := cell_of_block OD 3
      simp at y0 y1 y2 y3 u0 u1 u2 u3
      have HX := (show Hid (_ ∧ True) from ⟨BX, trivial⟩)
      have HY3 := (show Hid (∀ wx : World, Below WX.heap.size WX wx → _) from fun wx hb => (hb.cell (World.block_lt_of_cell? _ _ y3)).trans y3)
      have HU3 := (show Hid (∀ wx : World, Below WX.heap.size WX wx → _) from fun wx hb => (hb.cell (World.block_lt_of_cell? _ _ u3)).trans u3)
      clear BX OC OD
      go_wp2_with fail
      clear y0 y1 y2 y3 u0 u1 u2 u3
      go_loopw [15] (fun i wr => ∃ n : Nat, n ≤ c.kids.length ∧ i = .int .i64 n ∧ Below WX.heap.size WX wr) (fun i _ => c.kids.length - (intOf i).toNat)
      case atStart => exact ⟨0, Nat.zero_le _, rfl, by first | exact Below.refl _ _ | exact drewN_below (Below.refl _ _) _ | exact (Below.refl _ _).drew⟩
      case round =>
        obtain ⟨n, hn, rfl, hbw⟩ := hrel
        have y3 := HY3.out wr hbw
        have u3 := HU3.out wr hbw
        have hBw : Below w.heap.size w wr := HB5.out.trans ((HX.out.1.trans (hbw.mono HX.out.1.size)).mono hs5)
        by_cases hnl : n < c.kids.length
        · have hnl' : ((n : Nat) : Int) < ((c.kids.length : Nat) : Int) := by omega
          cases deep with
          | zero =>
            go_wp2
            go_ret
            exact ⟨rfl, hBw⟩
          | succ m =>
            have hm : (0 : Int) < ((m + 1 : Nat) : Int) := by omega
            have hm2 : ((m + 1 : Nat) : Int) - 1 = (m : Int) := by omega
            have hp := List.getElem?_eq_getElem hnl
            have hnl2 : n < d.kids.length := by have := HK.out.2.2.2.1; omega
            have hq := List.getElem?_eq_getElem hnl2
            generalize c.kids[n] = p at hp
            generalize d.kids[n] = q at hq
            obtain ⟨kb1, ko1, rfl, kl1, kx1⟩ := ints_cell HK.out.1 hp
            obtain ⟨kb2, ko2, rfl, kl2, kx2⟩ := ints_cell HK.out.2.1 hq
            rw [← hBw.cell (by exact kl1)] at kx1
            rw [← hBw.cell (by exact kl2)] at kx2
            have K1 := cell_regrown y3
            have K2 := cell_regrown u3
            have K3 := cell_regrown kx1
            have K4 := cell_regrown kx2
            have HAL : Hid (∀ wx : World, Below wr.heap.size wr wx → Calls Tryz.prog 22 #[.slice (some ⟨b1, off1, none⟩) es.length cap1, .int .i64 p, .slice (some ⟨b2, off2, none⟩) gs.length cap2, .int .i64 q, .int .i64 (m : Int)] wx fun e w' => e = .returned (.bool true) ∧ Below wx.heap.size wx w') := fun wx hx =>
              HK.out.2.2.2.2.2.2 m rfl _ _ es gs S1 S2 wx p q (CellsAt.below (w := w) ⟨_, _, rfl, HLL.out.1, HK.out.2.2.2.2.1⟩ (hBw.trans (hx.mono hBw.size))) (CellsAt.below (w := w) ⟨_, _, rfl, HLL.out.2, HK.out.2.2.2.2.2.1⟩ (hBw.trans (hx.mono hBw.size))) hl1 hl2 (HK.out.2.2.1 m rfl n p q hp hq)
            have HBw : Hid (Below w.heap.size w wr) := hBw
            clear hp hq hBw HY3 HU3
            go_wp2_with fail
            clear y3 u3 kx1 kx2
            refine wp_region_quiet_below (by kernel_rfl) (by kernel_rfl) ?_
            repeat (go_big_quiet_step (first | (go_at_call 22; exact Calls.regrown_of (HAL.out _ (below_regrown wr _ _)))))
            refine wpQuiet_nil ?_
            intro _ hw'
            obtain ⟨⟨dq, osq⟩, hw''⟩ := hw'
            subst hw''
            have b6 := below_regrown wr dq osq
            clear K1 K2 K3 K4
            generalize Go.Sort.grow (redrawn wr dq) osq = w6 at *
            have HB6 : Hid (Below wr.heap.size wr w6) := b6
            clear b6
            go_wp2_with fail
            exact ⟨⟨n + 1, by omega, by go_num, hbw.trans (HB6.out.mono hbw.size)⟩, by simp [intOf]; omega⟩
        · have hnl' : ¬ ((n : Nat) : Int) < ((c.kids.length : Nat) : Int) := by omega
          go_wp2
          go_ret
          exact ⟨rfl, hBw⟩
theorem alike_any : ∀ deep, deep ≤ 100 → AlikeS deep
  | 0, h => alike_of 0 h (fun m hm => by omega)
  | d + 1, h => alike_of (d + 1) h (fun m hm => by
      obtain rfl : m = d := by omega
      exact alike_any m (by omega))
end Go.Proofs.YtfhjkiimdkjhjaaGreatDoor
