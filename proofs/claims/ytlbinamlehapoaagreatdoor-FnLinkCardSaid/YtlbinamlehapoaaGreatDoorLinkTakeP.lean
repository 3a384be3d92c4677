/-
  The program's LinkTake.
-/
import Derived.Test.YtlbinamlehapoaaGreatDoorNB
import Derived.Test.YtlbinamlehapoaaGreatDoorNG
import Derived.Deep.RegionHeld3
namespace Go.Proofs.YtlbinamlehapoaaGreatDoor
open Go.RowKit Go.Joins

set_option maxRecDepth 100000

set_option maxHeartbeats 1600000 in
theorem implLinkTake_any (v : Value) (l : Lk) (p : Pa) (S : Nat → Prop) (a0 a2 a3 a4 : Addr) (w : World) (h : LkAt w S v l) (hb : l.bulk ≤ 1048576) (hs : p.body.size ≤ 1048576) (hpf : inI64 p.kind ∧ inI64 p.frm ∧ inI64 p.dst ∧ inI64 p.seq ∧ inI64 p.low) (hg : ET w) (he : EGT a0 a2 a3 a4 w) :
    Calls Tryz.prog 9 #[v, .agg p.row] w fun e w' => ∃ v' ov sv rs, e = .returned (.tuple #[v', .bool (l.fresh p), .bool (l.due p)]) ∧ LkOwn w' w.heap.size v' (l.take p) ov sv rs ∧ Below w.heap.size w w' := by
  have hnot := ex_not
  obtain ⟨oa, oc, sa, sc, rfl, -, -⟩ := h.form
  obtain ⟨W0, hW0⟩ : ∃ W0, W0 = ((w.alloc (.cells (l.row (.slice oa l.out.length oc) (.slice sa l.seen.length sc)) 27)).alloc (.cells p.row 38)).alloc (.cells #[.int .i64 0, .int .i64 0, .slice none 0 0, .slice none 0 0] 27) := ⟨_, rfl⟩
  have B0 : Below w.heap.size w W0 := by rw [hW0]; exact (((Below.refl _ w).alloc (Nat.le_refl _) _).alloc (by simp) _).alloc (by simp; omega) _
  have O0 : W0.heap[w.heap.size]? = some (.cells (l.row (.slice oa l.out.length oc) (.slice sa l.seen.length sc)) 27) := by
    rw [hW0, Below.heap_alloc _ _ _ (by simp; omega), Below.heap_alloc _ _ _ (by simp)]; exact (MapKept.heap_alloc w _).1
  have O1 : W0.heap[w.heap.size + 1]? = some (.cells p.row 38) := by
    have := (MapKept.heap_alloc (w.alloc (.cells (l.row (.slice oa l.out.length oc) (.slice sa l.seen.length sc)) 27)) (.cells p.row 38)).1
    rw [hW0, Below.heap_alloc _ _ _ (by simp)]
    simpa using this
  have O2 : W0.heap[w.heap.size + 1 + 1]? = some (.cells (Lk.row ⟨0, 0, [], []⟩ (.slice none 0 0) (.slice none 0 0)) 27) := by
    have := (MapKept.heap_alloc ((w.alloc (.cells (l.row (.slice oa l.out.length oc) (.slice sa l.seen.length sc)) 27)).alloc (.cells p.row 38)) (.cells #[.int .i64 0, .int .i64 0, .slice none 0 0, .slice none 0 0] 27)).1
    rw [hW0]
    simpa using this
  have hs0 : w.heap.size + 3 ≤ W0.heap.size := lt_heap O2
  have H0 := (show Hid (_ ∧ _ ∧ _ ∧ _ ∧ _) from ⟨B0, O0, O1, O2, hW0⟩)
  have HL := (show Hid (_ ∧ _ ∧ _) from ⟨h, hg, he⟩)
  clear B0 O0 O1 O2 hW0 h hg he
  go_enter Tryz.func9, Tryz.ntmps9
  go_wp2_with fail
  rw [← (show W0 = _ from H0.out.2.2.2.2)]
  refine (copyLink_any _ l S _ (HL.out.1.below H0.out.1) hb).mono ?_
  rintro e w1 ⟨v1, ov1, sv1, rs1, rfl, A1, b1⟩
  have hv1 := A1.val
  obtain ⟨oa1, oc1, hov1⟩ := own_form A1.out.1
  have hrl1 : rs1.length = l.seen.length := by rw [← A1.is]; simp
  obtain ⟨n1, sa1, sc1, hn1, hsv1⟩ := own_formN A1.seen.cells
  obtain rfl : n1 = l.seen.length := by omega
  subst hov1 hsv1 hv1
  have hs1 : W0.heap.size ≤ w1.heap.size := b1.size
  obtain ⟨W1, hW1⟩ : ∃ W1, W1 = w1.alloc (.cells (l.row (.slice oa1 l.out.length oc1) (.slice sa1 l.seen.length sc1)) 27) := ⟨_, rfl⟩
  have bW1 : Below w1.heap.size w1 W1 := by rw [hW1]; exact (Below.refl _ w1).alloc (Nat.le_refl _) _
  have M1 : W1.heap[w1.heap.size]? = some (.cells (l.row (.slice oa1 l.out.length oc1) (.slice sa1 l.seen.length sc1)) 27) := by rw [hW1]; exact (MapKept.heap_alloc w1 _).1
  have b1' : Below W0.heap.size W0 W1 := b1.trans (bW1.mono hs1)
  have st1 : TkSt w W1 l p (.slice oa l.out.length oc) (.slice sa l.seen.length sc) w1.heap.size W0.heap.size l (.slice oa1 l.out.length oc1) (.slice sa1 l.seen.length sc1) rs1 :=
    ⟨H0.out.1.trans (b1'.mono (by omega)), (b1'.block _ (lt_heap H0.out.2.1)).trans H0.out.2.1, (b1'.block _ (lt_heap H0.out.2.2.1)).trans H0.out.2.2.1, (b1'.block _ (lt_heap H0.out.2.2.2.1)).trans H0.out.2.2.2.1, A1.below bW1, fun b hb => Nat.ne_of_lt (A1.own hb).2, M1, ⟨hs0, hs1⟩⟩
  have Q0 := (b1.block _ (lt_heap H0.out.2.1)).trans H0.out.2.1
  have QM := (b1.block _ (lt_heap H0.out.2.2.1)).trans H0.out.2.2.1
  have H1 := (show Hid (_ ∧ _) from ⟨st1, hW1⟩)
  clear st1 b1 b1' bW1 M1 hW1 A1 H0 hn1 hrl1
  obtain ⟨q0, q1, q2, q3⟩ := lbox Q0
  have hlt : w.heap.size < w1.heap.size := by omega
  have hlt1 : w.heap.size + 1 < w1.heap.size := by omega
  have hlt2 : w.heap.size + 1 + 1 < w1.heap.size := by omega
  obtain ⟨y0, y1, y2, y3, y4, y5⟩ := pbox6 QM
  go_wp2_with fail
  clear q0 q1 q2 q3 Q0 y0 y1 y2 y3 y4 y5 QM
  rw [← (show W1 = w1.alloc (.cells #[.int .i64 l.id, .int .i64 l.next, .slice oa1 l.out.length oc1, .slice sa1 l.seen.length sc1] 27) from H1.out.2)]
  refine (take_any H1.out.1 hb hs hpf (HL.out.2.2.below H1.out.1.base) (HL.out.2.1.below H1.out.1.base)).mono ?_
  intro e w2 hq
  obtain ⟨rs2, st2, hcase⟩ := hq
  obtain ⟨k, hk⟩ : ∃ k, l.take p = k := ⟨_, rfl⟩
  rw [hk] at st2
  have HKk := (show Hid (l.take p = k) from hk)
  clear hk
  have eg2 := HL.out.2.2.below st2.base
  have H2 := (show Hid (_ ∧ True) from ⟨st2, trivial⟩)
  obtain ⟨c10, c11, c12, c13⟩ := lbox st2.res
  have f10 : w2.frozen? ⟨w.heap.size + 1 + 1, 0, none⟩ = false := unfrozen_of_block st2.res 0
  have f11 : w2.frozen? ⟨w.heap.size + 1 + 1, 1, none⟩ = false := unfrozen_of_block st2.res 1
  have f12 : w2.frozen? ⟨w.heap.size + 1 + 1, 2, none⟩ = false := unfrozen_of_block st2.res 2
  have f13 : w2.frozen? ⟨w.heap.size + 1 + 1, 3, none⟩ = false := unfrozen_of_block st2.res 3
  obtain ⟨p0, p1, p2, p3⟩ := lbox st2.obx
  have g0 := eg2.g0
  have g2 := eg2.g2
  have g3 := eg2.g3
  have g4 := eg2.g4
  obtain ⟨ca0, ta0, eb0⟩ := eg2.b0
  obtain ⟨ca2, ta2, eb2⟩ := eg2.b2
  obtain ⟨ca3, ta3, eb3⟩ := eg2.b3
  obtain ⟨ca4, ta4, eb4⟩ := eg2.b4
  have HX := (show Hid (_ ∧ _ ∧ _ ∧ _ ∧ _ ∧ _) from ⟨is_other a3 a0 ca3 ca0 ta3 ta0 w2 (Ne.symm eg2.ne.2.1) eb3 eb0, is_other a2 a0 ca2 ca0 ta2 ta0 w2 (Ne.symm eg2.ne.1) eb2 eb0, is_other a2 a3 ca2 ca3 ta2 ta3 w2 eg2.ne.2.2.2.1 eb2 eb3, is_other a4 a0 ca4 ca0 ta4 ta0 w2 (Ne.symm eg2.ne.2.2.1) eb4 eb0, is_other a4 a3 ca4 ca3 ta4 ta3 w2 (Ne.symm eg2.ne.2.2.2.2.2) eb4 eb3, is_other a4 a2 ca4 ca2 ta4 ta2 w2 (Ne.symm eg2.ne.2.2.2.2.1) eb4 eb2⟩)
  clear H1 st2 eg2 eb0 eb2 eb3 eb4
  rcases hcase with ⟨⟨a, ha, rfl⟩, hc⟩ | ⟨rfl, hc⟩ | ⟨rfl, hc⟩ <;> (have HC := (show Hid (_ ∧ _) from hc); clear hc)
  · rcases ha with rfl | rfl | rfl
    · go_wp2_with fail
      refine (is_same a w2).mono ?_
      rintro e w3 ⟨rfl, hw⟩
      rw [hw]
      clear hw
      go_wp2
      refine bodyPost_ret (v := .tuple #[.agg (k.row (.slice oa1 l.out.length oc1) (.slice sa1 l.seen.length sc1)), .bool false, .bool false]) (by simp [results, Tryz.results9, go_sem, c10, c11, c12, c13]) rfl ?_
      obtain ⟨z1, z2⟩ := H2.out.1.fin (.int .i64 k.id) (.int .i64 k.next) (.slice oa1 l.out.length oc1) (.slice sa1 l.seen.length sc1)
      rw [HKk.out, HC.out.1, HC.out.2]
      exact ⟨_, _, _, rs2, rfl, z1, z2⟩
    · go_wp2_with fail
      refine HX.out.2.1.mono ?_
      rintro e w3 ⟨rfl, hw⟩
      rw [hw]
      clear hw
      go_wp2_with fail
      refine HX.out.2.2.1.mono ?_
      rintro e w4 ⟨rfl, hw⟩
      rw [hw]
      clear hw
      go_wp2_with fail
      refine (is_same a w2).mono ?_
      rintro e w5 ⟨rfl, hw⟩
      rw [hw]
      clear hw
      go_wp2
      refine bodyPost_ret (v := .tuple #[.agg (k.row (.slice oa1 l.out.length oc1) (.slice sa1 l.seen.length sc1)), .bool false, .bool false]) (by simp [results, Tryz.results9, go_sem, c10, c11, c12, c13]) rfl ?_
      obtain ⟨z1, z2⟩ := H2.out.1.fin (.int .i64 k.id) (.int .i64 k.next) (.slice oa1 l.out.length oc1) (.slice sa1 l.seen.length sc1)
      rw [HKk.out, HC.out.1, HC.out.2]
      exact ⟨_, _, _, rs2, rfl, z1, z2⟩
    · go_wp2_with fail
      refine HX.out.1.mono ?_
      rintro e w3 ⟨rfl, hw⟩
      rw [hw]
      clear hw
      go_wp2_with fail
      refine (is_same a w2).mono ?_
      rintro e w4 ⟨rfl, hw⟩
      rw [hw]
      clear hw
      go_wp2
      refine bodyPost_ret (v := .tuple #[.agg (k.row (.slice oa1 l.out.length oc1) (.slice sa1 l.seen.length sc1)), .bool false, .bool false]) (by simp [results, Tryz.results9, go_sem, c10, c11, c12, c13]) rfl ?_
      obtain ⟨z1, z2⟩ := H2.out.1.fin (.int .i64 k.id) (.int .i64 k.next) (.slice oa1 l.out.length oc1) (.slice sa1 l.seen.length sc1)
      rw [HKk.out, HC.out.1, HC.out.2]
      exact ⟨_, _, _, rs2, rfl, z1, z2⟩
  · go_wp2_with fail
    refine HX.out.2.2.2.1.mono ?_
    rintro e w3 ⟨rfl, hw⟩
    rw [hw]
    clear hw
    go_wp2_with fail
    refine HX.out.2.2.2.2.1.mono ?_
    rintro e w4 ⟨rfl, hw⟩
    rw [hw]
    clear hw
    go_wp2_with fail
    refine HX.out.2.2.2.2.2.mono ?_
    rintro e w5 ⟨rfl, hw⟩
    rw [hw]
    clear hw
    go_wp2_with fail
    refine (is_same a4 w2).mono ?_
    rintro e w6 ⟨rfl, hw⟩
    rw [hw]
    clear hw
    go_wp2
    refine bodyPost_ret (v := .tuple #[.agg (k.row (.slice oa1 l.out.length oc1) (.slice sa1 l.seen.length sc1)), .bool false, .bool true]) (by simp [results, Tryz.results9, go_sem, c10, c11, c12, c13]) rfl ?_
    obtain ⟨z1, z2⟩ := H2.out.1.fin (.int .i64 k.id) (.int .i64 k.next) (.slice oa1 l.out.length oc1) (.slice sa1 l.seen.length sc1)
    rw [HKk.out, HC.out.1, HC.out.2]
    exact ⟨_, _, _, rs2, rfl, z1, z2⟩
  · go_wp2_with fail
    refine (is_nil a0 w2).mono ?_
    rintro e w3 ⟨rfl, hw⟩
    rw [hw]
    clear hw
    go_wp2_with fail
    refine (is_nil a3 w2).mono ?_
    rintro e w4 ⟨rfl, hw⟩
    rw [hw]
    clear hw
    go_wp2_with fail
    refine (is_nil a2 w2).mono ?_
    rintro e w5 ⟨rfl, hw⟩
    rw [hw]
    clear hw
    go_wp2_with fail
    refine (is_nil a4 w2).mono ?_
    rintro e w6 ⟨rfl, hw⟩
    rw [hw]
    clear hw
    go_wp2
    refine bodyPost_ret (v := .tuple #[.agg (k.row (.slice oa1 l.out.length oc1) (.slice sa1 l.seen.length sc1)), .bool true, .bool true]) (by simp [results, Tryz.results9, go_sem, c10, c11, c12, c13]) rfl ?_
    obtain ⟨z1, z2⟩ := H2.out.1.fin (.int .i64 k.id) (.int .i64 k.next) (.slice oa1 l.out.length oc1) (.slice sa1 l.seen.length sc1)
    rw [HKk.out, HC.out.1, HC.out.2]
    exact ⟨_, _, _, rs2, rfl, z1, z2⟩
end Go.Proofs.YtlbinamlehapoaaGreatDoor
