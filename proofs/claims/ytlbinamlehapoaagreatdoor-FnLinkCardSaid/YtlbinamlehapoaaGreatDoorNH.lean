/-
  The program's LinkAck.
  The specification's LinkAck.
-/
import Derived.Test.YtlbinamlehapoaaGreatDoorNG
import Derived.Test.YtlbinamlehapoaaGreatDoorImplLinkOk
import Derived.Test.YtlbinamlehapoaaGreatDoorLinkCopyS
import Derived.Test.YtlbinamlehapoaaGreatDoorSpecLinkOk
namespace Go.Proofs.YtlbinamlehapoaaGreatDoor
open Go.RowKit Go.Joins

set_option maxRecDepth 100000

def keepA (frm seq : Int) (s : Sn) : Bool := (s.dst != frm) || (s.seq != seq)
/-- A link without what was acknowledged. -/
def Lk.ack (l : Lk) (frm seq : Int) : Lk := if l.ok then ⟨l.id, l.next, l.out.filter (keepA frm seq), l.seen⟩ else l

theorem filter_take {p : Sn → Bool} {l : List Sn} {k : Nat} {x : Sn} (h : l[k]? = some x) : (l.take (k + 1)).filter p = (l.take k).filter p ++ (if p x then [x] else []) := by
  have hk := (List.getElem?_eq_some_iff.1 h).1
  rw [List.take_succ_eq_append_getElem hk, List.filter_append, (List.getElem?_eq_some_iff.1 h).2]
  congr 1
  cases hp : p x <;> simp [hp]
theorem snCells_ones (x : Sn) : ∀ u ∈ snCells x, u.oneCell' = true := by
  intro u hu
  simp [snCells] at hu
  rcases hu with rfl | rfl | rfl <;> rfl
theorem cell_three_new (w : World) (a b c : Value) (t : TypeId) : ∀ j u, [a, b, c][j]? = some u → (w.alloc (.cells #[a, b, c] t)).cell? ((⟨w.heap.size, 0, none⟩ : Addr).add j) = some u := by
  intro j u hj
  have h := (MapKept.heap_alloc w (.cells #[a, b, c] t)).1
  rw [addr_addI, cell_of_block h, Nat.zero_add]
  simpa using hj
/-- A link's copy, its box apart. -/
structure AckSt (w W : World) (l : Lk) (Bc bx : Nat) (ov sv : Value) (rs : List (Se × Value)) : Prop where
  base : Below w.heap.size w W
  res : W.heap[w.heap.size + 1]? = some (.cells (Lk.row ⟨0, 0, [], []⟩ (.slice none 0 0) (.slice none 0 0)) 27)
  own : LkOwn W Bc (.agg #[.int .i64 l.id, .int .i64 l.next, ov, sv]) l ov sv rs
  lt : ∀ b, LkBlk ov sv rs b → b < bx
  box : W.heap[bx]? = some (.cells (l.row ov sv) 27)
  ord : w.heap.size + 2 ≤ Bc ∧ Bc ≤ bx
theorem AckSt.below {w W W' : World} {l : Lk} {Bc bx : Nat} {ov sv : Value} {rs : List (Se × Value)} (h : AckSt w W l Bc bx ov sv rs) (hb : Below W.heap.size W W') : AckSt w W' l Bc bx ov sv rs :=
  ⟨h.base.trans (hb.mono h.base.size), (hb.block _ (lt_heap h.res)).trans h.res, h.own.below hb, h.lt, (hb.block _ (lt_heap h.box)).trans h.box, h.ord⟩
theorem AckSt.grown {w W W' : World} {l : Lk} {Bc bx : Nat} {ov sv u : Value} {rs : List (Se × Value)} (h : AckSt w W l Bc bx ov sv rs) (hg : W.grownBy W' u.ownBlock) (hu : ∀ b, u.ownBlock = some b → bx < b) : AckSt w W' l Bc bx ov sv rs := by
  have hbx : bx < W.heap.size := lt_heap h.box
  have hlow : ∀ k, k ≤ bx → W'.heap[k]? = W.heap[k]? := fun k hk => hg.block k (by omega) (fun e => by have := hu k e.symm; omega)
  refine ⟨Below.grown h.base hg (hB := h.base.size) (hr := fun b hb => by have := hu b hb; have := h.ord; omega), (hlow _ (by have := h.ord; omega)).trans h.res, h.own.moved (fun b hb => hlow b (by have := h.lt b hb; omega)), h.lt, (hlow _ (Nat.le_refl _)).trans h.box, h.ord⟩

set_option maxHeartbeats 1600000 in
theorem implLinkAck_any (v : Value) (l : Lk) (frm seq : Int) (S : Nat → Prop) (w : World) (h : LkAt w S v l) (hb : l.bulk ≤ 1048576) (hg : ET w) :
    Calls Tryz.prog 12 #[v, .int .i64 frm, .int .i64 seq] w fun e w' => ∃ v' ov sv rs, e = .returned v' ∧ LkOwn w' w.heap.size v' (l.ack frm seq) ov sv rs ∧ Below w.heap.size w w' := by
  have hnot := ex_not
  obtain ⟨oa, oc, sa, sc, rfl, -, -⟩ := h.form
  obtain ⟨i0, hi, hz0, hz1, hz2⟩ := info_parts infoSent
  obtain ⟨W0, hW0⟩ : ∃ W0, W0 = (w.alloc (.cells (l.row (.slice oa l.out.length oc) (.slice sa l.seen.length sc)) 27)).alloc (.cells #[.int .i64 0, .int .i64 0, .slice none 0 0, .slice none 0 0] 27) := ⟨_, rfl⟩
  have B0 : Below w.heap.size w W0 := by rw [hW0]; exact ((Below.refl _ w).alloc (Nat.le_refl _) _).alloc (by simp) _
  have O0 : W0.heap[w.heap.size]? = some (.cells (l.row (.slice oa l.out.length oc) (.slice sa l.seen.length sc)) 27) := by
    rw [hW0, Below.heap_alloc _ _ _ (by simp)]; exact (MapKept.heap_alloc w _).1
  have O1 : W0.heap[w.heap.size + 1]? = some (.cells (Lk.row ⟨0, 0, [], []⟩ (.slice none 0 0) (.slice none 0 0)) 27) := by
    have := (MapKept.heap_alloc (w.alloc (.cells (l.row (.slice oa l.out.length oc) (.slice sa l.seen.length sc)) 27)) (.cells #[.int .i64 0, .int .i64 0, .slice none 0 0, .slice none 0 0] 27)).1
    rw [hW0]
    simpa using this
  have hs0 : w.heap.size + 2 ≤ W0.heap.size := lt_heap O1
  have H0 := (show Hid (_ ∧ _ ∧ _ ∧ _) from ⟨B0, O0, O1, hW0⟩)
  have HL := (show Hid (_ ∧ _) from ⟨h, hg⟩)
  clear B0 O0 O1 hW0 h hg
  go_enter Tryz.func12, Tryz.ntmps12
  go_wp2_with fail
  rw [← (show W0 = _ from H0.out.2.2.2)]
  refine (copyLink_any _ l S _ (HL.out.1.below H0.out.1) hb).mono ?_
  rintro e w1 ⟨v1, ov1, sv1, rs1, rfl, A1, b1⟩
  have hv1 := A1.val
  obtain ⟨oa1, oc1, hov1⟩ := own_form A1.out.1
  have hrl1 : rs1.length = l.seen.length := by rw [← A1.is]; simp
  obtain ⟨n1, sa1, sc1, hn1, hsv1⟩ := own_formN A1.seen.cells
  obtain rfl : n1 = l.seen.length := by omega
  subst hov1 hsv1 hv1
  have hs1 : W0.heap.size ≤ w1.heap.size := b1.size
  obtain ⟨W1, hW1⟩ : ∃ W1, W1 = w1.alloc (.cells (l.row (.slice oa1 l.out.length oc1) (.slice sa1 l.seen.length sc1)) 27) := ⟨_, rfl⟩
  have bW1 : Below w1.heap.size w1 W1 := by rw [hW1]; exact (Below.refl _ w1).alloc (Nat.le_refl _) _
  have M1 : W1.heap[w1.heap.size]? = some (.cells (l.row (.slice oa1 l.out.length oc1) (.slice sa1 l.seen.length sc1)) 27) := by rw [hW1]; exact (MapKept.heap_alloc w1 _).1
  have b1' : Below W0.heap.size W0 W1 := b1.trans (bW1.mono hs1)
  have st1 : AckSt w W1 l W0.heap.size w1.heap.size (.slice oa1 l.out.length oc1) (.slice sa1 l.seen.length sc1) rs1 :=
    ⟨H0.out.1.trans (b1'.mono (by omega)), (b1'.block _ (lt_heap H0.out.2.2.1)).trans H0.out.2.2.1, A1.below bW1, fun b hb => (A1.own hb).2, M1, ⟨hs0, hs1⟩⟩
  have Q0 := (b1.block _ (lt_heap H0.out.2.1)).trans H0.out.2.1
  obtain ⟨q0, q1, q2, q3⟩ := lbox Q0
  have hlt : w.heap.size < w1.heap.size := by omega
  have hs1' : w1.heap.size + 1 ≤ W1.heap.size := lt_heap M1
  have H1 := (show Hid (_ ∧ _ ∧ _) from ⟨st1, implLinkOk_any _ l S W1 (HL.out.1.below st1.base) hb (HL.out.2.below st1.base), hW1⟩)
  clear st1 Q0 b1 b1' bW1 M1 hW1 A1 H0 hrl1 hn1
  go_wp2_with fail
  clear q0 q1 q2 q3
  rw [← (show W1 = w1.alloc (.cells #[.int .i64 l.id, .int .i64 l.next, .slice oa1 l.out.length oc1, .slice sa1 l.seen.length sc1] 27) from H1.out.2.2)]
  refine H1.out.2.1.mono ?_
  rintro e w2 ⟨rfl, b2⟩
  have hs2 : W1.heap.size ≤ w2.heap.size := b2.size
  have H2 := (show Hid (_ ∧ True) from ⟨H1.out.1.below b2, trivial⟩)
  clear b2 H1
  obtain ⟨p0, p1, p2, p3⟩ := lbox H2.out.1.box
  cases hok : l.ok with
  | false =>
    have HE : Hid (l.ack frm seq = l) := by show _ = _; unfold Lk.ack; rw [hok]; rfl
    clear hok
    obtain ⟨c10, c11, c12, c13⟩ := lbox H2.out.1.res
    have f10 : w2.frozen? ⟨w.heap.size + 1, 0, none⟩ = false := unfrozen_of_block H2.out.1.res 0
    have f11 : w2.frozen? ⟨w.heap.size + 1, 1, none⟩ = false := unfrozen_of_block H2.out.1.res 1
    have f12 : w2.frozen? ⟨w.heap.size + 1, 2, none⟩ = false := unfrozen_of_block H2.out.1.res 2
    have f13 : w2.frozen? ⟨w.heap.size + 1, 3, none⟩ = false := unfrozen_of_block H2.out.1.res 3
    go_wp2
    refine bodyPost_ret (v := .agg (l.row (.slice oa1 l.out.length oc1) (.slice sa1 l.seen.length sc1))) (by simp [results, Tryz.results12, go_sem, c10, c11, c12, c13]) rfl ?_
    rw [HE.out]
    have hO := H2.out.1.own
    have hord := H2.out.1.ord
    refine ⟨.agg (l.row (.slice oa1 l.out.length oc1) (.slice sa1 l.seen.length sc1)), .slice oa1 l.out.length oc1, .slice sa1 l.seen.length sc1, rs1, rfl, ?_, ?_⟩
    · have hO' : LkOwn w2 w.heap.size (.agg (l.row (.slice oa1 l.out.length oc1) (.slice sa1 l.seen.length sc1))) l (.slice oa1 l.out.length oc1) (.slice sa1 l.seen.length sc1) rs1 :=
        ⟨rfl, hO.fits, ⟨own_mono hO.out.1 (by omega), hO.out.2⟩, ⟨own_mono hO.seen.cells (by omega), fun r hr => ⟨own_mono (hO.seen.kids r hr).1 (by omega), (hO.seen.kids r hr).2⟩, hO.seen.apart⟩, hO.is⟩
      refine hO'.moved (fun b hb => ?_)
      have := (hO.own hb).1
      rw [Below.heap_setCell _ _ _ _ (by simp; omega), Below.heap_setCell _ _ _ _ (by simp; omega), Below.heap_setCell _ _ _ _ (by simp; omega), Below.heap_setCell _ _ _ _ (by simp; omega)]
    · exact (((H2.out.1.base.setCell (p := ⟨w.heap.size + 1, 0, none⟩) (by simp) _).setCell (p := ⟨w.heap.size + 1, 1, none⟩) (by simp) _).setCell (p := ⟨w.heap.size + 1, 2, none⟩) (by simp) _).setCell (p := ⟨w.heap.size + 1, 3, none⟩) (by simp) _
  | true =>
    have HE : Hid (l.ack frm seq = ⟨l.id, l.next, l.out.filter (keepA frm seq), l.seen⟩) := by show _ = _; unfold Lk.ack; rw [hok]; rfl
    have h60 : l.out.length ≤ 60 := by
      have hok' := hok
      unfold Lk.ok Lk.outOk at hok'
      simp only [Bool.and_eq_true, decide_eq_true_eq] at hok'
      omega
    clear hok
    go_wp2
    clear p0 p1 p2 p3
    go_loopw [8, 20] (fun lv i wr => ∃ (k : Nat) (la : Option Addr) (lm lc : Nat), k ≤ l.out.length ∧ i = .int .i64 k ∧ lv = .slice la lm lc ∧ lm = ((l.out.take k).filter (keepA frm seq)).length ∧ wr.ownsRow w2.heap.size 68 3 (.slice la lm lc) lm (((l.out.take k).filter (keepA frm seq)).flatMap snCells) ∧ AckSt w wr l W0.heap.size w1.heap.size (.slice oa1 l.out.length oc1) (.slice sa1 l.seen.length sc1) rs1 ∧ w2.heap.size ≤ wr.heap.size) (fun _ i _ => l.out.length - (intOf i).toNat)
    case atStart => exact ⟨0, none, 0, 0, Nat.zero_le _, rfl, rfl, rfl, ⟨rfl, .inl ⟨rfl, rfl⟩⟩, H2.out.1, Nat.le_refl _⟩
    case round =>
      clear H2
      obtain ⟨k, la, lm, lc, hk, rfl, rfl, hlm, hrow, hst, hsz⟩ := hrel
      have hml : lm ≤ 60 := by
        rw [hlm]
        exact Nat.le_trans (List.length_filter_le _ _) (by rw [List.length_take]; omega)
      by_cases hkl : k < l.out.length
      · have he := List.getElem?_eq_getElem hkl
        generalize l.out[k] = x at *
        obtain ⟨a', cap', hv', -, hc'⟩ := hst.own.out.at
        cases hv'
        obtain ⟨b, off, hoa, hSb, hlt2, c0, c1, c2, r1, r2, r3⟩ := hc' k x he
        subst hoa
        have hlt' : ((k : Nat) : Int) < ((l.out.length : Nat) : Int) := by omega
        have hft := filter_take (p := keepA frm seq) he
        have HL2 : Hid (lm = ((l.out.take k).filter (keepA frm seq)).length) := hlm
        obtain ⟨W3, hW3⟩ : ∃ W3, W3 = wr.alloc (.cells #[.int .i64 x.seq, .int .i64 x.dst, .string x.body] 68) := ⟨_, rfl⟩
        have b3 : Below wr.heap.size wr W3 := by rw [hW3]; exact (Below.refl _ wr).alloc (Nat.le_refl _) _
        have hrow3 := own_moved hrow (fun g hg => b3.block g (own_lt hrow g hg))
        have hs3 : wr.heap.size ≤ W3.heap.size := b3.size
        have H3 := (show Hid (_ ∧ _ ∧ _ ∧ _) from ⟨hst.below b3, hrow3, hft, hW3⟩)
        clear hst hrow hrow3 b3 hft he hc' hSb r1 r2 r3 hlm
        cases d1 : (x.dst != frm) with
        | false =>
          cases d2 : (x.seq != seq) with
          | false =>
            have HK : Hid ((l.out.take (k + 1)).filter (keepA frm seq) = (l.out.take k).filter (keepA frm seq)) := by
              show _ = _
              rw [H3.out.2.2.1]
              unfold keepA
              rw [d1, d2]
              simp
            go_wp2
            rw [← (show W3 = _ from H3.out.2.2.2)]
            refine ⟨⟨k + 1, la, lm, lc, by omega, by go_num, rfl, by rw [HK.out]; exact HL2.out, by rw [HK.out]; exact H3.out.2.1, H3.out.1, by omega⟩, by simp [intOf]; omega⟩
          | true =>
            have HK : Hid ((l.out.take (k + 1)).filter (keepA frm seq) = (l.out.take k).filter (keepA frm seq) ++ [x]) := by
              show _ = _
              rw [H3.out.2.2.1]
              unfold keepA
              rw [d1, d2]
              simp
            obtain ⟨W4, hW4⟩ : ∃ W4, W4 = W3.alloc (.cells #[.int .i64 x.seq, .int .i64 x.dst, .string x.body] 68) := ⟨_, rfl⟩
            have b4 : Below W3.heap.size W3 W4 := by rw [hW4]; exact (Below.refl _ W3).alloc (Nat.le_refl _) _
            have hrow4 := own_moved H3.out.2.1 (fun g hg => b4.block g (own_lt H3.out.2.1 g hg))
            have hs4 : W3.heap.size ≤ W4.heap.size := b4.size
            have hnw := cell_three_new W3 (.int .i64 x.seq) (.int .i64 x.dst) (.string x.body) 68
            rw [← hW4] at hnw
            have hb4 : W3.heap.size = wr.heap.size + 1 := by rw [H3.out.2.2.2]; simp
            have H4 := (show Hid (_ ∧ _ ∧ _ ∧ _) from ⟨H3.out.1.below b4, hrow4, hnw, hW4⟩)
            clear b4 hrow4 hnw
            have e3 := (show Hid (_ ∧ True) from ⟨H3.out.2.2.2, trivial⟩)
            subst hW4
            have e3' := e3.out.1
            subst e3'
            go_wp2_with (at_builtin; refine wpList_append_own_at _ rfl _ _ 24 rfl w2.heap.size 68 i0 (.agg #[.int .i64 0, .int .i64 0, .string ByteArray.empty]) 3 32 Tryz.underlying24 hi hz0 hz1 hz2 rfl (by decide) _ lm _ rfl H4.out.2.1 ⟨wr.heap.size + 1, 0, none⟩ 1 1 (snCells x) rfl rfl (by have := H4.out.2.2.1; rw [hb4] at this; exact this) (snCells_ones x) (by unfold maxLen; omega) (by omega) (by simp; omega) ?_; intro v5 w5 hown5 hgrow5 hnil5 hat5; obtain ⟨n5, va, vc, hn5, rfl⟩ := own_formN hown5; have H5 := (show Hid (_ ∧ _ ∧ _) from ⟨hown5, hgrow5, hn5⟩); clear hown5 hgrow5 hnil5 hat5 hn5)
            obtain rfl : n5 = lm + 1 := H5.out.2.2
            refine ⟨⟨k + 1, va, lm + 1, vc, by omega, by go_num, rfl, ?_, ?_, H4.out.1.grown H5.out.2.1 (fun b hb => by have := (own_type H4.out.2.1 b hb).1; omega), ?_⟩, by simp [intOf]; omega⟩
            · rw [HK.out, List.length_append, ← HL2.out]; rfl
            · rw [HK.out, List.flatMap_append]
              have := H5.out.1
              simpa using this
            · have := H5.out.2.1.size
              simp at this
              omega
        | true =>
          have HK : Hid ((l.out.take (k + 1)).filter (keepA frm seq) = (l.out.take k).filter (keepA frm seq) ++ [x]) := by
            show _ = _
            rw [H3.out.2.2.1]
            unfold keepA
            rw [d1]
            simp
          obtain ⟨W4, hW4⟩ : ∃ W4, W4 = W3.alloc (.cells #[.int .i64 x.seq, .int .i64 x.dst, .string x.body] 68) := ⟨_, rfl⟩
          have b4 : Below W3.heap.size W3 W4 := by rw [hW4]; exact (Below.refl _ W3).alloc (Nat.le_refl _) _
          have hrow4 := own_moved H3.out.2.1 (fun g hg => b4.block g (own_lt H3.out.2.1 g hg))
          have hs4 : W3.heap.size ≤ W4.heap.size := b4.size
          have hnw := cell_three_new W3 (.int .i64 x.seq) (.int .i64 x.dst) (.string x.body) 68
          rw [← hW4] at hnw
          have hb4 : W3.heap.size = wr.heap.size + 1 := by rw [H3.out.2.2.2]; simp
          have H4 := (show Hid (_ ∧ _ ∧ _ ∧ _) from ⟨H3.out.1.below b4, hrow4, hnw, hW4⟩)
          clear b4 hrow4 hnw
          have e3 := (show Hid (_ ∧ True) from ⟨H3.out.2.2.2, trivial⟩)
          subst hW4
          have e3' := e3.out.1
          subst e3'
          go_wp2_with (at_builtin; refine wpList_append_own_at _ rfl _ _ 24 rfl w2.heap.size 68 i0 (.agg #[.int .i64 0, .int .i64 0, .string ByteArray.empty]) 3 32 Tryz.underlying24 hi hz0 hz1 hz2 rfl (by decide) _ lm _ rfl H4.out.2.1 ⟨wr.heap.size + 1, 0, none⟩ 1 1 (snCells x) rfl rfl (by have := H4.out.2.2.1; rw [hb4] at this; exact this) (snCells_ones x) (by unfold maxLen; omega) (by omega) (by simp; omega) ?_; intro v5 w5 hown5 hgrow5 hnil5 hat5; obtain ⟨n5, va, vc, hn5, rfl⟩ := own_formN hown5; have H5 := (show Hid (_ ∧ _ ∧ _) from ⟨hown5, hgrow5, hn5⟩); clear hown5 hgrow5 hnil5 hat5 hn5)
          obtain rfl : n5 = lm + 1 := H5.out.2.2
          refine ⟨⟨k + 1, va, lm + 1, vc, by omega, by go_num, rfl, ?_, ?_, H4.out.1.grown H5.out.2.1 (fun b hb => by have := (own_type H4.out.2.1 b hb).1; omega), ?_⟩, by simp [intOf]; omega⟩
          · rw [HK.out, List.length_append, ← HL2.out]; rfl
          · rw [HK.out, List.flatMap_append]
            have := H5.out.1
            simpa using this
          · have := H5.out.2.1.size
            simp at this
            omega
      · obtain rfl : k = l.out.length := by omega
        rw [List.take_length] at hlm hrow
        have HF := (show Hid (_ ∧ _ ∧ _) from ⟨hst, hrow, hlm⟩)
        obtain ⟨p0, p1, p2, p3⟩ := lbox hst.box
        have pf2 : wr.frozen? ⟨w1.heap.size, 2, none⟩ = false := unfrozen_of_block hst.box 2
        obtain ⟨c10, c11, c12, c13⟩ := lbox hst.res
        have f10 : wr.frozen? ⟨w.heap.size + 1, 0, none⟩ = false := unfrozen_of_block hst.res 0
        have f11 : wr.frozen? ⟨w.heap.size + 1, 1, none⟩ = false := unfrozen_of_block hst.res 1
        have f12 : wr.frozen? ⟨w.heap.size + 1, 2, none⟩ = false := unfrozen_of_block hst.res 2
        have f13 : wr.frozen? ⟨w.heap.size + 1, 3, none⟩ = false := unfrozen_of_block hst.res 3
        have hne : ¬ w1.heap.size = w.heap.size + 1 := by omega
        have hne' : ¬ w.heap.size + 1 = w1.heap.size := by omega
        clear hst hrow hlm
        go_wp2
        refine bodyPost_ret (v := .agg (l.row (.slice la lm lc) (.slice sa1 l.seen.length sc1))) (by simp [results, Tryz.results12, go_sem, c10, c11, c12, c13]) rfl ?_
        rw [HE.out]
        have hO := HF.out.1.own
        have hord := HF.out.1.ord
        have hrw := HF.out.2.1
        have hlm := HF.out.2.2
        have hlow := HF.out.1.lt
        refine ⟨.agg (l.row (.slice la lm lc) (.slice sa1 l.seen.length sc1)), rfl, ⟨.slice la lm lc, .slice sa1 l.seen.length sc1, rs1, ⟨rfl, hO.fits, ⟨?_, fun s hs => hO.out.2 s (List.mem_filter.1 hs).1⟩, ?_, hO.is⟩⟩, ?_⟩
        · show World.ownsRow _ _ _ _ _ ((l.out.filter (keepA frm seq)).length) _
          rw [← hlm]
          refine own_mono (own_moved hrw (fun b hb => ?_)) (by omega)
          have := (own_type hrw b hb).1
          rw [Below.heap_setCell _ _ _ _ (by simp; omega), Below.heap_setCell _ _ _ _ (by simp; omega), Below.heap_setCell _ _ _ _ (by simp; omega), Below.heap_setCell _ _ _ _ (by simp; omega), Below.heap_setCell _ _ _ _ (by simp; omega)]
        · have hO' : SeOwn wr w.heap.size (.slice sa1 l.seen.length sc1) rs1 := ⟨own_mono hO.seen.cells (by omega), fun r hr => ⟨own_mono (hO.seen.kids r hr).1 (by omega), (hO.seen.kids r hr).2⟩, hO.seen.apart⟩
          refine hO'.moved (fun b hb => ?_)
          have h1 := (hO.own (.inr hb)).1
          have h2 := hlow b (.inr hb)
          rw [Below.heap_setCell _ _ _ _ (by simp; omega), Below.heap_setCell _ _ _ _ (by simp; omega), Below.heap_setCell _ _ _ _ (by simp; omega), Below.heap_setCell _ _ _ _ (by simp; omega), Below.heap_setCell _ _ _ _ (by simp; omega)]
        · exact ((((HF.out.1.base.setCell (p := ⟨w1.heap.size, 2, none⟩) (by simp; omega) _).setCell (p := ⟨w.heap.size + 1, 0, none⟩) (by simp) _).setCell (p := ⟨w.heap.size + 1, 1, none⟩) (by simp) _).setCell (p := ⟨w.heap.size + 1, 2, none⟩) (by simp) _).setCell (p := ⟨w.heap.size + 1, 3, none⟩) (by simp) _
end Go.Proofs.YtlbinamlehapoaaGreatDoor

namespace Go.Proofs.YtlbinamlehapoaaGreatDoor
open Go.RowKit Go.Joins

set_option maxRecDepth 100000

set_option maxHeartbeats 1600000 in
theorem specLinkAck_any (v : Value) (l : Lk) (frm seq : Int) (S : Nat → Prop) (w : World) (h : LkAt w S v l) (hb : l.bulk ≤ 1048576) :
    Calls Tryz.prog 18 #[v, .int .i64 frm, .int .i64 seq] w fun e w' => ∃ v' ov sv rs, e = .returned v' ∧ LkOwn w' w.heap.size v' (l.ack frm seq) ov sv rs ∧ Below w.heap.size w w' := by
  have hnot := ex_not
  obtain ⟨oa, oc, sa, sc, rfl, -, -⟩ := h.form
  obtain ⟨i0, hi, hz0, hz1, hz2⟩ := info_parts infoSent
  obtain ⟨W0, hW0⟩ : ∃ W0, W0 = (w.alloc (.cells (l.row (.slice oa l.out.length oc) (.slice sa l.seen.length sc)) 27)).alloc (.cells #[.int .i64 0, .int .i64 0, .slice none 0 0, .slice none 0 0] 27) := ⟨_, rfl⟩
  have B0 : Below w.heap.size w W0 := by rw [hW0]; exact ((Below.refl _ w).alloc (Nat.le_refl _) _).alloc (by simp) _
  have O0 : W0.heap[w.heap.size]? = some (.cells (l.row (.slice oa l.out.length oc) (.slice sa l.seen.length sc)) 27) := by
    rw [hW0, Below.heap_alloc _ _ _ (by simp)]; exact (MapKept.heap_alloc w _).1
  have O1 : W0.heap[w.heap.size + 1]? = some (.cells (Lk.row ⟨0, 0, [], []⟩ (.slice none 0 0) (.slice none 0 0)) 27) := by
    have := (MapKept.heap_alloc (w.alloc (.cells (l.row (.slice oa l.out.length oc) (.slice sa l.seen.length sc)) 27)) (.cells #[.int .i64 0, .int .i64 0, .slice none 0 0, .slice none 0 0] 27)).1
    rw [hW0]
    simpa using this
  have hs0 : w.heap.size + 2 ≤ W0.heap.size := lt_heap O1
  have H0 := (show Hid (_ ∧ _ ∧ _ ∧ _) from ⟨B0, O0, O1, hW0⟩)
  have HL := (show Hid (_ ∧ True) from ⟨h, trivial⟩)
  clear B0 O0 O1 hW0 h
  go_enter Tryz.func18, Tryz.ntmps18
  go_wp2_with fail
  rw [← (show W0 = _ from H0.out.2.2.2)]
  refine (l08Copy_any _ l S _ (HL.out.1.below H0.out.1) hb).mono ?_
  rintro e w1 ⟨v1, ov1, sv1, rs1, rfl, A1, b1⟩
  have hv1 := A1.val
  obtain ⟨oa1, oc1, hov1⟩ := own_form A1.out.1
  have hrl1 : rs1.length = l.seen.length := by rw [← A1.is]; simp
  obtain ⟨n1, sa1, sc1, hn1, hsv1⟩ := own_formN A1.seen.cells
  obtain rfl : n1 = l.seen.length := by omega
  subst hov1 hsv1 hv1
  have hs1 : W0.heap.size ≤ w1.heap.size := b1.size
  obtain ⟨W1, hW1⟩ : ∃ W1, W1 = w1.alloc (.cells (l.row (.slice oa1 l.out.length oc1) (.slice sa1 l.seen.length sc1)) 27) := ⟨_, rfl⟩
  have bW1 : Below w1.heap.size w1 W1 := by rw [hW1]; exact (Below.refl _ w1).alloc (Nat.le_refl _) _
  have M1 : W1.heap[w1.heap.size]? = some (.cells (l.row (.slice oa1 l.out.length oc1) (.slice sa1 l.seen.length sc1)) 27) := by rw [hW1]; exact (MapKept.heap_alloc w1 _).1
  have b1' : Below W0.heap.size W0 W1 := b1.trans (bW1.mono hs1)
  have st1 : AckSt w W1 l W0.heap.size w1.heap.size (.slice oa1 l.out.length oc1) (.slice sa1 l.seen.length sc1) rs1 :=
    ⟨H0.out.1.trans (b1'.mono (by omega)), (b1'.block _ (lt_heap H0.out.2.2.1)).trans H0.out.2.2.1, A1.below bW1, fun b hb => (A1.own hb).2, M1, ⟨hs0, hs1⟩⟩
  have Q0 := (b1.block _ (lt_heap H0.out.2.1)).trans H0.out.2.1
  obtain ⟨q0, q1, q2, q3⟩ := lbox Q0
  have hlt : w.heap.size < w1.heap.size := by omega
  have hs1' : w1.heap.size + 1 ≤ W1.heap.size := lt_heap M1
  have H1 := (show Hid (_ ∧ _ ∧ _ ∧ _) from ⟨st1, specLinkOk_any _ l S W1 (HL.out.1.below st1.base) hb, (bW1.block _ (lt_heap Q0)).trans Q0, hW1⟩)
  clear st1 Q0 b1 b1' bW1 M1 hW1 A1 H0 hrl1 hn1
  go_wp2_with fail
  clear q0 q1 q2 q3
  rw [← (show W1 = w1.alloc (.cells #[.int .i64 l.id, .int .i64 l.next, .slice oa1 l.out.length oc1, .slice sa1 l.seen.length sc1] 27) from H1.out.2.2.2)]
  refine H1.out.2.1.mono ?_
  rintro e w2 ⟨rfl, b2⟩
  have hs2 : W1.heap.size ≤ w2.heap.size := b2.size
  have H2 := (show Hid (_ ∧ _) from ⟨H1.out.1.below b2, (b2.block _ (lt_heap H1.out.2.2.1)).trans H1.out.2.2.1⟩)
  clear b2 H1
  obtain ⟨p0, p1, p2, p3⟩ := lbox H2.out.1.box
  cases hok : l.ok with
  | false =>
    have HE : Hid (l.ack frm seq = l) := by show _ = _; unfold Lk.ack; rw [hok]; rfl
    clear hok
    obtain ⟨c10, c11, c12, c13⟩ := lbox H2.out.1.res
    have f10 : w2.frozen? ⟨w.heap.size + 1, 0, none⟩ = false := unfrozen_of_block H2.out.1.res 0
    have f11 : w2.frozen? ⟨w.heap.size + 1, 1, none⟩ = false := unfrozen_of_block H2.out.1.res 1
    have f12 : w2.frozen? ⟨w.heap.size + 1, 2, none⟩ = false := unfrozen_of_block H2.out.1.res 2
    have f13 : w2.frozen? ⟨w.heap.size + 1, 3, none⟩ = false := unfrozen_of_block H2.out.1.res 3
    go_wp2
    refine bodyPost_ret (v := .agg (l.row (.slice oa1 l.out.length oc1) (.slice sa1 l.seen.length sc1))) (by simp [results, Tryz.results18, go_sem, c10, c11, c12, c13]) rfl ?_
    rw [HE.out]
    have hO := H2.out.1.own
    have hord := H2.out.1.ord
    refine ⟨.agg (l.row (.slice oa1 l.out.length oc1) (.slice sa1 l.seen.length sc1)), .slice oa1 l.out.length oc1, .slice sa1 l.seen.length sc1, rs1, rfl, ?_, ?_⟩
    · have hO' : LkOwn w2 w.heap.size (.agg (l.row (.slice oa1 l.out.length oc1) (.slice sa1 l.seen.length sc1))) l (.slice oa1 l.out.length oc1) (.slice sa1 l.seen.length sc1) rs1 :=
        ⟨rfl, hO.fits, ⟨own_mono hO.out.1 (by omega), hO.out.2⟩, ⟨own_mono hO.seen.cells (by omega), fun r hr => ⟨own_mono (hO.seen.kids r hr).1 (by omega), (hO.seen.kids r hr).2⟩, hO.seen.apart⟩, hO.is⟩
      refine hO'.moved (fun b hb => ?_)
      have := (hO.own hb).1
      rw [Below.heap_setCell _ _ _ _ (by simp; omega), Below.heap_setCell _ _ _ _ (by simp; omega), Below.heap_setCell _ _ _ _ (by simp; omega), Below.heap_setCell _ _ _ _ (by simp; omega)]
    · exact (((H2.out.1.base.setCell (p := ⟨w.heap.size + 1, 0, none⟩) (by simp) _).setCell (p := ⟨w.heap.size + 1, 1, none⟩) (by simp) _).setCell (p := ⟨w.heap.size + 1, 2, none⟩) (by simp) _).setCell (p := ⟨w.heap.size + 1, 3, none⟩) (by simp) _
  | true =>
    have HE : Hid (l.ack frm seq = ⟨l.id, l.next, l.out.filter (keepA frm seq), l.seen⟩) := by show _ = _; unfold Lk.ack; rw [hok]; rfl
    have h60 : l.out.length ≤ 60 := by
      have hok' := hok
      unfold Lk.ok Lk.outOk at hok'
      simp only [Bool.and_eq_true, decide_eq_true_eq] at hok'
      omega
    clear hok
    go_wp2
    clear p0 p1 p2 p3
    go_loopw [8, 9] (fun lv i wr => ∃ (k : Nat) (la : Option Addr) (lm lc : Nat), k ≤ l.out.length ∧ i = .int .i64 k ∧ lv = .slice la lm lc ∧ lm = ((l.out.take k).filter (keepA frm seq)).length ∧ wr.ownsRow w2.heap.size 68 3 (.slice la lm lc) lm (((l.out.take k).filter (keepA frm seq)).flatMap snCells) ∧ AckSt w wr l W0.heap.size w1.heap.size (.slice oa1 l.out.length oc1) (.slice sa1 l.seen.length sc1) rs1 ∧ w2.heap.size ≤ wr.heap.size ∧ wr.heap[w.heap.size]? = some (.cells (l.row (.slice oa l.out.length oc) (.slice sa l.seen.length sc)) 27)) (fun _ i _ => l.out.length - (intOf i).toNat)
    case atStart => exact ⟨0, some ⟨w2.heap.size, 0, none⟩, 0, 0, Nat.zero_le _, rfl, rfl, rfl, made_empty w2 w2.heap.size 3 68 (Nat.le_refl _), H2.out.1.below ((Below.refl _ w2).alloc (Nat.le_refl _) _), by simp, (Below.heap_alloc w2 _ _ (lt_heap H2.out.2)).trans H2.out.2⟩
    case round =>
      clear H2
      obtain ⟨k, la, lm, lc, hk, rfl, rfl, hlm, hrow, hst, hsz, hlb⟩ := hrel
      have hml : lm ≤ 60 := by
        rw [hlm]
        exact Nat.le_trans (List.length_filter_le _ _) (by rw [List.length_take]; omega)
      obtain ⟨q0, q1, q2, q3⟩ := lbox hlb
      by_cases hkl : k < l.out.length
      · have he := List.getElem?_eq_getElem hkl
        generalize l.out[k] = x at *
        obtain ⟨b, off, hoa, hSb, hlt2, c0, c1, c2, r1, r2, r3⟩ := (by obtain ⟨oa', oc', sa', sc', hv', h3, h4⟩ := HL.out.1.form; cases hv'; obtain ⟨a', cap', hv', _, hc'⟩ := h3; cases hv'; exact hc' k x he : ∃ b off, oa = some ⟨b, off, none⟩ ∧ S b ∧ b < w.heap.size ∧ w.cell? ⟨b, off + k * 3, none⟩ = some (.int .i64 x.seq) ∧ w.cell? ⟨b, off + k * 3 + 1, none⟩ = some (.int .i64 x.dst) ∧ w.cell? ⟨b, off + k * 3 + 2, none⟩ = some (.string x.body) ∧ inI64 x.seq ∧ inI64 x.dst ∧ x.body.size ≤ maxLen)
        subst hoa
        rw [← hst.base.cell (by exact hlt2)] at c0 c1 c2
        have hlt' : ((k : Nat) : Int) < ((l.out.length : Nat) : Int) := by omega
        have hft := filter_take (p := keepA frm seq) he
        have HL2 : Hid (lm = ((l.out.take k).filter (keepA frm seq)).length) := hlm
        have H3 := (show Hid (_ ∧ _ ∧ _ ∧ _) from ⟨hst, hrow, hlb, hft⟩)
        have hblt : b < wr.heap.size := Nat.lt_of_lt_of_le hlt2 hst.base.size
        clear hst hrow hft he hSb r1 r2 r3 hlm hlb
        cases d1 : (x.dst != frm) with
        | false =>
          cases d2 : (x.seq != seq) with
          | false =>
            have HK : Hid ((l.out.take (k + 1)).filter (keepA frm seq) = (l.out.take k).filter (keepA frm seq)) := by
              show _ = _
              rw [H3.out.2.2.2]
              unfold keepA
              rw [d1, d2]
              simp
            go_wp2
            refine ⟨⟨k + 1, la, lm, lc, by omega, by go_num, rfl, by rw [HK.out]; exact HL2.out, by rw [HK.out]; exact H3.out.2.1, H3.out.1, by omega, H3.out.2.2.1⟩, by simp [intOf]; omega⟩
          | true =>
            have HK : Hid ((l.out.take (k + 1)).filter (keepA frm seq) = (l.out.take k).filter (keepA frm seq) ++ [x]) := by
              show _ = _
              rw [H3.out.2.2.2]
              unfold keepA
              rw [d1, d2]
              simp
            have b4 : Below wr.heap.size wr (wr.alloc (.cells #[.int .i64 x.seq, .int .i64 x.dst, .string x.body] 68)) := (Below.refl _ wr).alloc (Nat.le_refl _) _
            have hrow4 := own_moved H3.out.2.1 (fun g hg => b4.block g (own_lt H3.out.2.1 g hg))
            have H4 := (show Hid (_ ∧ _ ∧ _ ∧ _) from ⟨H3.out.1.below b4, hrow4, cell_three_new wr (.int .i64 x.seq) (.int .i64 x.dst) (.string x.body) 68, (b4.block _ (lt_heap H3.out.2.2.1)).trans H3.out.2.2.1⟩)
            clear b4 hrow4
            go_wp2_with (at_builtin; refine wpList_append_own_at _ rfl _ _ 24 rfl w2.heap.size 68 i0 (.agg #[.int .i64 0, .int .i64 0, .string ByteArray.empty]) 3 32 Tryz.underlying24 hi hz0 hz1 hz2 rfl (by decide) _ lm _ rfl H4.out.2.1 ⟨wr.heap.size, 0, none⟩ 1 1 (snCells x) rfl rfl H4.out.2.2.1 (snCells_ones x) (by unfold maxLen; omega) (by omega) (by simp; omega) ?_; intro v5 w5 hown5 hgrow5 hnil5 hat5; obtain ⟨n5, va, vc, hn5, rfl⟩ := own_formN hown5; have H5 := (show Hid (_ ∧ _ ∧ _) from ⟨hown5, hgrow5, hn5⟩); clear hown5 hgrow5 hnil5 hat5 hn5)
            obtain rfl : n5 = lm + 1 := H5.out.2.2
            have hlw : ∀ b, (Value.slice la lm lc).ownBlock = some b → w2.heap.size ≤ b := fun b hb => (own_type H4.out.2.1 b hb).1
            refine ⟨⟨k + 1, va, lm + 1, vc, by omega, by go_num, rfl, ?_, ?_, H4.out.1.grown H5.out.2.1 (fun b hb => by have := hlw b hb; omega), ?_, (H5.out.2.1.block _ (lt_heap H4.out.2.2.2) (fun e => by have := hlw _ e.symm; omega)).trans H4.out.2.2.2⟩, by simp [intOf]; omega⟩
            · rw [HK.out, List.length_append, ← HL2.out]; rfl
            · rw [HK.out, List.flatMap_append]
              have := H5.out.1
              simpa using this
            · have := H5.out.2.1.size
              simp at this
              omega
        | true =>
          have HK : Hid ((l.out.take (k + 1)).filter (keepA frm seq) = (l.out.take k).filter (keepA frm seq) ++ [x]) := by
            show _ = _
            rw [H3.out.2.2.2]
            unfold keepA
            rw [d1]
            simp
          have b4 : Below wr.heap.size wr (wr.alloc (.cells #[.int .i64 x.seq, .int .i64 x.dst, .string x.body] 68)) := (Below.refl _ wr).alloc (Nat.le_refl _) _
          have hrow4 := own_moved H3.out.2.1 (fun g hg => b4.block g (own_lt H3.out.2.1 g hg))
          have H4 := (show Hid (_ ∧ _ ∧ _ ∧ _) from ⟨H3.out.1.below b4, hrow4, cell_three_new wr (.int .i64 x.seq) (.int .i64 x.dst) (.string x.body) 68, (b4.block _ (lt_heap H3.out.2.2.1)).trans H3.out.2.2.1⟩)
          clear b4 hrow4
          go_wp2_with (at_builtin; refine wpList_append_own_at _ rfl _ _ 24 rfl w2.heap.size 68 i0 (.agg #[.int .i64 0, .int .i64 0, .string ByteArray.empty]) 3 32 Tryz.underlying24 hi hz0 hz1 hz2 rfl (by decide) _ lm _ rfl H4.out.2.1 ⟨wr.heap.size, 0, none⟩ 1 1 (snCells x) rfl rfl H4.out.2.2.1 (snCells_ones x) (by unfold maxLen; omega) (by omega) (by simp; omega) ?_; intro v5 w5 hown5 hgrow5 hnil5 hat5; obtain ⟨n5, va, vc, hn5, rfl⟩ := own_formN hown5; have H5 := (show Hid (_ ∧ _ ∧ _) from ⟨hown5, hgrow5, hn5⟩); clear hown5 hgrow5 hnil5 hat5 hn5)
          obtain rfl : n5 = lm + 1 := H5.out.2.2
          have hlw : ∀ b, (Value.slice la lm lc).ownBlock = some b → w2.heap.size ≤ b := fun b hb => (own_type H4.out.2.1 b hb).1
          refine ⟨⟨k + 1, va, lm + 1, vc, by omega, by go_num, rfl, ?_, ?_, H4.out.1.grown H5.out.2.1 (fun b hb => by have := hlw b hb; omega), ?_, (H5.out.2.1.block _ (lt_heap H4.out.2.2.2) (fun e => by have := hlw _ e.symm; omega)).trans H4.out.2.2.2⟩, by simp [intOf]; omega⟩
          · rw [HK.out, List.length_append, ← HL2.out]; rfl
          · rw [HK.out, List.flatMap_append]
            have := H5.out.1
            simpa using this
          · have := H5.out.2.1.size
            simp at this
            omega
      · obtain rfl : k = l.out.length := by omega
        rw [List.take_length] at hlm hrow
        clear q0 q1 q2 q3
        obtain ⟨q0, q1, q2, q3⟩ := lbox hlb
        clear hlb
        have HF := (show Hid (_ ∧ _ ∧ _) from ⟨hst, hrow, hlm⟩)
        obtain ⟨p0, p1, p2, p3⟩ := lbox hst.box
        have pf2 : wr.frozen? ⟨w1.heap.size, 2, none⟩ = false := unfrozen_of_block hst.box 2
        obtain ⟨c10, c11, c12, c13⟩ := lbox hst.res
        have f10 : wr.frozen? ⟨w.heap.size + 1, 0, none⟩ = false := unfrozen_of_block hst.res 0
        have f11 : wr.frozen? ⟨w.heap.size + 1, 1, none⟩ = false := unfrozen_of_block hst.res 1
        have f12 : wr.frozen? ⟨w.heap.size + 1, 2, none⟩ = false := unfrozen_of_block hst.res 2
        have f13 : wr.frozen? ⟨w.heap.size + 1, 3, none⟩ = false := unfrozen_of_block hst.res 3
        have hne : ¬ w1.heap.size = w.heap.size + 1 := by omega
        have hne' : ¬ w.heap.size + 1 = w1.heap.size := by omega
        clear hst hrow hlm
        go_wp2
        refine bodyPost_ret (v := .agg (l.row (.slice la lm lc) (.slice sa1 l.seen.length sc1))) (by simp [results, Tryz.results18, go_sem, c10, c11, c12, c13]) rfl ?_
        rw [HE.out]
        have hO := HF.out.1.own
        have hord := HF.out.1.ord
        have hrw := HF.out.2.1
        have hlm := HF.out.2.2
        have hlow := HF.out.1.lt
        refine ⟨.agg (l.row (.slice la lm lc) (.slice sa1 l.seen.length sc1)), rfl, ⟨.slice la lm lc, .slice sa1 l.seen.length sc1, rs1, ⟨rfl, hO.fits, ⟨?_, fun s hs => hO.out.2 s (List.mem_filter.1 hs).1⟩, ?_, hO.is⟩⟩, ?_⟩
        · show World.ownsRow _ _ _ _ _ ((l.out.filter (keepA frm seq)).length) _
          rw [← hlm]
          refine own_mono (own_moved hrw (fun b hb => ?_)) (by omega)
          have := (own_type hrw b hb).1
          rw [Below.heap_setCell _ _ _ _ (by simp; omega), Below.heap_setCell _ _ _ _ (by simp; omega), Below.heap_setCell _ _ _ _ (by simp; omega), Below.heap_setCell _ _ _ _ (by simp; omega), Below.heap_setCell _ _ _ _ (by simp; omega)]
        · have hO' : SeOwn wr w.heap.size (.slice sa1 l.seen.length sc1) rs1 := ⟨own_mono hO.seen.cells (by omega), fun r hr => ⟨own_mono (hO.seen.kids r hr).1 (by omega), (hO.seen.kids r hr).2⟩, hO.seen.apart⟩
          refine hO'.moved (fun b hb => ?_)
          have h1 := (hO.own (.inr hb)).1
          have h2 := hlow b (.inr hb)
          rw [Below.heap_setCell _ _ _ _ (by simp; omega), Below.heap_setCell _ _ _ _ (by simp; omega), Below.heap_setCell _ _ _ _ (by simp; omega), Below.heap_setCell _ _ _ _ (by simp; omega), Below.heap_setCell _ _ _ _ (by simp; omega)]
        · exact ((((HF.out.1.base.setCell (p := ⟨w1.heap.size, 2, none⟩) (by simp; omega) _).setCell (p := ⟨w.heap.size + 1, 0, none⟩) (by simp) _).setCell (p := ⟨w.heap.size + 1, 1, none⟩) (by simp) _).setCell (p := ⟨w.heap.size + 1, 2, none⟩) (by simp) _).setCell (p := ⟨w.heap.size + 1, 3, none⟩) (by simp) _
end Go.Proofs.YtlbinamlehapoaaGreatDoor
