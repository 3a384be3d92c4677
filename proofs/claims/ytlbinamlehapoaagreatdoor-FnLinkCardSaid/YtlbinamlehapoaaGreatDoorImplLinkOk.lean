/-
  The program's LinkOk.
-/
import Derived.Test.YtlbinamlehapoaaGreatDoorNK
import Derived.Test.YtlbinamlehapoaaGreatDoorMB
import Derived.Test.YtlbinamlehapoaaGreatDoorImplGetMsg
namespace Go.Proofs.YtlbinamlehapoaaGreatDoor
open Go.RowKit Go.Joins

set_option maxRecDepth 100000

set_option maxHeartbeats 1600000 in
theorem isOwn_any (l : Lk) (m : Ms) (ov kv : Value) (sa : Option Addr) (sc : Nat) (w : World) (hl : l.seen.length ≤ maxLen) :
    Calls Tryz.prog 56 #[.agg (l.row ov (.slice sa l.seen.length sc)), .agg (m.row kv)] w fun e w' => e = .returned (.bool (ownB l.id l.seen.length m)) ∧ Below w.heap.size w w' := by
  unfold maxLen at hl
  have hl' : ((l.seen.length : Nat) : Int) ≤ 9223372036854775807 := by omega
  have B0 : Hid (∀ o o' : Obj, Below w.heap.size w ((w.alloc o).alloc o')) := fun o o' => ((Below.refl _ w).alloc (Nat.le_refl _) o).alloc (by simp) o'
  unfold ownB
  cases h0 : (m.frm == l.id) with
  | false =>
    go_enter Tryz.func56, Tryz.ntmps56
    go_wp2
    go_ret
    exact ⟨rfl, B0.out _ _⟩
  | true =>
    go_enter Tryz.func56, Tryz.ntmps56
    go_wp2_with (go_at_call 42; refine (isAmong_r _ _ _ rfl _).mono ?_; rintro e w1 ⟨rfl, rfl⟩)
    go_ret
    exact ⟨by simp, B0.out _ _⟩

set_option maxHeartbeats 1600000 in
theorem outFits_any (v : Value) (l : Lk) (S : Nat → Prop) (w : World) (h : LkAt w S v l) (hn : inB l.next 1 999999 = true) (hb : l.bulk ≤ 1048576) (hg : ET w) :
    Calls Tryz.prog 46 #[v] w fun e w' => e = .returned (.bool l.outOk) ∧ Below w.heap.size w w' := by
  obtain ⟨oa, oc, sa, sc, rfl, h3, h4⟩ := h.form
  have hsl := h4.len
  have hol := h3.len
  unfold maxLen at hol
  have hnot := ex_not
  have hnx : 1 ≤ l.next ∧ l.next ≤ 999999 := by
    unfold inB at hn
    simp only [Bool.and_eq_true, decide_eq_true_eq] at hn
    exact hn
  clear h hn
  obtain ⟨i0, hi, hz0, hz1, hz2⟩ := info_parts infoCdI
  obtain ⟨W0, hW0⟩ : ∃ W0, W0 = w.alloc (.cells (l.row (.slice oa l.out.length oc) (.slice sa l.seen.length sc)) 27) := ⟨_, rfl⟩
  have B0 : Below w.heap.size w W0 := by rw [hW0]; exact (Below.refl _ w).alloc (Nat.le_refl _) _
  have O0 : W0.heap[w.heap.size]? = some (.cells (l.row (.slice oa l.out.length oc) (.slice sa l.seen.length sc)) 27) := by rw [hW0]; exact (MapKept.heap_alloc w _).1
  have hbe := (show l.bulk = bulkO l.out + bulkN l.seen from rfl)
  have H0 := (show Hid (_ ∧ _ ∧ _ ∧ _ ∧ _) from ⟨h3, B0, O0, hg, hW0⟩)
  by_cases h60 : (60 : Int) < (l.out.length : Int)
  · have HR : Hid (l.outOk = false) := by
      show _ = _
      unfold Lk.outOk
      rw [decide_eq_false (by omega)]
      rfl
    subst hW0
    clear h3 h4 B0 O0 hg
    go_enter Tryz.func46, Tryz.ntmps46
    go_wp2
    go_ret
    exact ⟨by rw [HR.out]; rfl, H0.out.2.1⟩
  have HR : Hid (l.outOk = (l.out.all (Sn.fits l.id l.seen.length) && ascB (l.out.map Sn.seq) 1 (l.next - 1))) := by
    show _ = _
    unfold Lk.outOk
    rw [decide_eq_true (by omega)]
    rfl
  clear h3 h4 B0 O0 hg hW0
  go_enter Tryz.func46, Tryz.ntmps46
  go_wp2
  have hsl' : l.seen.length ≤ 9223372036854775807 := by unfold maxLen at hsl; omega
  go_loopw [3, 15] (fun qv i wr => ∃ k : Nat, k ≤ l.out.length ∧ i = .int .i64 k ∧ (l.out.take k).all (Sn.fits l.id l.seen.length) = true ∧ wr.ownsRow (w.heap.size + 1) 3 1 qv k (intVs ((l.out.take k).map Sn.seq)) ∧ (∀ s ∈ l.out.take k, inI64 s.seq) ∧ wr.heap[w.heap.size]? = some (.cells (l.row (.slice oa l.out.length oc) (.slice sa l.seen.length sc)) 27) ∧ Below w.heap.size w wr) (fun _ i _ => l.out.length - (intOf i).toNat)
  case atStart => 
    have hO := H0.out.2.2.1
    have hB := H0.out.2.1
    rw [H0.out.2.2.2.2] at hO hB
    exact ⟨0, Nat.zero_le _, rfl, by simp, ⟨rfl, .inl ⟨rfl, rfl⟩⟩, fun s hs => by simp at hs, hO, hB⟩
  case round =>
    obtain ⟨k, hk, rfl, hall, hrow, hin, hbox, hbw⟩ := hrel
    obtain ⟨qa, qc, rfl⟩ := own_form hrow
    have hsz := hbw.size
    have hsz1 : w.heap.size < wr.heap.size := lt_heap hbox
    by_cases hkl : k < l.out.length
    · have he := List.getElem?_eq_getElem hkl
      have htk : l.out.take (k + 1) = l.out.take k ++ [l.out[k]] := List.take_succ_eq_append_getElem hkl
      have hbk := bulkO_at he
      generalize l.out[k] = x at *
      obtain ⟨b, off, hoa, hSb, hlt2, c0, c1, c2, r1, r2, r3⟩ := (by obtain ⟨a', cap', hv', _, hc'⟩ := H0.out.1; cases hv'; exact hc' k x he : ∃ b off, oa = some ⟨b, off, none⟩ ∧ S b ∧ b < w.heap.size ∧ w.cell? ⟨b, off + k * 3, none⟩ = some (.int .i64 x.seq) ∧ w.cell? ⟨b, off + k * 3 + 1, none⟩ = some (.int .i64 x.dst) ∧ w.cell? ⟨b, off + k * 3 + 2, none⟩ = some (.string x.body) ∧ inI64 x.seq ∧ inI64 x.dst ∧ x.body.size ≤ maxLen)
      subst hoa
      rw [← hbw.cell (by exact hlt2)] at c0 c1 c2
      have hlt3 : b < wr.heap.size := Nat.lt_of_lt_of_le hlt2 hsz
      have hlt' : ((k : Nat) : Int) < ((l.out.length : Nat) : Int) := by omega
      obtain ⟨W1, hW1⟩ : ∃ W1, W1 = wr.alloc (.cells x.row 68) := ⟨_, rfl⟩
      have bW1 : Below wr.heap.size wr W1 := by rw [hW1]; exact (Below.refl _ wr).alloc (Nat.le_refl _) _
      have M1 : W1.heap[wr.heap.size]? = some (.cells x.row 68) := by rw [hW1]; exact (MapKept.heap_alloc wr _).1
      have hbs : x.body.size ≤ 1048576 := by have := (show x.bulk = x.body.size from rfl); omega
      have hG := implGetMsg_any x.body W1 hbs ((H0.out.2.2.2.1.below hbw).below bW1)
      have hfs : x.fits l.id l.seen.length = ((msgFit x.body.data.toList && ownB l.id l.seen.length (msgRes x.body.data.toList)) && ((msgRes x.body.data.toList).dst == x.dst)) := rfl
      generalize msgRes x.body.data.toList = m at *
      generalize msgFit x.body.data.toList = ff at *
      have H1 := (show Hid (_ ∧ _ ∧ _ ∧ _ ∧ _ ∧ _) from ⟨hG, hfs, own_moved hrow (fun g hg => bW1.block g (own_lt hrow g hg)), (bW1.block _ hsz1).trans hbox, hbw.trans (bW1.mono hsz), M1⟩)
      have HK := (show Hid (_ ∧ _ ∧ _ ∧ _ ∧ _ ∧ _) from ⟨hall, hin, he, htk, r1, hW1⟩)
      have hs1 : wr.heap.size + 1 ≤ W1.heap.size := lt_heap M1
      clear hG hfs hrow hbox hbw M1 bW1 hall hin he htk r1 r2 r3 hSb hlt2 hW1
      go_wp2_with fail
      rw [← (show W1 = _ from HK.out.2.2.2.2.2)]
      refine H1.out.1.mono ?_
      rintro e w2 ⟨mv, rfl, A2, b2⟩
      obtain ⟨kv, rfl, h2, -⟩ := A2
      obtain ⟨ma, mc, rfl⟩ := own_form h2
      clear h2 c0 c1 c2
      have hs2 : W1.heap.size ≤ w2.heap.size := b2.size
      have H2 := (show Hid (_ ∧ _ ∧ _ ∧ _) from ⟨own_moved H1.out.2.2.1 (fun g hg => b2.block g (own_lt H1.out.2.2.1 g hg)), (b2.block _ (lt_heap H1.out.2.2.2.1)).trans H1.out.2.2.2.1, H1.out.2.2.2.2.1.trans (b2.mono (by omega)), (b2.block _ (lt_heap H1.out.2.2.2.2.2)).trans H1.out.2.2.2.2.2⟩)
      have HP := (show Hid (_ ∧ True) from ⟨H1.out.2.1, trivial⟩)
      clear b2 H1
      obtain ⟨q0, q1, q2, q3⟩ := lbox H2.out.2.1
      have s0 : w2.cell? ⟨wr.heap.size, 0, none⟩ = some (.int .i64 x.seq) := (cell_of_block H2.out.2.2.2 0).trans rfl
      have s1 : w2.cell? ⟨wr.heap.size, 1, none⟩ = some (.int .i64 x.dst) := (cell_of_block H2.out.2.2.2 1).trans rfl
      have hl1 : w.heap.size < w2.heap.size := by omega
      have hl2 : wr.heap.size < w2.heap.size := by omega
      cases ff with
      | false =>
        have HF := (show Hid (_ ∧ _) from ⟨(by rw [allF _ _ HK.out.2.2.1 (by rw [HP.out.1]; rfl)]; rfl : (l.out.all (Sn.fits l.id l.seen.length) && ascB (l.out.map Sn.seq) 1 (l.next - 1)) = false), H2.out.2.2.1.alloc (by omega) (.cells (m.row (.slice ma m.cell.kids.length mc)) 32)⟩)
        go_wp2
        go_ret
        exact ⟨by rw [HR.out, HF.out.1]; rfl, HF.out.2⟩
      | true =>
        obtain ⟨W3, hW3⟩ : ∃ W3, W3 = w2.alloc (.cells (m.row (.slice ma m.cell.kids.length mc)) 32) := ⟨_, rfl⟩
        have bW3 : Below w2.heap.size w2 W3 := by rw [hW3]; exact (Below.refl _ w2).alloc (Nat.le_refl _) _
        have M3 : W3.heap[w2.heap.size]? = some (.cells (m.row (.slice ma m.cell.kids.length mc)) 32) := by rw [hW3]; exact (MapKept.heap_alloc w2 _).1
        have hO := isOwn_any l m (.slice (some ⟨b, off, none⟩) l.out.length oc) (.slice ma m.cell.kids.length mc) sa sc W3 hsl
        have H3 := (show Hid (_ ∧ _ ∧ _ ∧ _ ∧ _ ∧ _) from ⟨hO, own_moved H2.out.1 (fun g hg => bW3.block g (own_lt H2.out.1 g hg)), (bW3.block _ (lt_heap H2.out.2.1)).trans H2.out.2.1, H2.out.2.2.1.trans (bW3.mono (by omega)), (bW3.block _ (lt_heap H2.out.2.2.2)).trans H2.out.2.2.2, M3⟩)
        have hs3 : w2.heap.size + 1 ≤ W3.heap.size := lt_heap M3
        have HW3 := (show Hid (_ ∧ True) from ⟨hW3, trivial⟩)
        clear hO bW3 M3 H2 hW3
        go_wp2_with fail
        rw [← (show W3 = _ from HW3.out.1)]
        refine H3.out.1.mono ?_
        rintro e w4 ⟨rfl, b4⟩
        clear q0 q1 q2 q3 s0 s1
        have hs4 : W3.heap.size ≤ w4.heap.size := b4.size
        have H4 := (show Hid (_ ∧ _ ∧ _ ∧ _ ∧ _) from ⟨own_moved H3.out.2.1 (fun g hg => b4.block g (own_lt H3.out.2.1 g hg)), (b4.block _ (lt_heap H3.out.2.2.1)).trans H3.out.2.2.1, H3.out.2.2.2.1.trans (b4.mono (by omega)), (b4.block _ (lt_heap H3.out.2.2.2.2.1)).trans H3.out.2.2.2.2.1, (b4.block _ (lt_heap H3.out.2.2.2.2.2)).trans H3.out.2.2.2.2.2⟩)
        clear b4 H3 HW3
        have s0 : w4.cell? ⟨wr.heap.size, 0, none⟩ = some (.int .i64 x.seq) := (cell_of_block H4.out.2.2.2.1 0).trans rfl
        have s1 : w4.cell? ⟨wr.heap.size, 1, none⟩ = some (.int .i64 x.dst) := (cell_of_block H4.out.2.2.2.1 1).trans rfl
        have m2 : w4.cell? ⟨w2.heap.size, 2, none⟩ = some (.int .i64 m.dst) := (cell_of_block H4.out.2.2.2.2 2).trans rfl
        have hl3 : wr.heap.size < w4.heap.size := by omega
        cases ho : ownB l.id l.seen.length m with
        | false =>
          have HF := (show Hid (_ ∧ _) from ⟨(by rw [allF _ _ HK.out.2.2.1 (by rw [HP.out.1, ho]; rfl)]; rfl : (l.out.all (Sn.fits l.id l.seen.length) && ascB (l.out.map Sn.seq) 1 (l.next - 1)) = false), H4.out.2.2.1⟩)
          go_wp2
          go_ret
          exact ⟨by rw [HR.out, HF.out.1]; rfl, HF.out.2⟩
        | true =>
          cases hd : (m.dst == x.dst) with
          | false =>
            have HF := (show Hid (_ ∧ _) from ⟨(by rw [allF _ _ HK.out.2.2.1 (by rw [HP.out.1, ho, hd]; rfl)]; rfl : (l.out.all (Sn.fits l.id l.seen.length) && ascB (l.out.map Sn.seq) 1 (l.next - 1)) = false), H4.out.2.2.1⟩)
            go_wp2
            go_ret
            exact ⟨by rw [HR.out, HF.out.1]; rfl, HF.out.2⟩
          | true =>
            have HF := (show Hid (_ ∧ _) from ⟨allT _ _ k HK.out.2.2.1 HK.out.1 (by rw [HP.out.1, ho, hd]; rfl), H4.out.2.2.1⟩)
            have hO4 := H4.out.1.alloc (.cells #[.int .i64 x.seq] 3)
            have b5 : Below w4.heap.size w4 (w4.alloc (.cells #[.int .i64 x.seq] 3)) := (Below.refl _ w4).alloc (Nat.le_refl _) _
            have H5 := (show Hid (_ ∧ _ ∧ _ ∧ _) from ⟨hO4, (b5.block _ (lt_heap H4.out.2.1)).trans H4.out.2.1, H4.out.2.2.1.trans (b5.mono (by omega)), trivial⟩)
            clear hO4 b5 H4
            go_wp2_with (at_builtin; refine wpList_append_own_at _ rfl _ _ 28 rfl (w.heap.size + 1) 3 i0 (.int .i64 0) 1 8 Tryz.underlying28 hi hz0 hz1 hz2 rfl (by decide) _ k _ rfl H5.out.1 ⟨w4.heap.size, 0, none⟩ 1 1 [.int .i64 x.seq] rfl rfl (cell_one_new _ _ _) (int_one _) (by unfold maxLen; omega) (by omega) (by simp; omega) ?_; intro v5 w5 hown5 hgrow5 hnil5 hat5)
            have hg5 : ∀ b, (Value.slice qa k qc).ownBlock = some b → w.heap.size + 1 ≤ b := fun b hb => (own_type H5.out.1 b hb).1
            refine ⟨⟨k + 1, by omega, by go_num, HF.out.1, ?_, ?_, ?_, ?_⟩, by simp [intOf]; omega⟩
            · rw [HK.out.2.2.2.1, List.map_append]
              unfold intVs
              rw [List.map_append]
              exact hown5
            · rw [HK.out.2.2.2.1]
              intro s hs
              rcases List.mem_append.1 hs with hs | hs
              · exact HK.out.2.1 s hs
              · rw [List.mem_singleton.1 hs]; exact HK.out.2.2.2.2.1
            · rw [hgrow5.block _ (lt_heap H5.out.2.1) (fun e => by have := hg5 _ e.symm; omega)]
              exact H5.out.2.1
            · exact Below.grown H5.out.2.2.1 hgrow5 (hB := H5.out.2.2.1.size) (hr := fun b hb => by have := hg5 b hb; omega)
    · obtain rfl : k = l.out.length := by omega
      rw [List.take_length] at hall hrow hin
      have hI : IntsAt wr (fun b => w.heap.size + 1 ≤ b ∧ Pl wr b) (.slice qa l.out.length qc) (l.out.map Sn.seq) := own_ints (by rw [List.length_map]; exact hrow) (fun z hz => by obtain ⟨s, hs, rfl⟩ := List.mem_map.1 hz; exact hin s hs)
      have hA := ascend_any _ _ 1 (l.next - 1) _ wr hI (by omega)
      have HF := (show Hid (_ ∧ _ ∧ _) from ⟨hA, hall, hbw⟩)
      obtain ⟨q0, q1, q2, q3⟩ := lbox hbox
      clear hA hI hall hrow hin hbw hbox
      go_wp2_with (go_at_call 77; refine HF.out.1.mono ?_; rintro e w1 ⟨rfl, rfl⟩)
      go_ret
      exact ⟨by rw [HR.out, HF.out.2.1]; simp, HF.out.2.2⟩

set_option maxHeartbeats 1600000 in
theorem implLinkOk_any (v : Value) (l : Lk) (S : Nat → Prop) (w : World) (h : LkAt w S v l) (hb : l.bulk ≤ 1048576) (hg : ET w) :
    Calls Tryz.prog 22 #[v] w fun e w' => e = .returned (.bool l.ok) ∧ Below w.heap.size w w' := by
  obtain ⟨oa, oc, sa, sc, rfl, h3, h4⟩ := h.form
  have hsl := h4.len
  unfold maxLen at hsl
  have hsl' : ((l.seen.length : Nat) : Int) ≤ 9223372036854775807 := by omega
  obtain ⟨W0, hW0⟩ : ∃ W0, W0 = w.alloc (.cells (l.row (.slice oa l.out.length oc) (.slice sa l.seen.length sc)) 27) := ⟨_, rfl⟩
  have B0 : Below w.heap.size w W0 := by rw [hW0]; exact (Below.refl _ w).alloc (Nat.le_refl _) _
  have O0 : W0.heap[w.heap.size]? = some (.cells (l.row (.slice oa l.out.length oc) (.slice sa l.seen.length sc)) 27) := by rw [hW0]; exact (MapKept.heap_alloc w _).1
  have hs0 : w.heap.size + 1 ≤ W0.heap.size := lt_heap O0
  unfold Lk.ok
  cases h0 : amongB l.id l.seen.length with
  | false =>
    have H0 := (show Hid (_ ∧ True) from ⟨B0, trivial⟩)
    subst hW0
    clear h3 h4 B0 O0 hg h
    go_enter Tryz.func22, Tryz.ntmps22
    go_wp2_with (go_at_call 42; refine (isAmong_r _ _ _ h0 _).mono ?_; rintro e w1 ⟨rfl, rfl⟩)
    go_ret
    exact ⟨rfl, H0.out.1⟩
  | true =>
    cases h1 : inB l.next 1 999999 with
    | false =>
      have H0 := (show Hid (_ ∧ True) from ⟨B0, trivial⟩)
      subst hW0
      clear h3 h4 B0 O0 hg h
      go_enter Tryz.func22, Tryz.ntmps22
      go_wp2_with (first
        | (go_at_call 42; refine (isAmong_r _ _ _ h0 _).mono ?_; rintro e w1 ⟨rfl, rfl⟩)
        | (go_at_call 45; refine (within_r _ _ _ _ h1 _).mono ?_; rintro e w1 ⟨rfl, rfl⟩))
      go_ret
      exact ⟨rfl, H0.out.1⟩
    | true =>
      have hF := outFits_any _ l S W0 (h.below B0) h1 hb (hg.below B0)
      have H0 := (show Hid (_ ∧ _ ∧ _ ∧ _ ∧ _) from ⟨hF, h4.below B0, B0, O0, hW0⟩)
      clear h3 h4 B0 O0 hg h hF hW0
      go_enter Tryz.func22, Tryz.ntmps22
      cases h2 : l.outOk with
      | false =>
        go_wp2_with (first
          | (go_at_call 42; refine (isAmong_r _ _ _ h0 _).mono ?_; rintro e w1 ⟨rfl, rfl⟩)
          | (go_at_call 45; refine (within_r _ _ _ _ h1 _).mono ?_; rintro e w1 ⟨rfl, rfl⟩)
          | (go_at_call 46; rw [← (show W0 = _ from H0.out.2.2.2.2)]; refine H0.out.1.mono ?_; rw [h2]; rintro e w1 ⟨rfl, b1⟩))
        go_ret
        exact ⟨by simp, H0.out.2.2.1.trans (b1.mono (by omega))⟩
      | true =>
        go_wp2_with (first
          | (go_at_call 42; refine (isAmong_r _ _ _ h0 _).mono ?_; rintro e w1 ⟨rfl, rfl⟩)
          | (go_at_call 45; refine (within_r _ _ _ _ h1 _).mono ?_; rintro e w1 ⟨rfl, rfl⟩)
          | (go_at_call 46; rw [← (show W0 = _ from H0.out.2.2.2.2)]; refine H0.out.1.mono ?_; rw [h2]; rintro e w1 ⟨rfl, b1⟩; have hs1 : W0.heap.size ≤ w1.heap.size := b1.size; have H1 := (show Hid (_ ∧ _) from ⟨allSeen_any _ l.seen S w1 (H0.out.2.1.below b1), H0.out.2.2.1.trans (b1.mono (by omega))⟩); obtain ⟨q0, q1, q2, q3⟩ := lbox ((b1.block _ (lt_heap H0.out.2.2.2.1)).trans H0.out.2.2.2.1); clear b1)
          | (go_at_call 47; refine H1.out.1.mono ?_; rintro e w2 ⟨rfl, b2⟩))
        go_ret
        exact ⟨by simp, H1.out.2.trans (b2.mono (by omega))⟩
end Go.Proofs.YtlbinamlehapoaaGreatDoor
