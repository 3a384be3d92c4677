/-
  The program's packs of what was sent.
  The specification's LinkAgain.
-/
import Derived.Test.YtlbinamlehapoaaGreatDoorNI
import Derived.Test.YtlbinamlehapoaaGreatDoorSpecLinkOk
import Derived.Test.YtlbinamlehapoaaGreatDoorMW
namespace Go.Proofs.YtlbinamlehapoaaGreatDoor
open Go.RowKit Go.Joins

set_option maxRecDepth 100000

/-- The bytes of the packs of what was sent; none where the link is not right. -/
def Lk.again (l : Lk) : List ByteArray := if l.ok then l.out.map (fun s => ⟨(l.pack s).bytes.toArray⟩) else []
theorem again_take {l : Lk} {k : Nat} {x : Sn} (h : l.out[k]? = some x) : ((l.out.map (fun s => (⟨(l.pack s).bytes.toArray⟩ : ByteArray))).take (k + 1)).map Value.string = ((l.out.map (fun s => (⟨(l.pack s).bytes.toArray⟩ : ByteArray))).take k).map Value.string ++ [.string ⟨(l.pack x).bytes.toArray⟩] := by
  have hk := (List.getElem?_eq_some_iff.1 h).1
  rw [List.take_succ_eq_append_getElem (by simpa using hk), List.map_append]
  simp [(List.getElem?_eq_some_iff.1 h).2]
theorem infoStrL : (Tryz.prog.info? 9).map (fun i => (i.zero, i.size, i.bytes)) = some (some (.string ⟨#[]⟩), 1, 16) := by kernel_rfl
theorem strL_one (x : ByteArray) : ∀ u ∈ [Value.string x], u.oneCell' = true := by
  intro u hu
  rw [List.mem_singleton.1 hu]
  rfl

set_option maxHeartbeats 1600000 in
theorem implLinkAgain_any (v : Value) (l : Lk) (S : Nat → Prop) (w : World) (h : LkAt w S v l) (hb : l.bulk ≤ 1048576) (hg : ET w) :
    Calls Tryz.prog 20 #[v] w fun e w' => ∃ gv, e = .returned gv ∧ w'.ownsRow w.heap.size 9 1 gv l.again.length (l.again.map Value.string) ∧ Below w.heap.size w w' := by
  obtain ⟨oa, oc, sa, sc, rfl, h3, h4⟩ := h.form
  have hol := h3.len
  unfold maxLen at hol
  have hnot := ex_not
  have hbe := (show l.bulk = bulkO l.out + bulkN l.seen from rfl)
  obtain ⟨i0, hi, hz0, hz1, hz2⟩ := info_parts infoStrL
  obtain ⟨W0, hW0⟩ : ∃ W0, W0 = w.alloc (.cells (l.row (.slice oa l.out.length oc) (.slice sa l.seen.length sc)) 27) := ⟨_, rfl⟩
  have B0 : Below w.heap.size w W0 := by rw [hW0]; exact (Below.refl _ w).alloc (Nat.le_refl _) _
  have O0 : W0.heap[w.heap.size]? = some (.cells (l.row (.slice oa l.out.length oc) (.slice sa l.seen.length sc)) 27) := by rw [hW0]; exact (MapKept.heap_alloc w _).1
  have hs0 : w.heap.size + 1 ≤ W0.heap.size := lt_heap O0
  have H0 := (show Hid (_ ∧ _ ∧ _ ∧ _ ∧ _) from ⟨implLinkOk_any _ l S W0 (h.below B0) hb (hg.below B0), B0, O0, hg, hW0⟩)
  have HL := (show Hid (_ ∧ _) from ⟨h, h3⟩)
  clear h h3 h4 B0 O0 hW0 hg
  go_enter Tryz.func20, Tryz.ntmps20
  go_wp2_with fail
  rw [← (show W0 = _ from H0.out.2.2.2.2)]
  refine H0.out.1.mono ?_
  rintro e w1 ⟨rfl, b1⟩
  have hs1 : W0.heap.size ≤ w1.heap.size := b1.size
  have H1 := (show Hid (_ ∧ _ ∧ _) from ⟨H0.out.2.1.trans (b1.mono (by omega)), (b1.block _ (lt_heap H0.out.2.2.1)).trans H0.out.2.2.1, H0.out.2.2.2.1⟩)
  clear b1 H0
  cases hok : l.ok with
  | false =>
    have HA : Hid (l.again = []) := by show _ = _; unfold Lk.again; rw [hok]; rfl
    clear hok
    go_wp2
    go_ret
    exact ⟨_, rfl, by rw [HA.out]; exact ⟨rfl, .inl ⟨rfl, rfl⟩⟩, H1.out.1⟩
  | true =>
  have HA : Hid (l.again = l.out.map (fun s => ⟨(l.pack s).bytes.toArray⟩)) := by show _ = _; unfold Lk.again; rw [hok]; rfl
  have h60 : l.out.length ≤ 60 := by
    unfold Lk.ok Lk.outOk at hok
    simp only [Bool.and_eq_true, decide_eq_true_eq] at hok
    omega
  clear hok
  obtain ⟨q0, q1, q2, q3⟩ := lbox H1.out.2.1
  go_wp2
  clear q0 q1 q2 q3
  go_loopw [3, 12] (fun qv i wr => ∃ k : Nat, k ≤ l.out.length ∧ i = .int .i64 k ∧ wr.ownsRow w.heap.size 9 1 qv k (((l.out.map (fun s => (⟨(l.pack s).bytes.toArray⟩ : ByteArray))).take k).map Value.string) ∧ wr.heap[w.heap.size]? = some (.cells (l.row (.slice oa l.out.length oc) (.slice sa l.seen.length sc)) 27) ∧ Below w.heap.size w wr) (fun _ i _ => l.out.length - (intOf i).toNat)
  case atStart => exact ⟨0, Nat.zero_le _, rfl, ⟨rfl, .inl ⟨rfl, rfl⟩⟩, H1.out.2.1, H1.out.1⟩
  case round =>
    obtain ⟨k, hk, rfl, hrow, hbox, hbw⟩ := hrel
    obtain ⟨qa, qc, rfl⟩ := own_form hrow
    have hsz := hbw.size
    have hsz1 : w.heap.size < wr.heap.size := lt_heap hbox
    by_cases hkl : k < l.out.length
    · have he := List.getElem?_eq_getElem hkl
      have hat := again_take he
      have hbk := bulkO_at he
      generalize l.out[k] = x at *
      obtain ⟨b, off, hoa, hSb, hlt2, c0, c1, c2, r1, r2, r3⟩ := (by obtain ⟨a', cap', hv', _, hc'⟩ := HL.out.2; cases hv'; exact hc' k x he : ∃ b off, oa = some ⟨b, off, none⟩ ∧ S b ∧ b < w.heap.size ∧ w.cell? ⟨b, off + k * 3, none⟩ = some (.int .i64 x.seq) ∧ w.cell? ⟨b, off + k * 3 + 1, none⟩ = some (.int .i64 x.dst) ∧ w.cell? ⟨b, off + k * 3 + 2, none⟩ = some (.string x.body) ∧ inI64 x.seq ∧ inI64 x.dst ∧ x.body.size ≤ maxLen)
      subst hoa
      rw [← hbw.cell (by exact hlt2)] at c0 c1 c2
      have hlt3 : b < wr.heap.size := Nat.lt_of_lt_of_le hlt2 hsz
      have hlt' : ((k : Nat) : Int) < ((l.out.length : Nat) : Int) := by omega
      have hbs : x.body.size ≤ 1048576 := by have := (show x.bulk = x.body.size from rfl); omega
      have hP := fun (wx : World) (hx : Below w.heap.size w wx) => packOf_any _ l x S wx (HL.out.1.below hx) (List.mem_of_getElem? he) hbs (H1.out.2.2.below hx)
      have HX := (show Hid (_ ∧ _ ∧ _ ∧ _ ∧ _) from ⟨hP, hrow, hbox, hbw, hat⟩)
      obtain ⟨q0, q1, q2, q3⟩ := lbox hbox
      clear hP hrow hbox hbw hat he hSb r1 r2 r3
      go_wp2_with fail
      refine (HX.out.1 _ (HX.out.2.2.2.1.alloc hsz _)).mono ?_
      rintro e w2 ⟨rfl, b2⟩
      have bA : Below wr.heap.size wr w2 := ((Below.refl _ wr).alloc (Nat.le_refl _) _).trans (b2.mono (by simp))
      have hs2 := bA.size
      have hO2 := (own_moved HX.out.2.1 (fun g hg => bA.block g (own_lt HX.out.2.1 g hg))).alloc (.cells #[.string ⟨(l.pack x).bytes.toArray⟩] 9)
      have bB : Below wr.heap.size wr (w2.alloc (.cells #[.string ⟨(l.pack x).bytes.toArray⟩] 9)) := bA.alloc hs2 _
      have H5 := (show Hid (_ ∧ _ ∧ _ ∧ _) from ⟨hO2, (bB.block _ hsz1).trans HX.out.2.2.1, HX.out.2.2.2.1.trans (bB.mono hsz), HX.out.2.2.2.2⟩)
      clear hO2 bA bB b2 HX q0 q1 q2 q3 c0 c1 c2
      go_wp2_with (at_builtin; refine wpList_append_own_at _ rfl _ _ 53 rfl w.heap.size 9 i0 (.string ⟨#[]⟩) 1 16 Tryz.underlying53 hi hz0 hz1 hz2 rfl (by decide) _ k _ rfl H5.out.1 ⟨w2.heap.size, 0, none⟩ 1 1 [.string ⟨(l.pack x).bytes.toArray⟩] rfl rfl (cell_one_new _ _ _) (strL_one _) (by unfold maxLen; omega) (by omega) (by simp; omega) ?_; intro v5 w5 hown5 hgrow5 hnil5 hat5)
      have hg5 : ∀ b, (Value.slice qa k qc).ownBlock = some b → w.heap.size ≤ b ∧ b ≠ w.heap.size := fun b hb => by
        obtain ⟨h1, cs, h2⟩ := own_type H5.out.1 b hb
        refine ⟨h1, fun e => ?_⟩
        rw [e, H5.out.2.1] at h2
        simp at h2
      refine ⟨⟨k + 1, by omega, by go_num, ?_, ?_, ?_⟩, by simp [intOf]; omega⟩
      · rw [H5.out.2.2.2]
        exact hown5
      · rw [hgrow5.block _ (lt_heap H5.out.2.1) (fun e => (hg5 _ e.symm).2 rfl)]
        exact H5.out.2.1
      · exact Below.grown H5.out.2.2.1 hgrow5 (hB := H5.out.2.2.1.size) (hr := fun b hb => (hg5 b hb).1)
    · obtain rfl : k = l.out.length := by omega
      have hle : (l.out.map (fun s => (⟨(l.pack s).bytes.toArray⟩ : ByteArray))).length = l.out.length := by simp
      rw [← hle, List.take_length, hle] at hrow
      have HF := (show Hid (_ ∧ _) from ⟨(by rw [HA.out, hle]; exact hrow : wr.ownsRow w.heap.size 9 1 (.slice qa l.out.length qc) l.again.length (l.again.map Value.string)), hbw⟩)
      clear hrow hbox hbw hle
      go_wp2
      go_ret
      exact ⟨_, rfl, HF.out.1, HF.out.2⟩
end Go.Proofs.YtlbinamlehapoaaGreatDoor

namespace Go.Proofs.YtlbinamlehapoaaGreatDoor
open Go.RowKit Go.Joins Go.Shelf

set_option maxRecDepth 100000

theorem ent_pack : ∀ args w, (callFunc 35 args).run Tryz.prog w = .ok (.enter 35 args) w := enters_of Tryz.func35 (by kernel_rfl) rfl

set_option maxHeartbeats 1600000 in
theorem specLinkAgain_any (v : Value) (l : Lk) (S : Nat → Prop) (w : World) (h : LkAt w S v l) (hb : l.bulk ≤ 1048576) :
    Calls Tryz.prog 21 #[v] w fun e w' => ∃ gv, e = .returned gv ∧ w'.ownsRow w.heap.size 9 1 gv l.again.length (l.again.map Value.string) ∧ Below w.heap.size w w' := by
  obtain ⟨oa, oc, sa, sc, rfl, h3, h4⟩ := h.form
  have hol := h3.len
  unfold maxLen at hol
  have hnot := ex_not
  have hbe := (show l.bulk = bulkO l.out + bulkN l.seen from rfl)
  obtain ⟨i0, hi, hz0, hz1, hz2⟩ := info_parts infoStrL
  obtain ⟨W0, hW0⟩ : ∃ W0, W0 = (w.alloc (.cells (l.row (.slice oa l.out.length oc) (.slice sa l.seen.length sc)) 27)).alloc (.cells #[] 9) := ⟨_, rfl⟩
  have B0 : Below w.heap.size w W0 := by rw [hW0]; exact ((Below.refl _ w).alloc (Nat.le_refl _) _).alloc (by simp) _
  have O0 : W0.heap[w.heap.size]? = some (.cells (l.row (.slice oa l.out.length oc) (.slice sa l.seen.length sc)) 27) := by
    rw [hW0, Below.heap_alloc _ _ _ (by simp)]; exact (MapKept.heap_alloc w _).1
  have E0 : W0.ownsRow w.heap.size 9 1 (.slice (some ⟨w.heap.size + 1, 0, none⟩) 0 0) 0 [] := by
    have := ow_empty (w.alloc (.cells (l.row (.slice oa l.out.length oc) (.slice sa l.seen.length sc)) 27)) w.heap.size 9 (by simp)
    rw [hW0]
    simpa using this
  have H0 := (show Hid (_ ∧ _ ∧ _ ∧ _) from ⟨B0, O0, E0, hW0⟩)
  have HL := (show Hid (_ ∧ _ ∧ _) from ⟨h, h3, fun (wx : World) (hx : Below w.heap.size w wx) => specLinkOk_any _ l S wx (h.below hx) hb⟩)
  clear h h3 h4 B0 O0 hW0 E0
  go_enter Tryz.func21, Tryz.ntmps21
  go_wp2
  go_loopw [3, 4] (fun qv i wr => ∃ k : Nat, k ≤ l.out.length ∧ i = .int .i64 k ∧ (0 < k → l.ok = true) ∧ wr.ownsRow w.heap.size 9 1 qv k (((l.out.map (fun s => (⟨(l.pack s).bytes.toArray⟩ : ByteArray))).take k).map Value.string) ∧ wr.heap[w.heap.size]? = some (.cells (l.row (.slice oa l.out.length oc) (.slice sa l.seen.length sc)) 27) ∧ Below w.heap.size w wr) (fun _ i _ => l.out.length - (intOf i).toNat)
  case atStart =>
    have h1 := H0.out.1
    have h2 := H0.out.2.1
    have h3 := H0.out.2.2.1
    rw [H0.out.2.2.2] at h1 h2 h3
    exact ⟨0, Nat.zero_le _, rfl, fun h => by omega, h3, h2, h1⟩
  case round =>
    obtain ⟨k, hk, rfl, hokk, hrow, hbox, hbw⟩ := hrel
    obtain ⟨qa, qc, rfl⟩ := own_form hrow
    have hsz := hbw.size
    have hsz1 : w.heap.size < wr.heap.size := lt_heap hbox
    obtain ⟨q0, q1, q2, q3⟩ := lbox hbox
    by_cases hkl : k < l.out.length
    · have hlt' : ((k : Nat) : Int) < ((l.out.length : Nat) : Int) := by omega
      have HX := (show Hid (_ ∧ _ ∧ _ ∧ _) from ⟨hokk, hrow, hbox, hbw⟩)
      clear hokk hrow hbox hbw
      go_wp2_with fail
      refine (HL.out.2.2 _ HX.out.2.2.2).mono ?_
      rintro e w1 ⟨rfl, b1⟩
      clear q0 q1 q2 q3
      have hs1 := b1.size
      have H1 := (show Hid (_ ∧ _ ∧ _ ∧ _) from ⟨HX.out.1, own_moved HX.out.2.1 (fun g hg => b1.block g (own_lt HX.out.2.1 g hg)), (b1.block _ hsz1).trans HX.out.2.2.1, HX.out.2.2.2.trans (b1.mono hsz)⟩)
      clear b1 HX
      cases hok : l.ok with
      | false =>
        have hk0 : k = 0 := by
          rcases Nat.eq_zero_or_pos k with h | h
          · exact h
          · have := H1.out.1 h; rw [hok] at this; cases this
        have HF := (show Hid (_ ∧ _) from ⟨(by
          have h2 := H1.out.2.1
          subst hk0
          unfold Lk.again
          rw [hok]
          exact h2 : w1.ownsRow w.heap.size 9 1 (.slice qa k qc) l.again.length (l.again.map Value.string)), H1.out.2.2.2⟩)
        clear hok hk0 H1
        go_wp2
        go_ret
        exact ⟨_, rfl, HF.out.1, HF.out.2⟩
      | true =>
      have h60 : l.out.length ≤ 60 := by
        have hok' := hok
        unfold Lk.ok Lk.outOk at hok'
        simp only [Bool.and_eq_true, decide_eq_true_eq] at hok'
        omega
      have HOK := (show Hid (_ ∧ True) from ⟨hok, trivial⟩)
      clear hok
      have he := List.getElem?_eq_getElem hkl
      have hat := again_take he
      have hbk := bulkO_at he
      generalize l.out[k] = x at *
      obtain ⟨b, off, hoa, hSb, hlt2, c0, c1, c2, r1, r2, r3⟩ := (by obtain ⟨a', cap', hv', _, hc'⟩ := HL.out.2.1; cases hv'; exact hc' k x he : ∃ b off, oa = some ⟨b, off, none⟩ ∧ S b ∧ b < w.heap.size ∧ w.cell? ⟨b, off + k * 3, none⟩ = some (.int .i64 x.seq) ∧ w.cell? ⟨b, off + k * 3 + 1, none⟩ = some (.int .i64 x.dst) ∧ w.cell? ⟨b, off + k * 3 + 2, none⟩ = some (.string x.body) ∧ inI64 x.seq ∧ inI64 x.dst ∧ x.body.size ≤ maxLen)
      subst hoa
      rw [← H1.out.2.2.2.cell (by exact hlt2)] at c0 c1 c2
      have hbs : x.body.size ≤ 1048576 := by have := (show x.bulk = x.body.size from rfl); omega
      have hP := fun (wx : World) (hx : Below w.heap.size w wx) => l08Pack_any _ l x S wx (HL.out.1.below hx) ⟨r1, r2⟩ hbs
      have HP := (show Hid (_ ∧ _) from ⟨hP, hat⟩)
      obtain ⟨q0, q1, q2, q3⟩ := lbox H1.out.2.2.1
      clear hP hat he hSb r1 r2 r3
      go_wp2_with fail
      go_region_law (first
        | (refine step_callB rfl 35 (.tmp 18) (.tmp 23) _ rfl ent_pack (.agg #[.int .i64 l.id, .int .i64 l.next, .slice (some ⟨b, off, none⟩) l.out.length oc, .slice sa l.seen.length sc]) (.agg #[.int .i64 x.seq, .int .i64 x.dst, .string x.body]) (by simp [Act.eval]) (by simp [Act.eval]) (fun r w' => r = .string ⟨(l.pack x).bytes.toArray⟩ ∧ Below w1.heap.size w1 w') ((HP.out.1 _ H1.out.2.2.2.drew).mono (fun e w' h => ⟨_, h.1, rfl, ((Below.refl _ w1).drew).trans h.2⟩)) ?_; rintro r2 w2 ⟨rfl, b2⟩; have H2 := (show Hid (Below w1.heap.size w1 w2 ∧ True) from ⟨b2, trivial⟩); clear b2)
        | (refine step_append_row rfl (.tmp 17) (.tmp 25) 53 rfl w.heap.size 9 i0 (.string ⟨#[]⟩) 1 16 Tryz.underlying53 hi hz0 hz1 hz2 rfl (by decide) (.slice qa k qc) k _ (by simp [Act.eval]) ((own_moved H1.out.2.1 (fun g hg => H2.out.1.block g (own_lt H1.out.2.1 g hg))).alloc (.cells #[.string ⟨(l.pack x).bytes.toArray⟩] 9)) ⟨w2.heap.size, 0, none⟩ 1 1 [.string ⟨(l.pack x).bytes.toArray⟩] (by simp [Act.eval]) rfl (cell_one_new w2 _ _) (strL_one _) (by unfold maxLen; omega) (by omega) (by have := H2.out.1.size; simp; omega) ?_; intro v5 w5 hown5 hgrow5 hat5))
      all_goals
        have hs2 := H2.out.1.size
        have bB : Below w1.heap.size w1 (w2.alloc (.cells #[.string ⟨(l.pack x).bytes.toArray⟩] 9)) := H2.out.1.alloc hs2 _
        have hO2 := (own_moved H1.out.2.1 (fun g hg => H2.out.1.block g (own_lt H1.out.2.1 g hg))).alloc (.cells #[.string ⟨(l.pack x).bytes.toArray⟩] 9)
        have hbx := (bB.block _ (lt_heap H1.out.2.2.1)).trans H1.out.2.2.1
        have hBw : Below w.heap.size w (w2.alloc (.cells #[.string ⟨(l.pack x).bytes.toArray⟩] 9)) := H1.out.2.2.2.trans (bB.mono (by omega))
        have hg5 : ∀ b, (Value.slice qa k qc).ownBlock = some b → w.heap.size ≤ b ∧ b ≠ w.heap.size := fun b hb => by
          obtain ⟨h1, cs, h2⟩ := own_type hO2 b hb
          refine ⟨h1, fun e => ?_⟩
          rw [e, hbx] at h2
          simp at h2
        have HF := (show Hid (_ ∧ _ ∧ _) from ⟨(by rw [HP.out.2]; exact hown5 : w5.ownsRow w.heap.size 9 1 v5 (k + 1) (((l.out.map (fun s => (⟨(l.pack s).bytes.toArray⟩ : ByteArray))).take (k + 1)).map Value.string)), (hgrow5.block _ (lt_heap hbx) (fun e => (hg5 _ e.symm).2 rfl)).trans hbx, Below.grown hBw hgrow5 (hB := hBw.size) (hr := fun b hb => (hg5 b hb).1)⟩)
        clear hown5 hgrow5 hat5 hg5 hBw hbx hO2 bB hs2 q0 q1 q2 q3 c0 c1 c2
        go_wp2
        go_roundw
        case rel => exact ⟨k + 1, by omega, by go_num, fun _ => HOK.out.1, HF.out.1, HF.out.2.1, HF.out.2.2⟩
        case measure => simp [intOf]; omega
    · obtain rfl : k = l.out.length := by omega
      have hle : (l.out.map (fun s => (⟨(l.pack s).bytes.toArray⟩ : ByteArray))).length = l.out.length := by simp
      have hfin : wr.ownsRow w.heap.size 9 1 (.slice qa l.out.length qc) l.again.length (l.again.map Value.string) := by
        rw [← hle, List.take_length, hle] at hrow
        unfold Lk.again
        cases hok : l.ok with
        | true => rw [if_pos rfl, hle]; exact hrow
        | false =>
          have h0 : l.out = [] := by
            rcases Nat.eq_zero_or_pos l.out.length with h | h
            · exact List.eq_nil_of_length_eq_zero h
            · have := hokk h; rw [hok] at this; cases this
          rw [h0] at hrow ⊢
          exact hrow
      have HF := (show Hid (_ ∧ _) from ⟨hfin, hbw⟩)
      clear hrow hbox hbw hle hfin hokk
      go_wp2
      go_ret
      exact ⟨_, rfl, HF.out.1, HF.out.2⟩
end Go.Proofs.YtlbinamlehapoaaGreatDoor
