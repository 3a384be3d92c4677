/-
  The program's packs of what was sent.
-/
import Derived.Test.YtbaakhpmfljgnaaGreatDoorLinkLow
import Derived.Test.YtbaakhpmfljgnaaGreatDoorImplLinkOk
import Derived.Deep.RegionHeld3
namespace Go.Proofs.YtbaakhpmfljgnaaGreatDoor
open Go.RowKit Go.Joins

set_option maxRecDepth 100000

theorem lsbox {W : World} {b b' : Nat} {l : Lk} {o : Sn} {ov sv : Value} {t t' : TypeId} {fz fz' : Nat × Nat} (h : W.heap[b]? = some (.cells (l.row ov sv) t fz)) (h' : W.heap[b']? = some (.cells #[.int .i64 o.seq, .int .i64 o.dst, .string o.body] t' fz')) : W.cell? ⟨b, 0, none⟩ = some (.int .i64 l.id) ∧ W.cell? ⟨b, 1, none⟩ = some (.int .i64 l.next) ∧ W.cell? ⟨b, 2, none⟩ = some ov ∧ W.cell? ⟨b, 3, none⟩ = some sv ∧ W.cell? ⟨b', 0, none⟩ = some (.int .i64 o.seq) ∧ W.cell? ⟨b', 1, none⟩ = some (.int .i64 o.dst) ∧ W.cell? ⟨b', 2, none⟩ = some (.string o.body) :=
  ⟨(lbox h).1, (lbox h).2.1, (lbox h).2.2.1, (lbox h).2.2.2, (cell_of_block h' 0).trans rfl, (cell_of_block h' 1).trans rfl, (cell_of_block h' 2).trans rfl⟩

set_option maxHeartbeats 1600000 in
theorem packOf_any (v : Value) (l : Lk) (o : Sn) (S : Nat → Prop) (w : World) (h : LkAt w S v l) (ho : o ∈ l.out) (hs : o.body.size ≤ 1048576) (hg : ET w) :
    Calls Tryz.prog 43 #[v, .agg #[.int .i64 o.seq, .int .i64 o.dst, .string o.body]] w fun e w' => e = .returned (.string ⟨(l.pack o).bytes.toArray⟩) ∧ Below w.heap.size w w' := by
  have hfit : inI64 l.id ∧ inI64 l.next := by obtain ⟨_, _, _, a, b, _⟩ := h; exact ⟨a, b⟩
  obtain ⟨oa, oc, sa, sc, rfl, h3, h4⟩ := h.form
  have hfs := h3.fits o ho
  obtain ⟨W0, hW0⟩ : ∃ W0, W0 = (w.alloc (.cells (l.row (.slice oa l.out.length oc) (.slice sa l.seen.length sc)) 36)).alloc (.cells #[.int .i64 o.seq, .int .i64 o.dst, .string o.body] 72) := ⟨_, rfl⟩
  have B0 : Below w.heap.size w W0 := by rw [hW0]; exact ((Below.refl _ w).alloc (Nat.le_refl _) _).alloc (by simp) _
  have O0 : W0.heap[w.heap.size]? = some (.cells (l.row (.slice oa l.out.length oc) (.slice sa l.seen.length sc)) 36) := by
    rw [hW0, Below.heap_alloc _ _ _ (by simp)]; exact (MapKept.heap_alloc w _).1
  have O1 : W0.heap[w.heap.size + 1]? = some (.cells #[.int .i64 o.seq, .int .i64 o.dst, .string o.body] 72) := by
    have := (MapKept.heap_alloc (w.alloc (.cells (l.row (.slice oa l.out.length oc) (.slice sa l.seen.length sc)) 36)) (.cells #[.int .i64 o.seq, .int .i64 o.dst, .string o.body] 72)).1
    rw [hW0]
    simpa using this
  have hs0 : w.heap.size + 2 ≤ W0.heap.size := lt_heap O1
  have hL := fun (wx : World) (hx : Below w.heap.size w wx) => lowTo_any _ l o.dst o.seq S wx (h.below hx) ⟨o, ho, rfl⟩
  have hp : (l.pack o).fits := ⟨(inI64_small (k := 0) (by decide) (by decide) : inI64 0), hfit.1, hfs.2.1, hfs.1, lowL_in _ _ _ (fun s hs => (h3.fits s hs).1) hfs.1⟩
  have hP := fun (wx : World) (hx : ET wx) => implPutPack_any (l.pack o) wx hs hp hx
  obtain ⟨lw, hlw⟩ : ∃ lw, lw = lowL l.out o.dst o.seq := ⟨_, rfl⟩
  have HEQ : Hid (l.pack o = ⟨0, l.id, o.dst, o.seq, lw, o.body⟩) := by show _ = _; rw [hlw]; rfl
  rw [HEQ.out] at hP
  rw [← hlw] at hL
  have H0 := (show Hid (_ ∧ _ ∧ _ ∧ _ ∧ _ ∧ _ ∧ _) from ⟨hL, hP, B0, O0, O1, hg, hW0⟩)
  clear h hL hP B0 O0 O1 hg hW0 h3 h4 hp hlw hfs
  go_enter Tryz.func43, Tryz.ntmps43
  go_wp2_with fail
  rw [← (show W0 = _ from H0.out.2.2.2.2.2.2)]
  have hd : Below W0.heap.size W0 W0.drew := (Below.refl _ _).drew
  have hs1 : w.heap.size ≤ W0.drew.heap.size := by have := hd.size; omega
  have H1 := (show Hid (_ ∧ _ ∧ _ ∧ _) from ⟨H0.out.2.2.1.trans (hd.mono (by omega)), (show W0.drew.heap[w.heap.size]? = _ from H0.out.2.2.2.1), (show W0.drew.heap[w.heap.size + 1]? = _ from H0.out.2.2.2.2.1), (H0.out.2.2.2.2.2.1.below H0.out.2.2.1).below hd⟩)
  have HC := (show Hid (_ ∧ _) from ⟨H0.out.1, H0.out.2.1⟩)
  clear hd H0
  go_region_held3 (fun w' => w'.cell? ⟨w.heap.size, 0, none⟩ = some (.int .i64 l.id) ∧ w'.cell? ⟨w.heap.size, 1, none⟩ = some (.int .i64 l.next) ∧ w'.cell? ⟨w.heap.size, 2, none⟩ = some (.slice oa l.out.length oc) ∧ w'.cell? ⟨w.heap.size, 3, none⟩ = some (.slice sa l.seen.length sc) ∧ w'.cell? ⟨w.heap.size + 1, 0, none⟩ = some (.int .i64 o.seq) ∧ w'.cell? ⟨w.heap.size + 1, 1, none⟩ = some (.int .i64 o.dst) ∧ w'.cell? ⟨w.heap.size + 1, 2, none⟩ = some (.string o.body)) (first | exact lsbox H3.out.2.1 H3.out.2.2 | exact lsbox H2.out.2.1 H2.out.2.2.1 | exact lsbox H1.out.2.1 H1.out.2.2.1) (first
    | (go_at_call 81; refine (HC.out.1 _ H1.out.1).mono ?_; rintro e w2 ⟨rfl, b2⟩; have H2 := (show Hid (_ ∧ _ ∧ _ ∧ _) from ⟨H1.out.1.trans (b2.mono hs1), (b2.block _ (lt_heap H1.out.2.1)).trans H1.out.2.1, (b2.block _ (lt_heap H1.out.2.2.1)).trans H1.out.2.2.1, H1.out.2.2.2.below b2⟩); clear b2 H1)
    | (go_at_call 80; refine (HC.out.2 _ H2.out.2.2.2).mono ?_; rintro e w3 ⟨rfl, b3⟩; have H3 := (show Hid (_ ∧ _ ∧ _) from ⟨H2.out.1.trans (b3.mono H2.out.1.size), (b3.block _ (lt_heap H2.out.2.1)).trans H2.out.2.1, (b3.block _ (lt_heap H2.out.2.2.1)).trans H2.out.2.2.1⟩); clear b3 H2))
  go_wp2
  go_ret
  exact ⟨by rw [HEQ.out]; rfl, H3.out.1⟩

/-- The bytes of the packs of what was sent; none where the link is not right. -/
def Lk.again (l : Lk) : List ByteArray := if l.ok then l.out.map (fun s => ⟨(l.pack s).bytes.toArray⟩) else []
theorem again_take {l : Lk} {k : Nat} {x : Sn} (h : l.out[k]? = some x) : ((l.out.map (fun s => (⟨(l.pack s).bytes.toArray⟩ : ByteArray))).take (k + 1)).map Value.string = ((l.out.map (fun s => (⟨(l.pack s).bytes.toArray⟩ : ByteArray))).take k).map Value.string ++ [.string ⟨(l.pack x).bytes.toArray⟩] := by
  have hk := (List.getElem?_eq_some_iff.1 h).1
  rw [List.take_succ_eq_append_getElem (by simpa using hk), List.map_append]
  simp [(List.getElem?_eq_some_iff.1 h).2]
theorem infoStrL : (Tryz.prog.info? 9).map (fun i => (i.zero, i.size, i.bytes)) = some (some (.string ⟨#[]⟩), 1, 16) := by kernel_rfl
theorem strL_one (x : ByteArray) : ∀ u ∈ [Value.string x], u.oneCell' = true := by
  intro u hu
  rw [List.mem_singleton.1 hu]
  rfl

set_option maxHeartbeats 1600000 in
theorem implLinkAgain_any (v : Value) (l : Lk) (S : Nat → Prop) (w : World) (h : LkAt w S v l) (hb : l.bulk ≤ 1048576) (hg : ET w) :
    Calls Tryz.prog 19 #[v] w fun e w' => ∃ gv, e = .returned gv ∧ w'.ownsRow w.heap.size 9 1 gv l.again.length (l.again.map Value.string) ∧ Below w.heap.size w w' := by
  obtain ⟨oa, oc, sa, sc, rfl, h3, h4⟩ := h.form
  have hol := h3.len
  unfold maxLen at hol
  have hnot := ex_not
  have hbe := (show l.bulk = bulkO l.out + bulkN l.seen from rfl)
  obtain ⟨i0, hi, hz0, hz1, hz2⟩ := info_parts infoStrL
  obtain ⟨W0, hW0⟩ : ∃ W0, W0 = w.alloc (.cells (l.row (.slice oa l.out.length oc) (.slice sa l.seen.length sc)) 36) := ⟨_, rfl⟩
  have B0 : Below w.heap.size w W0 := by rw [hW0]; exact (Below.refl _ w).alloc (Nat.le_refl _) _
  have O0 : W0.heap[w.heap.size]? = some (.cells (l.row (.slice oa l.out.length oc) (.slice sa l.seen.length sc)) 36) := by rw [hW0]; exact (MapKept.heap_alloc w _).1
  have hs0 : w.heap.size + 1 ≤ W0.heap.size := lt_heap O0
  have H0 := (show Hid (_ ∧ _ ∧ _ ∧ _ ∧ _) from ⟨implLinkOk_any _ l S W0 (h.below B0) hb (hg.below B0), B0, O0, hg, hW0⟩)
  have HL := (show Hid (_ ∧ _) from ⟨h, h3⟩)
  clear h h3 h4 B0 O0 hW0 hg
  go_enter Tryz.func19, Tryz.ntmps19
  go_wp2_with fail
  rw [← (show W0 = _ from H0.out.2.2.2.2)]
  refine H0.out.1.mono ?_
  rintro e w1 ⟨rfl, b1⟩
  have hs1 : W0.heap.size ≤ w1.heap.size := b1.size
  have H1 := (show Hid (_ ∧ _ ∧ _) from ⟨H0.out.2.1.trans (b1.mono (by omega)), (b1.block _ (lt_heap H0.out.2.2.1)).trans H0.out.2.2.1, H0.out.2.2.2.1⟩)
  clear b1 H0
  cases hok : l.ok with
  | false =>
    have HA : Hid (l.again = []) := by show _ = _; unfold Lk.again; rw [hok]; rfl
    clear hok
    go_wp2
    go_ret
    exact ⟨_, rfl, by rw [HA.out]; exact ⟨rfl, .inl ⟨rfl, rfl⟩⟩, H1.out.1⟩
  | true =>
  have HA : Hid (l.again = l.out.map (fun s => ⟨(l.pack s).bytes.toArray⟩)) := by show _ = _; unfold Lk.again; rw [hok]; rfl
  have h60 : l.out.length ≤ 60 := by
    unfold Lk.ok Lk.outOk at hok
    simp only [Bool.and_eq_true, decide_eq_true_eq] at hok
    omega
  clear hok
  obtain ⟨q0, q1, q2, q3⟩ := lbox H1.out.2.1
  go_wp2
  clear q0 q1 q2 q3
  go_loopw [3, 12] (fun qv i wr => ∃ k : Nat, k ≤ l.out.length ∧ i = .int .i64 k ∧ wr.ownsRow w.heap.size 9 1 qv k (((l.out.map (fun s => (⟨(l.pack s).bytes.toArray⟩ : ByteArray))).take k).map Value.string) ∧ wr.heap[w.heap.size]? = some (.cells (l.row (.slice oa l.out.length oc) (.slice sa l.seen.length sc)) 36) ∧ Below w.heap.size w wr) (fun _ i _ => l.out.length - (intOf i).toNat)
  case atStart => exact ⟨0, Nat.zero_le _, rfl, ⟨rfl, .inl ⟨rfl, rfl⟩⟩, H1.out.2.1, H1.out.1⟩
  case round =>
    obtain ⟨k, hk, rfl, hrow, hbox, hbw⟩ := hrel
    obtain ⟨qa, qc, rfl⟩ := own_form hrow
    have hsz := hbw.size
    have hsz1 : w.heap.size < wr.heap.size := lt_heap hbox
    by_cases hkl : k < l.out.length
    · have he := List.getElem?_eq_getElem hkl
      have hat := again_take he
      have hbk := bulkO_at he
      generalize l.out[k] = x at *
      obtain ⟨b, off, hoa, hSb, hlt2, c0, c1, c2, r1, r2, r3⟩ := (by obtain ⟨a', cap', hv', _, hc'⟩ := HL.out.2; cases hv'; exact hc' k x he : ∃ b off, oa = some ⟨b, off, none⟩ ∧ S b ∧ b < w.heap.size ∧ w.cell? ⟨b, off + k * 3, none⟩ = some (.int .i64 x.seq) ∧ w.cell? ⟨b, off + k * 3 + 1, none⟩ = some (.int .i64 x.dst) ∧ w.cell? ⟨b, off + k * 3 + 2, none⟩ = some (.string x.body) ∧ inI64 x.seq ∧ inI64 x.dst ∧ x.body.size ≤ maxLen)
      subst hoa
      rw [← hbw.cell (by exact hlt2)] at c0 c1 c2
      have hlt3 : b < wr.heap.size := Nat.lt_of_lt_of_le hlt2 hsz
      have hlt' : ((k : Nat) : Int) < ((l.out.length : Nat) : Int) := by omega
      have hbs : x.body.size ≤ 1048576 := by have := (show x.bulk = x.body.size from rfl); omega
      have hP := fun (wx : World) (hx : Below w.heap.size w wx) => packOf_any _ l x S wx (HL.out.1.below hx) (List.mem_of_getElem? he) hbs (H1.out.2.2.below hx)
      have HX := (show Hid (_ ∧ _ ∧ _ ∧ _ ∧ _) from ⟨hP, hrow, hbox, hbw, hat⟩)
      obtain ⟨q0, q1, q2, q3⟩ := lbox hbox
      clear hP hrow hbox hbw hat he hSb r1 r2 r3
      go_wp2_with fail
      refine (HX.out.1 _ (HX.out.2.2.2.1.alloc hsz _)).mono ?_
      rintro e w2 ⟨rfl, b2⟩
      have bA : Below wr.heap.size wr w2 := ((Below.refl _ wr).alloc (Nat.le_refl _) _).trans (b2.mono (by simp))
      have hs2 := bA.size
      have hO2 := (own_moved HX.out.2.1 (fun g hg => bA.block g (own_lt HX.out.2.1 g hg))).alloc (.cells #[.string ⟨(l.pack x).bytes.toArray⟩] 9)
      have bB : Below wr.heap.size wr (w2.alloc (.cells #[.string ⟨(l.pack x).bytes.toArray⟩] 9)) := bA.alloc hs2 _
      have H5 := (show Hid (_ ∧ _ ∧ _ ∧ _) from ⟨hO2, (bB.block _ hsz1).trans HX.out.2.2.1, HX.out.2.2.2.1.trans (bB.mono hsz), HX.out.2.2.2.2⟩)
      clear hO2 bA bB b2 HX q0 q1 q2 q3 c0 c1 c2
      go_wp2_with (at_builtin; refine wpList_append_own_at _ rfl _ _ 49 rfl w.heap.size 9 i0 (.string ⟨#[]⟩) 1 16 Tryz.underlying49 hi hz0 hz1 hz2 rfl (by decide) _ k _ rfl H5.out.1 ⟨w2.heap.size, 0, none⟩ 1 1 [.string ⟨(l.pack x).bytes.toArray⟩] rfl rfl (cell_one_new _ _ _) (strL_one _) (by unfold maxLen; omega) (by omega) (by simp; omega) ?_; intro v5 w5 hown5 hgrow5 hnil5 hat5)
      have hg5 : ∀ b, (Value.slice qa k qc).ownBlock = some b → w.heap.size ≤ b ∧ b ≠ w.heap.size := fun b hb => by
        obtain ⟨h1, cs, h2⟩ := own_type H5.out.1 b hb
        refine ⟨h1, fun e => ?_⟩
        rw [e, H5.out.2.1] at h2
        simp at h2
      refine ⟨⟨k + 1, by omega, by go_num, ?_, ?_, ?_⟩, by simp [intOf]; omega⟩
      · rw [H5.out.2.2.2]
        exact hown5
      · rw [hgrow5.block _ (lt_heap H5.out.2.1) (fun e => (hg5 _ e.symm).2 rfl)]
        exact H5.out.2.1
      · exact Below.grown H5.out.2.2.1 hgrow5 (hB := H5.out.2.2.1.size) (hr := fun b hb => (hg5 b hb).1)
    · obtain rfl : k = l.out.length := by omega
      have hle : (l.out.map (fun s => (⟨(l.pack s).bytes.toArray⟩ : ByteArray))).length = l.out.length := by simp
      rw [← hle, List.take_length, hle] at hrow
      have HF := (show Hid (_ ∧ _) from ⟨(by rw [HA.out, hle]; exact hrow : wr.ownsRow w.heap.size 9 1 (.slice qa l.out.length qc) l.again.length (l.again.map Value.string)), hbw⟩)
      clear hrow hbox hbw hle
      go_wp2
      go_ret
      exact ⟨_, rfl, HF.out.1, HF.out.2⟩
end Go.Proofs.YtbaakhpmfljgnaaGreatDoor
