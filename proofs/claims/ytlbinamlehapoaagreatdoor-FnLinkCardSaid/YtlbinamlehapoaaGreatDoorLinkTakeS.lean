/-
  The specification's LinkTake.
-/
import Derived.Test.YtlbinamlehapoaaGreatDoorLinkCopyS
import Derived.Test.YtlbinamlehapoaaGreatDoorSpecLinkOk
import Derived.Test.YtlbinamlehapoaaGreatDoorMY
import Derived.Test.YtlbinamlehapoaaGreatDoorMZ
import Derived.Test.YtlbinamlehapoaaGreatDoorLinkSendS
import Derived.Deep.CutBlock
import Derived.Deep.RegionHeld3
namespace Go.Proofs.YtlbinamlehapoaaGreatDoor
open Go.RowKit Go.Joins

set_option maxRecDepth 100000

set_option maxHeartbeats 800000 in
theorem l08Has_any (ids : List Int) (q : Int) (S : Nat → Prop) (kv : Value) (w : World) (h : IntsAt w S kv ids) :
    Calls Tryz.prog 39 #[kv, .int .i64 q] w fun e w' => e = .returned (.bool (ids.contains q)) ∧ w' = w := by
  obtain ⟨a, cap, rfl, hl, hc⟩ := h
  unfold maxLen at hl
  go_enter Tryz.func39, Tryz.ntmps39
  go_wp2
  go_loopw [5] (fun i wr => ∃ k : Nat, k ≤ ids.length ∧ i = .int .i64 k ∧ (ids.take k).contains q = false ∧ wr = w) (fun i _ => ids.length - (intOf i).toNat)
  case atStart => exact ⟨0, Nat.zero_le _, rfl, by simp, rfl⟩
  case round =>
    obtain ⟨k, hk, rfl, hno, rfl⟩ := hrel
    by_cases hkl : k < ids.length
    · have he := List.getElem?_eq_getElem hkl
      have hlt' : ((k : Nat) : Int) < ((ids.length : Nat) : Int) := by omega
      obtain ⟨b, off, rfl, hS, hlt, hcell, hi64⟩ := hc k _ he
      have htk : ids.take (k + 1) = ids.take k ++ [ids[k]] := List.take_succ_eq_append_getElem hkl
      have HT : Hid (_ ∧ True) := ⟨htk, trivial⟩
      cases hz : (ids[k] == q) with
      | true =>
        have HY : Hid (ids.contains q = true) := by
          show _ = _
          have := eq_of_beq hz
          rw [List.contains_iff_mem, ← this]
          exact List.getElem_mem hkl
        generalize ids[k] = z at *
        clear htk he
        go_wp2
        go_ret
        exact ⟨by rw [HY.out]; rfl, rfl⟩
      | false =>
        have HN : Hid ((ids.take (k + 1)).contains q = false) := by
          show _ = _
          rw [htk]
          simp only [List.contains_eq_mem, List.mem_append, List.mem_singleton] at hno ⊢
          have h1 : ¬ q = ids[k] := fun e => by rw [← e] at hz; simp at hz
          simpa [h1] using hno
        generalize ids[k] = z at *
        clear htk he hno
        go_wp2
        exact ⟨⟨k + 1, by omega, by go_num, HN.out, trivial⟩, by simp [intOf]; omega⟩
    · obtain rfl : k = ids.length := by omega
      rw [List.take_length] at hno
      have HF : Hid (ids.contains q = false) := hno
      clear hno
      go_wp2
      go_ret
      exact ⟨by rw [HF.out]; rfl, rfl⟩

theorem take_no {l : Lk} {p : Pa} (h : l.takes p = false) : l.fresh p = false ∧ l.due p = false ∧ l.take p = l := by
  unfold Lk.fresh Lk.due Lk.take
  rw [h]
  exact ⟨rfl, rfl, rfl⟩
/-- append of a row of numbers, as one step of a region that draws. -/
theorem step_append_ints {ops : Array Oper} {o : Oper} {a : Act} {w : World} {K : Act → World → Prop} {Q : Exit → Act → World → Prop} {E : Prop} (hg : o.guard = none) (s x : Operand)
    (ho : o.op = .call { callee := .builtin .append, args := #[s, x], argTypes := #[28, 28] })
    (base : Nat) (v : Value) (n : Nat) (xs : List Value) (hs : a.eval s = v) (hown : w.ownsRow base 3 1 v n xs)
    (sv : Value) (zs : List Int) (S : Nat → Prop) (hx : a.eval x = sv) (hsrc : IntsAt w S sv zs) (hn : n + zs.length ≤ 1000000000) (hbase : base ≤ w.heap.size)
    (hK : ∀ v' w', w'.ownsRow base 3 1 v' (n + zs.length) (xs ++ intVs zs) → w.grownBy w' v.ownBlock → (v'.ownBlock = v.ownBlock ∨ v'.ownBlock = some w.heap.size) → K (a.put o.dst v') w') :
    if Region.wanted o (yielded ops a.tmps) = true then Oper.wp Tryz.prog o a w K Q else E := by
  obtain ⟨i0, hi, hz0, hz1, hz2⟩ := info_parts infoCdI
  obtain ⟨ad, cap, rfl, hl, hc⟩ := hsrc
  cases ad with
  | none =>
    have hz : zs = [] := by
      cases zs with
      | nil => rfl
      | cons z zs => obtain ⟨b, off, he, _⟩ := hc 0 z rfl; cases he
    subst hz
    have hw : Region.wanted o (yielded ops a.tmps) = true := by simp [Region.wanted, hg]
    rw [if_pos hw]
    have hrun := run_append_zero (w := w) base 28 o.type 3 i0 1 Tryz.underlying28 hi v n cap xs hown
    unfold Oper.wp
    simp only [List.length_nil] at hx
    simp [execOp, ho, resolve, invoke, builtin, hs, hx, hrun, Result.andThen]
    exact hK v w (by simpa [intVs] using hown) (World.grownBy.refl _ _) (.inl rfl)
  | some ad =>
    refine step_append_row hg s x 28 ho base 3 i0 (.int .i64 0) 1 8 Tryz.underlying28 hi hz0 hz1 hz2 rfl (by decide) v n xs hs hown ad zs.length cap (intVs zs) hx (by simp [intVs]) (fun j u hj => ?_) (fun u hu => by unfold intVs at hu; obtain ⟨z, _, rfl⟩ := List.mem_map.1 hu; rfl) (by unfold maxLen; omega) (by omega) hbase hK
    unfold intVs at hj
    rw [List.getElem?_map] at hj
    obtain ⟨z, hz, rfl⟩ := Option.map_eq_some_iff.1 hj
    obtain ⟨b, off, he, _, _, hcell, _⟩ := hc j z hz
    cases he
    rw [addr_addI]
    exact hcell
theorem ints_take {w : World} {S : Nat → Prop} {g n cap j : Nat} {zs : List Int} (h : IntsAt w S (.slice (some ⟨g, 0, none⟩) n cap) zs) (hj : j ≤ zs.length) : IntsAt w (fun _ => True) (.slice (some ⟨g, 0, none⟩) j cap) (zs.take j) := by
  obtain ⟨a, c, hv, hl, hc⟩ := h
  cases hv
  refine ⟨some ⟨g, 0, none⟩, cap, by rw [List.length_take, Nat.min_eq_left hj], by rw [List.length_take]; omega, fun i z hz => ?_⟩
  rw [List.getElem?_take] at hz
  split at hz
  · obtain ⟨b, off, h1, _, h3, h4, h5⟩ := hc i z hz
    exact ⟨b, off, h1, trivial, h3, h4, h5⟩
  · cases hz
theorem ints_drop {w : World} {S : Nat → Prop} {g n cap j : Nat} {zs : List Int} {ad : Option Addr} (h : IntsAt w S (.slice (some ⟨g, 0, none⟩) n cap) zs) (hj : j ≤ zs.length) (hc0 : zs.length ≤ cap) (ha : ad = if cap = j then some ⟨g, 0, none⟩ else some ⟨g, j, none⟩) : IntsAt w (fun _ => True) (.slice ad (zs.length - j) (cap - j)) (zs.drop j) := by
  obtain ⟨a, c, hv, hl, hc⟩ := h
  cases hv
  refine ⟨ad, cap - j, by rw [List.length_drop], by rw [List.length_drop]; omega, fun i z hz => ?_⟩
  rw [List.getElem?_drop] at hz
  have hlt := (List.getElem?_eq_some_iff.1 hz).1
  obtain ⟨b, off, h1, _, h3, h4, h5⟩ := hc (j + i) z hz
  cases h1
  rw [if_neg (by omega)] at ha
  refine ⟨g, j, ha, trivial, h3, ?_, h5⟩
  rw [Nat.zero_add] at h4
  exact h4
theorem ints_one1 {W : World} {o : Nat} {z : Int} {t : TypeId} (h : W.heap[o]? = some (.cells #[.int .i64 z] t)) (hz : inI64 z) : IntsAt W (fun _ => True) (.slice (some ⟨o, 0, none⟩) 1 1) [z] := by
  refine ⟨some ⟨o, 0, none⟩, 1, rfl, by unfold maxLen; simp, fun i u hu => ?_⟩
  cases i with
  | zero =>
    simp at hu
    subst hu
    exact ⟨o, 0, rfl, trivial, lt_heap h, (cell_of_block h 0).trans rfl, hz⟩
  | succ i => simp at hu
theorem heap_two (w : World) (o o' : Obj) : ((w.alloc o).alloc o').heap[w.heap.size + 1]? = some o' := by
  have := (MapKept.heap_alloc (w.alloc o) o').1
  simpa using this
theorem irow_two (w : World) (o : Obj) : ((w.alloc o).alloc (.cells #[] 3)).ownsRow w.heap.size 3 1 (.slice (some ⟨w.heap.size + 1, 0, none⟩) 0 0) 0 [] := by
  have := irow_empty (w.alloc o) w.heap.size (by simp)
  simpa using this
theorem place_at {l : List Int} {q : Int} {j : Nat} (hj : j ≤ l.length) (h : ∀ i z, i < j → l[i]? = some z → z < q) (he : j = l.length ∨ ∃ z, l[j]? = some z ∧ ¬ z < q) : placeL l q = j := by
  unfold placeL
  induction l generalizing j with
  | nil => simp at hj ⊢; omega
  | cons a r ih =>
    cases j with
    | zero =>
      rcases he with he | ⟨z, hz, hn⟩
      · simp at he
      · simp at hz
        subst hz
        simp [List.takeWhile, hn]
    | succ j =>
      have ha : a < q := h 0 a (by omega) rfl
      have := ih (j := j) (by simpa using hj) (fun i z hi hz => h (i + 1) z (by omega) (by simpa using hz)) (by
        rcases he with he | ⟨z, hz, hn⟩
        · exact .inl (by simpa using he)
        · exact .inr ⟨z, by simpa using hz, hn⟩)
      simp [List.takeWhile, ha, this]
theorem take_has {l : Lk} {p : Pa} {y : Se} {f : Nat} (h : l.takes p = true) (hy : l.seenOf p = y) (hf : p.frm.toNat = f) (hh : y.has p.seq = true) : l.fresh p = false ∧ l.due p = true ∧ l.take p = l.setSe f y := by
  unfold Lk.fresh Lk.due Lk.take
  rw [h, hy, hf, hh]
  simp
theorem take_full {l : Lk} {p : Pa} {y : Se} {f : Nat} (h : l.takes p = true) (hy : l.seenOf p = y) (hf : p.frm.toNat = f) (hh : y.has p.seq = false) (h60 : 60 ≤ y.ids.length) : l.fresh p = false ∧ l.due p = false ∧ l.take p = l.setSe f y := by
  unfold Lk.fresh Lk.due Lk.take
  rw [h, hy, hf, hh]
  simp [h60]
theorem take_new {l : Lk} {p : Pa} {y : Se} {f : Nat} (h : l.takes p = true) (hy : l.seenOf p = y) (hf : p.frm.toNat = f) (hh : y.has p.seq = false) (h60 : ¬ 60 ≤ y.ids.length) : l.fresh p = true ∧ l.due p = true ∧ l.take p = l.setSe f (y.put p.seq) := by
  unfold Lk.fresh Lk.due Lk.take
  rw [h, hy, hf, hh]
  simp [h60]
theorem SeOwn.cellAt {W : World} {B g n cap : Nat} {A D : List (Se × Value)} {x : Se} {kv : Value} (h : SeOwn W B (.slice (some ⟨g, 0, none⟩) n cap) (A ++ (x, kv) :: D)) : W.cell? ⟨g, A.length * 2, none⟩ = some (.int .i64 x.low) ∧ W.cell? ⟨g, A.length * 2 + 1, none⟩ = some kv := by
  have hcell : ∀ j v, j < 2 → (seCells (x, kv))[j]? = some v → W.cell? ⟨g, A.length * 2 + j, none⟩ = some v := fun j v hj hv => by
    have := h.cells.cells (g := g) rfl (A.length * 2 + j) v ((se_mid A D x kv j hj).trans hv)
    rw [addr_addI, Nat.zero_add] at this
    exact this
  exact ⟨hcell 0 _ (by omega) rfl, hcell 1 _ (by omega) rfl⟩
theorem filt_take {p : Int → Bool} {l : List Int} {k : Nat} {x : Int} (h : l[k]? = some x) : (l.take (k + 1)).filter p = (l.take k).filter p ++ (if p x then [x] else []) := by
  have hk := (List.getElem?_eq_some_iff.1 h).1
  rw [List.take_succ_eq_append_getElem hk, List.filter_append, (List.getElem?_eq_some_iff.1 h).2]
  congr 1
  cases hp : p x <;> simp [hp]
theorem own_blk {w : World} {B n size g : Nat} {e : TypeId} {v : Value} {xs : List Value} (h : w.ownsRow B e size v n xs) (hv : v.ownBlock = some g) : ∃ cap, v = .slice (some ⟨g, 0, none⟩) n cap := by
  rcases h.2 with ⟨rfl, _⟩ | ⟨g', cap, cur, rfl, _⟩
  · simp [Value.ownBlock] at hv
  · simp [Value.ownBlock] at hv
    subst hv
    exact ⟨cap, rfl⟩
theorem own_alloc1 {w : World} {B n size : Nat} {e : TypeId} {v : Value} {xs : List Value} (h : w.ownsRow B e size v n xs) (o : Obj) : (w.alloc o).ownsRow B e size v n xs :=
  own_moved h (fun g hg => Below.heap_alloc w o g (own_lt h g hg))
theorem intVs_app (a b : List Int) : intVs (a ++ b) = intVs a ++ intVs b := by unfold intVs; simp
/-- What is answered: the copy, in the result's box. -/
theorem TkSt.fin {w W : World} {l : Lk} {p : Pa} {lov lsv : Value} {ob Bc : Nat} {k : Lk} {ov sv : Value} {rs : List (Se × Value)} (h : TkSt w W l p lov lsv ob Bc k ov sv rs) (a b c d : Value) :
    LkOwn ((((W.setCell ⟨w.heap.size + 1 + 1, 0, none⟩ a).setCell ⟨w.heap.size + 1 + 1, 1, none⟩ b).setCell ⟨w.heap.size + 1 + 1, 2, none⟩ c).setCell ⟨w.heap.size + 1 + 1, 3, none⟩ d) w.heap.size (.agg #[.int .i64 k.id, .int .i64 k.next, ov, sv]) k ov sv rs ∧
    Below w.heap.size w ((((W.setCell ⟨w.heap.size + 1 + 1, 0, none⟩ a).setCell ⟨w.heap.size + 1 + 1, 1, none⟩ b).setCell ⟨w.heap.size + 1 + 1, 2, none⟩ c).setCell ⟨w.heap.size + 1 + 1, 3, none⟩ d) := by
  have hord := h.ord
  exact ⟨own_set4 h.own (by omega) (by omega) _ _ _ _, below_set4 h.base (by omega) _ _ _ _⟩

set_option maxHeartbeats 1600000 in
theorem specLinkTake_any (v : Value) (l : Lk) (p : Pa) (S : Nat → Prop) (w : World) (h : LkAt w S v l) (hb : l.bulk ≤ 1048576) (hs : p.body.size ≤ 1048576) (hpf : inI64 p.kind ∧ inI64 p.frm ∧ inI64 p.dst ∧ inI64 p.seq ∧ inI64 p.low) :
    Calls Tryz.prog 10 #[v, .agg p.row] w fun e w' => ∃ v' ov sv rs, e = .returned (.tuple #[v', .bool (l.fresh p), .bool (l.due p)]) ∧ LkOwn w' w.heap.size v' (l.take p) ov sv rs ∧ Below w.heap.size w w' := by
  have hnot := ex_not
  obtain ⟨oa, oc, sa, sc, rfl, -, -⟩ := h.form
  obtain ⟨i0, hi, hz0, hz1, hz2⟩ := info_parts infoCdI
  obtain ⟨W0, hW0⟩ : ∃ W0, W0 = ((w.alloc (.cells (l.row (.slice oa l.out.length oc) (.slice sa l.seen.length sc)) 27)).alloc (.cells p.row 38)).alloc (.cells #[.int .i64 0, .int .i64 0, .slice none 0 0, .slice none 0 0] 27) := ⟨_, rfl⟩
  have B0 : Below w.heap.size w W0 := by rw [hW0]; exact (((Below.refl _ w).alloc (Nat.le_refl _) _).alloc (by simp) _).alloc (by simp; omega) _
  have O0 : W0.heap[w.heap.size]? = some (.cells (l.row (.slice oa l.out.length oc) (.slice sa l.seen.length sc)) 27) := by
    rw [hW0, Below.heap_alloc _ _ _ (by simp; omega), Below.heap_alloc _ _ _ (by simp)]; exact (MapKept.heap_alloc w _).1
  have O1 : W0.heap[w.heap.size + 1]? = some (.cells p.row 38) := by
    have := (MapKept.heap_alloc (w.alloc (.cells (l.row (.slice oa l.out.length oc) (.slice sa l.seen.length sc)) 27)) (.cells p.row 38)).1
    rw [hW0, Below.heap_alloc _ _ _ (by simp)]
    simpa using this
  have O2 : W0.heap[w.heap.size + 1 + 1]? = some (.cells (Lk.row ⟨0, 0, [], []⟩ (.slice none 0 0) (.slice none 0 0)) 27) := by
    have := (MapKept.heap_alloc ((w.alloc (.cells (l.row (.slice oa l.out.length oc) (.slice sa l.seen.length sc)) 27)).alloc (.cells p.row 38)) (.cells #[.int .i64 0, .int .i64 0, .slice none 0 0, .slice none 0 0] 27)).1
    rw [hW0]
    simpa using this
  have hs0 : w.heap.size + 3 ≤ W0.heap.size := lt_heap O2
  have H0 := (show Hid (_ ∧ _ ∧ _ ∧ _ ∧ _) from ⟨B0, O0, O1, O2, hW0⟩)
  have HL := (show Hid (_ ∧ True) from ⟨h, trivial⟩)
  clear B0 O0 O1 O2 hW0 h
  go_enter Tryz.func10, Tryz.ntmps10
  go_wp2_with fail
  rw [← (show W0 = _ from H0.out.2.2.2.2)]
  refine (l08Copy_any _ l S _ (HL.out.1.below H0.out.1) hb).mono ?_
  rintro e w1 ⟨v1, ov1, sv1, rs1, rfl, A1, b1⟩
  have hv1 := A1.val
  obtain ⟨oa1, oc1, hov1⟩ := own_form A1.out.1
  have hrl1 : rs1.length = l.seen.length := by rw [← A1.is]; simp
  obtain ⟨n1, sa1, sc1, hn1, hsv1⟩ := own_formN A1.seen.cells
  obtain rfl : n1 = l.seen.length := by omega
  subst hov1 hsv1 hv1
  have hs1 : W0.heap.size ≤ w1.heap.size := b1.size
  obtain ⟨W1, hW1⟩ : ∃ W1, W1 = w1.alloc (.cells (l.row (.slice oa1 l.out.length oc1) (.slice sa1 l.seen.length sc1)) 27) := ⟨_, rfl⟩
  have bW1 : Below w1.heap.size w1 W1 := by rw [hW1]; exact (Below.refl _ w1).alloc (Nat.le_refl _) _
  have M1 : W1.heap[w1.heap.size]? = some (.cells (l.row (.slice oa1 l.out.length oc1) (.slice sa1 l.seen.length sc1)) 27) := by rw [hW1]; exact (MapKept.heap_alloc w1 _).1
  have b1' : Below W0.heap.size W0 W1 := b1.trans (bW1.mono hs1)
  have st1 : TkSt w W1 l p (.slice oa l.out.length oc) (.slice sa l.seen.length sc) w1.heap.size W0.heap.size l (.slice oa1 l.out.length oc1) (.slice sa1 l.seen.length sc1) rs1 :=
    ⟨H0.out.1.trans (b1'.mono (by omega)), (b1'.block _ (lt_heap H0.out.2.1)).trans H0.out.2.1, (b1'.block _ (lt_heap H0.out.2.2.1)).trans H0.out.2.2.1, (b1'.block _ (lt_heap H0.out.2.2.2.1)).trans H0.out.2.2.2.1, A1.below bW1, fun b hb => Nat.ne_of_lt (A1.own hb).2, M1, ⟨hs0, hs1⟩⟩
  have Q0 := (b1.block _ (lt_heap H0.out.2.1)).trans H0.out.2.1
  have H1 := (show Hid (_ ∧ _) from ⟨st1, hW1⟩)
  clear st1 b1 b1' bW1 M1 hW1 A1 H0 hn1 hrl1
  obtain ⟨q0, q1, q2, q3⟩ := lbox Q0
  have hlt : w.heap.size < w1.heap.size := by omega
  have hlt1 : w.heap.size + 1 < w1.heap.size := by omega
  have hlt2 : w.heap.size + 1 + 1 < w1.heap.size := by omega
  have C1 : Hid (∀ wx : World, Below W1.heap.size W1 wx → Calls Tryz.prog 23 #[.agg #[.int .i64 l.id, .int .i64 l.next, .slice oa l.out.length oc, .slice sa l.seen.length sc]] wx fun e w' => e = .returned (.bool l.ok) ∧ Below wx.heap.size wx w') := fun wx hx => specLinkOk_any _ l S wx (HL.out.1.below (H1.out.1.base.trans (hx.mono H1.out.1.base.size))) hb
  go_wp2_with fail
  clear q0 q1 q2 q3 Q0
  rw [← (show W1 = w1.alloc (.cells #[.int .i64 l.id, .int .i64 l.next, .slice oa1 l.out.length oc1, .slice sa1 l.seen.length sc1] 27) from H1.out.2)]
  refine (C1.out _ (Below.refl _ _)).mono ?_
  rintro e w2 ⟨rfl, b2⟩
  have H2 := (show Hid (_ ∧ _) from ⟨H1.out.1.below b2, b2⟩)
  clear b2 C1 H1
  have hlt3 : w1.heap.size < w2.heap.size := lt_heap H2.out.1.obx
  cases hlo : l.ok with
  | false =>
    have HN : Hid (l.fresh p = false ∧ l.due p = false ∧ l.take p = l) := take_no (by unfold Lk.takes; rw [hlo]; rfl)
    clear hlo
    obtain ⟨c10, c11, c12, c13⟩ := lbox H2.out.1.res
    have f10 : w2.frozen? ⟨w.heap.size + 1 + 1, 0, none⟩ = false := unfrozen_of_block H2.out.1.res 0
    have f11 : w2.frozen? ⟨w.heap.size + 1 + 1, 1, none⟩ = false := unfrozen_of_block H2.out.1.res 1
    have f12 : w2.frozen? ⟨w.heap.size + 1 + 1, 2, none⟩ = false := unfrozen_of_block H2.out.1.res 2
    have f13 : w2.frozen? ⟨w.heap.size + 1 + 1, 3, none⟩ = false := unfrozen_of_block H2.out.1.res 3
    obtain ⟨p0, p1, p2, p3⟩ := lbox H2.out.1.obx
    go_wp2_with fail
    refine bodyPost_ret (v := .tuple #[.agg (l.row (.slice oa1 l.out.length oc1) (.slice sa1 l.seen.length sc1)), .bool false, .bool false]) (by simp [results, Tryz.results10, go_sem, c10, c11, c12, c13]) rfl ?_
    obtain ⟨z1, z2⟩ := H2.out.1.fin (.int .i64 l.id) (.int .i64 l.next) (.slice oa1 l.out.length oc1) (.slice sa1 l.seen.length sc1)
    rw [HN.out.1, HN.out.2.1, HN.out.2.2]
    exact ⟨_, _, _, rs1, rfl, z1, z2⟩
  | true =>
  obtain ⟨x0, x1, x2, x3, x4, x5⟩ := pbox6 H2.out.1.pbx
  obtain ⟨q0, q1, q2, q3⟩ := lbox H2.out.1.lbx
  go_wp2_with fail
  clear x0 x1 x2 x3 x4 x5 q0 q1 q2 q3
  refine (specPackOk_any p w2 hs).mono ?_
  rintro e w3 ⟨rfl, b3⟩
  have H3 := (show Hid (_ ∧ True) from ⟨H2.out.1.below b3, trivial⟩)
  clear b3 H2
  have H2 := H3
  clear H3
  have hlt4 : w1.heap.size < w3.heap.size := lt_heap H2.out.1.obx
  cases hpo : p.ok with
  | false =>
    have HN : Hid (l.fresh p = false ∧ l.due p = false ∧ l.take p = l) := take_no (by unfold Lk.takes; rw [hpo]; simp)
    clear hlo hpo
    obtain ⟨c10, c11, c12, c13⟩ := lbox H2.out.1.res
    have f10 : w3.frozen? ⟨w.heap.size + 1 + 1, 0, none⟩ = false := unfrozen_of_block H2.out.1.res 0
    have f11 : w3.frozen? ⟨w.heap.size + 1 + 1, 1, none⟩ = false := unfrozen_of_block H2.out.1.res 1
    have f12 : w3.frozen? ⟨w.heap.size + 1 + 1, 2, none⟩ = false := unfrozen_of_block H2.out.1.res 2
    have f13 : w3.frozen? ⟨w.heap.size + 1 + 1, 3, none⟩ = false := unfrozen_of_block H2.out.1.res 3
    obtain ⟨p0, p1, p2, p3⟩ := lbox H2.out.1.obx
    go_wp2_with fail
    refine bodyPost_ret (v := .tuple #[.agg (l.row (.slice oa1 l.out.length oc1) (.slice sa1 l.seen.length sc1)), .bool false, .bool false]) (by simp [results, Tryz.results10, go_sem, c10, c11, c12, c13]) rfl ?_
    obtain ⟨z1, z2⟩ := H2.out.1.fin (.int .i64 l.id) (.int .i64 l.next) (.slice oa1 l.out.length oc1) (.slice sa1 l.seen.length sc1)
    rw [HN.out.1, HN.out.2.1, HN.out.2.2]
    exact ⟨_, _, _, rs1, rfl, z1, z2⟩
  | true =>
  obtain ⟨x0, x1, x2, x3, x4, x5⟩ := pbox6 H2.out.1.pbx
  obtain ⟨q0, q1, q2, q3⟩ := lbox H2.out.1.lbx
  cases hk0 : (p.kind != 0) with
  | true =>
    have HN : Hid (l.fresh p = false ∧ l.due p = false ∧ l.take p = l) := take_no (by unfold Lk.takes; rw [show (p.kind == 0) = false by simpa [bne] using hk0]; simp)
    clear hlo hpo
    obtain ⟨c10, c11, c12, c13⟩ := lbox H2.out.1.res
    have f10 : w3.frozen? ⟨w.heap.size + 1 + 1, 0, none⟩ = false := unfrozen_of_block H2.out.1.res 0
    have f11 : w3.frozen? ⟨w.heap.size + 1 + 1, 1, none⟩ = false := unfrozen_of_block H2.out.1.res 1
    have f12 : w3.frozen? ⟨w.heap.size + 1 + 1, 2, none⟩ = false := unfrozen_of_block H2.out.1.res 2
    have f13 : w3.frozen? ⟨w.heap.size + 1 + 1, 3, none⟩ = false := unfrozen_of_block H2.out.1.res 3
    obtain ⟨p0, p1, p2, p3⟩ := lbox H2.out.1.obx
    go_wp2_with fail
    refine bodyPost_ret (v := .tuple #[.agg (l.row (.slice oa1 l.out.length oc1) (.slice sa1 l.seen.length sc1)), .bool false, .bool false]) (by simp [results, Tryz.results10, go_sem, c10, c11, c12, c13]) rfl ?_
    obtain ⟨z1, z2⟩ := H2.out.1.fin (.int .i64 l.id) (.int .i64 l.next) (.slice oa1 l.out.length oc1) (.slice sa1 l.seen.length sc1)
    rw [HN.out.1, HN.out.2.1, HN.out.2.2]
    exact ⟨_, _, _, rs1, rfl, z1, z2⟩
  | false =>
  cases hd0 : (p.dst != l.id) with
  | true =>
    have HN : Hid (l.fresh p = false ∧ l.due p = false ∧ l.take p = l) := take_no (by unfold Lk.takes; rw [show (p.dst == l.id) = false by simpa [bne] using hd0]; simp)
    clear hlo hpo
    obtain ⟨c10, c11, c12, c13⟩ := lbox H2.out.1.res
    have f10 : w3.frozen? ⟨w.heap.size + 1 + 1, 0, none⟩ = false := unfrozen_of_block H2.out.1.res 0
    have f11 : w3.frozen? ⟨w.heap.size + 1 + 1, 1, none⟩ = false := unfrozen_of_block H2.out.1.res 1
    have f12 : w3.frozen? ⟨w.heap.size + 1 + 1, 2, none⟩ = false := unfrozen_of_block H2.out.1.res 2
    have f13 : w3.frozen? ⟨w.heap.size + 1 + 1, 3, none⟩ = false := unfrozen_of_block H2.out.1.res 3
    obtain ⟨p0, p1, p2, p3⟩ := lbox H2.out.1.obx
    go_wp2_with fail
    refine bodyPost_ret (v := .tuple #[.agg (l.row (.slice oa1 l.out.length oc1) (.slice sa1 l.seen.length sc1)), .bool false, .bool false]) (by simp [results, Tryz.results10, go_sem, c10, c11, c12, c13]) rfl ?_
    obtain ⟨z1, z2⟩ := H2.out.1.fin (.int .i64 l.id) (.int .i64 l.next) (.slice oa1 l.out.length oc1) (.slice sa1 l.seen.length sc1)
    rw [HN.out.1, HN.out.2.1, HN.out.2.2]
    exact ⟨_, _, _, rs1, rfl, z1, z2⟩
  | false =>
  by_cases hfl : p.frm < l.seen.length
  case neg =>
    have HN : Hid (l.fresh p = false ∧ l.due p = false ∧ l.take p = l) := take_no (by unfold Lk.takes; simp [hfl])
    clear hlo hpo
    obtain ⟨c10, c11, c12, c13⟩ := lbox H2.out.1.res
    have f10 : w3.frozen? ⟨w.heap.size + 1 + 1, 0, none⟩ = false := unfrozen_of_block H2.out.1.res 0
    have f11 : w3.frozen? ⟨w.heap.size + 1 + 1, 1, none⟩ = false := unfrozen_of_block H2.out.1.res 1
    have f12 : w3.frozen? ⟨w.heap.size + 1 + 1, 2, none⟩ = false := unfrozen_of_block H2.out.1.res 2
    have f13 : w3.frozen? ⟨w.heap.size + 1 + 1, 3, none⟩ = false := unfrozen_of_block H2.out.1.res 3
    obtain ⟨p0, p1, p2, p3⟩ := lbox H2.out.1.obx
    go_wp2_with fail
    refine bodyPost_ret (v := .tuple #[.agg (l.row (.slice oa1 l.out.length oc1) (.slice sa1 l.seen.length sc1)), .bool false, .bool false]) (by simp [results, Tryz.results10, go_sem, c10, c11, c12, c13]) rfl ?_
    obtain ⟨z1, z2⟩ := H2.out.1.fin (.int .i64 l.id) (.int .i64 l.next) (.slice oa1 l.out.length oc1) (.slice sa1 l.seen.length sc1)
    rw [HN.out.1, HN.out.2.1, HN.out.2.2]
    exact ⟨_, _, _, rs1, rfl, z1, z2⟩
  have HT : Hid (l.takes p = true) := by show _ = _; unfold Lk.takes; rw [hlo, hpo, show (p.kind == 0) = true by simpa [bne] using hk0, show (p.dst == l.id) = true by simpa [bne] using hd0]; simp [hfl]
  obtain ⟨f, hf⟩ : ∃ f : Nat, p.frm = f := ⟨p.frm.toNat, by
    have h1 := hpo
    unfold Pa.ok apartB nodeOk inB at h1
    simp only [Bool.and_eq_true, decide_eq_true_eq] at h1
    omega⟩
  have hfs : f < l.seen.length := by omega
  have he := List.getElem?_eq_getElem hfs
  obtain ⟨x, hx⟩ : ∃ x, x = l.seen[f] := ⟨_, rfl⟩
  rw [← hx] at he
  have HS : Hid (l.seenOf p = x.lift p.low ∧ p.frm.toNat = f) := by
    have h1 : p.frm.toNat = f := by rw [hf]; rfl
    refine ⟨?_, h1⟩
    unfold Lk.seenOf
    rw [h1, List.getD, he]
    rfl
  have hxo : x.ids.length ≤ 60 := by
    have h1 := List.all_eq_true.1 (Lk.parts hlo).2.2.2.2.2 x (List.mem_of_getElem? he)
    unfold Se.ok at h1
    simp only [Bool.and_eq_true, decide_eq_true_eq] at h1
    omega
  obtain ⟨A, D, kv, hrs, hA⟩ := rs_split H2.out.1.own.is he
  subst hrs
  obtain ⟨g, hg⟩ : ∃ g, sa1 = some ⟨g, 0, none⟩ := by
    have h1 := H2.out.1.own.seen.cells
    obtain ⟨g, cap, h2⟩ := own_some h1 (by simp; omega)
    simp only [Value.slice.injEq] at h2
    exact ⟨g, h2.1⟩
  subst hg
  obtain ⟨e0, e1⟩ := H2.out.1.own.seen.cellAt
  rw [hA] at e0 e1
  have hkid := H2.out.1.own.seen.kids (x, kv) (by simp)
  obtain ⟨ka, kc, hkv⟩ := own_form hkid.1
  have hkv' : kv = .slice ka x.ids.length kc := hkv
  subst hkv'
  have hLk : Hid (∀ b, LkBlk (.slice oa1 l.out.length oc1) (.slice (some ⟨g, 0, none⟩) l.seen.length sc1) (A ++ (x, .slice ka x.ids.length kc) :: D) b → b < w3.heap.size) := fun b hb => (H2.out.1.own.own hb).2
  have hxi : inI64 x.low := hkid.2.1
  have HK := (show Hid (_ ∧ _) from ⟨own_ints hkid.1 hkid.2.2, hkid.2⟩)
  rw [hf] at x1
  obtain ⟨p0, p1, p2, p3⟩ := lbox H2.out.1.obx
  have hff : ((f : Nat) : Int) < ((l.seen.length : Nat) : Int) := by omega
  have hf0 : ¬ ((f : Nat) : Int) < 0 := by omega
  have hgl : g < w3.heap.size := hLk.out g (.inr (.inl rfl))
  rw [hf] at hfl
  have H4 := (show Hid (_ ∧ _ ∧ _ ∧ _) from ⟨H2.out.1, hA, hlo, hpo⟩)
  have hpl : inI64 p.low := hpf.2.2.2.2
  have hpq : inI64 p.seq := hpf.2.2.2.1
  have hsl31 : l.seen.length ≤ 31 := by
    have h1 := (Lk.parts hlo).1
    unfold amongB at h1
    simp only [Bool.and_eq_true, decide_eq_true_eq] at h1
    omega
  clear H2 hkid hkv he hx hlo hpo hA
  have hlt31 : w.heap.size + 1 < w3.heap.size := by omega
  go_upto_if 53 with fail
  go_cut [] from 12 (fun wc => Hid (TkSt w wc l p (.slice oa l.out.length oc) (.slice sa l.seen.length sc) w1.heap.size W0.heap.size l (.slice oa1 l.out.length oc1) (.slice (some ⟨g, 0, none⟩) l.seen.length sc1) (A ++ (x, .slice ka x.ids.length kc) :: D) ∧ wc.heap[w3.heap.size]? = some (.cells #[.int .i64 (upTo x.low p.low), .slice ka x.ids.length kc] 76) ∧ Below w3.heap.size w3 wc))
  case first =>
    have HA : Hid (∀ lo : Int, TkSt w (w3.alloc (.cells #[.int .i64 lo, .slice ka x.ids.length kc] 76)) l p (.slice oa l.out.length oc) (.slice sa l.seen.length sc) w1.heap.size W0.heap.size l (.slice oa1 l.out.length oc1) (.slice (some ⟨g, 0, none⟩) l.seen.length sc1) (A ++ (x, .slice ka x.ids.length kc) :: D) ∧ (w3.alloc (.cells #[.int .i64 lo, .slice ka x.ids.length kc] 76)).heap[w3.heap.size]? = some (.cells #[.int .i64 lo, .slice ka x.ids.length kc] 76) ∧ Below w3.heap.size w3 (w3.alloc (.cells #[.int .i64 lo, .slice ka x.ids.length kc] 76))) := fun lo => ⟨H4.out.1.below ((Below.refl w3.heap.size w3).alloc (Nat.le_refl _) _), (MapKept.heap_alloc w3 _).1, (Below.refl w3.heap.size w3).alloc (Nat.le_refl _) _⟩
    by_cases hlp : x.low < p.low
    · go_wp2_with fail
      go_meet
      have hU : upTo x.low p.low = p.low := by unfold upTo; rw [if_pos hlp]
      rw [hU]
      exact HA.out p.low
    · go_wp2_with fail
      go_meet
      have hU : upTo x.low p.low = x.low := by unfold upTo; rw [if_neg (by omega)]
      rw [hU]
      exact HA.out x.low
  case rest =>
  have hUi : inI64 (upTo x.low p.low) := by unfold upTo; split <;> assumption
  have HU := (show Hid (upTo x.low p.low = upTo x.low p.low) from rfl)
  have hlift : Hid (x.lift p.low = ⟨upTo x.low p.low, x.ids.filter (fun z => decide (upTo x.low p.low ≤ z))⟩) := rfl
  generalize upTo x.low p.low = lo at *
  have hs3c : w3.heap.size < wc.heap.size := lt_heap hcut.out.2.1
  clear p0 p1 p2 p3 x0 x1 x2 x3 x4 x5 q0 q1 q2 q3 e0 e1 HU
  go_wp2
  go_loopw [9, 10] (fun iv i wr => ∃ (k ig ic : Nat), k ≤ x.ids.length ∧ i = .int .i64 k ∧ iv = .slice (some ⟨ig, 0, none⟩) ((x.ids.take k).filter (fun z => decide (lo ≤ z))).length ic ∧ wr.ownsRow wc.heap.size 3 1 iv ((x.ids.take k).filter (fun z => decide (lo ≤ z))).length (intVs ((x.ids.take k).filter (fun z => decide (lo ≤ z)))) ∧ Below wc.heap.size wc wr) (fun _ i _ => x.ids.length - (intOf i).toNat)
  case atStart => exact ⟨0, wc.heap.size, 0, Nat.zero_le _, rfl, rfl, irow_empty wc wc.heap.size (Nat.le_refl _), (Below.refl _ wc).alloc (Nat.le_refl _) _⟩
  case round =>
    obtain ⟨k, ig, ic, hk, rfl, rfl, hrow, hbw⟩ := hrel
    have hsz : wc.heap.size ≤ wr.heap.size := hbw.size
    have hfl60 : ((x.ids.take k).filter (fun z => decide (lo ≤ z))).length ≤ 60 := Nat.le_trans (List.length_filter_le _ _) (by rw [List.length_take]; omega)
    have hsb := (hbw.block _ hs3c).trans hcut.out.2.1
    have u0 : wr.cell? ⟨w3.heap.size, 0, none⟩ = some (.int .i64 lo) := (cell_of_block hsb 0).trans rfl
    have u1 : wr.cell? ⟨w3.heap.size, 1, none⟩ = some (.slice ka x.ids.length kc) := (cell_of_block hsb 1).trans rfl
    by_cases hkl : k < x.ids.length
    · have he := List.getElem?_eq_getElem hkl
      have hlt' : ((k : Nat) : Int) < ((x.ids.length : Nat) : Int) := by omega
      have hft := filt_take (p := fun z => decide (lo ≤ z)) he
      obtain ⟨z, hz⟩ : ∃ z, z = x.ids[k] := ⟨_, rfl⟩
      rw [← hz] at he hft
      obtain ⟨b, off, hka, hcz⟩ : ∃ b off, ka = some ⟨b, off, none⟩ ∧ ∀ wx : World, Below wc.heap.size wc wx → wx.cell? ⟨b, off + k, none⟩ = some (.int .i64 z) := by
        obtain ⟨a', cap', hv', -, hc'⟩ := HK.out.1
        cases hv'
        obtain ⟨b, off, h1, _, h3, h4, _⟩ := hc' k z he
        refine ⟨b, off, h1, fun wx hwx => ?_⟩
        rw [hwx.cell (by show b < wc.heap.size; omega), hcut.out.2.2.cell (by exact h3)]
        exact h4
      subst hka
      have HZ := (show Hid (_ ∧ _ ∧ _ ∧ _) from ⟨hcz, hft, hrow, hbw⟩)
      have u2 := hcz wr hbw
      have KS := (show Hid (wr.cell? ⟨w3.heap.size, 0, none⟩ = some (.int .i64 lo) ∧ wr.cell? ⟨w3.heap.size, 1, none⟩ = some (.slice (some ⟨b, off, none⟩) x.ids.length kc) ∧ wr.cell? ⟨b, off + k, none⟩ = some (.int .i64 z)) from ⟨u0, u1, u2⟩)
      clear hcz hft hrow hbw he hz hsb
      obtain ⟨nk, hnk⟩ : ∃ nk, nk = ((x.ids.take k).filter (fun z => decide (lo ≤ z))).length := ⟨_, rfl⟩
      rw [← hnk] at HZ hfl60 ⊢
      have HN : Hid (nk = ((x.ids.take k).filter (fun z => decide (lo ≤ z))).length) := hnk
      clear hnk
      go_wp2_with fail
      refine wp_region_held_drew (S := fun w' => w'.cell? ⟨w3.heap.size, 0, none⟩ = some (.int .i64 lo) ∧ w'.cell? ⟨w3.heap.size, 1, none⟩ = some (.slice (some ⟨b, off, none⟩) x.ids.length kc) ∧ w'.cell? ⟨b, off + k, none⟩ = some (.int .i64 z)) (by kernel_rfl) KS.out (fun hS => ?_)

      refine wpAnyH_take (i := 0) (v := .pointer (some ⟨w3.heap.size, 1, none⟩)) rfl (by kernel_rfl) (by kernel_rfl) (by kernel_rfl) (fun _ _ _ h => h) (Or.inl ⟨by rfl, ?_⟩) hS ?_
      · intro wq hSw
        go_simp
      simp only [Act.put, List.getElem_toArray, List.getElem_cons_zero, List.setIfInBounds_toArray, List.set_cons_zero, List.set_cons_succ]
      refine wpAnyH_take (i := 1) (v := .slice (some ⟨b, off, none⟩) x.ids.length kc) rfl (by kernel_rfl) (by kernel_rfl) (by kernel_rfl) (fun _ _ _ h => h) (Or.inl ⟨by rfl, ?_⟩) hS ?_
      · intro wq hSw
        obtain ⟨q0, q1, q2⟩ := hSw
        go_simp
      simp only [Act.put, List.getElem_toArray, List.getElem_cons_zero, List.getElem_cons_succ, List.setIfInBounds_toArray, List.set_cons_zero, List.set_cons_succ]
      refine wpAnyH_take (i := 2) (v := .int .i64 k) rfl (by kernel_rfl) (by kernel_rfl) (by kernel_rfl) (fun _ _ _ h => h) (Or.inl ⟨by rfl, ?_⟩) hS ?_
      · intro wq hSw
        go_simp
      simp only [Act.put, List.getElem_toArray, List.getElem_cons_zero, List.getElem_cons_succ, List.setIfInBounds_toArray, List.set_cons_zero, List.set_cons_succ]
      refine wpAnyH_take (i := 3) (v := .pointer (some ⟨b, off + k, none⟩)) rfl (by kernel_rfl) (by kernel_rfl) (by kernel_rfl) (fun _ _ _ h => h) (Or.inl ⟨by rfl, ?_⟩) hS ?_
      · intro wq hSw
        go_simp
      simp only [Act.put, List.getElem_toArray, List.getElem_cons_zero, List.getElem_cons_succ, List.setIfInBounds_toArray, List.set_cons_zero, List.set_cons_succ]
      refine wpAnyH_take (i := 4) (v := .int .i64 z) rfl (by kernel_rfl) (by kernel_rfl) (by kernel_rfl) (fun _ _ _ h => h) (Or.inl ⟨by rfl, ?_⟩) hS ?_
      · intro wq hSw
        obtain ⟨q0, q1, q2⟩ := hSw
        go_simp
      simp only [Act.put, List.getElem_toArray, List.getElem_cons_zero, List.getElem_cons_succ, List.setIfInBounds_toArray, List.set_cons_zero, List.set_cons_succ]
      refine wpAnyH_take (i := 5) (v := .pointer (some ⟨w3.heap.size, 0, none⟩)) rfl (by kernel_rfl) (by kernel_rfl) (by kernel_rfl) (fun _ _ _ h => h) (Or.inl ⟨by rfl, ?_⟩) hS ?_
      · intro wq hSw
        go_simp
      simp only [Act.put, List.getElem_toArray, List.getElem_cons_zero, List.getElem_cons_succ, List.setIfInBounds_toArray, List.set_cons_zero, List.set_cons_succ]
      refine wpAnyH_take (i := 6) (v := .int .i64 lo) rfl (by kernel_rfl) (by kernel_rfl) (by kernel_rfl) (fun _ _ _ h => h) (Or.inl ⟨by rfl, ?_⟩) hS ?_
      · intro wq hSw
        obtain ⟨q0, q1, q2⟩ := hSw
        go_simp
      simp only [Act.put, List.getElem_toArray, List.getElem_cons_zero, List.getElem_cons_succ, List.setIfInBounds_toArray, List.set_cons_zero, List.set_cons_succ]
      refine wpAnyH_take (i := 7) (v := .bool (decide (lo ≤ z))) rfl (by kernel_rfl) (by kernel_rfl) (by kernel_rfl) (fun _ _ _ h => h) (Or.inl ⟨by rfl, ?_⟩) hS ?_
      · intro wq hSw
        go_simp
      simp only [Act.put, List.getElem_toArray, List.getElem_cons_zero, List.getElem_cons_succ, List.setIfInBounds_toArray, List.set_cons_zero, List.set_cons_succ]
      refine wpAnyH_done (by kernel_rfl) ?_ _
      have bD : Below wc.heap.size wc wr.drew := HZ.out.2.2.2.drew
      cases hlz : decide (lo ≤ z) with
      | false =>
        have hft := HZ.out.2.1
        rw [hlz] at hft
        simp only [Bool.false_eq_true, if_false, List.append_nil] at hft
        have HF := (show Hid (_ ∧ _ ∧ _) from ⟨hft, own_moved HZ.out.2.2.1 (fun q hq => (rfl : wr.drew.heap[q]? = wr.heap[q]?)), bD⟩)
        clear hft bD hS hlz
        go_wp2
        refine ⟨⟨k + 1, ig, ic, by omega, by go_num, ?_, ?_, HF.out.2.2⟩, by simp [intOf]; omega⟩
        · rw [HF.out.1, ← HN.out]
        · rw [HF.out.1, ← HN.out]; exact HF.out.2.1
      | true =>
        have hft := HZ.out.2.1
        rw [hlz] at hft
        simp only [if_true] at hft
        have hrD : wr.drew.ownsRow wc.heap.size 3 1 (.slice (some ⟨ig, 0, none⟩) nk ic) nk (intVs ((x.ids.take k).filter (fun z => decide (lo ≤ z)))) := own_moved HZ.out.2.2.1 (fun q hq => (rfl : wr.drew.heap[q]? = wr.heap[q]?))
        have HF := (show Hid (_ ∧ _ ∧ _) from ⟨hft, own_alloc1 hrD (.cells #[.int .i64 z] 3), bD.alloc bD.size (.cells #[.int .i64 z] 3)⟩)
        clear hft bD hS hlz hrD
        go_wp2_with (at_builtin; refine wpList_append_own_at _ rfl _ _ 28 rfl wc.heap.size 3 i0 (.int .i64 0) 1 8 Tryz.underlying28 hi hz0 hz1 hz2 rfl (by decide) _ nk _ rfl HF.out.2.1 ⟨wr.heap.size, 0, none⟩ 1 1 [.int .i64 z] rfl rfl (cell_one_new _ _ _) (int_one z) (by unfold maxLen; omega) (by omega) (by simp; omega) ?_; intro v5 w5 hown5 hgrow5 hnil5 hat5; obtain ⟨n5, va, vc, hn5, rfl⟩ := own_formN hown5; have H5 := (show Hid (_ ∧ _ ∧ _ ∧ _) from ⟨hown5, hgrow5, hat5, hn5⟩); clear hown5 hgrow5 hnil5 hat5 hn5)
        obtain rfl : n5 = nk + 1 := H5.out.2.2.2
        obtain ⟨jg, hjg⟩ : ∃ jg, (Value.slice va (nk + 1) vc).ownBlock = some jg := by
          rcases H5.out.2.2.1 with h1 | h1
          · exact ⟨ig, h1⟩
          · exact ⟨_, h1⟩
        obtain ⟨jc, hjc⟩ := own_blk H5.out.1 hjg
        have hlen1 : ((x.ids.take (k + 1)).filter (fun z => decide (lo ≤ z))).length = nk + 1 := by rw [HF.out.1, List.length_append, ← HN.out]; rfl
        refine ⟨⟨k + 1, jg, jc, by omega, by go_num, ?_, ?_, ?_⟩, by simp [intOf]; omega⟩
        · rw [hlen1]; exact hjc
        · rw [hlen1, HF.out.1, intVs_app]; exact H5.out.1
        · exact Below.grown HF.out.2.2 H5.out.2.1 (hB := HF.out.2.2.size) (hr := fun b hb => (own_type HF.out.2.1 b hb).1)
    · obtain rfl : k = x.ids.length := by omega
      rw [List.take_length] at hrow hfl60 ⊢
      obtain ⟨y, hy⟩ : ∃ y : Se, y = x.lift p.low := ⟨_, rfl⟩
      have hyl : y.low = lo := by rw [hy, hlift.out]
      have hyi : y.ids = x.ids.filter (fun z => decide (lo ≤ z)) := by rw [hy, hlift.out]
      rw [← hyi] at hrow hfl60 ⊢
      rw [← hyl] at u0
      have hyok : SeOk y := ⟨by rw [hyl]; exact hUi, fun z hz => HK.out.2.2 z (by rw [hyi] at hz; exact (List.mem_filter.1 hz).1)⟩
      have stR := hcut.out.1.below hbw
      obtain ⟨t0, t1, t2, t3⟩ := lbox stR.obx
      obtain ⟨x0, x1, x2, x3, x4, x5⟩ := pbox6 stR.pbx
      rw [hf] at x1
      have hA := H4.out.2.1
      obtain ⟨e0, e1⟩ := stR.own.seen.cellAt
      rw [hA] at e0 e1
      have hgw : g < wr.heap.size := by omega
      have gb := (own_type stR.own.seen.cells g rfl).2
      obtain ⟨gcs, hgcs⟩ := gb
      have fg0 : wr.frozen? ⟨g, f * 2, none⟩ = false := unfrozen_of_block hgcs _
      have fg1 : wr.frozen? ⟨g, f * 2 + 1, none⟩ = false := unfrozen_of_block hgcs _
      have fs1 : wr.frozen? ⟨w3.heap.size, 1, none⟩ = false := unfrozen_of_block hsb 1
      have hgs : ¬ w3.heap.size = g := by omega
      have hgs' : ¬ g = w3.heap.size := by omega
      have HR := (show Hid (_ ∧ _ ∧ _ ∧ _ ∧ _) from ⟨stR, hrow, hsb, hyok, hbw⟩)
      have HY := (show Hid (_ ∧ _) from ⟨hy, hyl⟩)
      clear stR hrow hsb hbw hyok hy hyi hgcs hA
      go_upto_region 15 with fail
      have hig : wc.heap.size ≤ ig := (own_type HR.out.2.1 ig rfl).1
      have stX : TkSt w (wr.setCell ⟨w3.heap.size, 1, none⟩ (.slice (some ⟨ig, 0, none⟩) y.ids.length ic)) l p (.slice oa l.out.length oc) (.slice sa l.seen.length sc) w1.heap.size W0.heap.size l (.slice oa1 l.out.length oc1) (.slice (some ⟨g, 0, none⟩) l.seen.length sc1) (A ++ (x, .slice ka x.ids.length kc) :: D) :=
        HR.out.1.kept (KB.setCell (X := fun b => b = w3.heap.size) (KB.refl _ wr) rfl _) (fun b hb => ⟨by omega, fun hl => by have := hLk.out b hl; omega⟩)
      have rwX : (wr.setCell ⟨w3.heap.size, 1, none⟩ (.slice (some ⟨ig, 0, none⟩) y.ids.length ic)).ownsRow wc.heap.size 3 1 (.slice (some ⟨ig, 0, none⟩) y.ids.length ic) y.ids.length (intVs y.ids) :=
        own_moved HR.out.2.1 (fun b hb => Below.heap_setCell _ _ _ _ (by have h1 : ig = b := Option.some.inj hb; show b ≠ w3.heap.size; omega))
      have hB0 : W0.heap.size ≤ wc.heap.size := by have := HR.out.1.ord; omega
      have st5 := stX.put (f := f) (x := y) (kv := (.slice (some ⟨ig, 0, none⟩) y.ids.length ic)) rfl H4.out.2.1 (own_mono rwX hB0) HR.out.2.2.2.1 (fun b hl e => by have h1 : ig = b := Option.some.inj e; have := hLk.out b hl; omega) (fun e => by have h1 : ig = w1.heap.size := Option.some.inj e; omega)
      have keep5 : ∀ b, b ≠ g → (((wr.setCell ⟨w3.heap.size, 1, none⟩ (.slice (some ⟨ig, 0, none⟩) y.ids.length ic)).setCell ⟨g, f * 2, none⟩ (.int .i64 lo)).setCell ⟨g, f * 2 + 1, none⟩ (.slice (some ⟨ig, 0, none⟩) y.ids.length ic)).heap[b]? = (wr.setCell ⟨w3.heap.size, 1, none⟩ (.slice (some ⟨ig, 0, none⟩) y.ids.length ic)).heap[b]? := fun b hb => by
        rw [Below.heap_setCell _ _ _ b (by simpa using hb), Below.heap_setCell _ _ _ b (by simpa using hb)]
      have sb5 : (((wr.setCell ⟨w3.heap.size, 1, none⟩ (.slice (some ⟨ig, 0, none⟩) y.ids.length ic)).setCell ⟨g, f * 2, none⟩ (.int .i64 lo)).setCell ⟨g, f * 2 + 1, none⟩ (.slice (some ⟨ig, 0, none⟩) y.ids.length ic)).heap[w3.heap.size]? = some (.cells #[.int .i64 lo, (.slice (some ⟨ig, 0, none⟩) y.ids.length ic)] 76) := (keep5 _ hgs).trans (block_setCell (i := 1) HR.out.2.2.1 _)
      have rw5 : (((wr.setCell ⟨w3.heap.size, 1, none⟩ (.slice (some ⟨ig, 0, none⟩) y.ids.length ic)).setCell ⟨g, f * 2, none⟩ (.int .i64 lo)).setCell ⟨g, f * 2 + 1, none⟩ (.slice (some ⟨ig, 0, none⟩) y.ids.length ic)).ownsRow wc.heap.size 3 1 (.slice (some ⟨ig, 0, none⟩) y.ids.length ic) y.ids.length (intVs y.ids) :=
        own_moved rwX (fun b hb => keep5 b (by have h1 : ig = b := Option.some.inj hb; omega))
      rw [hyl] at st5
      have H5 := (show Hid (_ ∧ _ ∧ _ ∧ _) from ⟨st5, sb5, rw5, HR.out.2.2.2.1⟩)
      clear st5 sb5 rw5 keep5 stX rwX t0 t1 t2 t3 x0 x1 x2 x3 x4 x5 e0 e1 fg0 fg1 fs1 u0 u1 HR hgw hgs hgs'
      generalize ((wr.setCell ⟨w3.heap.size, 1, none⟩ (.slice (some ⟨ig, 0, none⟩) y.ids.length ic)).setCell ⟨g, f * 2, none⟩ (.int .i64 lo)).setCell ⟨g, f * 2 + 1, none⟩ (.slice (some ⟨ig, 0, none⟩) y.ids.length ic) = W5 at *
      have HSY : Hid (l.seenOf p = y ∧ p.frm.toNat = f) := ⟨by rw [HS.out.1, HY.out.1], HS.out.2⟩
      have hlt5 : w3.heap.size < W5.heap.size := lt_heap H5.out.2.1
      have hyl' : Hid (y.low = lo) := hyl
      clear hyl HY HS hlift
      obtain ⟨x0, x1, x2, x3, x4, x5⟩ := pbox6 H5.out.1.pbx
      have u0 : W5.cell? ⟨w3.heap.size, 0, none⟩ = some (.int .i64 lo) := (cell_of_block H5.out.2.1 0).trans rfl
      by_cases hql : p.seq < lo
      · have HN : Hid (l.fresh p = false ∧ l.due p = true ∧ l.take p = l.setSe f y) := take_has HT.out HSY.out.1 HSY.out.2 (by unfold Se.has; rw [hyl'.out]; simp [hql])
        obtain ⟨c10, c11, c12, c13⟩ := lbox H5.out.1.res
        have f10 : W5.frozen? ⟨w.heap.size + 1 + 1, 0, none⟩ = false := unfrozen_of_block H5.out.1.res 0
        have f11 : W5.frozen? ⟨w.heap.size + 1 + 1, 1, none⟩ = false := unfrozen_of_block H5.out.1.res 1
        have f12 : W5.frozen? ⟨w.heap.size + 1 + 1, 2, none⟩ = false := unfrozen_of_block H5.out.1.res 2
        have f13 : W5.frozen? ⟨w.heap.size + 1 + 1, 3, none⟩ = false := unfrozen_of_block H5.out.1.res 3
        obtain ⟨t0, t1, t2, t3⟩ := lbox H5.out.1.obx
        go_wp2_with fail
        refine bodyPost_ret (v := .tuple #[.agg ((l.setSe f y).row (.slice oa1 l.out.length oc1) (.slice (some ⟨g, 0, none⟩) l.seen.length sc1)), .bool false, .bool true]) (by simp [results, Tryz.results10, go_sem, c10, c11, c12, c13]) rfl ?_
        obtain ⟨z1, z2⟩ := H5.out.1.fin (.int .i64 l.id) (.int .i64 l.next) (.slice oa1 l.out.length oc1) (.slice (some ⟨g, 0, none⟩) l.seen.length sc1)
        rw [HN.out.1, HN.out.2.1, HN.out.2.2]
        first | exact ⟨_, _, _, _, rfl, z1, z2⟩ | exact ⟨_, rfl, ⟨_, _, _, z1⟩, z2⟩
      have hql' : decide (p.seq < lo) = false := by simp [hql]
      go_wp2_with fail
      refine (l08Has_any y.ids p.seq _ _ W5 (own_ints H5.out.2.2.1 H5.out.2.2.2.2)).mono ?_
      rintro e w6 ⟨rfl, hw6⟩
      rw [hw6]
      clear hw6 w6
      cases hct : y.ids.contains p.seq with
      | true =>
        have HN : Hid (l.fresh p = false ∧ l.due p = true ∧ l.take p = l.setSe f y) := take_has HT.out HSY.out.1 HSY.out.2 (by unfold Se.has; rw [hct]; simp)
        clear hct
        obtain ⟨c10, c11, c12, c13⟩ := lbox H5.out.1.res
        have f10 : W5.frozen? ⟨w.heap.size + 1 + 1, 0, none⟩ = false := unfrozen_of_block H5.out.1.res 0
        have f11 : W5.frozen? ⟨w.heap.size + 1 + 1, 1, none⟩ = false := unfrozen_of_block H5.out.1.res 1
        have f12 : W5.frozen? ⟨w.heap.size + 1 + 1, 2, none⟩ = false := unfrozen_of_block H5.out.1.res 2
        have f13 : W5.frozen? ⟨w.heap.size + 1 + 1, 3, none⟩ = false := unfrozen_of_block H5.out.1.res 3
        obtain ⟨t0, t1, t2, t3⟩ := lbox H5.out.1.obx
        go_wp2_with fail
        refine bodyPost_ret (v := .tuple #[.agg ((l.setSe f y).row (.slice oa1 l.out.length oc1) (.slice (some ⟨g, 0, none⟩) l.seen.length sc1)), .bool false, .bool true]) (by simp [results, Tryz.results10, go_sem, c10, c11, c12, c13]) rfl ?_
        obtain ⟨z1, z2⟩ := H5.out.1.fin (.int .i64 l.id) (.int .i64 l.next) (.slice oa1 l.out.length oc1) (.slice (some ⟨g, 0, none⟩) l.seen.length sc1)
        rw [HN.out.1, HN.out.2.1, HN.out.2.2]
        exact ⟨_, _, _, _, rfl, z1, z2⟩
      | false =>
      have hhas : Hid (y.has p.seq = false) := by show _ = _; unfold Se.has; rw [hct, hyl'.out, hql']; rfl
      clear hct
      by_cases h60 : 60 ≤ y.ids.length
      · have HN : Hid (l.fresh p = false ∧ l.due p = false ∧ l.take p = l.setSe f y) := take_full HT.out HSY.out.1 HSY.out.2 hhas.out h60
        have h60' : (60 : Int) ≤ (y.ids.length : Int) := by omega
        obtain ⟨c10, c11, c12, c13⟩ := lbox H5.out.1.res
        have f10 : W5.frozen? ⟨w.heap.size + 1 + 1, 0, none⟩ = false := unfrozen_of_block H5.out.1.res 0
        have f11 : W5.frozen? ⟨w.heap.size + 1 + 1, 1, none⟩ = false := unfrozen_of_block H5.out.1.res 1
        have f12 : W5.frozen? ⟨w.heap.size + 1 + 1, 2, none⟩ = false := unfrozen_of_block H5.out.1.res 2
        have f13 : W5.frozen? ⟨w.heap.size + 1 + 1, 3, none⟩ = false := unfrozen_of_block H5.out.1.res 3
        obtain ⟨t0, t1, t2, t3⟩ := lbox H5.out.1.obx
        go_wp2_with fail
        refine bodyPost_ret (v := .tuple #[.agg ((l.setSe f y).row (.slice oa1 l.out.length oc1) (.slice (some ⟨g, 0, none⟩) l.seen.length sc1)), .bool false, .bool false]) (by simp [results, Tryz.results10, go_sem, c10, c11, c12, c13]) rfl ?_
        obtain ⟨z1, z2⟩ := H5.out.1.fin (.int .i64 l.id) (.int .i64 l.next) (.slice oa1 l.out.length oc1) (.slice (some ⟨g, 0, none⟩) l.seen.length sc1)
        rw [HN.out.1, HN.out.2.1, HN.out.2.2]
        exact ⟨_, _, _, _, rfl, z1, z2⟩
      have h60' : ¬ (60 : Int) ≤ (y.ids.length : Int) := by omega
      have hnle : y.ids.length ≤ 60 := by omega
      have KP : Hid (∀ wx : World, Below W5.heap.size W5 wx → wx.cell? ⟨w.heap.size + 1, 3, none⟩ = some (.int .i64 p.seq)) := fun wx hx => by rw [hx.cell (by exact lt_heap H5.out.1.pbx)]; exact x3
      clear x0 x1 x2 x3 x4 x5 u0
      go_upto_block 2 with fail
      go_cut [11] from 12 (fun iv wc => iv = .int .i64 (placeL y.ids p.seq) ∧ Hid (Below W5.heap.size W5 wc))
      case first =>
        go_wp2
        go_loopw [11] (fun iv wr => ∃ j : Nat, j ≤ y.ids.length ∧ iv = .int .i64 j ∧ (∀ i z, i < j → y.ids[i]? = some z → z < p.seq) ∧ Below W5.heap.size W5 wr) (fun i _ => y.ids.length - (intOf i).toNat)
        case atStart => exact ⟨0, Nat.zero_le _, rfl, fun i z hi => absurd hi (Nat.not_lt_zero _), Below.refl _ _⟩
        case round =>
          obtain ⟨j, hj, rfl, hlow, hbj⟩ := hrel
          by_cases hjl : j < y.ids.length
          · have hjl' : ((j : Nat) : Int) < ((y.ids.length : Nat) : Int) := by omega
            have he := List.getElem?_eq_getElem hjl
            obtain ⟨z, hz⟩ : ∃ z, z = y.ids[j] := ⟨_, rfl⟩
            rw [← hz] at he
            have hcz : ∀ wx : World, Below W5.heap.size W5 wx → wx.cell? ⟨ig, j, none⟩ = some (.int .i64 z) := fun wx hx => by
              rw [hx.cell (by exact own_lt H5.out.2.2.1 ig rfl)]
              have := H5.out.2.2.1.cells (g := ig) rfl j (.int .i64 z) (by unfold intVs; rw [List.getElem?_map, he]; rfl)
              rw [addr_addI, Nat.zero_add] at this
              exact this
            have HJ := (show Hid (_ ∧ _ ∧ _ ∧ _) from ⟨hlow, hbj, hcz, he⟩)
            clear hlow hbj hcz hz he
            go_wp2_with fail
            refine wp_region_held_drew (S := fun w' => w'.cell? ⟨w.heap.size + 1, 3, none⟩ = some (.int .i64 p.seq) ∧ w'.cell? ⟨ig, j, none⟩ = some (.int .i64 z)) (by kernel_rfl) ⟨KP.out wr HJ.out.2.1, HJ.out.2.2.1 wr HJ.out.2.1⟩ (fun hS => ?_)
            refine wpAnyH_take (i := 0) (v := .int .i64 j) rfl (by kernel_rfl) (by kernel_rfl) (by kernel_rfl) (fun _ _ _ h => h) (Or.inl ⟨by rfl, ?_⟩) hS ?_
            · intro wq hSw
              go_simp
            simp only [Act.put, List.getElem_toArray, List.getElem_cons_zero, List.setIfInBounds_toArray, List.set_cons_zero, List.set_cons_succ]
            refine wpAnyH_take (i := 1) (v := .slice (some ⟨ig, 0, none⟩) y.ids.length ic) rfl (by kernel_rfl) (by kernel_rfl) (by kernel_rfl) (fun _ _ _ h => h) (Or.inl ⟨by rfl, ?_⟩) hS ?_
            · intro wq hSw
              go_simp
            simp only [Act.put, List.getElem_toArray, List.getElem_cons_zero, List.getElem_cons_succ, List.setIfInBounds_toArray, List.set_cons_zero, List.set_cons_succ]
            refine wpAnyH_take (i := 2) (v := .int .i64 y.ids.length) rfl (by kernel_rfl) (by kernel_rfl) (by kernel_rfl) (fun _ _ _ h => h) (Or.inl ⟨by rfl, ?_⟩) hS ?_
            · intro wq hSw
              go_simp
            simp only [Act.put, List.getElem_toArray, List.getElem_cons_zero, List.getElem_cons_succ, List.setIfInBounds_toArray, List.set_cons_zero, List.set_cons_succ]
            refine wpAnyH_take (i := 3) (v := .bool true) rfl (by kernel_rfl) (by kernel_rfl) (by kernel_rfl) (fun _ _ _ h => h) (Or.inl ⟨by rfl, ?_⟩) hS ?_
            · intro wq hSw
              go_simp
            simp only [Act.put, List.getElem_toArray, List.getElem_cons_zero, List.getElem_cons_succ, List.setIfInBounds_toArray, List.set_cons_zero, List.set_cons_succ]
            refine wpAnyH_take (i := 4) (v := .bool true) rfl (by kernel_rfl) (by kernel_rfl) (by kernel_rfl) (fun _ _ _ h => h) (Or.inl ⟨by rfl, ?_⟩) hS ?_
            · intro wq hSw
              go_simp
            simp only [Act.put, List.getElem_toArray, List.getElem_cons_zero, List.getElem_cons_succ, List.setIfInBounds_toArray, List.set_cons_zero, List.set_cons_succ]
            refine wpAnyH_take (i := 5) (v := .slice (some ⟨ig, 0, none⟩) y.ids.length ic) rfl (by kernel_rfl) (by kernel_rfl) (by kernel_rfl) (fun _ _ _ h => h) (Or.inl ⟨by rfl, ?_⟩) hS ?_
            · intro wq hSw
              go_simp
            simp only [Act.put, List.getElem_toArray, List.getElem_cons_zero, List.getElem_cons_succ, List.setIfInBounds_toArray, List.set_cons_zero, List.set_cons_succ]
            refine wpAnyH_take (i := 6) (v := .int .i64 j) rfl (by kernel_rfl) (by kernel_rfl) (by kernel_rfl) (fun _ _ _ h => h) (Or.inl ⟨by rfl, ?_⟩) hS ?_
            · intro wq hSw
              go_simp
            simp only [Act.put, List.getElem_toArray, List.getElem_cons_zero, List.getElem_cons_succ, List.setIfInBounds_toArray, List.set_cons_zero, List.set_cons_succ]
            refine wpAnyH_take (i := 7) (v := .pointer (some ⟨ig, j, none⟩)) rfl (by kernel_rfl) (by kernel_rfl) (by kernel_rfl) (fun _ _ _ h => h) (Or.inl ⟨by rfl, ?_⟩) hS ?_
            · intro wq hSw
              go_simp
            simp only [Act.put, List.getElem_toArray, List.getElem_cons_zero, List.getElem_cons_succ, List.setIfInBounds_toArray, List.set_cons_zero, List.set_cons_succ]
            refine wpAnyH_take (i := 8) (v := .int .i64 z) rfl (by kernel_rfl) (by kernel_rfl) (by kernel_rfl) (fun _ _ _ h => h) (Or.inl ⟨by rfl, ?_⟩) hS ?_
            · intro wq hSw
              obtain ⟨q0, q1⟩ := hSw
              go_simp
            simp only [Act.put, List.getElem_toArray, List.getElem_cons_zero, List.getElem_cons_succ, List.setIfInBounds_toArray, List.set_cons_zero, List.set_cons_succ]
            refine wpAnyH_take (i := 9) (v := .pointer (some ⟨w.heap.size + 1, 3, none⟩)) rfl (by kernel_rfl) (by kernel_rfl) (by kernel_rfl) (fun _ _ _ h => h) (Or.inl ⟨by rfl, ?_⟩) hS ?_
            · intro wq hSw
              go_simp
            simp only [Act.put, List.getElem_toArray, List.getElem_cons_zero, List.getElem_cons_succ, List.setIfInBounds_toArray, List.set_cons_zero, List.set_cons_succ]
            refine wpAnyH_take (i := 10) (v := .int .i64 p.seq) rfl (by kernel_rfl) (by kernel_rfl) (by kernel_rfl) (fun _ _ _ h => h) (Or.inl ⟨by rfl, ?_⟩) hS ?_
            · intro wq hSw
              obtain ⟨q0, q1⟩ := hSw
              go_simp
            simp only [Act.put, List.getElem_toArray, List.getElem_cons_zero, List.getElem_cons_succ, List.setIfInBounds_toArray, List.set_cons_zero, List.set_cons_succ]
            refine wpAnyH_take (i := 11) (v := .bool (decide (z < p.seq))) rfl (by kernel_rfl) (by kernel_rfl) (by kernel_rfl) (fun _ _ _ h => h) (Or.inl ⟨by rfl, ?_⟩) hS ?_
            · intro wq hSw
              go_simp
            simp only [Act.put, List.getElem_toArray, List.getElem_cons_zero, List.getElem_cons_succ, List.setIfInBounds_toArray, List.set_cons_zero, List.set_cons_succ]
            refine wpAnyH_take (i := 12) (v := .bool (decide (z < p.seq))) rfl (by kernel_rfl) (by kernel_rfl) (by kernel_rfl) (fun _ _ _ h => h) (Or.inl ⟨by rfl, ?_⟩) hS ?_
            · intro wq hSw
              go_simp
            simp only [Act.put, List.getElem_toArray, List.getElem_cons_zero, List.getElem_cons_succ, List.setIfInBounds_toArray, List.set_cons_zero, List.set_cons_succ]
            refine wpAnyH_done (by kernel_rfl) ?_ _
            clear hS
            have bD : Below W5.heap.size W5 wr.drew := HJ.out.2.1.drew
            cases hzq : decide (z < p.seq) with
            | true =>
              have HF := (show Hid (_ ∧ _) from ⟨(fun (i : Nat) (u : Int) (hi : i < j + 1) (hu : y.ids[i]? = some u) => by
                rcases Nat.lt_or_ge i j with h1 | h1
                · exact HJ.out.1 i u h1 hu
                · obtain rfl : i = j := by omega
                  rw [HJ.out.2.2.2] at hu
                  obtain rfl := Option.some.inj hu
                  exact of_decide_eq_true hzq : ∀ (i : Nat) (u : Int), i < j + 1 → y.ids[i]? = some u → u < p.seq), bD⟩)
              clear hzq bD
              go_wp2
              exact ⟨⟨j + 1, by omega, by go_num, HF.out.1, HF.out.2⟩, by simp [intOf]; omega⟩
            | false =>
              have HF := (show Hid (_ ∧ _) from ⟨place_at hj HJ.out.1 (.inr ⟨z, HJ.out.2.2.2, of_decide_eq_false hzq⟩), bD⟩)
              clear hzq bD
              go_wp2_with fail
              go_meet
              exact ⟨by rw [HF.out.1], HF.out.2⟩
          · obtain rfl : j = y.ids.length := by omega
            have hjl' : ¬ ((y.ids.length : Nat) : Int) < ((y.ids.length : Nat) : Int) := by omega
            have HF := (show Hid (_ ∧ _ ∧ _) from ⟨place_at (Nat.le_refl _) hlow (.inl rfl), hbj.drew, hbj⟩)
            clear hlow hbj
            go_wp2_with fail
            refine wp_region_held_drew (S := fun w' => w'.cell? ⟨w.heap.size + 1, 3, none⟩ = some (.int .i64 p.seq)) (by kernel_rfl) (KP.out wr HF.out.2.2) (fun hS => ?_)
            refine wpAnyH_take (i := 0) (v := .int .i64 y.ids.length) rfl (by kernel_rfl) (by kernel_rfl) (by kernel_rfl) (fun _ _ _ h => h) (Or.inl ⟨by rfl, ?_⟩) hS ?_
            · intro wq hSw
              go_simp
            simp only [Act.put, List.getElem_toArray, List.getElem_cons_zero, List.setIfInBounds_toArray, List.set_cons_zero, List.set_cons_succ]
            refine wpAnyH_take (i := 1) (v := .slice (some ⟨ig, 0, none⟩) y.ids.length ic) rfl (by kernel_rfl) (by kernel_rfl) (by kernel_rfl) (fun _ _ _ h => h) (Or.inl ⟨by rfl, ?_⟩) hS ?_
            · intro wq hSw
              go_simp
            simp only [Act.put, List.getElem_toArray, List.getElem_cons_zero, List.getElem_cons_succ, List.setIfInBounds_toArray, List.set_cons_zero, List.set_cons_succ]
            refine wpAnyH_take (i := 2) (v := .int .i64 y.ids.length) rfl (by kernel_rfl) (by kernel_rfl) (by kernel_rfl) (fun _ _ _ h => h) (Or.inl ⟨by rfl, ?_⟩) hS ?_
            · intro wq hSw
              go_simp
            simp only [Act.put, List.getElem_toArray, List.getElem_cons_zero, List.getElem_cons_succ, List.setIfInBounds_toArray, List.set_cons_zero, List.set_cons_succ]
            refine wpAnyH_take (i := 3) (v := .bool false) rfl (by kernel_rfl) (by kernel_rfl) (by kernel_rfl) (fun _ _ _ h => h) (Or.inl ⟨by rfl, ?_⟩) hS ?_
            · intro wq hSw
              go_simp
            simp only [Act.put, List.getElem_toArray, List.getElem_cons_zero, List.getElem_cons_succ, List.setIfInBounds_toArray, List.set_cons_zero, List.set_cons_succ]
            refine wpAnyH_take (i := 4) (v := .bool false) rfl (by kernel_rfl) (by kernel_rfl) (by kernel_rfl) (fun _ _ _ h => h) (Or.inl ⟨by rfl, ?_⟩) hS ?_
            · intro wq hSw
              go_simp
            simp only [Act.put, List.getElem_toArray, List.getElem_cons_zero, List.getElem_cons_succ, List.setIfInBounds_toArray, List.set_cons_zero, List.set_cons_succ]
            refine wpAnyH_take (i := 5) (v := undef) rfl (by kernel_rfl) (by kernel_rfl) (by kernel_rfl) (fun _ _ _ h => h) (Or.inr ⟨by rfl, rfl⟩) hS ?_
            simp only [Act.put, List.getElem_toArray, List.getElem_cons_zero, List.getElem_cons_succ, List.setIfInBounds_toArray, List.set_cons_zero, List.set_cons_succ]
            refine wpAnyH_take (i := 6) (v := undef) rfl (by kernel_rfl) (by kernel_rfl) (by kernel_rfl) (fun _ _ _ h => h) (Or.inr ⟨by rfl, rfl⟩) hS ?_
            simp only [Act.put, List.getElem_toArray, List.getElem_cons_zero, List.getElem_cons_succ, List.setIfInBounds_toArray, List.set_cons_zero, List.set_cons_succ]
            refine wpAnyH_take (i := 7) (v := undef) rfl (by kernel_rfl) (by kernel_rfl) (by kernel_rfl) (fun _ _ _ h => h) (Or.inr ⟨by rfl, rfl⟩) hS ?_
            simp only [Act.put, List.getElem_toArray, List.getElem_cons_zero, List.getElem_cons_succ, List.setIfInBounds_toArray, List.set_cons_zero, List.set_cons_succ]
            refine wpAnyH_take (i := 8) (v := undef) rfl (by kernel_rfl) (by kernel_rfl) (by kernel_rfl) (fun _ _ _ h => h) (Or.inr ⟨by rfl, rfl⟩) hS ?_
            simp only [Act.put, List.getElem_toArray, List.getElem_cons_zero, List.getElem_cons_succ, List.setIfInBounds_toArray, List.set_cons_zero, List.set_cons_succ]
            refine wpAnyH_take (i := 9) (v := undef) rfl (by kernel_rfl) (by kernel_rfl) (by kernel_rfl) (fun _ _ _ h => h) (Or.inr ⟨by rfl, rfl⟩) hS ?_
            simp only [Act.put, List.getElem_toArray, List.getElem_cons_zero, List.getElem_cons_succ, List.setIfInBounds_toArray, List.set_cons_zero, List.set_cons_succ]
            refine wpAnyH_take (i := 10) (v := undef) rfl (by kernel_rfl) (by kernel_rfl) (by kernel_rfl) (fun _ _ _ h => h) (Or.inr ⟨by rfl, rfl⟩) hS ?_
            simp only [Act.put, List.getElem_toArray, List.getElem_cons_zero, List.getElem_cons_succ, List.setIfInBounds_toArray, List.set_cons_zero, List.set_cons_succ]
            refine wpAnyH_take (i := 11) (v := undef) rfl (by kernel_rfl) (by kernel_rfl) (by kernel_rfl) (fun _ _ _ h => h) (Or.inr ⟨by rfl, rfl⟩) hS ?_
            simp only [Act.put, List.getElem_toArray, List.getElem_cons_zero, List.getElem_cons_succ, List.setIfInBounds_toArray, List.set_cons_zero, List.set_cons_succ]
            refine wpAnyH_take (i := 12) (v := .bool false) rfl (by kernel_rfl) (by kernel_rfl) (by kernel_rfl) (fun _ _ _ h => h) (Or.inl ⟨by rfl, ?_⟩) hS ?_
            · intro wq hSw
              go_simp
            simp only [Act.put, List.getElem_toArray, List.getElem_cons_zero, List.getElem_cons_succ, List.setIfInBounds_toArray, List.set_cons_zero, List.set_cons_succ]
            refine wpAnyH_done (by kernel_rfl) ?_ _
            clear hS
            go_wp2_with fail
            go_meet
            exact ⟨by rw [HF.out.1], HF.out.2.1⟩
      case rest =>
      obtain ⟨rfl, H6⟩ := hcut
      have hpj : placeL y.ids p.seq ≤ y.ids.length := by unfold placeL; exact (List.takeWhile_sublist _).length_le
      have HNW : Hid (l.fresh p = true ∧ l.due p = true ∧ l.take p = l.setSe f ⟨y.low, y.ids.take (placeL y.ids p.seq) ++ p.seq :: y.ids.drop (placeL y.ids p.seq)⟩) := take_new HT.out HSY.out.1 HSY.out.2 hhas.out h60
      generalize placeL y.ids p.seq = j at *
      have hic : y.ids.length ≤ ic := by
        rcases H5.out.2.2.1.2 with ⟨h1, _⟩ | ⟨_, _, _, h1, _, _, h2, _⟩
        · cases h1
        · cases h1; exact h2
      have hj0 : (0 : Int) ≤ (j : Int) := by omega
      have hj1 : (j : Int) ≤ (ic : Int) := by omega
      have hj2 : (j : Int) ≤ (y.ids.length : Int) := by omega
      obtain ⟨ad, had⟩ : ∃ ad : Option Addr, ad = if ic = j then some ⟨ig, 0, none⟩ else some ⟨ig, j, none⟩ := ⟨_, rfl⟩
      have IA : Hid (∀ wx : World, Below W5.heap.size W5 wx → IntsAt wx (fun _ => True) (.slice (some ⟨ig, 0, none⟩) j ic) (y.ids.take j) ∧ IntsAt wx (fun _ => True) (.slice ad (y.ids.length - j) (ic - j)) (y.ids.drop j)) := fun wx hx => by
        have h1 := (own_ints H5.out.2.2.1 H5.out.2.2.2.2).below hx
        exact ⟨ints_take h1 hpj, ints_drop h1 hpj hic had⟩
      have hs56 : W5.heap.size ≤ wc.heap.size := H6.out.size
      have BD := (show Hid (Below wc.heap.size wc wc.drew) from (Below.refl _ wc).drew)
      have H56 : Hid (∀ wx : World, Below wc.heap.size wc wx → Below W5.heap.size W5 wx) := fun wx hx => H6.out.trans (hx.mono hs56)
      have HAD : Hid (ad = if ic = j then some ⟨ig, 0, none⟩ else some ⟨ig, j, none⟩) := had
      clear had
      go_wp2_with fail
      have hne31 : w3.heap.size ≠ w.heap.size + 1 := by omega
      go_cut [] from 12 (fun wd => ∃ (va : Option Addr) (vc : Nat) (w12 : World), wd = w12.setCell ⟨w3.heap.size, 1, none⟩ (.slice va (y.ids.length + 1) vc) ∧ Below wc.heap.size wc w12 ∧ w12.ownsRow wc.heap.size 3 1 (.slice va (y.ids.length + 1) vc) (y.ids.length + 1) (intVs (y.ids.take j) ++ intVs [p.seq] ++ intVs (y.ids.drop j)))
      case first =>
        refine wp_region_held_drew (S := fun w' => w'.cell? ⟨w.heap.size + 1, 3, none⟩ = some (.int .i64 p.seq)) (by kernel_rfl) (KP.out wc H6.out) (fun hS => ?_)
        refine wpAnyH_take (i := 1) (v := .slice (some ⟨ig, 0, none⟩) y.ids.length ic) rfl (by kernel_rfl) (by kernel_rfl) (by kernel_rfl) (fun _ _ _ h => h) (Or.inl ⟨by rfl, ?_⟩) hS ?_
        · intro wq hSw
          go_simp
        simp only [Act.put, List.getElem_toArray, List.setIfInBounds_toArray]
        refine wpAnyH_take (i := 2) (v := .int .i64 j) rfl (by kernel_rfl) (by kernel_rfl) (by kernel_rfl) (fun _ _ _ h => h) (Or.inl ⟨by rfl, ?_⟩) hS ?_
        · intro wq hSw
          go_simp
        simp only [Act.put, List.getElem_toArray, List.getElem_cons_zero, List.getElem_cons_succ, List.setIfInBounds_toArray, List.set_cons_zero, List.set_cons_succ]
        refine wpAnyH_take (i := 3) (v := .slice (some ⟨ig, 0, none⟩) j ic) rfl (by kernel_rfl) (by kernel_rfl) (by kernel_rfl) (fun _ _ _ h => h) (Or.inl ⟨by rfl, ?_⟩) hS ?_
        · intro wq hSw
          go_simp
        simp only [Act.put, List.getElem_toArray, List.getElem_cons_zero, List.getElem_cons_succ, List.setIfInBounds_toArray, List.set_cons_zero, List.set_cons_succ]
        refine wpAnyH_take (i := 5) (v := .pointer (some ⟨w.heap.size + 1, 3, none⟩)) rfl (by kernel_rfl) (by kernel_rfl) (by kernel_rfl) (fun _ _ _ h => h) (Or.inl ⟨by rfl, ?_⟩) hS ?_
        · intro wq hSw
          go_simp
        simp only [Act.put, List.getElem_toArray, List.getElem_cons_zero, List.getElem_cons_succ, List.setIfInBounds_toArray, List.set_cons_zero, List.set_cons_succ]
        refine wpAnyH_take (i := 6) (v := .int .i64 p.seq) rfl (by kernel_rfl) (by kernel_rfl) (by kernel_rfl) (fun _ _ _ h => h) (Or.inl ⟨by rfl, ?_⟩) hS ?_
        · intro wq hSw
          have q0 : wq.cell? ⟨w.heap.size + 1, 3, none⟩ = some (.int .i64 p.seq) := hSw
          go_simp
        simp only [Act.put, List.getElem_toArray, List.getElem_cons_zero, List.getElem_cons_succ, List.setIfInBounds_toArray, List.set_cons_zero, List.set_cons_succ]
        refine wpAnyH_take (i := 9) (v := .slice (some ⟨ig, 0, none⟩) y.ids.length ic) rfl (by kernel_rfl) (by kernel_rfl) (by kernel_rfl) (fun _ _ _ h => h) (Or.inl ⟨by rfl, ?_⟩) hS ?_
        · intro wq hSw
          go_simp
        simp only [Act.put, List.getElem_toArray, List.getElem_cons_zero, List.getElem_cons_succ, List.setIfInBounds_toArray, List.set_cons_zero, List.set_cons_succ]
        refine wpAnyH_take (i := 10) (v := .int .i64 j) rfl (by kernel_rfl) (by kernel_rfl) (by kernel_rfl) (fun _ _ _ h => h) (Or.inl ⟨by rfl, ?_⟩) hS ?_
        · intro wq hSw
          go_simp
        simp only [Act.put, List.getElem_toArray, List.getElem_cons_zero, List.getElem_cons_succ, List.setIfInBounds_toArray, List.set_cons_zero, List.set_cons_succ]
        refine wpAnyH_take (i := 11) (v := .slice ad (y.ids.length - j) (ic - j)) rfl (by kernel_rfl) (by kernel_rfl) (by kernel_rfl) (fun _ _ _ h => h) (Or.inl ⟨by rfl, ?_⟩) hS ?_
        · intro wq hSw
          go_simp
          exact HAD.out.symm
        simp only [Act.put, List.getElem_toArray, List.getElem_cons_zero, List.getElem_cons_succ, List.setIfInBounds_toArray, List.set_cons_zero, List.set_cons_succ]
        refine wpAnyH_ready (rs := [0, 7]) (by kernel_rfl) (by simp) ?_
        refine AllReadyH.cons rfl (fun K hK => ?_) (AllReadyH.cons rfl (fun K hK => ?_) AllReadyH.nil)
        · refine step_run rfl _ _ (run_build0 _ _ rfl _) ?_
          refine hK.out _ _ (KP.out _ (H56.out _ (BD.out.alloc (Nat.le_refl _) (.cells #[] 3)))) (fun _ => ?_)
          clear hK K
          refine wpAnyH_ready (rs := [4, 7]) (by kernel_rfl) (by simp) ?_
          refine AllReadyH.cons rfl (fun K hK => ?_) (AllReadyH.cons rfl (fun K hK => ?_) AllReadyH.nil)
          · refine step_append_ints rfl (.tmp 120) (.tmp 123) rfl wc.heap.size (.slice (some ⟨wc.heap.size, 0, none⟩) 0 0) 0 [] (by first | (simp [Act.eval]; done) | simp [Act.eval, Act.put]) (irow_empty wc.drew wc.heap.size (Nat.le_refl _)) (.slice (some ⟨ig, 0, none⟩) j ic) (y.ids.take j) _ (by first | (simp [Act.eval]; done) | simp [Act.eval, Act.put]) (IA.out _ (H56.out _ (BD.out.alloc (Nat.le_refl _) (.cells #[] 3)))).1 (by rw [List.length_take]; omega) ((BD.out.alloc (Nat.le_refl _) (.cells #[] 3))).size ?_
            intro v4 w4 hown4 hgrow4 hat4
            rw [Nat.zero_add, List.nil_append] at hown4
            have b4 : Below wc.heap.size wc w4 := Below.grown (BD.out.alloc (Nat.le_refl _) (.cells #[] 3)) hgrow4 (hB := ((BD.out.alloc (Nat.le_refl _) (.cells #[] 3))).size) (hr := fun b hb => (own_type (irow_empty wc.drew wc.heap.size (Nat.le_refl _)) b hb).1)
            have G4 := (show Hid (_ ∧ _ ∧ _) from ⟨b4, hown4, trivial⟩)
            obtain ⟨n4, va4, vc4, hn4, rfl⟩ := own_formN hown4
            clear hown4 hgrow4 hat4 b4
            refine hK.out _ _ (KP.out _ (H56.out _ G4.out.1)) (fun _ => ?_)
            clear hK K
            simp only [Act.put, List.getElem_toArray, List.getElem_cons_zero, List.getElem_cons_succ, List.setIfInBounds_toArray, List.set_cons_zero, List.set_cons_succ]
            refine wpAnyH_ready (rs := [7]) (by kernel_rfl) (by simp) ?_
            refine AllReadyH.cons rfl (fun K hK => ?_) AllReadyH.nil
            refine step_run rfl _ _ (run_build1 _ _ (.tmp 126) p.seq rfl (by first | (simp [Act.eval]; done) | simp [Act.eval, Act.put]) _) ?_
            refine hK.out _ _ (KP.out _ (H56.out _ (G4.out.1.alloc G4.out.1.size (.cells #[.int .i64 p.seq] 3)))) (fun _ => ?_)
            clear hK K
            refine wpAnyH_ready (rs := [8]) (by kernel_rfl) (by simp) ?_
            refine AllReadyH.cons rfl (fun K hK => ?_) AllReadyH.nil
            have hn4' : n4 = j := by rw [hn4, List.length_take]; omega
            have O4 := (show Hid (_ ∧ _) from ⟨(own_alloc1 G4.out.2.1 (.cells #[.int .i64 p.seq] 3)), (MapKept.heap_alloc w4 (.cells #[.int .i64 p.seq] 3)).1⟩)
            refine step_append_ints rfl (.tmp 124) (.tmp 127) rfl wc.heap.size (.slice va4 n4 vc4) (y.ids.take j).length (intVs (y.ids.take j)) (by first | (simp [Act.eval]; done) | simp [Act.eval, Act.put]) O4.out.1 (.slice (some ⟨w4.heap.size, 0, none⟩) 1 1) [p.seq] _ (by first | (simp [Act.eval]; done) | simp [Act.eval, Act.put]) (ints_one1 O4.out.2 hpq) (by simp; omega) ((G4.out.1.alloc G4.out.1.size (.cells #[.int .i64 p.seq] 3))).size ?_
            intro v8 w8 hown8 hgrow8 hat8
            have b8 : Below wc.heap.size wc w8 := Below.grown (G4.out.1.alloc G4.out.1.size (.cells #[.int .i64 p.seq] 3)) hgrow8 (hB := ((G4.out.1.alloc G4.out.1.size (.cells #[.int .i64 p.seq] 3))).size) (hr := fun b hb => (own_type O4.out.1 b hb).1)
            have G8 := (show Hid (_ ∧ _) from ⟨b8, hown8⟩)
            obtain ⟨n8, va8, vc8, hn8, rfl⟩ := own_formN hown8
            clear hown8 hgrow8 hat8 b8
            refine hK.out _ _ (KP.out _ (H56.out _ G8.out.1)) (fun _ => ?_)
            clear hK K
            simp only [Act.put, List.getElem_toArray, List.getElem_cons_zero, List.getElem_cons_succ, List.setIfInBounds_toArray, List.set_cons_zero, List.set_cons_succ]
            refine wpAnyH_ready (rs := [12]) (by kernel_rfl) (by simp) ?_
            refine AllReadyH.cons rfl (fun K hK => ?_) AllReadyH.nil
            refine step_append_ints rfl (.tmp 128) (.tmp 131) rfl wc.heap.size (.slice va8 n8 vc8) ((y.ids.take j).length + [p.seq].length) (intVs (y.ids.take j) ++ intVs [p.seq]) (by first | (simp [Act.eval]; done) | simp [Act.eval, Act.put]) G8.out.2 (.slice ad (y.ids.length - j) (ic - j)) (y.ids.drop j) _ (by first | (simp [Act.eval]; done) | simp [Act.eval, Act.put]) (IA.out _ (H56.out _ G8.out.1)).2 (by simp; omega) G8.out.1.size ?_
            intro v12 w12 hown12 hgrow12 hat12
            have b12 : Below wc.heap.size wc w12 := Below.grown G8.out.1 hgrow12 (hB := G8.out.1.size) (hr := fun b hb => (own_type G8.out.2 b hb).1)
            obtain ⟨n12, va12, vc12, hn12, rfl⟩ := own_formN hown12
            have G12 := (show Hid (_ ∧ _) from ⟨b12, hown12⟩)
            clear hown12 hgrow12 hat12 b12
            refine hK.out _ _ (KP.out _ (H56.out _ G12.out.1)) (fun _ => ?_)
            clear hK K
            simp only [Act.put, List.getElem_toArray, List.getElem_cons_zero, List.getElem_cons_succ, List.setIfInBounds_toArray, List.set_cons_zero, List.set_cons_succ]
            refine wpAnyH_take (i := 13) (v := .pointer (some ⟨w3.heap.size, 1, none⟩)) rfl (by kernel_rfl) (by kernel_rfl) (by kernel_rfl) (fun _ _ _ h => h) (Or.inl ⟨by rfl, ?_⟩) (KP.out _ (H56.out _ G12.out.1)) ?_
            · intro wq hSw
              go_simp
            simp only [Act.put, List.getElem_toArray, List.getElem_cons_zero, List.getElem_cons_succ, List.setIfInBounds_toArray, List.set_cons_zero, List.set_cons_succ]
            refine wpAnyH_ready (rs := [14]) (by kernel_rfl) (by simp) ?_
            refine AllReadyH.cons rfl (fun K hK => ?_) AllReadyH.nil
            have sb12 := ((H56.out _ G12.out.1).block _ hlt5).trans H5.out.2.1
            have s1 : w12.cell? ⟨w3.heap.size, 1, none⟩ = some (.slice (some ⟨ig, 0, none⟩) y.ids.length ic) := (cell_of_block sb12 1).trans rfl
            have fs1 : w12.frozen? ⟨w3.heap.size, 1, none⟩ = false := unfrozen_of_block sb12 1
            refine step_skip rfl _ (run_storeI _ _ (.tmp 133) (.tmp 132) ⟨w3.heap.size, 1, none⟩ va12 n12 vc12 _ rfl (by first | (simp [Act.eval]; done) | simp [Act.eval, Act.put]) (by first | (simp [Act.eval]; done) | simp [Act.eval, Act.put]) w12 s1 fs1) ?_
            refine hK.out _ _ (by show (w12.setCell ⟨w3.heap.size, 1, none⟩ _).cell? _ = _; rw [World.cell?_setCell_far _ _ _ _ (fun e => hne31 e)]; exact KP.out _ (H56.out _ G12.out.1)) (fun _ => ?_)
            clear hK K s1 fs1 sb12
            refine wpAnyH_done (by kernel_rfl) ?_ _
            have hn12' : n12 = y.ids.length + 1 := by rw [hn12]; simp; omega
            subst hn12'
            go_wp2_with fail
            go_meet
            exact ⟨va12, vc12, w12, rfl, G12.out.1, (by have := G12.out.2; rw [show (y.ids.take j).length + [p.seq].length + (y.ids.drop j).length = y.ids.length + 1 by simp; omega] at this; exact this)⟩
          · refine step_run rfl _ _ (run_build1 _ _ (.tmp 126) p.seq rfl (by first | (simp [Act.eval]; done) | simp [Act.eval, Act.put]) _) ?_
            refine hK.out _ _ (KP.out _ (H56.out _ ((BD.out.alloc (Nat.le_refl _) (.cells #[] 3)).alloc (by simp) (.cells #[.int .i64 p.seq] 3)))) (fun _ => ?_)
            clear hK K
            refine wpAnyH_ready (rs := [4]) (by kernel_rfl) (by simp) ?_
            refine AllReadyH.cons rfl (fun K hK => ?_) AllReadyH.nil
            refine step_append_ints rfl (.tmp 120) (.tmp 123) rfl wc.heap.size (.slice (some ⟨wc.heap.size, 0, none⟩) 0 0) 0 [] (by first | (simp [Act.eval]; done) | simp [Act.eval, Act.put]) (own_alloc1 (irow_empty wc.drew wc.heap.size (Nat.le_refl _)) (.cells #[.int .i64 p.seq] 3)) (.slice (some ⟨ig, 0, none⟩) j ic) (y.ids.take j) _ (by first | (simp [Act.eval]; done) | simp [Act.eval, Act.put]) (IA.out _ (H56.out _ ((BD.out.alloc (Nat.le_refl _) (.cells #[] 3)).alloc (by simp) (.cells #[.int .i64 p.seq] 3)))).1 (by rw [List.length_take]; omega) (((BD.out.alloc (Nat.le_refl _) (.cells #[] 3)).alloc (by simp) (.cells #[.int .i64 p.seq] 3))).size ?_
            intro v4 w4 hown4 hgrow4 hat4
            rw [Nat.zero_add, List.nil_append] at hown4
            have b4 : Below wc.heap.size wc w4 := Below.grown ((BD.out.alloc (Nat.le_refl _) (.cells #[] 3)).alloc (by simp) (.cells #[.int .i64 p.seq] 3)) hgrow4 (hB := (((BD.out.alloc (Nat.le_refl _) (.cells #[] 3)).alloc (by simp) (.cells #[.int .i64 p.seq] 3))).size) (hr := fun b hb => (own_type (own_alloc1 (irow_empty wc.drew wc.heap.size (Nat.le_refl _)) (.cells #[.int .i64 p.seq] 3)) b hb).1)
            have G4 := (show Hid (_ ∧ _ ∧ _) from ⟨b4, hown4, (hgrow4.block (wc.heap.size + 1) (by simp) (by simp [Value.ownBlock])).trans (heap_two wc.drew _ _)⟩)
            obtain ⟨n4, va4, vc4, hn4, rfl⟩ := own_formN hown4
            clear hown4 hgrow4 hat4 b4
            refine hK.out _ _ (KP.out _ (H56.out _ G4.out.1)) (fun _ => ?_)
            clear hK K
            simp only [Act.put, List.getElem_toArray, List.getElem_cons_zero, List.getElem_cons_succ, List.setIfInBounds_toArray, List.set_cons_zero, List.set_cons_succ]
            refine wpAnyH_ready (rs := [8]) (by kernel_rfl) (by simp) ?_
            refine AllReadyH.cons rfl (fun K hK => ?_) AllReadyH.nil
            have hn4' : n4 = j := by rw [hn4, List.length_take]; omega
            have O4 := (show Hid (_ ∧ _) from ⟨G4.out.2.1, G4.out.2.2⟩)
            refine step_append_ints rfl (.tmp 124) (.tmp 127) rfl wc.heap.size (.slice va4 n4 vc4) (y.ids.take j).length (intVs (y.ids.take j)) (by first | (simp [Act.eval]; done) | simp [Act.eval, Act.put]) O4.out.1 (.slice (some ⟨(wc.heap.size + 1), 0, none⟩) 1 1) [p.seq] _ (by first | (simp [Act.eval]; done) | simp [Act.eval, Act.put]) (ints_one1 O4.out.2 hpq) (by simp; omega) (G4.out.1).size ?_
            intro v8 w8 hown8 hgrow8 hat8
            have b8 : Below wc.heap.size wc w8 := Below.grown G4.out.1 hgrow8 (hB := (G4.out.1).size) (hr := fun b hb => (own_type O4.out.1 b hb).1)
            have G8 := (show Hid (_ ∧ _) from ⟨b8, hown8⟩)
            obtain ⟨n8, va8, vc8, hn8, rfl⟩ := own_formN hown8
            clear hown8 hgrow8 hat8 b8
            refine hK.out _ _ (KP.out _ (H56.out _ G8.out.1)) (fun _ => ?_)
            clear hK K
            simp only [Act.put, List.getElem_toArray, List.getElem_cons_zero, List.getElem_cons_succ, List.setIfInBounds_toArray, List.set_cons_zero, List.set_cons_succ]
            refine wpAnyH_ready (rs := [12]) (by kernel_rfl) (by simp) ?_
            refine AllReadyH.cons rfl (fun K hK => ?_) AllReadyH.nil
            refine step_append_ints rfl (.tmp 128) (.tmp 131) rfl wc.heap.size (.slice va8 n8 vc8) ((y.ids.take j).length + [p.seq].length) (intVs (y.ids.take j) ++ intVs [p.seq]) (by first | (simp [Act.eval]; done) | simp [Act.eval, Act.put]) G8.out.2 (.slice ad (y.ids.length - j) (ic - j)) (y.ids.drop j) _ (by first | (simp [Act.eval]; done) | simp [Act.eval, Act.put]) (IA.out _ (H56.out _ G8.out.1)).2 (by simp; omega) G8.out.1.size ?_
            intro v12 w12 hown12 hgrow12 hat12
            have b12 : Below wc.heap.size wc w12 := Below.grown G8.out.1 hgrow12 (hB := G8.out.1.size) (hr := fun b hb => (own_type G8.out.2 b hb).1)
            obtain ⟨n12, va12, vc12, hn12, rfl⟩ := own_formN hown12
            have G12 := (show Hid (_ ∧ _) from ⟨b12, hown12⟩)
            clear hown12 hgrow12 hat12 b12
            refine hK.out _ _ (KP.out _ (H56.out _ G12.out.1)) (fun _ => ?_)
            clear hK K
            simp only [Act.put, List.getElem_toArray, List.getElem_cons_zero, List.getElem_cons_succ, List.setIfInBounds_toArray, List.set_cons_zero, List.set_cons_succ]
            refine wpAnyH_take (i := 13) (v := .pointer (some ⟨w3.heap.size, 1, none⟩)) rfl (by kernel_rfl) (by kernel_rfl) (by kernel_rfl) (fun _ _ _ h => h) (Or.inl ⟨by rfl, ?_⟩) (KP.out _ (H56.out _ G12.out.1)) ?_
            · intro wq hSw
              go_simp
            simp only [Act.put, List.getElem_toArray, List.getElem_cons_zero, List.getElem_cons_succ, List.setIfInBounds_toArray, List.set_cons_zero, List.set_cons_succ]
            refine wpAnyH_ready (rs := [14]) (by kernel_rfl) (by simp) ?_
            refine AllReadyH.cons rfl (fun K hK => ?_) AllReadyH.nil
            have sb12 := ((H56.out _ G12.out.1).block _ hlt5).trans H5.out.2.1
            have s1 : w12.cell? ⟨w3.heap.size, 1, none⟩ = some (.slice (some ⟨ig, 0, none⟩) y.ids.length ic) := (cell_of_block sb12 1).trans rfl
            have fs1 : w12.frozen? ⟨w3.heap.size, 1, none⟩ = false := unfrozen_of_block sb12 1
            refine step_skip rfl _ (run_storeI _ _ (.tmp 133) (.tmp 132) ⟨w3.heap.size, 1, none⟩ va12 n12 vc12 _ rfl (by first | (simp [Act.eval]; done) | simp [Act.eval, Act.put]) (by first | (simp [Act.eval]; done) | simp [Act.eval, Act.put]) w12 s1 fs1) ?_
            refine hK.out _ _ (by show (w12.setCell ⟨w3.heap.size, 1, none⟩ _).cell? _ = _; rw [World.cell?_setCell_far _ _ _ _ (fun e => hne31 e)]; exact KP.out _ (H56.out _ G12.out.1)) (fun _ => ?_)
            clear hK K s1 fs1 sb12
            refine wpAnyH_done (by kernel_rfl) ?_ _
            have hn12' : n12 = y.ids.length + 1 := by rw [hn12]; simp; omega
            subst hn12'
            go_wp2_with fail
            go_meet
            exact ⟨va12, vc12, w12, rfl, G12.out.1, (by have := G12.out.2; rw [show (y.ids.take j).length + [p.seq].length + (y.ids.drop j).length = y.ids.length + 1 by simp; omega] at this; exact this)⟩
        · refine step_run rfl _ _ (run_build1 _ _ (.tmp 126) p.seq rfl (by first | (simp [Act.eval]; done) | simp [Act.eval, Act.put]) _) ?_
          refine hK.out _ _ (KP.out _ (H56.out _ (BD.out.alloc (Nat.le_refl _) (.cells #[.int .i64 p.seq] 3)))) (fun _ => ?_)
          clear hK K
          refine wpAnyH_ready (rs := [0]) (by kernel_rfl) (by simp) ?_
          refine AllReadyH.cons rfl (fun K hK => ?_) AllReadyH.nil
          refine step_run rfl _ _ (run_build0 _ _ rfl _) ?_
          refine hK.out _ _ (KP.out _ (H56.out _ ((BD.out.alloc (Nat.le_refl _) (.cells #[.int .i64 p.seq] 3)).alloc (by simp) (.cells #[] 3)))) (fun _ => ?_)
          clear hK K
          refine wpAnyH_ready (rs := [4]) (by kernel_rfl) (by simp) ?_
          refine AllReadyH.cons rfl (fun K hK => ?_) AllReadyH.nil
          refine step_append_ints rfl (.tmp 120) (.tmp 123) rfl wc.heap.size (.slice (some ⟨(wc.heap.size + 1), 0, none⟩) 0 0) 0 [] (by first | (simp [Act.eval]; done) | simp [Act.eval, Act.put]) (irow_two wc.drew (.cells #[.int .i64 p.seq] 3)) (.slice (some ⟨ig, 0, none⟩) j ic) (y.ids.take j) _ (by first | (simp [Act.eval]; done) | simp [Act.eval, Act.put]) (IA.out _ (H56.out _ ((BD.out.alloc (Nat.le_refl _) (.cells #[.int .i64 p.seq] 3)).alloc (by simp) (.cells #[] 3)))).1 (by rw [List.length_take]; omega) (((BD.out.alloc (Nat.le_refl _) (.cells #[.int .i64 p.seq] 3)).alloc (by simp) (.cells #[] 3))).size ?_
          intro v4 w4 hown4 hgrow4 hat4
          rw [Nat.zero_add, List.nil_append] at hown4
          have b4 : Below wc.heap.size wc w4 := Below.grown ((BD.out.alloc (Nat.le_refl _) (.cells #[.int .i64 p.seq] 3)).alloc (by simp) (.cells #[] 3)) hgrow4 (hB := (((BD.out.alloc (Nat.le_refl _) (.cells #[.int .i64 p.seq] 3)).alloc (by simp) (.cells #[] 3))).size) (hr := fun b hb => (own_type (irow_two wc.drew (.cells #[.int .i64 p.seq] 3)) b hb).1)
          have G4 := (show Hid (_ ∧ _ ∧ _) from ⟨b4, hown4, (hgrow4.block wc.heap.size (by simp; omega) (by simp [Value.ownBlock])).trans ((Below.heap_alloc _ _ _ (by simp)).trans (MapKept.heap_alloc wc.drew (.cells #[.int .i64 p.seq] 3)).1)⟩)
          obtain ⟨n4, va4, vc4, hn4, rfl⟩ := own_formN hown4
          clear hown4 hgrow4 hat4 b4
          refine hK.out _ _ (KP.out _ (H56.out _ G4.out.1)) (fun _ => ?_)
          clear hK K
          simp only [Act.put, List.getElem_toArray, List.getElem_cons_zero, List.getElem_cons_succ, List.setIfInBounds_toArray, List.set_cons_zero, List.set_cons_succ]
          refine wpAnyH_ready (rs := [8]) (by kernel_rfl) (by simp) ?_
          refine AllReadyH.cons rfl (fun K hK => ?_) AllReadyH.nil
          have hn4' : n4 = j := by rw [hn4, List.length_take]; omega
          have O4 := (show Hid (_ ∧ _) from ⟨G4.out.2.1, G4.out.2.2⟩)
          refine step_append_ints rfl (.tmp 124) (.tmp 127) rfl wc.heap.size (.slice va4 n4 vc4) (y.ids.take j).length (intVs (y.ids.take j)) (by first | (simp [Act.eval]; done) | simp [Act.eval, Act.put]) O4.out.1 (.slice (some ⟨wc.heap.size, 0, none⟩) 1 1) [p.seq] _ (by first | (simp [Act.eval]; done) | simp [Act.eval, Act.put]) (ints_one1 O4.out.2 hpq) (by simp; omega) (G4.out.1).size ?_
          intro v8 w8 hown8 hgrow8 hat8
          have b8 : Below wc.heap.size wc w8 := Below.grown G4.out.1 hgrow8 (hB := (G4.out.1).size) (hr := fun b hb => (own_type O4.out.1 b hb).1)
          have G8 := (show Hid (_ ∧ _) from ⟨b8, hown8⟩)
          obtain ⟨n8, va8, vc8, hn8, rfl⟩ := own_formN hown8
          clear hown8 hgrow8 hat8 b8
          refine hK.out _ _ (KP.out _ (H56.out _ G8.out.1)) (fun _ => ?_)
          clear hK K
          simp only [Act.put, List.getElem_toArray, List.getElem_cons_zero, List.getElem_cons_succ, List.setIfInBounds_toArray, List.set_cons_zero, List.set_cons_succ]
          refine wpAnyH_ready (rs := [12]) (by kernel_rfl) (by simp) ?_
          refine AllReadyH.cons rfl (fun K hK => ?_) AllReadyH.nil
          refine step_append_ints rfl (.tmp 128) (.tmp 131) rfl wc.heap.size (.slice va8 n8 vc8) ((y.ids.take j).length + [p.seq].length) (intVs (y.ids.take j) ++ intVs [p.seq]) (by first | (simp [Act.eval]; done) | simp [Act.eval, Act.put]) G8.out.2 (.slice ad (y.ids.length - j) (ic - j)) (y.ids.drop j) _ (by first | (simp [Act.eval]; done) | simp [Act.eval, Act.put]) (IA.out _ (H56.out _ G8.out.1)).2 (by simp; omega) G8.out.1.size ?_
          intro v12 w12 hown12 hgrow12 hat12
          have b12 : Below wc.heap.size wc w12 := Below.grown G8.out.1 hgrow12 (hB := G8.out.1.size) (hr := fun b hb => (own_type G8.out.2 b hb).1)
          obtain ⟨n12, va12, vc12, hn12, rfl⟩ := own_formN hown12
          have G12 := (show Hid (_ ∧ _) from ⟨b12, hown12⟩)
          clear hown12 hgrow12 hat12 b12
          refine hK.out _ _ (KP.out _ (H56.out _ G12.out.1)) (fun _ => ?_)
          clear hK K
          simp only [Act.put, List.getElem_toArray, List.getElem_cons_zero, List.getElem_cons_succ, List.setIfInBounds_toArray, List.set_cons_zero, List.set_cons_succ]
          refine wpAnyH_take (i := 13) (v := .pointer (some ⟨w3.heap.size, 1, none⟩)) rfl (by kernel_rfl) (by kernel_rfl) (by kernel_rfl) (fun _ _ _ h => h) (Or.inl ⟨by rfl, ?_⟩) (KP.out _ (H56.out _ G12.out.1)) ?_
          · intro wq hSw
            go_simp
          simp only [Act.put, List.getElem_toArray, List.getElem_cons_zero, List.getElem_cons_succ, List.setIfInBounds_toArray, List.set_cons_zero, List.set_cons_succ]
          refine wpAnyH_ready (rs := [14]) (by kernel_rfl) (by simp) ?_
          refine AllReadyH.cons rfl (fun K hK => ?_) AllReadyH.nil
          have sb12 := ((H56.out _ G12.out.1).block _ hlt5).trans H5.out.2.1
          have s1 : w12.cell? ⟨w3.heap.size, 1, none⟩ = some (.slice (some ⟨ig, 0, none⟩) y.ids.length ic) := (cell_of_block sb12 1).trans rfl
          have fs1 : w12.frozen? ⟨w3.heap.size, 1, none⟩ = false := unfrozen_of_block sb12 1
          refine step_skip rfl _ (run_storeI _ _ (.tmp 133) (.tmp 132) ⟨w3.heap.size, 1, none⟩ va12 n12 vc12 _ rfl (by first | (simp [Act.eval]; done) | simp [Act.eval, Act.put]) (by first | (simp [Act.eval]; done) | simp [Act.eval, Act.put]) w12 s1 fs1) ?_
          refine hK.out _ _ (by show (w12.setCell ⟨w3.heap.size, 1, none⟩ _).cell? _ = _; rw [World.cell?_setCell_far _ _ _ _ (fun e => hne31 e)]; exact KP.out _ (H56.out _ G12.out.1)) (fun _ => ?_)
          clear hK K s1 fs1 sb12
          refine wpAnyH_done (by kernel_rfl) ?_ _
          have hn12' : n12 = y.ids.length + 1 := by rw [hn12]; simp; omega
          subst hn12'
          go_wp2_with fail
          go_meet
          exact ⟨va12, vc12, w12, rfl, G12.out.1, (by have := G12.out.2; rw [show (y.ids.take j).length + [p.seq].length + (y.ids.drop j).length = y.ids.length + 1 by simp; omega] at this; exact this)⟩
      case rest =>
      obtain ⟨va, vc, w12, hwd, b12, row12⟩ := hcut
      subst hwd
      have bW := H56.out _ b12
      have st12 := H5.out.1.below bW
      have hL2 : ∀ b, LkBlk (.slice oa1 l.out.length oc1) (.slice (some ⟨g, 0, none⟩) l.seen.length sc1) (A ++ (y, .slice (some ⟨ig, 0, none⟩) y.ids.length ic) :: D) b → b ≠ w3.heap.size ∧ b < W5.heap.size := fun b hl => by
        refine ⟨?_, (H5.out.1.own.own hl).2⟩
        rcases hl with h1 | h1 | ⟨r, hr, h1⟩
        · have := hLk.out b (.inl h1); omega
        · have := hLk.out b (.inr (.inl h1)); omega
        · rw [List.mem_append, List.mem_cons] at hr
          rcases hr with hr | rfl | hr
          · have := hLk.out b (.inr (.inr ⟨r, by simp [hr], h1⟩)); omega
          · have h2 : ig = b := Option.some.inj h1
            omega
          · have := hLk.out b (.inr (.inr ⟨r, by simp [hr], h1⟩)); omega
      have stX : TkSt w (w12.setCell ⟨w3.heap.size, 1, none⟩ (.slice va (y.ids.length + 1) vc)) l p (.slice oa l.out.length oc) (.slice sa l.seen.length sc) w1.heap.size W0.heap.size (l.setSe f y) (.slice oa1 l.out.length oc1) (.slice (some ⟨g, 0, none⟩) l.seen.length sc1) (A ++ (y, .slice (some ⟨ig, 0, none⟩) y.ids.length ic) :: D) :=
        st12.kept (KB.setCell (X := fun b => b = w3.heap.size) (KB.refl _ w12) rfl _) (fun b hb => ⟨by omega, fun hl => (hL2 b hl).1 hb⟩)
      have hvb : ∀ b, (Value.slice va (y.ids.length + 1) vc).ownBlock = some b → wc.heap.size ≤ b := fun b hb => (own_type row12 b hb).1
      have hids : intVs (y.ids.take j) ++ intVs [p.seq] ++ intVs (y.ids.drop j) = intVs (y.ids.take j ++ p.seq :: y.ids.drop j) := by unfold intVs; simp
      have hlen : (y.ids.take j ++ p.seq :: y.ids.drop j).length = y.ids.length + 1 := by simp; omega
      have hBc : W0.heap.size ≤ wc.heap.size := by have := st12.ord; omega
      have rowX : (w12.setCell ⟨w3.heap.size, 1, none⟩ (.slice va (y.ids.length + 1) vc)).ownsRow W0.heap.size 3 1 (.slice va (y.ids.length + 1) vc) (y.ids.take j ++ p.seq :: y.ids.drop j).length (intVs (y.ids.take j ++ p.seq :: y.ids.drop j)) := by
        rw [hlen, ← hids]
        exact own_mono (own_moved row12 (fun b hb => Below.heap_setCell _ _ _ _ (by have := hvb b hb; show b ≠ w3.heap.size; omega))) hBc
      have hok' : SeOk ⟨y.low, y.ids.take j ++ p.seq :: y.ids.drop j⟩ := ⟨H5.out.2.2.2.1, fun z hz => by
        rw [List.mem_append, List.mem_cons] at hz
        rcases hz with h1 | rfl | h1
        · exact H5.out.2.2.2.2 z (List.mem_of_mem_take h1)
        · exact hpq
        · exact H5.out.2.2.2.2 z (List.mem_of_mem_drop h1)⟩
      have st6 := stX.put (f := f) (x := ⟨y.low, y.ids.take j ++ p.seq :: y.ids.drop j⟩) (kv := (.slice va (y.ids.length + 1) vc)) (by simp [Lk.setSe]) H4.out.2.1 rowX hok' (fun b hl e => by have := hvb b e; have := (hL2 b hl).2; omega) (fun e => by have := hvb _ e; omega)
      have hset : (l.setSe f y).setSe f ⟨y.low, y.ids.take j ++ p.seq :: y.ids.drop j⟩ = l.setSe f ⟨y.low, y.ids.take j ++ p.seq :: y.ids.drop j⟩ := by unfold Lk.setSe; simp
      rw [hset] at st6
      obtain ⟨t0, t1, t2, t3⟩ := lbox st12.obx
      obtain ⟨x0, x1, x2, x3, x4, x5⟩ := pbox6 st12.pbx
      rw [hf] at x1
      obtain ⟨e0, e1⟩ := st12.own.seen.cellAt
      rw [H4.out.2.1] at e0 e1
      obtain ⟨gcs', hgcs'⟩ := (own_type st12.own.seen.cells g rfl).2
      have fg0 : w12.frozen? ⟨g, f * 2, none⟩ = false := unfrozen_of_block hgcs' _
      have fg1 : w12.frozen? ⟨g, f * 2 + 1, none⟩ = false := unfrozen_of_block hgcs' _
      have sb12 := (bW.block _ hlt5).trans H5.out.2.1
      have u0 : w12.cell? ⟨w3.heap.size, 0, none⟩ = some (.int .i64 lo) := (cell_of_block sb12 0).trans rfl
      have u1 : w12.cell? ⟨w3.heap.size, 1, none⟩ = some (.slice (some ⟨ig, 0, none⟩) y.ids.length ic) := (cell_of_block sb12 1).trans rfl
      have hgs : ¬ w3.heap.size = g := by omega
      have hgs' : ¬ g = w3.heap.size := by omega
      have hn1 : ¬ w3.heap.size = w1.heap.size := by omega
      have hn2 : ¬ w3.heap.size = w.heap.size + 1 := by omega
      have H6' := (show Hid (_ ∧ _) from ⟨st6, hyl'.out⟩)
      clear st6 stX st12 rowX row12 hok' hL2 hvb bW b12 sb12 hgcs' hids hlen hset
      go_upto_region 24 with fail
      have H7 := H6'.out.1
      rw [show (⟨y.low, y.ids.take j ++ p.seq :: y.ids.drop j⟩ : Se).low = lo from H6'.out.2] at H7
      have H8 := (show Hid (_ ∧ True) from ⟨H7, trivial⟩)
      clear H7 H6' t0 t1 t2 t3 x0 x1 x2 x3 x4 x5 e0 e1 fg0 fg1 u0 u1
      generalize ((w12.setCell ⟨w3.heap.size, 1, none⟩ (.slice va (y.ids.length + 1) vc)).setCell ⟨g, f * 2, none⟩ (.int .i64 lo)).setCell ⟨g, f * 2 + 1, none⟩ (.slice va (y.ids.length + 1) vc) = W9 at *
      obtain ⟨c10, c11, c12, c13⟩ := lbox H8.out.1.res
      have f10 : W9.frozen? ⟨w.heap.size + 1 + 1, 0, none⟩ = false := unfrozen_of_block H8.out.1.res 0
      have f11 : W9.frozen? ⟨w.heap.size + 1 + 1, 1, none⟩ = false := unfrozen_of_block H8.out.1.res 1
      have f12 : W9.frozen? ⟨w.heap.size + 1 + 1, 2, none⟩ = false := unfrozen_of_block H8.out.1.res 2
      have f13 : W9.frozen? ⟨w.heap.size + 1 + 1, 3, none⟩ = false := unfrozen_of_block H8.out.1.res 3
      obtain ⟨t0, t1, t2, t3⟩ := lbox H8.out.1.obx
      go_wp2_with fail
      refine bodyPost_ret (v := .tuple #[.agg (l.row (.slice oa1 l.out.length oc1) (.slice (some ⟨g, 0, none⟩) l.seen.length sc1)), .bool true, .bool true]) (by simp [results, Tryz.results10, go_sem, c10, c11, c12, c13, Lk.setSe]) rfl ?_
      obtain ⟨z1, z2⟩ := H8.out.1.fin (.int .i64 l.id) (.int .i64 l.next) (.slice oa1 l.out.length oc1) (.slice (some ⟨g, 0, none⟩) l.seen.length sc1)
      have HN2 := HNW.out
      rw [hyl'.out] at HN2
      rw [HN2.1, HN2.2.1, HN2.2.2]
      first | exact ⟨_, _, _, _, rfl, z1, z2⟩ | exact ⟨_, rfl, ⟨_, _, _, z1⟩, z2⟩
end Go.Proofs.YtlbinamlehapoaaGreatDoor
