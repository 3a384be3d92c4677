/-
  Ascending numbers: what lies below one stands ahead; what take makes of a Seen, in plain words.
  The program's take: a pack is taken into a link, or there is an error.
-/
import Derived.Test.YtlbinamlehapoaaGreatDoorMZ
import Derived.Test.YtlbinamlehapoaaGreatDoorMK
import Derived.Test.YtlbinamlehapoaaGreatDoorLinkTakeS
import Derived.Test.YtlbinamlehapoaaGreatDoorNA
import Derived.Test.YtlbinamlehapoaaGreatDoorImplLinkOk
import Derived.Test.YtlbinamlehapoaaGreatDoorMX
import Derived.Test.YtlbinamlehapoaaGreatDoorMW
import Derived.Deep.RegionHeld3
namespace Go.Proofs.YtlbinamlehapoaaGreatDoor
open Go.RowKit Go.Joins

theorem asc_sorted : ∀ (l : List Int) (a b : Int), ascB l a b = true → l.Pairwise (· < ·) ∧ ∀ z ∈ l, a ≤ z
  | [], _, _, _ => ⟨List.Pairwise.nil, fun z hz => by cases hz⟩
  | n :: r, a, b, h => by
    unfold ascB at h
    simp only [Bool.and_eq_true] at h
    obtain ⟨h1, h2⟩ := asc_sorted r (n + 1) b h.2
    have hn : a ≤ n := by have := h.1; unfold inB at this; simp at this; exact this.1
    refine ⟨List.Pairwise.cons (fun z hz => by have := h2 z hz; omega) h1, fun z hz => ?_⟩
    rcases List.mem_cons.1 hz with rfl | hz
    · exact hn
    · have := h2 z hz; omega
theorem count_drop {l : List Int} (h : l.Pairwise (· < ·)) (z : Int) : l.drop (l.countP (· < z)) = l.filter (fun y => decide (z ≤ y)) := by
  induction l with
  | nil => rfl
  | cons a r ih =>
    rw [List.pairwise_cons] at h
    by_cases ha : a < z
    · have h1 : ¬ z ≤ a := by omega
      rw [List.countP_cons_of_pos (by simpa using ha), List.drop_succ_cons, List.filter_cons_of_neg (by simpa using h1)]
      exact ih h.2
    · have h1 : r.countP (· < z) = 0 := List.countP_eq_zero.2 (fun y hy => by have := h.1 y hy; simp; omega)
      rw [List.countP_cons_of_neg (by simpa using ha), h1, List.drop_zero]
      exact (List.filter_eq_self.2 (fun y hy => by
        rcases List.mem_cons.1 hy with rfl | hy
        · simp; omega
        · have := h.1 y hy; simp; omega)).symm
theorem count_place {l : List Int} (h : l.Pairwise (· < ·)) (q : Int) : l.countP (· < q) = placeL l q := by
  induction l with
  | nil => rfl
  | cons a r ih =>
    rw [List.pairwise_cons] at h
    unfold placeL
    by_cases ha : a < q
    · rw [List.countP_cons_of_pos (by simpa using ha), List.takeWhile_cons_of_pos (by simpa using ha), ih h.2]
      rfl
    · rw [List.countP_cons_of_neg (by simpa using ha), List.takeWhile_cons_of_neg (by simpa using ha)]
      exact List.countP_eq_zero.2 (fun y hy => by have := h.1 y hy; simp; omega)
theorem pair_le {l : List Int} (h : l.Pairwise (· < ·)) : l.Pairwise (· ≤ ·) := h.imp (fun h => Int.le_of_lt h)
/-- What take's three ends say. -/
theorem take_cases {l : Lk} {p : Pa} {y : Se} {f : Nat} (ht : l.takes p = true) (hy : l.seenOf p = y) (hf : p.frm.toNat = f) (hs : y.ids.Pairwise (· < ·)) :
    ((y.ids.contains p.seq || decide (p.seq < y.low)) = true → l.fresh p = false ∧ l.due p = true ∧ l.take p = l.setSe f y) ∧
    ((y.ids.contains p.seq || decide (p.seq < y.low)) = false → 60 ≤ y.ids.length → l.fresh p = false ∧ l.due p = false ∧ l.take p = l.setSe f y) ∧
    ((y.ids.contains p.seq || decide (p.seq < y.low)) = false → ¬ 60 ≤ y.ids.length → l.fresh p = true ∧ l.due p = true ∧ l.take p = l.setSe f ⟨y.low, y.ids.take (y.ids.countP (· < p.seq)) ++ p.seq :: y.ids.drop (y.ids.countP (· < p.seq))⟩) := by
  refine ⟨fun h => ?_, fun h h6 => ?_, fun h h6 => ?_⟩
  · exact take_has ht hy hf (by unfold Se.has; rw [Bool.or_comm]; exact h)
  · exact take_full ht hy hf (by unfold Se.has; rw [Bool.or_comm]; exact h) h6
  · rw [count_place hs]
    exact take_new ht hy hf (by unfold Se.has; rw [Bool.or_comm]; exact h) h6
theorem among_takes {l : Lk} {p : Pa} (hl : l.ok = true) (hp : p.ok = true) : amongB p.frm l.seen.length = decide (p.frm < l.seen.length) := by
  have h1 : (l.seen.length : Int) ≤ 31 := by
    have h1 := (Lk.parts hl).1
    unfold amongB at h1
    simp only [Bool.and_eq_true, decide_eq_true_eq] at h1
    exact h1.1.1
  have h2 : 0 ≤ p.frm := by
    have h1 := hp
    unfold Pa.ok apartB nodeOk inB at h1
    simp only [Bool.and_eq_true, decide_eq_true_eq] at h1
    omega
  unfold amongB
  simp [h1, h2]
end Go.Proofs.YtlbinamlehapoaaGreatDoor

namespace Go.Proofs.YtlbinamlehapoaaGreatDoor
open Go.RowKit Go.Joins Go.Shelf

set_option maxRecDepth 100000

/-- The errors of LinkTake, where the program has laid them. -/
structure EGT (a0 a2 a3 a4 : Addr) (w : World) : Prop where
  g0 : w.cell? ⟨0, 0, none⟩ = some (errV a0)
  g2 : w.cell? ⟨2, 0, none⟩ = some (errV a2)
  g3 : w.cell? ⟨3, 0, none⟩ = some (errV a3)
  g4 : w.cell? ⟨4, 0, none⟩ = some (errV a4)
  b0 : ∃ c t, w.heap[a0.block]? = some (.cells c t (0, 0))
  b2 : ∃ c t, w.heap[a2.block]? = some (.cells c t (0, 0))
  b3 : ∃ c t, w.heap[a3.block]? = some (.cells c t (0, 0))
  b4 : ∃ c t, w.heap[a4.block]? = some (.cells c t (0, 0))
  ne : a0 ≠ a2 ∧ a0 ≠ a3 ∧ a0 ≠ a4 ∧ a2 ≠ a3 ∧ a2 ≠ a4 ∧ a3 ≠ a4
theorem EGT.below {a0 a2 a3 a4 : Addr} {w w' : World} (h : EGT a0 a2 a3 a4 w) (hb : Below w.heap.size w w') : EGT a0 a2 a3 a4 w' := by
  have hl : ∀ {b : Nat} {u : Value}, w.cell? ⟨b, 0, none⟩ = some u → w'.cell? ⟨b, 0, none⟩ = some u := fun {b u} hc => by
    have hlt : b < w.heap.size := World.block_lt_of_cell? _ _ hc
    rw [hb.cell (by exact hlt)]
    exact hc
  have hk : ∀ {b : Nat} {o : Obj}, w.heap[b]? = some o → w'.heap[b]? = some o := fun hc => (hb.block _ (lt_heap hc)).trans hc
  obtain ⟨c0, t0, e0⟩ := h.b0
  obtain ⟨c2, t2, e2⟩ := h.b2
  obtain ⟨c3, t3, e3⟩ := h.b3
  obtain ⟨c4, t4, e4⟩ := h.b4
  exact ⟨hl h.g0, hl h.g2, hl h.g3, hl h.g4, ⟨c0, t0, hk e0⟩, ⟨c2, t2, hk e2⟩, ⟨c3, t3, hk e3⟩, ⟨c4, t4, hk e4⟩, h.ne⟩
theorem obt {W : World} {b b' : Nat} {l : Lk} {p : Pa} {ov sv : Value} {t t' : TypeId} (h : W.heap[b]? = some (.cells (l.row ov sv) t)) (h' : W.heap[b']? = some (.cells p.row t')) : W.cell? ⟨b, 0, none⟩ = some (.int .i64 l.id) ∧ W.cell? ⟨b, 3, none⟩ = some sv ∧ W.cell? ⟨b', 0, none⟩ = some (.int .i64 p.kind) ∧ W.cell? ⟨b', 1, none⟩ = some (.int .i64 p.frm) ∧ W.cell? ⟨b', 2, none⟩ = some (.int .i64 p.dst) ∧ W.cell? ⟨b', 3, none⟩ = some (.int .i64 p.seq) ∧ W.cell? ⟨b', 4, none⟩ = some (.int .i64 p.low) ∧ W.cell? ⟨b', 5, none⟩ = some (.string p.body) := by
  obtain ⟨h0, h1, h2, h3⟩ := lbox h
  exact ⟨h0, h3, (cell_of_block h' 0).trans rfl, (cell_of_block h' 1).trans rfl, (cell_of_block h' 2).trans rfl, (cell_of_block h' 3).trans rfl, (cell_of_block h' 4).trans rfl, (cell_of_block h' 5).trans rfl⟩
theorem ent_packOk : ∀ args w, (callFunc 69 args).run Tryz.prog w = .ok (.enter 69 args) w := enters_of Tryz.func69 (by kernel_rfl) rfl
theorem ent_isAmong : ∀ args w, (callFunc 42 args).run Tryz.prog w = .ok (.enter 42 args) w := enters_of Tryz.func42 (by kernel_rfl) rfl
theorem ent_takenOf : ∀ args w, (callFunc 70 args).run Tryz.prog w = .ok (.enter 70 args) w := enters_of Tryz.func70 (by kernel_rfl) rfl
theorem ent_seen : ∀ args w, (callFunc 73 args).run Tryz.prog w = .ok (.enter 73 args) w := enters_of Tryz.func73 (by kernel_rfl) rfl
/-- A call whose guard holds, as one step of a region that draws. -/
theorem step_callG {P : Program} {ops : Array Oper} {o : Oper} {a : Act} {w : World} {K : Act → World → Prop} {Q : Exit → Act → World → Prop} {E : Prop}
    (hw : Region.wanted o (yielded ops a.tmps) = true) (f : FuncId) (x y : Operand) (ts : Array TypeId) (hop : o.op = Op.call { callee := Callee.value (.func f), args := #[x, y], argTypes := ts }) (hent : ∀ args w, (callFunc f args).run P w = .ok (.enter f args) w)
    (u v : Value) (hx : a.eval x = u) (hy : a.eval y = v) (Post : Value → World → Prop) (hc : Calls P f #[u, v] w fun e w' => ∃ r, e = .returned r ∧ Post r w') (hK : ∀ r w', Post r w' → K (a.put o.dst r) w') :
    if Region.wanted o (yielded ops a.tmps) = true then Oper.wp P o a w K Q else E := by
  rw [if_pos hw]
  unfold Oper.wp execOp
  have hf : a.eval (.func f) = .func (.func f) #[] #[] := rfl
  simp [hop, resolve, invoke, hx, hy, hf, hent, Deferred.ofValue]
  refine hc.mono ?_
  rintro e w' ⟨r, rfl, h⟩
  exact hK r w' h
/-- What take answers. -/
def TakePost (w : World) (l : Lk) (p : Pa) (lov lsv : Value) (ob Bc : Nat) (ov sv : Value) (a0 a2 a3 a4 : Addr) (e : Ending) (W' : World) : Prop :=
  ∃ rs', TkSt w W' l p lov lsv ob Bc (l.take p) ov sv rs' ∧
    (((∃ a, (a = a0 ∨ a = a2 ∨ a = a3) ∧ e = .returned (errV a)) ∧ l.fresh p = false ∧ l.due p = false) ∨
     (e = .returned (errV a4) ∧ l.fresh p = false ∧ l.due p = true) ∨
     (e = .returned .nilIface ∧ l.fresh p = true ∧ l.due p = true))
theorem TakePost.no {w W W' : World} {l : Lk} {p : Pa} {lov lsv ov sv : Value} {ob Bc : Nat} {rs : List (Se × Value)} {a0 a2 a3 a4 a : Addr} (h : TkSt w W l p lov lsv ob Bc l ov sv rs) (hb : Below W.heap.size W W') (hn : l.takes p = false) (ha : a = a0 ∨ a = a2 ∨ a = a3) : TakePost w l p lov lsv ob Bc ov sv a0 a2 a3 a4 (.returned (errV a)) W' := by
  obtain ⟨h1, h2, h3⟩ := take_no hn
  exact ⟨rs, by rw [h3]; exact h.below hb, .inl ⟨⟨a, ha, rfl⟩, h1, h2⟩⟩

set_option maxHeartbeats 1600000 in
theorem take_any {w W : World} {l : Lk} {p : Pa} {lov lsv : Value} {oa1 sa1 : Option Addr} {oc1 sc1 ob Bc : Nat} {rs : List (Se × Value)} {a0 a2 a3 a4 : Addr}
    (h : TkSt w W l p lov lsv ob Bc l (.slice oa1 l.out.length oc1) (.slice sa1 l.seen.length sc1) rs)
    (hb : l.bulk ≤ 1048576) (hs : p.body.size ≤ 1048576) (hpf : inI64 p.kind ∧ inI64 p.frm ∧ inI64 p.dst ∧ inI64 p.seq ∧ inI64 p.low) (he : EGT a0 a2 a3 a4 W) (hg : ET W) :
    Calls Tryz.prog 37 #[.pointer (some ⟨ob, 0, none⟩), .agg p.row] W (TakePost w l p lov lsv ob Bc (.slice oa1 l.out.length oc1) (.slice sa1 l.seen.length sc1) a0 a2 a3 a4) := by
  have hnot := ex_not
  obtain ⟨W0, hW0⟩ : ∃ W0, W0 = W.alloc (.cells p.row 38) := ⟨_, rfl⟩
  have B0 : Below W.heap.size W W0 := by rw [hW0]; exact (Below.refl _ W).alloc (Nat.le_refl _) _
  have O0 : W0.heap[W.heap.size]? = some (.cells p.row 38) := by rw [hW0]; exact (MapKept.heap_alloc W _).1
  have hs0 : W.heap.size + 1 ≤ W0.heap.size := lt_heap O0
  have st0 := h.below B0
  have H0 := (show Hid (_ ∧ _ ∧ _ ∧ _) from ⟨B0, O0, st0, hW0⟩)
  have HL := (show Hid (_ ∧ _ ∧ _) from ⟨he, hg, h⟩)
  obtain ⟨p0, p1, p2, p3⟩ := lbox h.obx
  have hob : ob < W.heap.size := lt_heap h.obx
  have hsl : l.seen.length ≤ maxLen := by obtain ⟨_, _, _, _, _, _, h4⟩ := h.own.at; exact h4.len
  clear B0 O0 hW0 st0 h he hg
  go_enter Tryz.func37, Tryz.ntmps37
  go_wp2_with fail
  clear p0 p1 p2 p3
  rw [← (show W0 = _ from H0.out.2.2.2)]
  refine (implLinkOk_any _ l _ W0 H0.out.2.2.1.own.at hb (HL.out.2.1.below H0.out.1)).mono ?_
  rintro e w1 ⟨rfl, b1⟩
  have hs1 : W0.heap.size ≤ w1.heap.size := b1.size
  have b01 := H0.out.1.trans (b1.mono (by omega))
  have H1 := (show Hid (_ ∧ _ ∧ _ ∧ _) from ⟨b01, (b1.block _ (lt_heap H0.out.2.1)).trans H0.out.2.1, H0.out.2.2.1.below b1, HL.out.1.below b01⟩)
  have hs01 : W.heap.size ≤ w1.heap.size := by omega
  have hpb1 : W.heap.size < w1.heap.size := by omega
  clear b1 b01 H0
  cases hlo : l.ok with
  | false =>
    have HN : Hid (l.takes p = false) := by show _ = _; unfold Lk.takes; rw [hlo]; rfl
    clear hlo
    have g0 := H1.out.2.2.2.g0
    go_wp2
    go_ret
    exact TakePost.no HL.out.2.2 H1.out.1 HN.out (.inl rfl)
  | true =>
  have hS1 := obt H1.out.2.2.1.obx H1.out.2.1
  have K1 := (show Hid (_ ∧ _) from ⟨fun (wx : World) (hx : Below w1.heap.size w1 wx) => obt ((hx.block _ (lt_heap H1.out.2.2.1.obx)).trans H1.out.2.2.1.obx) ((hx.block _ (lt_heap H1.out.2.1)).trans H1.out.2.1), (Below.refl w1.heap.size w1).drew⟩)
  go_wp2_with fail
  refine wp_region_held_drew (S := fun w' => w'.cell? ⟨ob, 0, none⟩ = some (.int .i64 l.id) ∧ w'.cell? ⟨ob, 3, none⟩ = some (.slice sa1 l.seen.length sc1) ∧ w'.cell? ⟨W.heap.size, 0, none⟩ = some (.int .i64 p.kind) ∧ w'.cell? ⟨W.heap.size, 1, none⟩ = some (.int .i64 p.frm) ∧ w'.cell? ⟨W.heap.size, 2, none⟩ = some (.int .i64 p.dst) ∧ w'.cell? ⟨W.heap.size, 3, none⟩ = some (.int .i64 p.seq) ∧ w'.cell? ⟨W.heap.size, 4, none⟩ = some (.int .i64 p.low) ∧ w'.cell? ⟨W.heap.size, 5, none⟩ = some (.string p.body)) (by kernel_rfl) (K1.out.1 _ K1.out.2) (fun hS => ?_)
  refine wpAnyH_take (i := 0) (v := .agg #[.int .i64 p.kind, .int .i64 p.frm, .int .i64 p.dst, .int .i64 p.seq, .int .i64 p.low, .string p.body]) rfl (by kernel_rfl) (by kernel_rfl) (by kernel_rfl) (fun _ _ _ h => h) (Or.inl ⟨by rfl, ?_⟩) hS ?_
  · intro wq hSw
    obtain ⟨q0, q3, y0, y1, y2, y3, y4, y5⟩ := hSw
    go_simp
  simp only [Act.put, List.getElem_toArray, List.getElem_cons_zero, List.setIfInBounds_toArray, List.set_cons_zero, List.set_cons_succ]
  refine wpAnyH_ready (rs := [1]) (by kernel_rfl) (by simp) ?_
  refine AllReadyH.cons rfl (fun K hK => ?_) AllReadyH.nil
  refine step_call1 rfl 69 (.tmp 13) _ rfl ent_packOk (.agg #[.int .i64 p.kind, .int .i64 p.frm, .int .i64 p.dst, .int .i64 p.seq, .int .i64 p.low, .string p.body]) (by simp [Act.eval]) (fun r w' => r = .bool p.ok ∧ Below w1.heap.size w1 w') ((implPackOk_any p _ hs (HL.out.2.1.below (H1.out.1.trans (K1.out.2.mono hs01)))).mono (fun e w' h => ⟨_, h.1, rfl, K1.out.2.trans h.2⟩)) ?_
  rintro r w2 ⟨rfl, b2⟩
  have hs2 : w1.heap.size ≤ w2.heap.size := b2.size
  have hS2 := K1.out.1 w2 b2
  refine hK.out _ _ hS2 (fun _ => ?_)
  clear hK K
  simp only [Act.put, List.getElem_toArray, List.getElem_cons_zero, List.getElem_cons_succ, List.setIfInBounds_toArray, List.set_cons_zero, List.set_cons_succ]
  have H2 := (show Hid (_ ∧ _ ∧ _ ∧ _) from ⟨H1.out.1.trans (b2.mono hs01), (b2.block _ (lt_heap H1.out.2.1)).trans H1.out.2.1, H1.out.2.2.1.below b2, H1.out.2.2.2.below b2⟩)
  clear b2 K1 hS1 hS H1
  cases hpo : p.ok with
  | false =>
    have HN : Hid (l.takes p = false) := by show _ = _; unfold Lk.takes; rw [hpo]; simp
    clear hpo
    refine wpAnyH_take (i := 2) (v := .bool true) rfl (by kernel_rfl) (by kernel_rfl) (by kernel_rfl) (fun _ _ _ h => h) (Or.inl ⟨by rfl, ?_⟩) hS2 ?_
    · intro wq hSw
      go_simp
    simp only [Act.put, List.getElem_toArray, List.getElem_cons_zero, List.getElem_cons_succ, List.setIfInBounds_toArray, List.set_cons_zero, List.set_cons_succ]
    refine wpAnyH_take (i := 3) (v := .bool true) rfl (by kernel_rfl) (by kernel_rfl) (by kernel_rfl) (fun _ _ _ h => h) (Or.inl ⟨by rfl, ?_⟩) hS2 ?_
    · intro wq hSw
      go_simp
    simp only [Act.put, List.getElem_toArray, List.getElem_cons_zero, List.getElem_cons_succ, List.setIfInBounds_toArray, List.set_cons_zero, List.set_cons_succ]
    refine wpAnyH_take (i := 4) (v := undef) rfl (by kernel_rfl) (by kernel_rfl) (by kernel_rfl) (fun _ _ _ h => h) (Or.inr ⟨by rfl, rfl⟩) hS2 ?_
    simp only [Act.put, List.getElem_toArray, List.getElem_cons_zero, List.getElem_cons_succ, List.setIfInBounds_toArray, List.set_cons_zero, List.set_cons_succ]
    refine wpAnyH_take (i := 5) (v := undef) rfl (by kernel_rfl) (by kernel_rfl) (by kernel_rfl) (fun _ _ _ h => h) (Or.inr ⟨by rfl, rfl⟩) hS2 ?_
    simp only [Act.put, List.getElem_toArray, List.getElem_cons_zero, List.getElem_cons_succ, List.setIfInBounds_toArray, List.set_cons_zero, List.set_cons_succ]
    refine wpAnyH_take (i := 6) (v := undef) rfl (by kernel_rfl) (by kernel_rfl) (by kernel_rfl) (fun _ _ _ h => h) (Or.inr ⟨by rfl, rfl⟩) hS2 ?_
    simp only [Act.put, List.getElem_toArray, List.getElem_cons_zero, List.getElem_cons_succ, List.setIfInBounds_toArray, List.set_cons_zero, List.set_cons_succ]
    refine wpAnyH_take (i := 7) (v := .bool true) rfl (by kernel_rfl) (by kernel_rfl) (by kernel_rfl) (fun _ _ _ h => h) (Or.inl ⟨by rfl, ?_⟩) hS2 ?_
    · intro wq hSw
      go_simp
    simp only [Act.put, List.getElem_toArray, List.getElem_cons_zero, List.getElem_cons_succ, List.setIfInBounds_toArray, List.set_cons_zero, List.set_cons_succ]
    refine wpAnyH_take (i := 8) (v := .bool true) rfl (by kernel_rfl) (by kernel_rfl) (by kernel_rfl) (fun _ _ _ h => h) (Or.inl ⟨by rfl, ?_⟩) hS2 ?_
    · intro wq hSw
      go_simp
    simp only [Act.put, List.getElem_toArray, List.getElem_cons_zero, List.getElem_cons_succ, List.setIfInBounds_toArray, List.set_cons_zero, List.set_cons_succ]
    refine wpAnyH_take (i := 9) (v := undef) rfl (by kernel_rfl) (by kernel_rfl) (by kernel_rfl) (fun _ _ _ h => h) (Or.inr ⟨by rfl, rfl⟩) hS2 ?_
    simp only [Act.put, List.getElem_toArray, List.getElem_cons_zero, List.getElem_cons_succ, List.setIfInBounds_toArray, List.set_cons_zero, List.set_cons_succ]
    refine wpAnyH_take (i := 10) (v := undef) rfl (by kernel_rfl) (by kernel_rfl) (by kernel_rfl) (fun _ _ _ h => h) (Or.inr ⟨by rfl, rfl⟩) hS2 ?_
    simp only [Act.put, List.getElem_toArray, List.getElem_cons_zero, List.getElem_cons_succ, List.setIfInBounds_toArray, List.set_cons_zero, List.set_cons_succ]
    refine wpAnyH_take (i := 11) (v := undef) rfl (by kernel_rfl) (by kernel_rfl) (by kernel_rfl) (fun _ _ _ h => h) (Or.inr ⟨by rfl, rfl⟩) hS2 ?_
    simp only [Act.put, List.getElem_toArray, List.getElem_cons_zero, List.getElem_cons_succ, List.setIfInBounds_toArray, List.set_cons_zero, List.set_cons_succ]
    refine wpAnyH_take (i := 12) (v := undef) rfl (by kernel_rfl) (by kernel_rfl) (by kernel_rfl) (fun _ _ _ h => h) (Or.inr ⟨by rfl, rfl⟩) hS2 ?_
    simp only [Act.put, List.getElem_toArray, List.getElem_cons_zero, List.getElem_cons_succ, List.setIfInBounds_toArray, List.set_cons_zero, List.set_cons_succ]
    refine wpAnyH_take (i := 13) (v := undef) rfl (by kernel_rfl) (by kernel_rfl) (by kernel_rfl) (fun _ _ _ h => h) (Or.inr ⟨by rfl, rfl⟩) hS2 ?_
    simp only [Act.put, List.getElem_toArray, List.getElem_cons_zero, List.getElem_cons_succ, List.setIfInBounds_toArray, List.set_cons_zero, List.set_cons_succ]
    refine wpAnyH_take (i := 14) (v := undef) rfl (by kernel_rfl) (by kernel_rfl) (by kernel_rfl) (fun _ _ _ h => h) (Or.inr ⟨by rfl, rfl⟩) hS2 ?_
    simp only [Act.put, List.getElem_toArray, List.getElem_cons_zero, List.getElem_cons_succ, List.setIfInBounds_toArray, List.set_cons_zero, List.set_cons_succ]
    refine wpAnyH_take (i := 15) (v := undef) rfl (by kernel_rfl) (by kernel_rfl) (by kernel_rfl) (fun _ _ _ h => h) (Or.inr ⟨by rfl, rfl⟩) hS2 ?_
    simp only [Act.put, List.getElem_toArray, List.getElem_cons_zero, List.getElem_cons_succ, List.setIfInBounds_toArray, List.set_cons_zero, List.set_cons_succ]
    refine wpAnyH_take (i := 16) (v := .bool true) rfl (by kernel_rfl) (by kernel_rfl) (by kernel_rfl) (fun _ _ _ h => h) (Or.inl ⟨by rfl, ?_⟩) hS2 ?_
    · intro wq hSw
      go_simp
    simp only [Act.put, List.getElem_toArray, List.getElem_cons_zero, List.getElem_cons_succ, List.setIfInBounds_toArray, List.set_cons_zero, List.set_cons_succ]
    refine wpAnyH_take (i := 17) (v := .bool true) rfl (by kernel_rfl) (by kernel_rfl) (by kernel_rfl) (fun _ _ _ h => h) (Or.inl ⟨by rfl, ?_⟩) hS2 ?_
    · intro wq hSw
      go_simp
    simp only [Act.put, List.getElem_toArray, List.getElem_cons_zero, List.getElem_cons_succ, List.setIfInBounds_toArray, List.set_cons_zero, List.set_cons_succ]
    refine wpAnyH_take (i := 18) (v := undef) rfl (by kernel_rfl) (by kernel_rfl) (by kernel_rfl) (fun _ _ _ h => h) (Or.inr ⟨by rfl, rfl⟩) hS2 ?_
    simp only [Act.put, List.getElem_toArray, List.getElem_cons_zero, List.getElem_cons_succ, List.setIfInBounds_toArray, List.set_cons_zero, List.set_cons_succ]
    refine wpAnyH_take (i := 19) (v := undef) rfl (by kernel_rfl) (by kernel_rfl) (by kernel_rfl) (fun _ _ _ h => h) (Or.inr ⟨by rfl, rfl⟩) hS2 ?_
    simp only [Act.put, List.getElem_toArray, List.getElem_cons_zero, List.getElem_cons_succ, List.setIfInBounds_toArray, List.set_cons_zero, List.set_cons_succ]
    refine wpAnyH_take (i := 20) (v := undef) rfl (by kernel_rfl) (by kernel_rfl) (by kernel_rfl) (fun _ _ _ h => h) (Or.inr ⟨by rfl, rfl⟩) hS2 ?_
    simp only [Act.put, List.getElem_toArray, List.getElem_cons_zero, List.getElem_cons_succ, List.setIfInBounds_toArray, List.set_cons_zero, List.set_cons_succ]
    refine wpAnyH_take (i := 21) (v := undef) rfl (by kernel_rfl) (by kernel_rfl) (by kernel_rfl) (fun _ _ _ h => h) (Or.inr ⟨by rfl, rfl⟩) hS2 ?_
    simp only [Act.put, List.getElem_toArray, List.getElem_cons_zero, List.getElem_cons_succ, List.setIfInBounds_toArray, List.set_cons_zero, List.set_cons_succ]
    refine wpAnyH_take (i := 22) (v := undef) rfl (by kernel_rfl) (by kernel_rfl) (by kernel_rfl) (fun _ _ _ h => h) (Or.inr ⟨by rfl, rfl⟩) hS2 ?_
    simp only [Act.put, List.getElem_toArray, List.getElem_cons_zero, List.getElem_cons_succ, List.setIfInBounds_toArray, List.set_cons_zero, List.set_cons_succ]
    refine wpAnyH_take (i := 23) (v := undef) rfl (by kernel_rfl) (by kernel_rfl) (by kernel_rfl) (fun _ _ _ h => h) (Or.inr ⟨by rfl, rfl⟩) hS2 ?_
    simp only [Act.put, List.getElem_toArray, List.getElem_cons_zero, List.getElem_cons_succ, List.setIfInBounds_toArray, List.set_cons_zero, List.set_cons_succ]
    refine wpAnyH_take (i := 24) (v := undef) rfl (by kernel_rfl) (by kernel_rfl) (by kernel_rfl) (fun _ _ _ h => h) (Or.inr ⟨by rfl, rfl⟩) hS2 ?_
    simp only [Act.put, List.getElem_toArray, List.getElem_cons_zero, List.getElem_cons_succ, List.setIfInBounds_toArray, List.set_cons_zero, List.set_cons_succ]
    refine wpAnyH_take (i := 25) (v := undef) rfl (by kernel_rfl) (by kernel_rfl) (by kernel_rfl) (fun _ _ _ h => h) (Or.inr ⟨by rfl, rfl⟩) hS2 ?_
    simp only [Act.put, List.getElem_toArray, List.getElem_cons_zero, List.getElem_cons_succ, List.setIfInBounds_toArray, List.set_cons_zero, List.set_cons_succ]
    refine wpAnyH_take (i := 26) (v := undef) rfl (by kernel_rfl) (by kernel_rfl) (by kernel_rfl) (fun _ _ _ h => h) (Or.inr ⟨by rfl, rfl⟩) hS2 ?_
    simp only [Act.put, List.getElem_toArray, List.getElem_cons_zero, List.getElem_cons_succ, List.setIfInBounds_toArray, List.set_cons_zero, List.set_cons_succ]
    refine wpAnyH_take (i := 27) (v := .bool true) rfl (by kernel_rfl) (by kernel_rfl) (by kernel_rfl) (fun _ _ _ h => h) (Or.inl ⟨by rfl, ?_⟩) hS2 ?_
    · intro wq hSw
      go_simp
    simp only [Act.put, List.getElem_toArray, List.getElem_cons_zero, List.getElem_cons_succ, List.setIfInBounds_toArray, List.set_cons_zero, List.set_cons_succ]
    refine wpAnyH_done (by kernel_rfl) ?_ _
    have g3 := H2.out.2.2.2.g3
    clear hS2
    go_wp2
    go_ret
    exact TakePost.no HL.out.2.2 H2.out.1 HN.out (.inr (.inr rfl))
  | true =>
  refine wpAnyH_take (i := 2) (v := .bool false) rfl (by kernel_rfl) (by kernel_rfl) (by kernel_rfl) (fun _ _ _ h => h) (Or.inl ⟨by rfl, ?_⟩) hS2 ?_
  · intro wq hSw
    go_simp
  simp only [Act.put, List.getElem_toArray, List.getElem_cons_zero, List.getElem_cons_succ, List.setIfInBounds_toArray, List.set_cons_zero, List.set_cons_succ]
  refine wpAnyH_take (i := 3) (v := .bool false) rfl (by kernel_rfl) (by kernel_rfl) (by kernel_rfl) (fun _ _ _ h => h) (Or.inl ⟨by rfl, ?_⟩) hS2 ?_
  · intro wq hSw
    go_simp
  simp only [Act.put, List.getElem_toArray, List.getElem_cons_zero, List.getElem_cons_succ, List.setIfInBounds_toArray, List.set_cons_zero, List.set_cons_succ]
  refine wpAnyH_take (i := 4) (v := .pointer (some ⟨W.heap.size, 0, none⟩)) rfl (by kernel_rfl) (by kernel_rfl) (by kernel_rfl) (fun _ _ _ h => h) (Or.inl ⟨by rfl, ?_⟩) hS2 ?_
  · intro wq hSw
    go_simp
  simp only [Act.put, List.getElem_toArray, List.getElem_cons_zero, List.getElem_cons_succ, List.setIfInBounds_toArray, List.set_cons_zero, List.set_cons_succ]
  refine wpAnyH_take (i := 5) (v := .int .i64 p.kind) rfl (by kernel_rfl) (by kernel_rfl) (by kernel_rfl) (fun _ _ _ h => h) (Or.inl ⟨by rfl, ?_⟩) hS2 ?_
  · intro wq hSw
    obtain ⟨q0, q3, y0, y1, y2, y3, y4, y5⟩ := hSw
    go_simp
  simp only [Act.put, List.getElem_toArray, List.getElem_cons_zero, List.getElem_cons_succ, List.setIfInBounds_toArray, List.set_cons_zero, List.set_cons_succ]
  cases hk0 : (p.kind != 0) with
  | true =>
    have HN : Hid (l.takes p = false) := by show _ = _; unfold Lk.takes; rw [show (p.kind == 0) = false by simpa [bne] using hk0]; simp
    refine wpAnyH_take (i := 6) (v := .bool true) rfl (by kernel_rfl) (by kernel_rfl) (by kernel_rfl) (fun _ _ _ h => h) (Or.inl ⟨by rfl, ?_⟩) hS2 ?_
    · intro wq hSw
      go_simp
    simp only [Act.put, List.getElem_toArray, List.getElem_cons_zero, List.getElem_cons_succ, List.setIfInBounds_toArray, List.set_cons_zero, List.set_cons_succ]
    refine wpAnyH_take (i := 7) (v := .bool true) rfl (by kernel_rfl) (by kernel_rfl) (by kernel_rfl) (fun _ _ _ h => h) (Or.inl ⟨by rfl, ?_⟩) hS2 ?_
    · intro wq hSw
      go_simp
    simp only [Act.put, List.getElem_toArray, List.getElem_cons_zero, List.getElem_cons_succ, List.setIfInBounds_toArray, List.set_cons_zero, List.set_cons_succ]
    refine wpAnyH_take (i := 8) (v := .bool true) rfl (by kernel_rfl) (by kernel_rfl) (by kernel_rfl) (fun _ _ _ h => h) (Or.inl ⟨by rfl, ?_⟩) hS2 ?_
    · intro wq hSw
      go_simp
    simp only [Act.put, List.getElem_toArray, List.getElem_cons_zero, List.getElem_cons_succ, List.setIfInBounds_toArray, List.set_cons_zero, List.set_cons_succ]
    refine wpAnyH_take (i := 9) (v := undef) rfl (by kernel_rfl) (by kernel_rfl) (by kernel_rfl) (fun _ _ _ h => h) (Or.inr ⟨by rfl, rfl⟩) hS2 ?_
    simp only [Act.put, List.getElem_toArray, List.getElem_cons_zero, List.getElem_cons_succ, List.setIfInBounds_toArray, List.set_cons_zero, List.set_cons_succ]
    refine wpAnyH_take (i := 10) (v := undef) rfl (by kernel_rfl) (by kernel_rfl) (by kernel_rfl) (fun _ _ _ h => h) (Or.inr ⟨by rfl, rfl⟩) hS2 ?_
    simp only [Act.put, List.getElem_toArray, List.getElem_cons_zero, List.getElem_cons_succ, List.setIfInBounds_toArray, List.set_cons_zero, List.set_cons_succ]
    refine wpAnyH_take (i := 11) (v := undef) rfl (by kernel_rfl) (by kernel_rfl) (by kernel_rfl) (fun _ _ _ h => h) (Or.inr ⟨by rfl, rfl⟩) hS2 ?_
    simp only [Act.put, List.getElem_toArray, List.getElem_cons_zero, List.getElem_cons_succ, List.setIfInBounds_toArray, List.set_cons_zero, List.set_cons_succ]
    refine wpAnyH_take (i := 12) (v := undef) rfl (by kernel_rfl) (by kernel_rfl) (by kernel_rfl) (fun _ _ _ h => h) (Or.inr ⟨by rfl, rfl⟩) hS2 ?_
    simp only [Act.put, List.getElem_toArray, List.getElem_cons_zero, List.getElem_cons_succ, List.setIfInBounds_toArray, List.set_cons_zero, List.set_cons_succ]
    refine wpAnyH_take (i := 13) (v := undef) rfl (by kernel_rfl) (by kernel_rfl) (by kernel_rfl) (fun _ _ _ h => h) (Or.inr ⟨by rfl, rfl⟩) hS2 ?_
    simp only [Act.put, List.getElem_toArray, List.getElem_cons_zero, List.getElem_cons_succ, List.setIfInBounds_toArray, List.set_cons_zero, List.set_cons_succ]
    refine wpAnyH_take (i := 14) (v := undef) rfl (by kernel_rfl) (by kernel_rfl) (by kernel_rfl) (fun _ _ _ h => h) (Or.inr ⟨by rfl, rfl⟩) hS2 ?_
    simp only [Act.put, List.getElem_toArray, List.getElem_cons_zero, List.getElem_cons_succ, List.setIfInBounds_toArray, List.set_cons_zero, List.set_cons_succ]
    refine wpAnyH_take (i := 15) (v := undef) rfl (by kernel_rfl) (by kernel_rfl) (by kernel_rfl) (fun _ _ _ h => h) (Or.inr ⟨by rfl, rfl⟩) hS2 ?_
    simp only [Act.put, List.getElem_toArray, List.getElem_cons_zero, List.getElem_cons_succ, List.setIfInBounds_toArray, List.set_cons_zero, List.set_cons_succ]
    refine wpAnyH_take (i := 16) (v := .bool true) rfl (by kernel_rfl) (by kernel_rfl) (by kernel_rfl) (fun _ _ _ h => h) (Or.inl ⟨by rfl, ?_⟩) hS2 ?_
    · intro wq hSw
      go_simp
    simp only [Act.put, List.getElem_toArray, List.getElem_cons_zero, List.getElem_cons_succ, List.setIfInBounds_toArray, List.set_cons_zero, List.set_cons_succ]
    refine wpAnyH_take (i := 17) (v := .bool true) rfl (by kernel_rfl) (by kernel_rfl) (by kernel_rfl) (fun _ _ _ h => h) (Or.inl ⟨by rfl, ?_⟩) hS2 ?_
    · intro wq hSw
      go_simp
    simp only [Act.put, List.getElem_toArray, List.getElem_cons_zero, List.getElem_cons_succ, List.setIfInBounds_toArray, List.set_cons_zero, List.set_cons_succ]
    refine wpAnyH_take (i := 18) (v := undef) rfl (by kernel_rfl) (by kernel_rfl) (by kernel_rfl) (fun _ _ _ h => h) (Or.inr ⟨by rfl, rfl⟩) hS2 ?_
    simp only [Act.put, List.getElem_toArray, List.getElem_cons_zero, List.getElem_cons_succ, List.setIfInBounds_toArray, List.set_cons_zero, List.set_cons_succ]
    refine wpAnyH_take (i := 19) (v := undef) rfl (by kernel_rfl) (by kernel_rfl) (by kernel_rfl) (fun _ _ _ h => h) (Or.inr ⟨by rfl, rfl⟩) hS2 ?_
    simp only [Act.put, List.getElem_toArray, List.getElem_cons_zero, List.getElem_cons_succ, List.setIfInBounds_toArray, List.set_cons_zero, List.set_cons_succ]
    refine wpAnyH_take (i := 20) (v := undef) rfl (by kernel_rfl) (by kernel_rfl) (by kernel_rfl) (fun _ _ _ h => h) (Or.inr ⟨by rfl, rfl⟩) hS2 ?_
    simp only [Act.put, List.getElem_toArray, List.getElem_cons_zero, List.getElem_cons_succ, List.setIfInBounds_toArray, List.set_cons_zero, List.set_cons_succ]
    refine wpAnyH_take (i := 21) (v := undef) rfl (by kernel_rfl) (by kernel_rfl) (by kernel_rfl) (fun _ _ _ h => h) (Or.inr ⟨by rfl, rfl⟩) hS2 ?_
    simp only [Act.put, List.getElem_toArray, List.getElem_cons_zero, List.getElem_cons_succ, List.setIfInBounds_toArray, List.set_cons_zero, List.set_cons_succ]
    refine wpAnyH_take (i := 22) (v := undef) rfl (by kernel_rfl) (by kernel_rfl) (by kernel_rfl) (fun _ _ _ h => h) (Or.inr ⟨by rfl, rfl⟩) hS2 ?_
    simp only [Act.put, List.getElem_toArray, List.getElem_cons_zero, List.getElem_cons_succ, List.setIfInBounds_toArray, List.set_cons_zero, List.set_cons_succ]
    refine wpAnyH_take (i := 23) (v := undef) rfl (by kernel_rfl) (by kernel_rfl) (by kernel_rfl) (fun _ _ _ h => h) (Or.inr ⟨by rfl, rfl⟩) hS2 ?_
    simp only [Act.put, List.getElem_toArray, List.getElem_cons_zero, List.getElem_cons_succ, List.setIfInBounds_toArray, List.set_cons_zero, List.set_cons_succ]
    refine wpAnyH_take (i := 24) (v := undef) rfl (by kernel_rfl) (by kernel_rfl) (by kernel_rfl) (fun _ _ _ h => h) (Or.inr ⟨by rfl, rfl⟩) hS2 ?_
    simp only [Act.put, List.getElem_toArray, List.getElem_cons_zero, List.getElem_cons_succ, List.setIfInBounds_toArray, List.set_cons_zero, List.set_cons_succ]
    refine wpAnyH_take (i := 25) (v := undef) rfl (by kernel_rfl) (by kernel_rfl) (by kernel_rfl) (fun _ _ _ h => h) (Or.inr ⟨by rfl, rfl⟩) hS2 ?_
    simp only [Act.put, List.getElem_toArray, List.getElem_cons_zero, List.getElem_cons_succ, List.setIfInBounds_toArray, List.set_cons_zero, List.set_cons_succ]
    refine wpAnyH_take (i := 26) (v := undef) rfl (by kernel_rfl) (by kernel_rfl) (by kernel_rfl) (fun _ _ _ h => h) (Or.inr ⟨by rfl, rfl⟩) hS2 ?_
    simp only [Act.put, List.getElem_toArray, List.getElem_cons_zero, List.getElem_cons_succ, List.setIfInBounds_toArray, List.set_cons_zero, List.set_cons_succ]
    refine wpAnyH_take (i := 27) (v := .bool true) rfl (by kernel_rfl) (by kernel_rfl) (by kernel_rfl) (fun _ _ _ h => h) (Or.inl ⟨by rfl, ?_⟩) hS2 ?_
    · intro wq hSw
      go_simp
    simp only [Act.put, List.getElem_toArray, List.getElem_cons_zero, List.getElem_cons_succ, List.setIfInBounds_toArray, List.set_cons_zero, List.set_cons_succ]
    refine wpAnyH_done (by kernel_rfl) ?_ _
    have g3 := H2.out.2.2.2.g3
    clear hS2
    go_wp2
    go_ret
    exact TakePost.no HL.out.2.2 H2.out.1 HN.out (.inr (.inr rfl))
  | false =>
  refine wpAnyH_take (i := 6) (v := .bool false) rfl (by kernel_rfl) (by kernel_rfl) (by kernel_rfl) (fun _ _ _ h => h) (Or.inl ⟨by rfl, ?_⟩) hS2 ?_
  · intro wq hSw
    go_simp
  simp only [Act.put, List.getElem_toArray, List.getElem_cons_zero, List.getElem_cons_succ, List.setIfInBounds_toArray, List.set_cons_zero, List.set_cons_succ]
  refine wpAnyH_take (i := 7) (v := .bool false) rfl (by kernel_rfl) (by kernel_rfl) (by kernel_rfl) (fun _ _ _ h => h) (Or.inl ⟨by rfl, ?_⟩) hS2 ?_
  · intro wq hSw
    go_simp
  simp only [Act.put, List.getElem_toArray, List.getElem_cons_zero, List.getElem_cons_succ, List.setIfInBounds_toArray, List.set_cons_zero, List.set_cons_succ]
  refine wpAnyH_take (i := 8) (v := .bool false) rfl (by kernel_rfl) (by kernel_rfl) (by kernel_rfl) (fun _ _ _ h => h) (Or.inl ⟨by rfl, ?_⟩) hS2 ?_
  · intro wq hSw
    go_simp
  simp only [Act.put, List.getElem_toArray, List.getElem_cons_zero, List.getElem_cons_succ, List.setIfInBounds_toArray, List.set_cons_zero, List.set_cons_succ]
  refine wpAnyH_take (i := 9) (v := .pointer (some ⟨W.heap.size, 2, none⟩)) rfl (by kernel_rfl) (by kernel_rfl) (by kernel_rfl) (fun _ _ _ h => h) (Or.inl ⟨by rfl, ?_⟩) hS2 ?_
  · intro wq hSw
    go_simp
  simp only [Act.put, List.getElem_toArray, List.getElem_cons_zero, List.getElem_cons_succ, List.setIfInBounds_toArray, List.set_cons_zero, List.set_cons_succ]
  refine wpAnyH_take (i := 10) (v := .int .i64 p.dst) rfl (by kernel_rfl) (by kernel_rfl) (by kernel_rfl) (fun _ _ _ h => h) (Or.inl ⟨by rfl, ?_⟩) hS2 ?_
  · intro wq hSw
    obtain ⟨q0, q3, y0, y1, y2, y3, y4, y5⟩ := hSw
    go_simp
  simp only [Act.put, List.getElem_toArray, List.getElem_cons_zero, List.getElem_cons_succ, List.setIfInBounds_toArray, List.set_cons_zero, List.set_cons_succ]
  refine wpAnyH_take (i := 11) (v := .pointer (some ⟨ob, 0, none⟩)) rfl (by kernel_rfl) (by kernel_rfl) (by kernel_rfl) (fun _ _ _ h => h) (Or.inl ⟨by rfl, ?_⟩) hS2 ?_
  · intro wq hSw
    go_simp
  simp only [Act.put, List.getElem_toArray, List.getElem_cons_zero, List.getElem_cons_succ, List.setIfInBounds_toArray, List.set_cons_zero, List.set_cons_succ]
  refine wpAnyH_take (i := 12) (v := .pointer (some ⟨ob, 0, none⟩)) rfl (by kernel_rfl) (by kernel_rfl) (by kernel_rfl) (fun _ _ _ h => h) (Or.inl ⟨by rfl, ?_⟩) hS2 ?_
  · intro wq hSw
    go_simp
  simp only [Act.put, List.getElem_toArray, List.getElem_cons_zero, List.getElem_cons_succ, List.setIfInBounds_toArray, List.set_cons_zero, List.set_cons_succ]
  refine wpAnyH_take (i := 13) (v := .pointer (some ⟨ob, 0, none⟩)) rfl (by kernel_rfl) (by kernel_rfl) (by kernel_rfl) (fun _ _ _ h => h) (Or.inl ⟨by rfl, ?_⟩) hS2 ?_
  · intro wq hSw
    go_simp
  simp only [Act.put, List.getElem_toArray, List.getElem_cons_zero, List.getElem_cons_succ, List.setIfInBounds_toArray, List.set_cons_zero, List.set_cons_succ]
  refine wpAnyH_take (i := 14) (v := .int .i64 l.id) rfl (by kernel_rfl) (by kernel_rfl) (by kernel_rfl) (fun _ _ _ h => h) (Or.inl ⟨by rfl, ?_⟩) hS2 ?_
  · intro wq hSw
    obtain ⟨q0, q3, y0, y1, y2, y3, y4, y5⟩ := hSw
    go_simp
  simp only [Act.put, List.getElem_toArray, List.getElem_cons_zero, List.getElem_cons_succ, List.setIfInBounds_toArray, List.set_cons_zero, List.set_cons_succ]
  cases hd0 : (p.dst != l.id) with
  | true =>
    have HN : Hid (l.takes p = false) := by show _ = _; unfold Lk.takes; rw [show (p.dst == l.id) = false by simpa [bne] using hd0]; simp
    refine wpAnyH_take (i := 15) (v := .bool true) rfl (by kernel_rfl) (by kernel_rfl) (by kernel_rfl) (fun _ _ _ h => h) (Or.inl ⟨by rfl, ?_⟩) hS2 ?_
    · intro wq hSw
      go_simp
    simp only [Act.put, List.getElem_toArray, List.getElem_cons_zero, List.getElem_cons_succ, List.setIfInBounds_toArray, List.set_cons_zero, List.set_cons_succ]
    refine wpAnyH_take (i := 16) (v := .bool true) rfl (by kernel_rfl) (by kernel_rfl) (by kernel_rfl) (fun _ _ _ h => h) (Or.inl ⟨by rfl, ?_⟩) hS2 ?_
    · intro wq hSw
      go_simp
    simp only [Act.put, List.getElem_toArray, List.getElem_cons_zero, List.getElem_cons_succ, List.setIfInBounds_toArray, List.set_cons_zero, List.set_cons_succ]
    refine wpAnyH_take (i := 17) (v := .bool true) rfl (by kernel_rfl) (by kernel_rfl) (by kernel_rfl) (fun _ _ _ h => h) (Or.inl ⟨by rfl, ?_⟩) hS2 ?_
    · intro wq hSw
      go_simp
    simp only [Act.put, List.getElem_toArray, List.getElem_cons_zero, List.getElem_cons_succ, List.setIfInBounds_toArray, List.set_cons_zero, List.set_cons_succ]
    refine wpAnyH_take (i := 18) (v := undef) rfl (by kernel_rfl) (by kernel_rfl) (by kernel_rfl) (fun _ _ _ h => h) (Or.inr ⟨by rfl, rfl⟩) hS2 ?_
    simp only [Act.put, List.getElem_toArray, List.getElem_cons_zero, List.getElem_cons_succ, List.setIfInBounds_toArray, List.set_cons_zero, List.set_cons_succ]
    refine wpAnyH_take (i := 19) (v := undef) rfl (by kernel_rfl) (by kernel_rfl) (by kernel_rfl) (fun _ _ _ h => h) (Or.inr ⟨by rfl, rfl⟩) hS2 ?_
    simp only [Act.put, List.getElem_toArray, List.getElem_cons_zero, List.getElem_cons_succ, List.setIfInBounds_toArray, List.set_cons_zero, List.set_cons_succ]
    refine wpAnyH_take (i := 20) (v := undef) rfl (by kernel_rfl) (by kernel_rfl) (by kernel_rfl) (fun _ _ _ h => h) (Or.inr ⟨by rfl, rfl⟩) hS2 ?_
    simp only [Act.put, List.getElem_toArray, List.getElem_cons_zero, List.getElem_cons_succ, List.setIfInBounds_toArray, List.set_cons_zero, List.set_cons_succ]
    refine wpAnyH_take (i := 21) (v := undef) rfl (by kernel_rfl) (by kernel_rfl) (by kernel_rfl) (fun _ _ _ h => h) (Or.inr ⟨by rfl, rfl⟩) hS2 ?_
    simp only [Act.put, List.getElem_toArray, List.getElem_cons_zero, List.getElem_cons_succ, List.setIfInBounds_toArray, List.set_cons_zero, List.set_cons_succ]
    refine wpAnyH_take (i := 22) (v := undef) rfl (by kernel_rfl) (by kernel_rfl) (by kernel_rfl) (fun _ _ _ h => h) (Or.inr ⟨by rfl, rfl⟩) hS2 ?_
    simp only [Act.put, List.getElem_toArray, List.getElem_cons_zero, List.getElem_cons_succ, List.setIfInBounds_toArray, List.set_cons_zero, List.set_cons_succ]
    refine wpAnyH_take (i := 23) (v := undef) rfl (by kernel_rfl) (by kernel_rfl) (by kernel_rfl) (fun _ _ _ h => h) (Or.inr ⟨by rfl, rfl⟩) hS2 ?_
    simp only [Act.put, List.getElem_toArray, List.getElem_cons_zero, List.getElem_cons_succ, List.setIfInBounds_toArray, List.set_cons_zero, List.set_cons_succ]
    refine wpAnyH_take (i := 24) (v := undef) rfl (by kernel_rfl) (by kernel_rfl) (by kernel_rfl) (fun _ _ _ h => h) (Or.inr ⟨by rfl, rfl⟩) hS2 ?_
    simp only [Act.put, List.getElem_toArray, List.getElem_cons_zero, List.getElem_cons_succ, List.setIfInBounds_toArray, List.set_cons_zero, List.set_cons_succ]
    refine wpAnyH_take (i := 25) (v := undef) rfl (by kernel_rfl) (by kernel_rfl) (by kernel_rfl) (fun _ _ _ h => h) (Or.inr ⟨by rfl, rfl⟩) hS2 ?_
    simp only [Act.put, List.getElem_toArray, List.getElem_cons_zero, List.getElem_cons_succ, List.setIfInBounds_toArray, List.set_cons_zero, List.set_cons_succ]
    refine wpAnyH_take (i := 26) (v := undef) rfl (by kernel_rfl) (by kernel_rfl) (by kernel_rfl) (fun _ _ _ h => h) (Or.inr ⟨by rfl, rfl⟩) hS2 ?_
    simp only [Act.put, List.getElem_toArray, List.getElem_cons_zero, List.getElem_cons_succ, List.setIfInBounds_toArray, List.set_cons_zero, List.set_cons_succ]
    refine wpAnyH_take (i := 27) (v := .bool true) rfl (by kernel_rfl) (by kernel_rfl) (by kernel_rfl) (fun _ _ _ h => h) (Or.inl ⟨by rfl, ?_⟩) hS2 ?_
    · intro wq hSw
      go_simp
    simp only [Act.put, List.getElem_toArray, List.getElem_cons_zero, List.getElem_cons_succ, List.setIfInBounds_toArray, List.set_cons_zero, List.set_cons_succ]
    refine wpAnyH_done (by kernel_rfl) ?_ _
    have g3 := H2.out.2.2.2.g3
    clear hS2
    go_wp2
    go_ret
    exact TakePost.no HL.out.2.2 H2.out.1 HN.out (.inr (.inr rfl))
  | false =>
  refine wpAnyH_take (i := 15) (v := .bool false) rfl (by kernel_rfl) (by kernel_rfl) (by kernel_rfl) (fun _ _ _ h => h) (Or.inl ⟨by rfl, ?_⟩) hS2 ?_
  · intro wq hSw
    go_simp
  simp only [Act.put, List.getElem_toArray, List.getElem_cons_zero, List.getElem_cons_succ, List.setIfInBounds_toArray, List.set_cons_zero, List.set_cons_succ]
  refine wpAnyH_take (i := 16) (v := .bool false) rfl (by kernel_rfl) (by kernel_rfl) (by kernel_rfl) (fun _ _ _ h => h) (Or.inl ⟨by rfl, ?_⟩) hS2 ?_
  · intro wq hSw
    go_simp
  simp only [Act.put, List.getElem_toArray, List.getElem_cons_zero, List.getElem_cons_succ, List.setIfInBounds_toArray, List.set_cons_zero, List.set_cons_succ]
  refine wpAnyH_take (i := 17) (v := .bool false) rfl (by kernel_rfl) (by kernel_rfl) (by kernel_rfl) (fun _ _ _ h => h) (Or.inl ⟨by rfl, ?_⟩) hS2 ?_
  · intro wq hSw
    go_simp
  simp only [Act.put, List.getElem_toArray, List.getElem_cons_zero, List.getElem_cons_succ, List.setIfInBounds_toArray, List.set_cons_zero, List.set_cons_succ]
  refine wpAnyH_take (i := 18) (v := .pointer (some ⟨W.heap.size, 1, none⟩)) rfl (by kernel_rfl) (by kernel_rfl) (by kernel_rfl) (fun _ _ _ h => h) (Or.inl ⟨by rfl, ?_⟩) hS2 ?_
  · intro wq hSw
    go_simp
  simp only [Act.put, List.getElem_toArray, List.getElem_cons_zero, List.getElem_cons_succ, List.setIfInBounds_toArray, List.set_cons_zero, List.set_cons_succ]
  refine wpAnyH_take (i := 19) (v := .int .i64 p.frm) rfl (by kernel_rfl) (by kernel_rfl) (by kernel_rfl) (fun _ _ _ h => h) (Or.inl ⟨by rfl, ?_⟩) hS2 ?_
  · intro wq hSw
    obtain ⟨q0, q3, y0, y1, y2, y3, y4, y5⟩ := hSw
    go_simp
  simp only [Act.put, List.getElem_toArray, List.getElem_cons_zero, List.getElem_cons_succ, List.setIfInBounds_toArray, List.set_cons_zero, List.set_cons_succ]
  refine wpAnyH_take (i := 20) (v := .pointer (some ⟨ob, 0, none⟩)) rfl (by kernel_rfl) (by kernel_rfl) (by kernel_rfl) (fun _ _ _ h => h) (Or.inl ⟨by rfl, ?_⟩) hS2 ?_
  · intro wq hSw
    go_simp
  simp only [Act.put, List.getElem_toArray, List.getElem_cons_zero, List.getElem_cons_succ, List.setIfInBounds_toArray, List.set_cons_zero, List.set_cons_succ]
  refine wpAnyH_take (i := 21) (v := .pointer (some ⟨ob, 0, none⟩)) rfl (by kernel_rfl) (by kernel_rfl) (by kernel_rfl) (fun _ _ _ h => h) (Or.inl ⟨by rfl, ?_⟩) hS2 ?_
  · intro wq hSw
    go_simp
  simp only [Act.put, List.getElem_toArray, List.getElem_cons_zero, List.getElem_cons_succ, List.setIfInBounds_toArray, List.set_cons_zero, List.set_cons_succ]
  refine wpAnyH_take (i := 22) (v := .pointer (some ⟨ob, 3, none⟩)) rfl (by kernel_rfl) (by kernel_rfl) (by kernel_rfl) (fun _ _ _ h => h) (Or.inl ⟨by rfl, ?_⟩) hS2 ?_
  · intro wq hSw
    go_simp
  simp only [Act.put, List.getElem_toArray, List.getElem_cons_zero, List.getElem_cons_succ, List.setIfInBounds_toArray, List.set_cons_zero, List.set_cons_succ]
  refine wpAnyH_take (i := 23) (v := .slice sa1 l.seen.length sc1) rfl (by kernel_rfl) (by kernel_rfl) (by kernel_rfl) (fun _ _ _ h => h) (Or.inl ⟨by rfl, ?_⟩) hS2 ?_
  · intro wq hSw
    obtain ⟨q0, q3, y0, y1, y2, y3, y4, y5⟩ := hSw
    go_simp
  simp only [Act.put, List.getElem_toArray, List.getElem_cons_zero, List.getElem_cons_succ, List.setIfInBounds_toArray, List.set_cons_zero, List.set_cons_succ]
  refine wpAnyH_take (i := 24) (v := .int .i64 (l.seen.length : Int)) rfl (by kernel_rfl) (by kernel_rfl) (by kernel_rfl) (fun _ _ _ h => h) (Or.inl ⟨by rfl, ?_⟩) hS2 ?_
  · intro wq hSw
    go_simp
  simp only [Act.put, List.getElem_toArray, List.getElem_cons_zero, List.getElem_cons_succ, List.setIfInBounds_toArray, List.set_cons_zero, List.set_cons_succ]
  refine wpAnyH_ready (rs := [25]) (by kernel_rfl) (by simp) ?_
  refine AllReadyH.cons rfl (fun K hK => ?_) AllReadyH.nil
  refine step_callG (by rfl) 42 (.tmp 32) (.tmp 37) _ rfl ent_isAmong (.int .i64 p.frm) (.int .i64 (l.seen.length : Int)) (by simp [Act.eval]) (by simp [Act.eval]) (fun r w' => r = .bool (amongB p.frm l.seen.length) ∧ w' = w2) ((isAmong_r _ _ _ rfl _).mono (fun e w' h => ⟨_, h.1, rfl, h.2⟩)) ?_
  rintro r w3 ⟨rfl, hw3⟩
  rw [hw3]
  clear hw3 w3
  refine hK.out _ _ hS2 (fun _ => ?_)
  clear hK K
  rw [among_takes hlo hpo]
  simp only [Act.put, List.getElem_toArray, List.getElem_cons_zero, List.getElem_cons_succ, List.setIfInBounds_toArray, List.set_cons_zero, List.set_cons_succ]
  by_cases hfl : p.frm < l.seen.length
  case neg =>
    have HN : Hid (l.takes p = false) := by show _ = _; unfold Lk.takes; simp [hfl]
    have hfd : decide (p.frm < l.seen.length) = false := by simp [hfl]
    refine wpAnyH_take (i := 26) (v := .bool true) rfl (by kernel_rfl) (by kernel_rfl) (by kernel_rfl) (fun _ _ _ h => h) (Or.inl ⟨by rfl, ?_⟩) hS2 ?_
    · intro wq hSw
      go_simp
    simp only [Act.put, List.getElem_toArray, List.getElem_cons_zero, List.getElem_cons_succ, List.setIfInBounds_toArray, List.set_cons_zero, List.set_cons_succ]
    refine wpAnyH_take (i := 27) (v := .bool true) rfl (by kernel_rfl) (by kernel_rfl) (by kernel_rfl) (fun _ _ _ h => h) (Or.inl ⟨by rfl, ?_⟩) hS2 ?_
    · intro wq hSw
      go_simp
    simp only [Act.put, List.getElem_toArray, List.getElem_cons_zero, List.getElem_cons_succ, List.setIfInBounds_toArray, List.set_cons_zero, List.set_cons_succ]
    refine wpAnyH_done (by kernel_rfl) ?_ _
    have g3 := H2.out.2.2.2.g3
    clear hS2
    go_wp2
    go_ret
    exact TakePost.no HL.out.2.2 H2.out.1 HN.out (.inr (.inr rfl))
  have hfd : decide (p.frm < l.seen.length) = true := by simp [hfl]
  refine wpAnyH_take (i := 26) (v := .bool false) rfl (by kernel_rfl) (by kernel_rfl) (by kernel_rfl) (fun _ _ _ h => h) (Or.inl ⟨by rfl, ?_⟩) hS2 ?_
  · intro wq hSw
    go_simp
  simp only [Act.put, List.getElem_toArray, List.getElem_cons_zero, List.getElem_cons_succ, List.setIfInBounds_toArray, List.set_cons_zero, List.set_cons_succ]
  refine wpAnyH_take (i := 27) (v := .bool false) rfl (by kernel_rfl) (by kernel_rfl) (by kernel_rfl) (fun _ _ _ h => h) (Or.inl ⟨by rfl, ?_⟩) hS2 ?_
  · intro wq hSw
    go_simp
  simp only [Act.put, List.getElem_toArray, List.getElem_cons_zero, List.getElem_cons_succ, List.setIfInBounds_toArray, List.set_cons_zero, List.set_cons_succ]
  refine wpAnyH_done (by kernel_rfl) ?_ _
  have HT : Hid (l.takes p = true) := by show _ = _; unfold Lk.takes; rw [hlo, hpo, show (p.kind == 0) = true by simpa [bne] using hk0, show (p.dst == l.id) = true by simpa [bne] using hd0]; simp [hfl]
  obtain ⟨f, hf⟩ : ∃ f : Nat, p.frm = f := ⟨p.frm.toNat, by
    have h1 := hpo
    unfold Pa.ok apartB nodeOk inB at h1
    simp only [Bool.and_eq_true, decide_eq_true_eq] at h1
    omega⟩
  have hfs : f < l.seen.length := by omega
  have he := List.getElem?_eq_getElem hfs
  obtain ⟨x, hx⟩ : ∃ x, x = l.seen[f] := ⟨_, rfl⟩
  rw [← hx] at he
  have HS : Hid (l.seenOf p = x.lift p.low ∧ p.frm.toNat = f) := by
    have h1 : p.frm.toNat = f := by rw [hf]; rfl
    refine ⟨?_, h1⟩
    unfold Lk.seenOf
    rw [h1, List.getD, he]
    rfl
  have hxk := List.all_eq_true.1 (Lk.parts hlo).2.2.2.2.2 x (List.mem_of_getElem? he)
  unfold Se.ok at hxk
  simp only [Bool.and_eq_true, decide_eq_true_eq] at hxk
  have hxo : x.ids.length ≤ 60 := by omega
  have hsrt := (asc_sorted _ _ _ hxk.2).1
  obtain ⟨A, D, kv, hrs, hA⟩ := rs_split H2.out.2.2.1.own.is he
  subst hrs
  obtain ⟨g, hg⟩ : ∃ g, sa1 = some ⟨g, 0, none⟩ := by
    have h1 := H2.out.2.2.1.own.seen.cells
    obtain ⟨g, cap, h2⟩ := own_some h1 (by simp; omega)
    simp only [Value.slice.injEq] at h2
    exact ⟨g, h2.1⟩
  subst hg
  have hkid := H2.out.2.2.1.own.seen.kids (x, kv) (by simp)
  obtain ⟨ka, kc, hkv⟩ := own_form hkid.1
  have hkv' : kv = .slice ka x.ids.length kc := hkv
  subst hkv'
  have hLk : Hid (∀ b, LkBlk (.slice oa1 l.out.length oc1) (.slice (some ⟨g, 0, none⟩) l.seen.length sc1) (A ++ (x, .slice ka x.ids.length kc) :: D) b → Bc ≤ b ∧ b < W.heap.size) := fun b hb => HL.out.2.2.own.own hb
  have hff : ((f : Nat) : Int) < ((l.seen.length : Nat) : Int) := by omega
  have hf0 : ¬ ((f : Nat) : Int) < 0 := by omega
  have hgW : Bc ≤ g ∧ g < W.heap.size := hLk.out g (.inr (.inl rfl))
  have hgo : g ≠ ob := HL.out.2.2.apt g (.inr (.inl rfl))
  have HX := (show Hid (_ ∧ _ ∧ _ ∧ _) from ⟨own_ints hkid.1 hkid.2.2, hkid.2, hsrt, hA⟩)
  have KC : Hid (∀ wx : World, Below w2.heap.size w2 wx → wx.cell? ⟨ob, 3, none⟩ = some (.slice (some ⟨g, 0, none⟩) l.seen.length sc1) ∧ wx.cell? ⟨W.heap.size, 1, none⟩ = some (.int .i64 (f : Int)) ∧ wx.cell? ⟨g, f * 2, none⟩ = some (.int .i64 x.low) ∧ wx.cell? ⟨g, f * 2 + 1, none⟩ = some (.slice ka x.ids.length kc)) := fun wx hx => by
    have h1 := H2.out.2.2.1.below hx
    have h2 := obt h1.obx ((hx.block _ (lt_heap H2.out.2.1)).trans H2.out.2.1)
    have h3 := h1.own.seen.cellAt
    rw [hA] at h3
    rw [hf] at h2
    exact ⟨h2.2.1, h2.2.2.2.1, h3.1, h3.2⟩
  have hs02 : W.heap.size < w2.heap.size := lt_heap H2.out.2.1
  have BD := (show Hid (Below w2.heap.size w2 w2.drew) from (Below.refl _ w2).drew)
  clear hkid hkv he hx hpo hA hxk hsrt hk0 hd0 hfd hfl hlo
  go_wp2_with fail
  refine wp_region_held_drew (S := fun w' => w'.cell? ⟨ob, 3, none⟩ = some (.slice (some ⟨g, 0, none⟩) l.seen.length sc1) ∧ w'.cell? ⟨W.heap.size, 1, none⟩ = some (.int .i64 (f : Int)) ∧ w'.cell? ⟨g, f * 2, none⟩ = some (.int .i64 x.low) ∧ w'.cell? ⟨g, f * 2 + 1, none⟩ = some (.slice ka x.ids.length kc)) (by kernel_rfl) (KC.out _ BD.out) (fun hS => ?_)
  refine wpAnyH_take (i := 0) (v := .pointer (some ⟨ob, 0, none⟩)) rfl (by kernel_rfl) (by kernel_rfl) (by kernel_rfl) (fun _ _ _ h => h) (Or.inl ⟨by rfl, ?_⟩) hS ?_
  · intro wq hSw
    go_simp
  simp only [Act.put, List.getElem_toArray, List.getElem_cons_zero, List.setIfInBounds_toArray, List.set_cons_zero, List.set_cons_succ]
  refine wpAnyH_take (i := 1) (v := .pointer (some ⟨ob, 0, none⟩)) rfl (by kernel_rfl) (by kernel_rfl) (by kernel_rfl) (fun _ _ _ h => h) (Or.inl ⟨by rfl, ?_⟩) hS ?_
  · intro wq hSw
    go_simp
  simp only [Act.put, List.getElem_toArray, List.getElem_cons_zero, List.getElem_cons_succ, List.setIfInBounds_toArray, List.set_cons_zero, List.set_cons_succ]
  refine wpAnyH_take (i := 2) (v := .pointer (some ⟨ob, 3, none⟩)) rfl (by kernel_rfl) (by kernel_rfl) (by kernel_rfl) (fun _ _ _ h => h) (Or.inl ⟨by rfl, ?_⟩) hS ?_
  · intro wq hSw
    go_simp
  simp only [Act.put, List.getElem_toArray, List.getElem_cons_zero, List.getElem_cons_succ, List.setIfInBounds_toArray, List.set_cons_zero, List.set_cons_succ]
  refine wpAnyH_take (i := 3) (v := .slice (some ⟨g, 0, none⟩) l.seen.length sc1) rfl (by kernel_rfl) (by kernel_rfl) (by kernel_rfl) (fun _ _ _ h => h) (Or.inl ⟨by rfl, ?_⟩) hS ?_
  · intro wq hSw
    obtain ⟨q3, y1, e0, e1⟩ := hSw
    go_simp
  simp only [Act.put, List.getElem_toArray, List.getElem_cons_zero, List.getElem_cons_succ, List.setIfInBounds_toArray, List.set_cons_zero, List.set_cons_succ]
  refine wpAnyH_take (i := 4) (v := .pointer (some ⟨W.heap.size, 1, none⟩)) rfl (by kernel_rfl) (by kernel_rfl) (by kernel_rfl) (fun _ _ _ h => h) (Or.inl ⟨by rfl, ?_⟩) hS ?_
  · intro wq hSw
    go_simp
  simp only [Act.put, List.getElem_toArray, List.getElem_cons_zero, List.getElem_cons_succ, List.setIfInBounds_toArray, List.set_cons_zero, List.set_cons_succ]
  refine wpAnyH_take (i := 5) (v := .int .i64 (f : Int)) rfl (by kernel_rfl) (by kernel_rfl) (by kernel_rfl) (fun _ _ _ h => h) (Or.inl ⟨by rfl, ?_⟩) hS ?_
  · intro wq hSw
    obtain ⟨q3, y1, e0, e1⟩ := hSw
    go_simp
  simp only [Act.put, List.getElem_toArray, List.getElem_cons_zero, List.getElem_cons_succ, List.setIfInBounds_toArray, List.set_cons_zero, List.set_cons_succ]
  refine wpAnyH_take (i := 6) (v := .pointer (some ⟨g, f * 2, none⟩)) rfl (by kernel_rfl) (by kernel_rfl) (by kernel_rfl) (fun _ _ _ h => h) (Or.inl ⟨by rfl, ?_⟩) hS ?_
  · intro wq hSw
    go_simp
  simp only [Act.put, List.getElem_toArray, List.getElem_cons_zero, List.getElem_cons_succ, List.setIfInBounds_toArray, List.set_cons_zero, List.set_cons_succ]
  refine wpAnyH_take (i := 7) (v := .agg #[.int .i64 x.low, .slice ka x.ids.length kc]) rfl (by kernel_rfl) (by kernel_rfl) (by kernel_rfl) (fun _ _ _ h => h) (Or.inl ⟨by rfl, ?_⟩) hS ?_
  · intro wq hSw
    obtain ⟨q3, y1, e0, e1⟩ := hSw
    go_simp
  simp only [Act.put, List.getElem_toArray, List.getElem_cons_zero, List.getElem_cons_succ, List.setIfInBounds_toArray, List.set_cons_zero, List.set_cons_succ]
  refine wpAnyH_ready (rs := [8, 9]) (by kernel_rfl) (by simp) ?_
  refine AllReadyH.cons rfl (fun K hK => ?_) (AllReadyH.cons rfl (fun K hK => ?_) AllReadyH.nil)
  · refine step_call1 rfl 70 (.tmp 49) _ rfl ent_takenOf (.agg #[.int .i64 x.low, .slice ka x.ids.length kc]) (by simp [Act.eval]) (fun r w' => ∃ xs, r = .agg (tkRow x.low xs x.ids.length) ∧ xs.length = 60 ∧ xs.take x.ids.length = x.ids ∧ Below (w2.drew).heap.size (w2.drew) w') ((takenOf_any x _ _ (w2.drew) (HX.out.1.below BD.out) hxo).mono (fun e w' h => ?_)) ?_
    · obtain ⟨xs, h1, h2, h3, h4⟩ := h
      exact ⟨_, h1, xs, rfl, h2, h3, h4⟩
    rintro r w4 ⟨xs, rfl, hx60, hxt, b4'⟩
    have b4 : Below w2.heap.size w2 w4 := BD.out.trans b4'
    have hs4 : w2.heap.size ≤ w4.heap.size := b4.size
    clear b4'
    refine hK.out _ _ (KC.out w4 b4) (fun _ => ?_)
    clear hK K
    simp only [Act.put, List.getElem_toArray, List.getElem_cons_zero, List.getElem_cons_succ, List.setIfInBounds_toArray, List.set_cons_zero, List.set_cons_succ]
    refine wpAnyH_ready (rs := [9]) (by kernel_rfl) (by simp) ?_
    refine AllReadyH.cons rfl (fun K hK => ?_) AllReadyH.nil
    refine step_run rfl _ _ (ex_alloc _ _ rfl w4) ?_
    have b5 : Below w2.heap.size w2 (w4.alloc (.cells tkZero 109)) := b4.alloc hs4 _
    have P5 : (w4.alloc (.cells tkZero 109)).heap[w4.heap.size]? = some (.cells tkZero 109 (0, 0)) := (MapKept.heap_alloc w4 _).1
    have hTw : w2.heap.size ≤ w4.heap.size := hs4
    refine hK.out _ _ (KC.out _ b5) (fun _ => ?_)
    clear hK K b4
    simp only [Act.put, List.getElem_toArray, List.getElem_cons_zero, List.getElem_cons_succ, List.setIfInBounds_toArray, List.set_cons_zero, List.set_cons_succ]
    refine wpAnyH_ready (rs := [10]) (by kernel_rfl) (by simp) ?_
    refine AllReadyH.cons rfl (fun K hK => ?_) AllReadyH.nil
    refine step_skip rfl ((w4.alloc (.cells tkZero 109)).setRow w4.heap.size (tkRow x.low xs x.ids.length)) (ex_storeT _ _ (.tmp 5) (.tmp 50) w4.heap.size tkZero _ _ rfl (by rfl) (by rfl) _ P5 (tkRow_size nils60_len) (tkRow_size hx60) (tkRow_one _ _ _)) ?_
    have b6 : Below w2.heap.size w2 ((w4.alloc (.cells tkZero 109)).setRow w4.heap.size (tkRow x.low xs x.ids.length)) := below_setRow b5 hTw _
    refine hK.out _ _ (KC.out _ b6) (fun _ => ?_)
    clear hK K
    simp only [Act.put]
    refine wpAnyH_done (by kernel_rfl) ?_ _
    have TK6 : TkAt ((w4.alloc (.cells tkZero 109)).setRow w4.heap.size (tkRow x.low xs x.ids.length)) w4.heap.size x.low xs x.ids.length := ⟨setRow_heap _ _ _ _ _ _ P5, hx60, hxo⟩
    have st6 := H2.out.2.2.1.below b6
    have pb6 := (b6.block _ hs02).trans H2.out.2.1
    have bW6 := H2.out.1.trans (b6.mono (Nat.le_of_lt hs02))
    have hTo : ob < w4.heap.size := by omega
    have hTp : W.heap.size < w4.heap.size := by omega
    have hT2 : w2.heap.size ≤ w4.heap.size := by omega
    clear b6 b5 P5 hTw
    generalize (w4.alloc (.cells tkZero 109)).setRow w4.heap.size (tkRow x.low xs x.ids.length) = W6 at TK6 st6 pb6 bW6 ⊢
    generalize w4.heap.size = T at TK6 hTo hTp hT2 ⊢
    have y4 : W6.cell? ⟨W.heap.size, 4, none⟩ = some (.int .i64 p.low) := (obt st6.obx pb6).2.2.2.2.2.2.1
    have F6 := (show Hid (_ ∧ _ ∧ _ ∧ _ ∧ _) from ⟨TK6, st6, pb6, bW6, hxt⟩)
    clear TK6 st6 pb6 bW6 hS hxt hx60
    go_wp2_with fail
    clear y4
    refine (goOn_any F6.out.1 (by rw [F6.out.2.2.2.2]; exact pair_le HX.out.2.2.1) p.low _ rfl).mono ?_
    rintro e w7 ⟨rfl, ⟨xs7, T7, hx7⟩, K7⟩
    rw [F6.out.2.2.2.2] at hx7 T7
    rw [count_drop HX.out.2.2.1] at hx7
    have hc7 : x.ids.length - x.ids.countP (fun z => decide (z < upTo x.low p.low)) = (x.lift p.low).ids.length := by
      have h1 := congrArg List.length hx7
      rw [List.length_take, T7.len] at h1
      have h2 := T7.cnt
      rw [Nat.min_eq_left h2] at h1
      exact h1
    rw [hc7] at hx7 T7
    have hx7' : xs7.take (x.lift p.low).ids.length = (x.lift p.low).ids := hx7
    have T7' : TkAt w7 T (x.lift p.low).low xs7 (x.lift p.low).ids.length := T7
    clear hx7 T7 hc7
    have hy : ∃ y, y = x.lift p.low := ⟨_, rfl⟩
    obtain ⟨y, hy⟩ := hy
    rw [← hy] at hx7' T7'
    have hyo : inI64 y.low ∧ (∀ z ∈ y.ids, inI64 z) ∧ y.ids.Pairwise (· < ·) := by
      rw [hy]
      refine ⟨?_, fun z hz => HX.out.2.1.2 z (List.mem_filter.1 hz).1, HX.out.2.2.1.filter _⟩
      show inI64 (upTo x.low p.low)
      unfold upTo
      split
      · exact hpf.2.2.2.2
      · exact HX.out.2.1.1
    have hsy : l.seenOf p = y := by rw [hy]; exact HS.out.1
    clear hy
    have st7 := F6.out.2.1.kept K7 (fun b hb => by
      have hb' : b = T := hb
      subst hb'
      exact ⟨hTo, fun hk => by have := (hLk.out _ hk).2; omega⟩)
    have pb7 := K7.heap F6.out.2.2.1 (by show ¬ _ = _; omega)
    have bW7 := F6.out.2.2.2.1.trans (K7.below (fun k hk => by have hk' : k = T := hk; omega) F6.out.2.2.2.1.size)
    have eg7 := HL.out.1.below bW7
    have y3 : w7.cell? ⟨W.heap.size, 3, none⟩ = some (.int .i64 p.seq) := (obt st7.obx pb7).2.2.2.2.2.1
    have F7 := (show Hid (_ ∧ _ ∧ _ ∧ _ ∧ _ ∧ _ ∧ _ ∧ _) from ⟨T7', st7, pb7, bW7, hx7', hyo, hsy, eg7⟩)
    clear T7' st7 pb7 bW7 hx7' hyo hsy eg7 K7 F6
    go_wp2_with fail
    clear y3
    refine (tkTake_any F7.out.1 (by rw [F7.out.2.2.2.2.1]; exact pair_le F7.out.2.2.2.2.2.1.2.2) p.seq a2 a4 _ rfl F7.out.2.2.2.2.2.2.2.g2 F7.out.2.2.2.2.2.2.2.g4).mono ?_
    intro e w8 hq
    obtain ⟨K8, hcs⟩ := hq
    obtain ⟨ev, xs8, c8, rfl, T8, hres⟩ : ∃ ev xs8 c8, e = .returned ev ∧ TkAt w8 T y.low xs8 c8 ∧ l.take p = l.setSe f ⟨y.low, xs8.take c8⟩ ∧ (∀ z ∈ xs8.take c8, inI64 z) ∧
        (((∃ a, (a = a0 ∨ a = a2 ∨ a = a3) ∧ ev = errV a) ∧ l.fresh p = false ∧ l.due p = false) ∨ (ev = errV a4 ∧ l.fresh p = false ∧ l.due p = true) ∨ (ev = .nilIface ∧ l.fresh p = true ∧ l.due p = true)) := by
      have hx7 := F7.out.2.2.2.2.1
      have hyo := F7.out.2.2.2.2.2.1
      obtain ⟨tc1, tc2, tc3⟩ := take_cases HT.out F7.out.2.2.2.2.2.2.1 HS.out.2 hyo.2.2
      rw [hx7] at hcs
      rcases hcs with ⟨h1, rfl, t⟩ | ⟨h1, h60, rfl, t⟩ | ⟨h1, h60, rfl, xs', t, hx'⟩
      · obtain ⟨r1, r2, r3⟩ := tc1 h1
        exact ⟨_, xs7, _, rfl, t, by rw [hx7]; exact r3, by rw [hx7]; exact hyo.2.1, .inr (.inl ⟨rfl, r1, r2⟩)⟩
      · obtain ⟨r1, r2, r3⟩ := tc2 h1 (by omega)
        exact ⟨_, xs7, _, rfl, t, by rw [hx7]; exact r3, by rw [hx7]; exact hyo.2.1, .inl ⟨⟨a2, .inr (.inl rfl), rfl⟩, r1, r2⟩⟩
      · obtain ⟨r1, r2, r3⟩ := tc3 h1 (by omega)
        refine ⟨_, xs', _, rfl, t, by rw [hx']; exact r3, fun z hz => ?_, .inr (.inr ⟨rfl, r1, r2⟩)⟩
        rw [hx', List.mem_append, List.mem_cons] at hz
        rcases hz with hz | rfl | hz
        · exact hyo.2.1 z (List.mem_of_mem_take hz)
        · exact hpf.2.2.2.1
        · exact hyo.2.1 z (List.mem_of_mem_drop hz)
    clear hcs
    have st8 := F7.out.2.1.kept K8 (fun b hb => by
      have hb' : b = T := hb
      subst hb'
      exact ⟨hTo, fun hk => by have := (hLk.out _ hk).2; omega⟩)
    have pb8 := K8.heap F7.out.2.2.1 (by show ¬ _ = _; omega)
    have bW8 := F7.out.2.2.2.1.trans (K8.below (fun k hk => by have hk' : k = T := hk; omega) F7.out.2.2.2.1.size)
    have hyl := F7.out.2.2.2.2.2.1.1
    have hs08 : W.heap.size < w8.heap.size := lt_heap pb8
    have K8C : Hid (∀ wx : World, Below w8.heap.size w8 wx → wx.cell? ⟨ob, 3, none⟩ = some (.slice (some ⟨g, 0, none⟩) l.seen.length sc1) ∧ wx.cell? ⟨W.heap.size, 1, none⟩ = some (.int .i64 (f : Int))) := fun wx hx => by
      have h2 := obt (st8.below hx).obx ((hx.block _ (lt_heap pb8)).trans pb8)
      rw [hf] at h2
      exact ⟨h2.2.1, h2.2.2.2.1⟩
    have F8 := (show Hid (_ ∧ _ ∧ _ ∧ _ ∧ _) from ⟨T8, st8, pb8, bW8, hres⟩)
    have BD8 := (show Hid (Below w8.heap.size w8 w8.drew) from (Below.refl _ w8).drew)
    clear T8 st8 pb8 bW8 hres K8 F7
    go_wp2_with fail
    refine wp_region_held_drew (S := fun w' => w'.cell? ⟨ob, 3, none⟩ = some (.slice (some ⟨g, 0, none⟩) l.seen.length sc1) ∧ w'.cell? ⟨W.heap.size, 1, none⟩ = some (.int .i64 (f : Int))) (by kernel_rfl) (K8C.out _ BD8.out) (fun hS => ?_)
    refine wpAnyH_take (i := 0) (v := .pointer (some ⟨ob, 0, none⟩)) rfl (by kernel_rfl) (by kernel_rfl) (by kernel_rfl) (fun _ _ _ h => h) (Or.inl ⟨by rfl, ?_⟩) hS ?_
    · intro wq hSw
      go_simp
    simp only [Act.put, List.getElem_toArray, List.getElem_cons_zero, List.setIfInBounds_toArray, List.set_cons_zero, List.set_cons_succ]
    refine wpAnyH_take (i := 1) (v := .pointer (some ⟨ob, 0, none⟩)) rfl (by kernel_rfl) (by kernel_rfl) (by kernel_rfl) (fun _ _ _ h => h) (Or.inl ⟨by rfl, ?_⟩) hS ?_
    · intro wq hSw
      go_simp
    simp only [Act.put, List.getElem_toArray, List.getElem_cons_zero, List.getElem_cons_succ, List.setIfInBounds_toArray, List.set_cons_zero, List.set_cons_succ]
    refine wpAnyH_take (i := 2) (v := .pointer (some ⟨ob, 3, none⟩)) rfl (by kernel_rfl) (by kernel_rfl) (by kernel_rfl) (fun _ _ _ h => h) (Or.inl ⟨by rfl, ?_⟩) hS ?_
    · intro wq hSw
      go_simp
    simp only [Act.put, List.getElem_toArray, List.getElem_cons_zero, List.getElem_cons_succ, List.setIfInBounds_toArray, List.set_cons_zero, List.set_cons_succ]
    refine wpAnyH_take (i := 3) (v := .slice (some ⟨g, 0, none⟩) l.seen.length sc1) rfl (by kernel_rfl) (by kernel_rfl) (by kernel_rfl) (fun _ _ _ h => h) (Or.inl ⟨by rfl, ?_⟩) hS ?_
    · intro wq hSw
      obtain ⟨q3, y1⟩ := hSw
      go_simp
    simp only [Act.put, List.getElem_toArray, List.getElem_cons_zero, List.getElem_cons_succ, List.setIfInBounds_toArray, List.set_cons_zero, List.set_cons_succ]
    refine wpAnyH_take (i := 4) (v := .pointer (some ⟨W.heap.size, 1, none⟩)) rfl (by kernel_rfl) (by kernel_rfl) (by kernel_rfl) (fun _ _ _ h => h) (Or.inl ⟨by rfl, ?_⟩) hS ?_
    · intro wq hSw
      go_simp
    simp only [Act.put, List.getElem_toArray, List.getElem_cons_zero, List.getElem_cons_succ, List.setIfInBounds_toArray, List.set_cons_zero, List.set_cons_succ]
    refine wpAnyH_take (i := 5) (v := .int .i64 (f : Int)) rfl (by kernel_rfl) (by kernel_rfl) (by kernel_rfl) (fun _ _ _ h => h) (Or.inl ⟨by rfl, ?_⟩) hS ?_
    · intro wq hSw
      obtain ⟨q3, y1⟩ := hSw
      go_simp
    simp only [Act.put, List.getElem_toArray, List.getElem_cons_zero, List.getElem_cons_succ, List.setIfInBounds_toArray, List.set_cons_zero, List.set_cons_succ]
    refine wpAnyH_ready (rs := [6]) (by kernel_rfl) (by simp) ?_
    refine AllReadyH.cons rfl (fun K hK => ?_) AllReadyH.nil
    refine step_call1 rfl 73 (.tmp 5) _ rfl ent_seen (.pointer (some ⟨T, 0, none⟩)) (by simp [Act.eval]) (fun r w' => ∃ kv, r = .agg #[.int .i64 y.low, kv] ∧ w'.ownsRow w8.heap.size 3 1 kv c8 (intVs (xs8.take c8)) ∧ Below w8.heap.size w8 w') ((tkSeen_any (W := w8.drew) ⟨F8.out.1.blk, F8.out.1.len, F8.out.1.cnt⟩).mono (fun e w' h => ?_)) ?_
    · obtain ⟨kv, h1, h2, h3⟩ := h
      exact ⟨_, h1, kv, rfl, h2, BD8.out.trans h3⟩
    rintro r w9 ⟨kv9, rfl, own9, b9⟩
    obtain ⟨ka9, kc9, rfl⟩ := own_form own9
    have hS9 := K8C.out _ b9
    refine hK.out _ _ hS9 (fun _ => ?_)
    clear hK K
    simp only [Act.put, List.getElem_toArray, List.getElem_cons_zero, List.getElem_cons_succ, List.setIfInBounds_toArray, List.set_cons_zero, List.set_cons_succ]
    refine wpAnyH_take (i := 7) (v := .pointer (some ⟨g, f * 2, none⟩)) rfl (by kernel_rfl) (by kernel_rfl) (by kernel_rfl) (fun _ _ _ h => h) (Or.inl ⟨by rfl, ?_⟩) hS9 ?_
    · intro wq hSw
      go_simp
    simp only [Act.put, List.getElem_toArray, List.getElem_cons_zero, List.getElem_cons_succ, List.setIfInBounds_toArray, List.set_cons_zero, List.set_cons_succ]
    have st9 := F8.out.2.1.below b9
    have e9 := st9.own.seen.cellAt
    rw [HX.out.2.2.2] at e9
    obtain ⟨e0, e1⟩ := e9
    have hlen8 : (xs8.take c8).length = c8 := by rw [List.length_take, F8.out.1.len]; exact Nat.min_eq_left F8.out.1.cnt
    have hbk : ∀ b, (Value.slice ka9 c8 kc9).ownBlock = some b → w8.heap.size ≤ b := fun b hb => (own_type own9 b hb).1
    have st10 := st9.put (x := ⟨y.low, xs8.take c8⟩) (kv := .slice ka9 c8 kc9) rfl HX.out.2.2.2 (by show World.ownsRow _ _ _ _ _ (xs8.take c8).length _; rw [hlen8]; exact own_mono own9 (by omega)) ⟨hyl, F8.out.2.2.2.2.2.1⟩ (fun b hb hk => by have h1 := hbk b hk; have h2 := (hLk.out b hb).2; omega) (fun hk => by have h1 := hbk _ hk; omega)
    have f0 : w9.frozen? ⟨g, f * 2, none⟩ = false := by
      obtain ⟨_, cs, hcs⟩ := own_type st9.own.seen.cells g rfl
      exact frozen_of_row _ _ _ _ _ hcs
    have f1 : (w9.setCell ⟨g, f * 2, none⟩ (.int .i64 y.low)).frozen? ⟨g, f * 2 + 1, none⟩ = false := by
      obtain ⟨_, cs, hcs⟩ := own_type st9.own.seen.cells g rfl
      exact frozen_of_row _ _ _ _ _ (block_setCell hcs _)
    have hpb10 : ((w9.setCell ⟨g, f * 2, none⟩ (.int .i64 y.low)).setCell ⟨g, f * 2 + 1, none⟩ (.slice ka9 c8 kc9)).heap[W.heap.size]? = some (.cells p.row 38) := by
      rw [Below.heap_setCell _ _ _ _ (by show W.heap.size ≠ g; omega), Below.heap_setCell _ _ _ _ (by show W.heap.size ≠ g; omega)]
      exact (b9.block _ hs08).trans F8.out.2.2.1
    have hS10 : ((w9.setCell ⟨g, f * 2, none⟩ (.int .i64 y.low)).setCell ⟨g, f * 2 + 1, none⟩ (.slice ka9 c8 kc9)).cell? ⟨ob, 3, none⟩ = some (.slice (some ⟨g, 0, none⟩) l.seen.length sc1) ∧ ((w9.setCell ⟨g, f * 2, none⟩ (.int .i64 y.low)).setCell ⟨g, f * 2 + 1, none⟩ (.slice ka9 c8 kc9)).cell? ⟨W.heap.size, 1, none⟩ = some (.int .i64 (f : Int)) := by
      have h2 := obt st10.obx hpb10
      rw [hf] at h2
      exact ⟨h2.2.1, h2.2.2.2.1⟩
    have F10 := (show Hid (_ ∧ _ ∧ _) from ⟨st10, hS10, F8.out.2.2.2.2⟩)
    clear st10 hS10 hpb10 hbk hlen8 st9 b9 own9 F8 K8C
    refine wpAnyH_ready (rs := [8]) (by kernel_rfl) (by simp) ?_
    refine AllReadyH.cons rfl (fun K hK => ?_) AllReadyH.nil
    go_simp
    refine hK.out _ _ F10.out.2.1 (fun _ => ?_)
    clear hK K
    refine wpAnyH_done (by kernel_rfl) ?_ _
    clear e0 e1 f0 f1 hS hS9
    go_wp2
    go_ret
    obtain ⟨hst, -, hl, -, hcase⟩ := F10.out
    refine ⟨_, by rw [hl]; exact hst, ?_⟩
    rcases hcase with ⟨⟨a, ha, rfl⟩, h1, h2⟩ | ⟨rfl, h1, h2⟩ | ⟨rfl, h1, h2⟩
    · exact .inl ⟨⟨a, ha, rfl⟩, h1, h2⟩
    · exact .inr (.inl ⟨rfl, h1, h2⟩)
    · exact .inr (.inr ⟨rfl, h1, h2⟩)
  · refine step_run rfl _ _ (ex_alloc _ _ rfl w2.drew) ?_
    have b3 : Below w2.heap.size w2 (w2.drew.alloc (.cells tkZero 109)) := BD.out.alloc BD.out.size _
    have P3 : (w2.drew.alloc (.cells tkZero 109)).heap[w2.drew.heap.size]? = some (.cells tkZero 109 (0, 0)) := (MapKept.heap_alloc w2.drew _).1
    have hTw : w2.heap.size ≤ w2.drew.heap.size := BD.out.size
    refine hK.out _ _ (KC.out _ b3) (fun _ => ?_)
    clear hK K
    simp only [Act.put, List.getElem_toArray, List.getElem_cons_zero, List.getElem_cons_succ, List.setIfInBounds_toArray, List.set_cons_zero, List.set_cons_succ]
    refine wpAnyH_ready (rs := [8]) (by kernel_rfl) (by simp) ?_
    refine AllReadyH.cons rfl (fun K hK => ?_) AllReadyH.nil
    refine step_call1 rfl 70 (.tmp 49) _ rfl ent_takenOf (.agg #[.int .i64 x.low, .slice ka x.ids.length kc]) (by simp [Act.eval]) (fun r w' => ∃ xs, r = .agg (tkRow x.low xs x.ids.length) ∧ xs.length = 60 ∧ xs.take x.ids.length = x.ids ∧ Below (w2.drew.alloc (.cells tkZero 109)).heap.size (w2.drew.alloc (.cells tkZero 109)) w') ((takenOf_any x _ _ (w2.drew.alloc (.cells tkZero 109)) (HX.out.1.below b3) hxo).mono (fun e w' h => ?_)) ?_
    · obtain ⟨xs, h1, h2, h3, h4⟩ := h
      exact ⟨_, h1, xs, rfl, h2, h3, h4⟩
    rintro r w4 ⟨xs, rfl, hx60, hxt, b4'⟩
    have b5 : Below w2.heap.size w2 w4 := b3.trans (b4'.mono b3.size)
    have P5 : w4.heap[w2.drew.heap.size]? = some (.cells tkZero 109 (0, 0)) := (b4'.block _ (lt_heap P3)).trans P3
    clear b4' b3 P3
    refine hK.out _ _ (KC.out w4 b5) (fun _ => ?_)
    clear hK K
    simp only [Act.put, List.getElem_toArray, List.getElem_cons_zero, List.getElem_cons_succ, List.setIfInBounds_toArray, List.set_cons_zero, List.set_cons_succ]
    refine wpAnyH_ready (rs := [10]) (by kernel_rfl) (by simp) ?_
    refine AllReadyH.cons rfl (fun K hK => ?_) AllReadyH.nil
    refine step_skip rfl ((w4).setRow w2.drew.heap.size (tkRow x.low xs x.ids.length)) (ex_storeT _ _ (.tmp 5) (.tmp 50) w2.drew.heap.size tkZero _ _ rfl (by rfl) (by rfl) _ P5 (tkRow_size nils60_len) (tkRow_size hx60) (tkRow_one _ _ _)) ?_
    have b6 : Below w2.heap.size w2 ((w4).setRow w2.drew.heap.size (tkRow x.low xs x.ids.length)) := below_setRow b5 hTw _
    refine hK.out _ _ (KC.out _ b6) (fun _ => ?_)
    clear hK K
    simp only [Act.put]
    refine wpAnyH_done (by kernel_rfl) ?_ _
    have TK6 : TkAt ((w4).setRow w2.drew.heap.size (tkRow x.low xs x.ids.length)) w2.drew.heap.size x.low xs x.ids.length := ⟨setRow_heap _ _ _ _ _ _ P5, hx60, hxo⟩
    have st6 := H2.out.2.2.1.below b6
    have pb6 := (b6.block _ hs02).trans H2.out.2.1
    have bW6 := H2.out.1.trans (b6.mono (Nat.le_of_lt hs02))
    have hTo : ob < w2.drew.heap.size := by omega
    have hTp : W.heap.size < w2.drew.heap.size := by omega
    have hT2 : w2.heap.size ≤ w2.drew.heap.size := by omega
    clear b6 b5 P5 hTw
    generalize (w4).setRow w2.drew.heap.size (tkRow x.low xs x.ids.length) = W6 at TK6 st6 pb6 bW6 ⊢
    generalize w2.drew.heap.size = T at TK6 hTo hTp hT2 ⊢
    have y4 : W6.cell? ⟨W.heap.size, 4, none⟩ = some (.int .i64 p.low) := (obt st6.obx pb6).2.2.2.2.2.2.1
    have F6 := (show Hid (_ ∧ _ ∧ _ ∧ _ ∧ _) from ⟨TK6, st6, pb6, bW6, hxt⟩)
    clear TK6 st6 pb6 bW6 hS hxt hx60
    go_wp2_with fail
    clear y4
    refine (goOn_any F6.out.1 (by rw [F6.out.2.2.2.2]; exact pair_le HX.out.2.2.1) p.low _ rfl).mono ?_
    rintro e w7 ⟨rfl, ⟨xs7, T7, hx7⟩, K7⟩
    rw [F6.out.2.2.2.2] at hx7 T7
    rw [count_drop HX.out.2.2.1] at hx7
    have hc7 : x.ids.length - x.ids.countP (fun z => decide (z < upTo x.low p.low)) = (x.lift p.low).ids.length := by
      have h1 := congrArg List.length hx7
      rw [List.length_take, T7.len] at h1
      have h2 := T7.cnt
      rw [Nat.min_eq_left h2] at h1
      exact h1
    rw [hc7] at hx7 T7
    have hx7' : xs7.take (x.lift p.low).ids.length = (x.lift p.low).ids := hx7
    have T7' : TkAt w7 T (x.lift p.low).low xs7 (x.lift p.low).ids.length := T7
    clear hx7 T7 hc7
    have hy : ∃ y, y = x.lift p.low := ⟨_, rfl⟩
    obtain ⟨y, hy⟩ := hy
    rw [← hy] at hx7' T7'
    have hyo : inI64 y.low ∧ (∀ z ∈ y.ids, inI64 z) ∧ y.ids.Pairwise (· < ·) := by
      rw [hy]
      refine ⟨?_, fun z hz => HX.out.2.1.2 z (List.mem_filter.1 hz).1, HX.out.2.2.1.filter _⟩
      show inI64 (upTo x.low p.low)
      unfold upTo
      split
      · exact hpf.2.2.2.2
      · exact HX.out.2.1.1
    have hsy : l.seenOf p = y := by rw [hy]; exact HS.out.1
    clear hy
    have st7 := F6.out.2.1.kept K7 (fun b hb => by
      have hb' : b = T := hb
      subst hb'
      exact ⟨hTo, fun hk => by have := (hLk.out _ hk).2; omega⟩)
    have pb7 := K7.heap F6.out.2.2.1 (by show ¬ _ = _; omega)
    have bW7 := F6.out.2.2.2.1.trans (K7.below (fun k hk => by have hk' : k = T := hk; omega) F6.out.2.2.2.1.size)
    have eg7 := HL.out.1.below bW7
    have y3 : w7.cell? ⟨W.heap.size, 3, none⟩ = some (.int .i64 p.seq) := (obt st7.obx pb7).2.2.2.2.2.1
    have F7 := (show Hid (_ ∧ _ ∧ _ ∧ _ ∧ _ ∧ _ ∧ _ ∧ _) from ⟨T7', st7, pb7, bW7, hx7', hyo, hsy, eg7⟩)
    clear T7' st7 pb7 bW7 hx7' hyo hsy eg7 K7 F6
    go_wp2_with fail
    clear y3
    refine (tkTake_any F7.out.1 (by rw [F7.out.2.2.2.2.1]; exact pair_le F7.out.2.2.2.2.2.1.2.2) p.seq a2 a4 _ rfl F7.out.2.2.2.2.2.2.2.g2 F7.out.2.2.2.2.2.2.2.g4).mono ?_
    intro e w8 hq
    obtain ⟨K8, hcs⟩ := hq
    obtain ⟨ev, xs8, c8, rfl, T8, hres⟩ : ∃ ev xs8 c8, e = .returned ev ∧ TkAt w8 T y.low xs8 c8 ∧ l.take p = l.setSe f ⟨y.low, xs8.take c8⟩ ∧ (∀ z ∈ xs8.take c8, inI64 z) ∧
        (((∃ a, (a = a0 ∨ a = a2 ∨ a = a3) ∧ ev = errV a) ∧ l.fresh p = false ∧ l.due p = false) ∨ (ev = errV a4 ∧ l.fresh p = false ∧ l.due p = true) ∨ (ev = .nilIface ∧ l.fresh p = true ∧ l.due p = true)) := by
      have hx7 := F7.out.2.2.2.2.1
      have hyo := F7.out.2.2.2.2.2.1
      obtain ⟨tc1, tc2, tc3⟩ := take_cases HT.out F7.out.2.2.2.2.2.2.1 HS.out.2 hyo.2.2
      rw [hx7] at hcs
      rcases hcs with ⟨h1, rfl, t⟩ | ⟨h1, h60, rfl, t⟩ | ⟨h1, h60, rfl, xs', t, hx'⟩
      · obtain ⟨r1, r2, r3⟩ := tc1 h1
        exact ⟨_, xs7, _, rfl, t, by rw [hx7]; exact r3, by rw [hx7]; exact hyo.2.1, .inr (.inl ⟨rfl, r1, r2⟩)⟩
      · obtain ⟨r1, r2, r3⟩ := tc2 h1 (by omega)
        exact ⟨_, xs7, _, rfl, t, by rw [hx7]; exact r3, by rw [hx7]; exact hyo.2.1, .inl ⟨⟨a2, .inr (.inl rfl), rfl⟩, r1, r2⟩⟩
      · obtain ⟨r1, r2, r3⟩ := tc3 h1 (by omega)
        refine ⟨_, xs', _, rfl, t, by rw [hx']; exact r3, fun z hz => ?_, .inr (.inr ⟨rfl, r1, r2⟩)⟩
        rw [hx', List.mem_append, List.mem_cons] at hz
        rcases hz with hz | rfl | hz
        · exact hyo.2.1 z (List.mem_of_mem_take hz)
        · exact hpf.2.2.2.1
        · exact hyo.2.1 z (List.mem_of_mem_drop hz)
    clear hcs
    have st8 := F7.out.2.1.kept K8 (fun b hb => by
      have hb' : b = T := hb
      subst hb'
      exact ⟨hTo, fun hk => by have := (hLk.out _ hk).2; omega⟩)
    have pb8 := K8.heap F7.out.2.2.1 (by show ¬ _ = _; omega)
    have bW8 := F7.out.2.2.2.1.trans (K8.below (fun k hk => by have hk' : k = T := hk; omega) F7.out.2.2.2.1.size)
    have hyl := F7.out.2.2.2.2.2.1.1
    have hs08 : W.heap.size < w8.heap.size := lt_heap pb8
    have K8C : Hid (∀ wx : World, Below w8.heap.size w8 wx → wx.cell? ⟨ob, 3, none⟩ = some (.slice (some ⟨g, 0, none⟩) l.seen.length sc1) ∧ wx.cell? ⟨W.heap.size, 1, none⟩ = some (.int .i64 (f : Int))) := fun wx hx => by
      have h2 := obt (st8.below hx).obx ((hx.block _ (lt_heap pb8)).trans pb8)
      rw [hf] at h2
      exact ⟨h2.2.1, h2.2.2.2.1⟩
    have F8 := (show Hid (_ ∧ _ ∧ _ ∧ _ ∧ _) from ⟨T8, st8, pb8, bW8, hres⟩)
    have BD8 := (show Hid (Below w8.heap.size w8 w8.drew) from (Below.refl _ w8).drew)
    clear T8 st8 pb8 bW8 hres K8 F7
    go_wp2_with fail
    refine wp_region_held_drew (S := fun w' => w'.cell? ⟨ob, 3, none⟩ = some (.slice (some ⟨g, 0, none⟩) l.seen.length sc1) ∧ w'.cell? ⟨W.heap.size, 1, none⟩ = some (.int .i64 (f : Int))) (by kernel_rfl) (K8C.out _ BD8.out) (fun hS => ?_)
    refine wpAnyH_take (i := 0) (v := .pointer (some ⟨ob, 0, none⟩)) rfl (by kernel_rfl) (by kernel_rfl) (by kernel_rfl) (fun _ _ _ h => h) (Or.inl ⟨by rfl, ?_⟩) hS ?_
    · intro wq hSw
      go_simp
    simp only [Act.put, List.getElem_toArray, List.getElem_cons_zero, List.setIfInBounds_toArray, List.set_cons_zero, List.set_cons_succ]
    refine wpAnyH_take (i := 1) (v := .pointer (some ⟨ob, 0, none⟩)) rfl (by kernel_rfl) (by kernel_rfl) (by kernel_rfl) (fun _ _ _ h => h) (Or.inl ⟨by rfl, ?_⟩) hS ?_
    · intro wq hSw
      go_simp
    simp only [Act.put, List.getElem_toArray, List.getElem_cons_zero, List.getElem_cons_succ, List.setIfInBounds_toArray, List.set_cons_zero, List.set_cons_succ]
    refine wpAnyH_take (i := 2) (v := .pointer (some ⟨ob, 3, none⟩)) rfl (by kernel_rfl) (by kernel_rfl) (by kernel_rfl) (fun _ _ _ h => h) (Or.inl ⟨by rfl, ?_⟩) hS ?_
    · intro wq hSw
      go_simp
    simp only [Act.put, List.getElem_toArray, List.getElem_cons_zero, List.getElem_cons_succ, List.setIfInBounds_toArray, List.set_cons_zero, List.set_cons_succ]
    refine wpAnyH_take (i := 3) (v := .slice (some ⟨g, 0, none⟩) l.seen.length sc1) rfl (by kernel_rfl) (by kernel_rfl) (by kernel_rfl) (fun _ _ _ h => h) (Or.inl ⟨by rfl, ?_⟩) hS ?_
    · intro wq hSw
      obtain ⟨q3, y1⟩ := hSw
      go_simp
    simp only [Act.put, List.getElem_toArray, List.getElem_cons_zero, List.getElem_cons_succ, List.setIfInBounds_toArray, List.set_cons_zero, List.set_cons_succ]
    refine wpAnyH_take (i := 4) (v := .pointer (some ⟨W.heap.size, 1, none⟩)) rfl (by kernel_rfl) (by kernel_rfl) (by kernel_rfl) (fun _ _ _ h => h) (Or.inl ⟨by rfl, ?_⟩) hS ?_
    · intro wq hSw
      go_simp
    simp only [Act.put, List.getElem_toArray, List.getElem_cons_zero, List.getElem_cons_succ, List.setIfInBounds_toArray, List.set_cons_zero, List.set_cons_succ]
    refine wpAnyH_take (i := 5) (v := .int .i64 (f : Int)) rfl (by kernel_rfl) (by kernel_rfl) (by kernel_rfl) (fun _ _ _ h => h) (Or.inl ⟨by rfl, ?_⟩) hS ?_
    · intro wq hSw
      obtain ⟨q3, y1⟩ := hSw
      go_simp
    simp only [Act.put, List.getElem_toArray, List.getElem_cons_zero, List.getElem_cons_succ, List.setIfInBounds_toArray, List.set_cons_zero, List.set_cons_succ]
    refine wpAnyH_ready (rs := [6]) (by kernel_rfl) (by simp) ?_
    refine AllReadyH.cons rfl (fun K hK => ?_) AllReadyH.nil
    refine step_call1 rfl 73 (.tmp 5) _ rfl ent_seen (.pointer (some ⟨T, 0, none⟩)) (by simp [Act.eval]) (fun r w' => ∃ kv, r = .agg #[.int .i64 y.low, kv] ∧ w'.ownsRow w8.heap.size 3 1 kv c8 (intVs (xs8.take c8)) ∧ Below w8.heap.size w8 w') ((tkSeen_any (W := w8.drew) ⟨F8.out.1.blk, F8.out.1.len, F8.out.1.cnt⟩).mono (fun e w' h => ?_)) ?_
    · obtain ⟨kv, h1, h2, h3⟩ := h
      exact ⟨_, h1, kv, rfl, h2, BD8.out.trans h3⟩
    rintro r w9 ⟨kv9, rfl, own9, b9⟩
    obtain ⟨ka9, kc9, rfl⟩ := own_form own9
    have hS9 := K8C.out _ b9
    refine hK.out _ _ hS9 (fun _ => ?_)
    clear hK K
    simp only [Act.put, List.getElem_toArray, List.getElem_cons_zero, List.getElem_cons_succ, List.setIfInBounds_toArray, List.set_cons_zero, List.set_cons_succ]
    refine wpAnyH_take (i := 7) (v := .pointer (some ⟨g, f * 2, none⟩)) rfl (by kernel_rfl) (by kernel_rfl) (by kernel_rfl) (fun _ _ _ h => h) (Or.inl ⟨by rfl, ?_⟩) hS9 ?_
    · intro wq hSw
      go_simp
    simp only [Act.put, List.getElem_toArray, List.getElem_cons_zero, List.getElem_cons_succ, List.setIfInBounds_toArray, List.set_cons_zero, List.set_cons_succ]
    have st9 := F8.out.2.1.below b9
    have e9 := st9.own.seen.cellAt
    rw [HX.out.2.2.2] at e9
    obtain ⟨e0, e1⟩ := e9
    have hlen8 : (xs8.take c8).length = c8 := by rw [List.length_take, F8.out.1.len]; exact Nat.min_eq_left F8.out.1.cnt
    have hbk : ∀ b, (Value.slice ka9 c8 kc9).ownBlock = some b → w8.heap.size ≤ b := fun b hb => (own_type own9 b hb).1
    have st10 := st9.put (x := ⟨y.low, xs8.take c8⟩) (kv := .slice ka9 c8 kc9) rfl HX.out.2.2.2 (by show World.ownsRow _ _ _ _ _ (xs8.take c8).length _; rw [hlen8]; exact own_mono own9 (by omega)) ⟨hyl, F8.out.2.2.2.2.2.1⟩ (fun b hb hk => by have h1 := hbk b hk; have h2 := (hLk.out b hb).2; omega) (fun hk => by have h1 := hbk _ hk; omega)
    have f0 : w9.frozen? ⟨g, f * 2, none⟩ = false := by
      obtain ⟨_, cs, hcs⟩ := own_type st9.own.seen.cells g rfl
      exact frozen_of_row _ _ _ _ _ hcs
    have f1 : (w9.setCell ⟨g, f * 2, none⟩ (.int .i64 y.low)).frozen? ⟨g, f * 2 + 1, none⟩ = false := by
      obtain ⟨_, cs, hcs⟩ := own_type st9.own.seen.cells g rfl
      exact frozen_of_row _ _ _ _ _ (block_setCell hcs _)
    have hpb10 : ((w9.setCell ⟨g, f * 2, none⟩ (.int .i64 y.low)).setCell ⟨g, f * 2 + 1, none⟩ (.slice ka9 c8 kc9)).heap[W.heap.size]? = some (.cells p.row 38) := by
      rw [Below.heap_setCell _ _ _ _ (by show W.heap.size ≠ g; omega), Below.heap_setCell _ _ _ _ (by show W.heap.size ≠ g; omega)]
      exact (b9.block _ hs08).trans F8.out.2.2.1
    have hS10 : ((w9.setCell ⟨g, f * 2, none⟩ (.int .i64 y.low)).setCell ⟨g, f * 2 + 1, none⟩ (.slice ka9 c8 kc9)).cell? ⟨ob, 3, none⟩ = some (.slice (some ⟨g, 0, none⟩) l.seen.length sc1) ∧ ((w9.setCell ⟨g, f * 2, none⟩ (.int .i64 y.low)).setCell ⟨g, f * 2 + 1, none⟩ (.slice ka9 c8 kc9)).cell? ⟨W.heap.size, 1, none⟩ = some (.int .i64 (f : Int)) := by
      have h2 := obt st10.obx hpb10
      rw [hf] at h2
      exact ⟨h2.2.1, h2.2.2.2.1⟩
    have F10 := (show Hid (_ ∧ _ ∧ _) from ⟨st10, hS10, F8.out.2.2.2.2⟩)
    clear st10 hS10 hpb10 hbk hlen8 st9 b9 own9 F8 K8C
    refine wpAnyH_ready (rs := [8]) (by kernel_rfl) (by simp) ?_
    refine AllReadyH.cons rfl (fun K hK => ?_) AllReadyH.nil
    go_simp
    refine hK.out _ _ F10.out.2.1 (fun _ => ?_)
    clear hK K
    refine wpAnyH_done (by kernel_rfl) ?_ _
    clear e0 e1 f0 f1 hS hS9
    go_wp2
    go_ret
    obtain ⟨hst, -, hl, -, hcase⟩ := F10.out
    refine ⟨_, by rw [hl]; exact hst, ?_⟩
    rcases hcase with ⟨⟨a, ha, rfl⟩, h1, h2⟩ | ⟨rfl, h1, h2⟩ | ⟨rfl, h1, h2⟩
    · exact .inl ⟨⟨a, ha, rfl⟩, h1, h2⟩
    · exact .inr (.inl ⟨rfl, h1, h2⟩)
    · exact .inr (.inr ⟨rfl, h1, h2⟩)
end Go.Proofs.YtlbinamlehapoaaGreatDoor
