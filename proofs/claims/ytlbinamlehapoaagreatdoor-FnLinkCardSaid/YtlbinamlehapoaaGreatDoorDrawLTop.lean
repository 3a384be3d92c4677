/-
  What the law of chapter 8 draws: links, a message, a pack and numbers; nothing that was there has turned.
-/
import Derived.Test.YtlbinamlehapoaaGreatDoorDrawLink
import Derived.Deep.CutBlock
import Derived.BigRegion
namespace Go.Proofs.YtlbinamlehapoaaGreatDoor
open Go.RowKit Go.Joins

set_option maxRecDepth 100000

theorem below_more {w w1 w2 : World} {g : Nat} (hb : Below w.heap.size w w1) (hg : w1.grownBy w2 (some g)) (h : w.heap.size ≤ g) : Below w.heap.size w w2 :=
  Below.grown hb hg (fun k hk => by cases hk; exact h) hb.size
theorem code_upL {w w' : World} {V : Value} {len : Nat} (h : CodeIs w.heap.size w V len) (hb : Below w.heap.size w w') : CodeIs w'.heap.size w' V len := by
  obtain ⟨a, cap, hv, hl, hc⟩ := h
  refine ⟨a, cap, hv, hl, fun h0 => ?_⟩
  obtain ⟨b, off, ha, hb1, hcell⟩ := hc h0
  refine ⟨b, off, ha, Nat.lt_of_lt_of_le hb1 hb.size, fun j hj => ?_⟩
  obtain ⟨z, h1, h2, h3⟩ := hcell j hj
  exact ⟨z, h1, h2, (World.cell?_of_block (hb.block b hb1)).trans h3⟩
/-- A link in its box, its rows in blocks from lo on. -/
structure LkBx (lo : Nat) (W : World) (lb : Nat) (l : Lk) (ov sv : Value) : Prop where
  box : W.heap[lb]? = some (.cells (l.row ov sv) 27)
  is : LkAt W (fun b => lo ≤ b ∧ b < lb) (.agg (l.row ov sv)) l
  ge : lo ≤ lb
theorem LkBx.kept {lo : Nat} {W W' : World} {lb : Nat} {l : Lk} {ov sv : Value} (h : LkBx lo W lb l ov sv) (hb : ∀ k, lo ≤ k → k ≤ lb → k < W.heap.size → W'.heap[k]? = W.heap[k]?) (hs : W.heap.size ≤ W'.heap.size) : LkBx lo W' lb l ov sv :=
  ⟨(hb lb h.ge (Nat.le_refl _) (lt_heap h.box)).trans h.box, h.is.kept (fun b hb1 hb2 => hb b hb1.1 (by omega) hb2) hs (fun b hb1 _ => hb1), h.ge⟩
theorem LkBx.step {lo : Nat} {W W' : World} {lb g : Nat} {l : Lk} {ov sv : Value} (h : LkBx lo W lb l ov sv) (hg : W.grownBy W' (some g)) (hgl : g < lo) : LkBx lo W' lb l ov sv :=
  h.kept (fun k hk _ hlt => hg.block k hlt (fun e => by have := Option.some.inj e; omega)) hg.size
theorem LkBx.alloc {lo : Nat} {W : World} {lb : Nat} {l : Lk} {ov sv : Value} (h : LkBx lo W lb l ov sv) (o : Obj) : LkBx lo (W.alloc o) lb l ov sv :=
  h.kept (fun k _ _ hlt => Below.heap_alloc W o k hlt) (by simp)
theorem LkBx.drew {lo : Nat} {W : World} {lb : Nat} {l : Lk} {ov sv : Value} (h : LkBx lo W lb l ov sv) : LkBx lo W.drew lb l ov sv := h.kept (fun _ _ _ _ => rfl) (Nat.le_refl _)
theorem LkBx.set {lo : Nat} {W : World} {lb pb i : Nat} {u : Value} {l : Lk} {ov sv : Value} (h : LkBx lo W lb l ov sv) (hp : pb < lo ∨ lb < pb) : LkBx lo (W.setCell ⟨pb, i, none⟩ u) lb l ov sv :=
  h.kept (fun k hk hk2 _ => Below.heap_setCell _ _ _ _ (by show k ≠ pb; omega)) (by simp)
theorem LkBx.new {lo : Nat} {w1 : World} {l : Lk} {ov sv : Value} (h : LkAt w1 (fun b => lo ≤ b) (.agg (l.row ov sv)) l) (hl : lo ≤ w1.heap.size) : LkBx lo (w1.alloc (.cells (l.row ov sv) 27)) w1.heap.size l ov sv :=
  ⟨(MapKept.heap_alloc w1 _).1, h.kept (fun b _ hlt => Below.heap_alloc w1 _ b hlt) (by simp) (fun b hb hlt => ⟨hb, hlt⟩), hl⟩
/-- A block that was there stays as it was, beside the cursor. -/
theorem res_step {W W' : World} {g r : Nat} {o : Obj} (h : W.heap[r]? = some o) (hg : W.grownBy W' (some g)) (hr : r < g) : W'.heap[r]? = some o :=
  (hg.block r (lt_heap h) (fun e => by have := Option.some.inj e; omega)).trans h
theorem res_alloc {W : World} {r : Nat} {o o' : Obj} (h : W.heap[r]? = some o) : (W.alloc o').heap[r]? = some o := (Below.heap_alloc W o' r (lt_heap h)).trans h


set_option maxHeartbeats 1600000 in
theorem drawLinkAgain_any (V : Value) (len : Nat) (w : World) (hcode : CodeIs w.heap.size w V len) :
    Calls Tryz.prog 13 #[V] w fun e w' => ∃ (v : Value) (l : Lk), e = .returned v ∧ LkAt w' (fun _ => True) v l ∧ l.bulk ≤ 300000 ∧ Below w.heap.size w w' := by
  have hbA : Below w.heap.size w (w.alloc (.cells (Lk.row ⟨0, 0, [], []⟩ (.slice none 0 0) (.slice none 0 0)) 27)) := (Below.refl _ w).alloc (Nat.le_refl _) _
  have HA := (show Hid (_ ∧ _ ∧ _) from ⟨hbA, code_upL hcode hbA, (MapKept.heap_alloc w (.cells (Lk.row ⟨0, 0, [], []⟩ (.slice none 0 0) (.slice none 0 0)) 27)).1⟩)
  have hsA : w.heap.size < (w.alloc (.cells (Lk.row ⟨0, 0, [], []⟩ (.slice none 0 0) (.slice none 0 0)) 27)).heap.size := by simp
  clear hbA hcode
  go_enter Tryz.func13, Tryz.ntmps13
  go_wp2_with fail
  generalize w.alloc (.cells (Lk.row ⟨0, 0, [], []⟩ (.slice none 0 0) (.slice none 0 0)) 27) = wA at *
  refine (new_dr V len wA HA.out.2.1).mono ?_
  rintro e w1 ⟨rfl, h1, b1⟩
  have H1 := (show Hid (_ ∧ _ ∧ _) from ⟨h1, HA.out.1.trans (b1.mono (by omega)), (b1.block _ hsA).trans HA.out.2.2⟩)
  clear h1 b1 HA
  go_wp2_with fail
  refine (link_dr _ _ V len w1 H1.out.1).mono ?_
  rintro e w2 ⟨v, l, rfl, hv, hb, h2, g2⟩
  obtain ⟨oa, oc, sa, sc, rfl, -, -⟩ := hv.form
  have H2 := (show Hid (_ ∧ _ ∧ _ ∧ _) from ⟨hv, hb, below_more H1.out.2.1 g2 (by omega), res_step H1.out.2.2 g2 hsA⟩)
  have hw1 := H1.out.2.1.size
  have hg1 : wA.heap.size < w1.heap.size := H1.out.1.glt
  clear hv hb h2 g2 H1
  have az0 : w2.cell? ⟨w.heap.size, 0, none⟩ = some (.int .i64 0) := by rw [cell_of_block H2.out.2.2.2]; rfl
  have af0 : w2.frozen? ⟨w.heap.size, 0, none⟩ = false := unfrozen_of_block H2.out.2.2.2 0
  have az1 : w2.cell? ⟨w.heap.size, 1, none⟩ = some (.int .i64 0) := by rw [cell_of_block H2.out.2.2.2]; rfl
  have af1 : w2.frozen? ⟨w.heap.size, 1, none⟩ = false := unfrozen_of_block H2.out.2.2.2 1
  have az2 : w2.cell? ⟨w.heap.size, 2, none⟩ = some (.slice none 0 0) := by rw [cell_of_block H2.out.2.2.2]; rfl
  have af2 : w2.frozen? ⟨w.heap.size, 2, none⟩ = false := unfrozen_of_block H2.out.2.2.2 2
  have az3 : w2.cell? ⟨w.heap.size, 3, none⟩ = some (.slice none 0 0) := by rw [cell_of_block H2.out.2.2.2]; rfl
  have af3 : w2.frozen? ⟨w.heap.size, 3, none⟩ = false := unfrozen_of_block H2.out.2.2.2 3
  go_wp2_with fail
  refine bodyPost_ret (v := .agg (l.row (.slice oa l.out.length oc) (.slice sa l.seen.length sc))) (by simp [results, Tryz.results13, go_sem, az0, az1, az2, az3]) rfl ?_
  have hg := grown4 w2 w.heap.size (.int .i64 l.id) (.int .i64 l.next) (.slice oa l.out.length oc) (.slice sa l.seen.length sc)
  exact ⟨_, l, rfl, H2.out.1.kept (fun b hb1 hlt => hg.block b hlt (fun e => by have := Option.some.inj e; omega)) hg.size (fun _ _ _ => trivial), H2.out.2.1, below_more H2.out.2.2.1 hg (Nat.le_refl _)⟩

set_option maxHeartbeats 1600000 in
theorem drawLinkNew_any (V : Value) (len : Nat) (w : World) (hcode : CodeIs w.heap.size w V len) :
    Calls Tryz.prog 14 #[V] w fun e w' => ∃ (id nodes : Int), e = .returned (.tuple #[.int .i64 id, .int .i64 nodes]) ∧ inI64 id ∧ Below w.heap.size w w' := by
  go_enter Tryz.func14, Tryz.ntmps14
  go_wp2_with fail
  refine (new_dr V len w hcode).mono ?_
  rintro e w1 ⟨rfl, h1, b1⟩
  have H1 := (show Hid (Dr w.heap.size w1 w.heap.size V len ∧ Below w.heap.size w w1) from ⟨h1, b1⟩)
  clear h1 b1
  have hgw := H1.out.1.glt
  go_wp2_with fail
  refine (pickInt_dr _ _ V len _ 5 5 [0, 1, 30, 31, -1] _ (by decide) (by decide) rfl (by omega) (ints_lit [0, 1, 30, 31, -1] w1) (H1.out.1.alloc _)).mono ?_
  rintro e w2 ⟨y, rfl, hy, h2, g2⟩
  have hyb : inI64 y := by
    simp only [List.mem_cons, List.not_mem_nil, or_false] at hy
    exact ⟨by omega, by omega⟩
  have H2 := (show Hid (Dr w.heap.size w2 w.heap.size V len ∧ Below w.heap.size w w2) from ⟨h2, below_more (H1.out.2.alloc H1.out.2.size _) g2 (Nat.le_refl _)⟩)
  clear h2 g2 H1 hy hgw
  have hgw := H2.out.1.glt
  go_wp2_with fail
  refine (pickInt_dr _ _ V len _ 6 6 [2, 3, 31, 32, 0, -1] _ (by decide) (by decide) rfl (by omega) (ints_lit [2, 3, 31, 32, 0, -1] w2) (H2.out.1.alloc _)).mono ?_
  rintro e w3 ⟨z, rfl, hz, h3, g3⟩
  have H3 := (show Hid (Below w.heap.size w w3) from below_more (H2.out.2.alloc H2.out.2.size _) g3 (Nat.le_refl _))
  clear h3 g3 H2 hz
  go_wp2_with fail
  exact bodyPost_ret (v := .tuple #[.int .i64 y, .int .i64 z]) (by simp [results, Tryz.results14, go_sem]) rfl ⟨y, z, rfl, hyb, H3.out⟩

set_option maxHeartbeats 3200000 in
theorem drawLinkAck_any (V : Value) (len : Nat) (w : World) (hcode : CodeIs w.heap.size w V len) :
    Calls Tryz.prog 11 #[V] w fun e w' => ∃ (v : Value) (l : Lk) (a b : Int), e = .returned (.tuple #[v, .int .i64 a, .int .i64 b]) ∧ LkAt w' (fun _ => True) v l ∧ l.bulk ≤ 300000 ∧ Below w.heap.size w w' := by
  have hbA : Below w.heap.size w (w.alloc (.cells (Lk.row ⟨0, 0, [], []⟩ (.slice none 0 0) (.slice none 0 0)) 27)) := (Below.refl _ w).alloc (Nat.le_refl _) _
  have HA := (show Hid (_ ∧ _ ∧ _) from ⟨hbA, code_upL hcode hbA, (MapKept.heap_alloc w (.cells (Lk.row ⟨0, 0, [], []⟩ (.slice none 0 0) (.slice none 0 0)) 27)).1⟩)
  have hsA : w.heap.size < (w.alloc (.cells (Lk.row ⟨0, 0, [], []⟩ (.slice none 0 0) (.slice none 0 0)) 27)).heap.size := by simp
  clear hbA hcode
  go_enter Tryz.func11, Tryz.ntmps11
  go_wp2_with fail
  generalize w.alloc (.cells (Lk.row ⟨0, 0, [], []⟩ (.slice none 0 0) (.slice none 0 0)) 27) = wA at *
  refine (new_dr V len wA HA.out.2.1).mono ?_
  rintro e w1 ⟨rfl, h1, b1⟩
  have H1 := (show Hid (_ ∧ _ ∧ _) from ⟨h1, HA.out.1.trans (b1.mono (by omega)), (b1.block _ hsA).trans HA.out.2.2⟩)
  clear h1 b1 HA
  go_wp2_with fail
  refine (link_dr _ _ V len w1 H1.out.1).mono ?_
  rintro e w2 ⟨v, l, rfl, hv, hb, h2, g2⟩
  obtain ⟨oa, oc, sa, sc, rfl, -, -⟩ := hv.form
  have hw1 := H1.out.2.1.size
  have hg1 : wA.heap.size < w1.heap.size := H1.out.1.glt
  have hw12 := g2.size
  have L2 := LkBx.new hv hw12
  have H2 := (show Hid (_ ∧ _ ∧ _ ∧ _ ∧ _) from ⟨h2.alloc (.cells (l.row (.slice oa l.out.length oc) (.slice sa l.seen.length sc)) 27), hb, L2, (below_more H1.out.2.1 g2 (by omega)).alloc (Nat.le_trans hw1 hw12) (.cells (l.row (.slice oa l.out.length oc) (.slice sa l.seen.length sc)) 27), res_alloc (o' := .cells (l.row (.slice oa l.out.length oc) (.slice sa l.seen.length sc)) 27) (res_step H1.out.2.2 g2 hsA)⟩)
  clear hv hb h2 g2 H1 L2
  go_upto_region 3 with fail
  have hlb : w2.heap.size < (w2.alloc (.cells (l.row (.slice oa l.out.length oc) (.slice sa l.seen.length sc)) 27)).heap.size := by simp
  generalize w2.alloc (.cells (l.row (.slice oa l.out.length oc) (.slice sa l.seen.length sc)) 27) = W2 at *
  generalize w2.heap.size = lb at *
  obtain ⟨q0, q1, q2, q3⟩ := lbox H2.out.2.2.1.box
  have D2 := (show Hid (_) from H2.out.1.below (Below.refl _ W2).drew)
  have G2 := (show Hid (W2.grownBy W2.drew (some wA.heap.size)) from ⟨rfl, rfl, rfl, Nat.le_refl _, fun _ _ _ => rfl⟩)
  go_region_with (first
    | (go_at_call 40; refine (below_dr _ _ V len 6 _ (by omega) (by omega) H3.out.1).mono ?_; rintro e w4 ⟨b, rfl, b0, b1, h4, g4⟩; have H4 := (show Hid (_ ∧ _ ∧ _ ∧ _) from ⟨H3.out.2.1, H3.out.2.2.1.step g4 hg1, below_more H3.out.2.2.2.1 g4 (by omega), res_step H3.out.2.2.2.2 g4 hsA⟩); clear h4 g4; obtain ⟨q40, q41, q42, q43⟩ := lbox H4.out.2.1.box; have az0 : w4.cell? ⟨w.heap.size, 0, none⟩ = some (.int .i64 0) := (by rw [cell_of_block H4.out.2.2.2]; rfl); have af0 : w4.frozen? ⟨w.heap.size, 0, none⟩ = false := unfrozen_of_block H4.out.2.2.2 0; have az1 : w4.cell? ⟨w.heap.size, 1, none⟩ = some (.int .i64 0) := (by rw [cell_of_block H4.out.2.2.2]; rfl); have af1 : w4.frozen? ⟨w.heap.size, 1, none⟩ = false := unfrozen_of_block H4.out.2.2.2 1; have az2 : w4.cell? ⟨w.heap.size, 2, none⟩ = some (.slice none 0 0) := (by rw [cell_of_block H4.out.2.2.2]; rfl); have af2 : w4.frozen? ⟨w.heap.size, 2, none⟩ = false := unfrozen_of_block H4.out.2.2.2 2; have az3 : w4.cell? ⟨w.heap.size, 3, none⟩ = some (.slice none 0 0) := (by rw [cell_of_block H4.out.2.2.2]; rfl); have af3 : w4.frozen? ⟨w.heap.size, 3, none⟩ = false := unfrozen_of_block H4.out.2.2.2 3)
    | (go_at_call 40; refine (below_dr _ _ V len 4 _ (by omega) (by omega) D2.out).mono ?_; rintro e w3 ⟨a, rfl, a0, a1, h3, g3⟩; have H3 := (show Hid (_ ∧ _ ∧ _ ∧ _ ∧ _) from ⟨h3, H2.out.2.1, H2.out.2.2.1.drew.step g3 hg1, below_more H2.out.2.2.2.1.drew g3 (by omega), res_step (g := wA.heap.size) (W := W2.drew) H2.out.2.2.2.2 g3 hsA⟩); clear h3 g3; obtain ⟨q30, q31, q32, q33⟩ := lbox H3.out.2.2.1.box))
  all_goals
    clear q0 q1 q2 q3 q30 q31 q32 q33
    go_wp2_with fail
    refine bodyPost_ret (v := .tuple #[.agg (l.row (.slice oa l.out.length oc) (.slice sa l.seen.length sc)), .int .i64 a, .int .i64 b]) (by simp [results, Tryz.results11, go_sem, az0, az1, az2, az3]) rfl ?_
    have hg := grown4 w4 w.heap.size (.int .i64 l.id) (.int .i64 l.next) (.slice oa l.out.length oc) (.slice sa l.seen.length sc)
    exact ⟨_, l, a, b, rfl, H4.out.2.1.is.kept (fun b hb1 hlt => hg.block b hlt (fun e => by have := Option.some.inj e; omega)) hg.size (fun _ _ _ => trivial), H4.out.1, below_more H4.out.2.2.1 hg (Nat.le_refl _)⟩

set_option maxHeartbeats 3200000 in
theorem drawLinkTake_any (V : Value) (len : Nat) (w : World) (hcode : CodeIs w.heap.size w V len) :
    Calls Tryz.prog 8 #[V] w fun e w' => ∃ (v : Value) (l : Lk) (p : Pa), e = .returned (.tuple #[v, .agg p.row]) ∧ LkAt w' (fun _ => True) v l ∧ l.bulk ≤ 300000 ∧ p.fits ∧ p.body.size ≤ 1000 ∧ Below w.heap.size w w' := by
  have hbA : Below w.heap.size w ((w.alloc (.cells (Lk.row ⟨0, 0, [], []⟩ (.slice none 0 0) (.slice none 0 0)) 27)).alloc (.cells #[.int .i64 0, .int .i64 0, .int .i64 0, .int .i64 0, .int .i64 0, .string ⟨#[]⟩] 38)) := ((Below.refl _ w).alloc (Nat.le_refl _) _).alloc (by simp) _
  have r0 : ((w.alloc (.cells (Lk.row ⟨0, 0, [], []⟩ (.slice none 0 0) (.slice none 0 0)) 27)).alloc (.cells #[.int .i64 0, .int .i64 0, .int .i64 0, .int .i64 0, .int .i64 0, .string ⟨#[]⟩] 38)).heap[w.heap.size]? = some (.cells (Lk.row ⟨0, 0, [], []⟩ (.slice none 0 0) (.slice none 0 0)) 27) := res_alloc (MapKept.heap_alloc w (.cells (Lk.row ⟨0, 0, [], []⟩ (.slice none 0 0) (.slice none 0 0)) 27)).1
  have r1 : ((w.alloc (.cells (Lk.row ⟨0, 0, [], []⟩ (.slice none 0 0) (.slice none 0 0)) 27)).alloc (.cells #[.int .i64 0, .int .i64 0, .int .i64 0, .int .i64 0, .int .i64 0, .string ⟨#[]⟩] 38)).heap[w.heap.size + 1]? = some (.cells #[.int .i64 0, .int .i64 0, .int .i64 0, .int .i64 0, .int .i64 0, .string ⟨#[]⟩] 38) := by have := (MapKept.heap_alloc (w.alloc (.cells (Lk.row ⟨0, 0, [], []⟩ (.slice none 0 0) (.slice none 0 0)) 27)) (.cells #[.int .i64 0, .int .i64 0, .int .i64 0, .int .i64 0, .int .i64 0, .string ⟨#[]⟩] 38)).1; simpa using this
  have HA := (show Hid (_ ∧ _ ∧ _ ∧ _) from ⟨hbA, code_upL hcode hbA, r0, r1⟩)
  have hsA : w.heap.size + 1 < ((w.alloc (.cells (Lk.row ⟨0, 0, [], []⟩ (.slice none 0 0) (.slice none 0 0)) 27)).alloc (.cells #[.int .i64 0, .int .i64 0, .int .i64 0, .int .i64 0, .int .i64 0, .string ⟨#[]⟩] 38)).heap.size := by simp
  clear hbA hcode
  clear r0 r1
  go_enter Tryz.func8, Tryz.ntmps8
  go_wp2_with fail
  generalize (w.alloc (.cells (Lk.row ⟨0, 0, [], []⟩ (.slice none 0 0) (.slice none 0 0)) 27)).alloc (.cells #[.int .i64 0, .int .i64 0, .int .i64 0, .int .i64 0, .int .i64 0, .string ⟨#[]⟩] 38) = wA at *
  refine (new_dr V len wA HA.out.2.1).mono ?_
  rintro e w1 ⟨rfl, h1, b1⟩
  have H1 := (show Hid (_ ∧ _ ∧ _ ∧ _) from ⟨h1, HA.out.1.trans (b1.mono (by omega)), (b1.block _ (by omega)).trans HA.out.2.2.1, (b1.block _ hsA).trans HA.out.2.2.2⟩)
  clear h1 b1 HA
  go_wp2_with fail
  refine (link_dr _ _ V len w1 H1.out.1).mono ?_
  rintro e w2 ⟨v, l, rfl, hv, hb, h2, g2⟩
  obtain ⟨oa, oc, sa, sc, rfl, -, -⟩ := hv.form
  have hw1 := H1.out.2.1.size
  have hg1 : wA.heap.size < w1.heap.size := H1.out.1.glt
  have hw12 := g2.size
  have L2 := LkBx.new hv hw12
  have H2 := (show Hid (_ ∧ _ ∧ _ ∧ _ ∧ _ ∧ _) from ⟨h2.alloc (.cells (l.row (.slice oa l.out.length oc) (.slice sa l.seen.length sc)) 27), hb, L2, (below_more H1.out.2.1 g2 (by omega)).alloc (Nat.le_trans hw1 hw12) (.cells (l.row (.slice oa l.out.length oc) (.slice sa l.seen.length sc)) 27), res_alloc (o' := .cells (l.row (.slice oa l.out.length oc) (.slice sa l.seen.length sc)) 27) (res_step H1.out.2.2.1 g2 (by omega)), res_alloc (o' := .cells (l.row (.slice oa l.out.length oc) (.slice sa l.seen.length sc)) 27) (res_step H1.out.2.2.2 g2 hsA)⟩)
  clear hv hb h2 g2 H1 L2
  go_upto_region 3 with fail
  have hlb : w2.heap.size < (w2.alloc (.cells (l.row (.slice oa l.out.length oc) (.slice sa l.seen.length sc)) 27)).heap.size := by simp
  generalize w2.alloc (.cells (l.row (.slice oa l.out.length oc) (.slice sa l.seen.length sc)) 27) = W2 at *
  generalize w2.heap.size = lb at *
  obtain ⟨q0, q1, q2, q3⟩ := lbox H2.out.2.2.1.box
  have D2 := (show Hid (_) from H2.out.1.below (Below.refl _ W2).drew)
  go_region_with (go_at_call 36; refine (in_dr _ _ V len _ D2.out).mono ?_; rintro e w4 ⟨⟨pk, pf, pd, ps, pl, pby⟩, rfl, hpf, hpb, h4, g4⟩; have H4 := (show Hid (_ ∧ _ ∧ _ ∧ _ ∧ _ ∧ _ ∧ _) from ⟨H2.out.2.1, H2.out.2.2.1.drew.step g4 hg1, below_more H2.out.2.2.2.1.drew g4 (by omega), res_step (g := wA.heap.size) (W := W2.drew) H2.out.2.2.2.2.1 g4 (by omega), res_step (g := wA.heap.size) (W := W2.drew) H2.out.2.2.2.2.2 g4 hsA, hpf, hpb⟩); clear h4 g4 hpf hpb; obtain ⟨q40, q41, q42, q43⟩ := lbox H4.out.2.1.box; have az0 : w4.cell? ⟨w.heap.size, 0, none⟩ = some (.int .i64 0) := (by rw [cell_of_block H4.out.2.2.2.1]; rfl); have af0 : w4.frozen? ⟨w.heap.size, 0, none⟩ = false := unfrozen_of_block H4.out.2.2.2.1 0; have az1 : w4.cell? ⟨w.heap.size, 1, none⟩ = some (.int .i64 0) := (by rw [cell_of_block H4.out.2.2.2.1]; rfl); have af1 : w4.frozen? ⟨w.heap.size, 1, none⟩ = false := unfrozen_of_block H4.out.2.2.2.1 1; have az2 : w4.cell? ⟨w.heap.size, 2, none⟩ = some (.slice none 0 0) := (by rw [cell_of_block H4.out.2.2.2.1]; rfl); have af2 : w4.frozen? ⟨w.heap.size, 2, none⟩ = false := unfrozen_of_block H4.out.2.2.2.1 2; have az3 : w4.cell? ⟨w.heap.size, 3, none⟩ = some (.slice none 0 0) := (by rw [cell_of_block H4.out.2.2.2.1]; rfl); have af3 : w4.frozen? ⟨w.heap.size, 3, none⟩ = false := unfrozen_of_block H4.out.2.2.2.1 3; have bz0 : w4.cell? ⟨w.heap.size + 1, 0, none⟩ = some (.int .i64 0) := (by rw [cell_of_block H4.out.2.2.2.2.1]; rfl); have bf0 : w4.frozen? ⟨w.heap.size + 1, 0, none⟩ = false := unfrozen_of_block H4.out.2.2.2.2.1 0; have bz1 : w4.cell? ⟨w.heap.size + 1, 1, none⟩ = some (.int .i64 0) := (by rw [cell_of_block H4.out.2.2.2.2.1]; rfl); have bf1 : w4.frozen? ⟨w.heap.size + 1, 1, none⟩ = false := unfrozen_of_block H4.out.2.2.2.2.1 1; have bz2 : w4.cell? ⟨w.heap.size + 1, 2, none⟩ = some (.int .i64 0) := (by rw [cell_of_block H4.out.2.2.2.2.1]; rfl); have bf2 : w4.frozen? ⟨w.heap.size + 1, 2, none⟩ = false := unfrozen_of_block H4.out.2.2.2.2.1 2; have bz3 : w4.cell? ⟨w.heap.size + 1, 3, none⟩ = some (.int .i64 0) := (by rw [cell_of_block H4.out.2.2.2.2.1]; rfl); have bf3 : w4.frozen? ⟨w.heap.size + 1, 3, none⟩ = false := unfrozen_of_block H4.out.2.2.2.2.1 3; have bz4 : w4.cell? ⟨w.heap.size + 1, 4, none⟩ = some (.int .i64 0) := (by rw [cell_of_block H4.out.2.2.2.2.1]; rfl); have bf4 : w4.frozen? ⟨w.heap.size + 1, 4, none⟩ = false := unfrozen_of_block H4.out.2.2.2.2.1 4; have bz5 : w4.cell? ⟨w.heap.size + 1, 5, none⟩ = some (.string ⟨#[]⟩) := (by rw [cell_of_block H4.out.2.2.2.2.1]; rfl); have bf5 : w4.frozen? ⟨w.heap.size + 1, 5, none⟩ = false := unfrozen_of_block H4.out.2.2.2.2.1 5)
  all_goals
    clear q0 q1 q2 q3
    go_wp2_with fail
    refine bodyPost_ret (v := .tuple #[.agg (l.row (.slice oa l.out.length oc) (.slice sa l.seen.length sc)), .agg #[.int .i64 pk, .int .i64 pf, .int .i64 pd, .int .i64 ps, .int .i64 pl, .string pby]]) (by simp [results, Tryz.results8, go_sem, az0, az1, az2, az3, bz0, bz1, bz2, bz3, bz4, bz5]) rfl ?_
    have hg := grown4 w4 w.heap.size (.int .i64 l.id) (.int .i64 l.next) (.slice oa l.out.length oc) (.slice sa l.seen.length sc)
    have hg2 := grown6 (((((w4.setCell ⟨w.heap.size, 0, none⟩ (.int .i64 l.id)).setCell ⟨w.heap.size, 1, none⟩ (.int .i64 l.next)).setCell ⟨w.heap.size, 2, none⟩ (.slice oa l.out.length oc)).setCell ⟨w.heap.size, 3, none⟩ (.slice sa l.seen.length sc))) (w.heap.size + 1) (.int .i64 pk) (.int .i64 pf) (.int .i64 pd) (.int .i64 ps) (.int .i64 pl) (.string pby)
    exact ⟨_, l, ⟨pk, pf, pd, ps, pl, pby⟩, rfl, (H4.out.2.1.is.kept (S' := fun b => w1.heap.size ≤ b) (fun b hb1 hlt => hg.block b hlt (fun e => by have := Option.some.inj e; omega)) hg.size (fun b hb1 _ => hb1.1)).kept (fun b hb1 hlt => hg2.block b hlt (fun e => by have := Option.some.inj e; omega)) hg2.size (fun _ _ _ => trivial), H4.out.1, H4.out.2.2.2.2.2.1, H4.out.2.2.2.2.2.2, below_more (below_more H4.out.2.2.1 hg (Nat.le_refl _)) hg2 (by omega)⟩

set_option maxHeartbeats 6400000 in
theorem drawLinkSend_any (V : Value) (len : Nat) (w : World) (hcode : CodeIs w.heap.size w V len) :
    Calls Tryz.prog 5 #[V] w fun e w' => ∃ (v : Value) (l : Lk) (vm : Value) (m : Ms), e = .returned (.tuple #[v, vm]) ∧ LkAt w' (fun _ => True) v l ∧ l.bulk ≤ 300000 ∧ MsAt w' (fun _ => True) vm m ∧ m.cell.kids.length ≤ 101 ∧ Below w.heap.size w w' := by
  have hnot := ex_not
  have hbA : Below w.heap.size w ((w.alloc (.cells (Lk.row ⟨0, 0, [], []⟩ (.slice none 0 0) (.slice none 0 0)) 27)).alloc (.cells #[.int .i64 0, .int .i64 0, .int .i64 0, .int .i64 0, .int .i64 0, .int .i64 0, .int .i64 0, .int .i64 0, .slice none 0 0] 32)) := ((Below.refl _ w).alloc (Nat.le_refl _) _).alloc (by simp) _
  have r0 : ((w.alloc (.cells (Lk.row ⟨0, 0, [], []⟩ (.slice none 0 0) (.slice none 0 0)) 27)).alloc (.cells #[.int .i64 0, .int .i64 0, .int .i64 0, .int .i64 0, .int .i64 0, .int .i64 0, .int .i64 0, .int .i64 0, .slice none 0 0] 32)).heap[w.heap.size]? = some (.cells (Lk.row ⟨0, 0, [], []⟩ (.slice none 0 0) (.slice none 0 0)) 27) := res_alloc (MapKept.heap_alloc w (.cells (Lk.row ⟨0, 0, [], []⟩ (.slice none 0 0) (.slice none 0 0)) 27)).1
  have r1 : ((w.alloc (.cells (Lk.row ⟨0, 0, [], []⟩ (.slice none 0 0) (.slice none 0 0)) 27)).alloc (.cells #[.int .i64 0, .int .i64 0, .int .i64 0, .int .i64 0, .int .i64 0, .int .i64 0, .int .i64 0, .int .i64 0, .slice none 0 0] 32)).heap[w.heap.size + 1]? = some (.cells #[.int .i64 0, .int .i64 0, .int .i64 0, .int .i64 0, .int .i64 0, .int .i64 0, .int .i64 0, .int .i64 0, .slice none 0 0] 32) := by have := (MapKept.heap_alloc (w.alloc (.cells (Lk.row ⟨0, 0, [], []⟩ (.slice none 0 0) (.slice none 0 0)) 27)) (.cells #[.int .i64 0, .int .i64 0, .int .i64 0, .int .i64 0, .int .i64 0, .int .i64 0, .int .i64 0, .int .i64 0, .slice none 0 0] 32)).1; simpa using this
  have HA := (show Hid (_ ∧ _ ∧ _ ∧ _) from ⟨hbA, code_upL hcode hbA, r0, r1⟩)
  have hsA : w.heap.size + 1 < ((w.alloc (.cells (Lk.row ⟨0, 0, [], []⟩ (.slice none 0 0) (.slice none 0 0)) 27)).alloc (.cells #[.int .i64 0, .int .i64 0, .int .i64 0, .int .i64 0, .int .i64 0, .int .i64 0, .int .i64 0, .int .i64 0, .slice none 0 0] 32)).heap.size := by simp
  clear hbA hcode
  clear r0 r1
  go_enter Tryz.func5, Tryz.ntmps5
  go_wp2_with fail
  generalize (w.alloc (.cells (Lk.row ⟨0, 0, [], []⟩ (.slice none 0 0) (.slice none 0 0)) 27)).alloc (.cells #[.int .i64 0, .int .i64 0, .int .i64 0, .int .i64 0, .int .i64 0, .int .i64 0, .int .i64 0, .int .i64 0, .slice none 0 0] 32) = wA at *
  refine (new_dr V len wA HA.out.2.1).mono ?_
  rintro e w1 ⟨rfl, h1, b1⟩
  have H1 := (show Hid (_ ∧ _ ∧ _ ∧ _) from ⟨h1, HA.out.1.trans (b1.mono (by omega)), (b1.block _ (by omega)).trans HA.out.2.2.1, (b1.block _ hsA).trans HA.out.2.2.2⟩)
  clear h1 b1 HA
  go_wp2_with fail
  refine (link_dr _ _ V len w1 H1.out.1).mono ?_
  rintro e w2 ⟨v, l, rfl, hv, hb, h2, g2⟩
  obtain ⟨oa, oc, sa, sc, rfl, -, -⟩ := hv.form
  have hw1 := H1.out.2.1.size
  have hg1 : wA.heap.size < w1.heap.size := H1.out.1.glt
  have hw12 := g2.size
  have L2 := LkBx.new hv hw12
  have H2 := (show Hid (_ ∧ _ ∧ _ ∧ _ ∧ _ ∧ _) from ⟨h2.alloc (.cells (l.row (.slice oa l.out.length oc) (.slice sa l.seen.length sc)) 27), hb, L2, (below_more H1.out.2.1 g2 (by omega)).alloc (Nat.le_trans hw1 hw12) (.cells (l.row (.slice oa l.out.length oc) (.slice sa l.seen.length sc)) 27), res_alloc (o' := .cells (l.row (.slice oa l.out.length oc) (.slice sa l.seen.length sc)) 27) (res_step H1.out.2.2.1 g2 (by omega)), res_alloc (o' := .cells (l.row (.slice oa l.out.length oc) (.slice sa l.seen.length sc)) 27) (res_step H1.out.2.2.2 g2 hsA)⟩)
  clear hv hb h2 g2 H1 L2
  go_upto_region 3 with fail
  have hlb : w2.heap.size < (w2.alloc (.cells (l.row (.slice oa l.out.length oc) (.slice sa l.seen.length sc)) 27)).heap.size := by simp
  generalize w2.alloc (.cells (l.row (.slice oa l.out.length oc) (.slice sa l.seen.length sc)) 27) = W2 at *
  generalize w2.heap.size = lb at *
  go_wp2_with fail
  refine (l07Msg_dr _ _ V len _ H2.out.1).mono ?_
  rintro e w3 ⟨vm, m, rfl, hm, hl, h3, g3⟩
  obtain ⟨ka, kc, rfl⟩ := hm.form
  have hs23 := g3.size
  have H3 := (show Hid (_ ∧ _ ∧ _ ∧ _ ∧ _ ∧ _ ∧ _ ∧ _) from ⟨h3.alloc (.cells (m.row (.slice ka m.cell.kids.length kc)) 32), H2.out.2.1, (H2.out.2.2.1.step g3 hg1).alloc (.cells (m.row (.slice ka m.cell.kids.length kc)) 32), (below_more H2.out.2.2.2.1 g3 (by omega)).alloc (by omega) (.cells (m.row (.slice ka m.cell.kids.length kc)) 32), res_alloc (o' := .cells (m.row (.slice ka m.cell.kids.length kc)) 32) (res_step H2.out.2.2.2.2.1 g3 (by omega)), res_alloc (o' := .cells (m.row (.slice ka m.cell.kids.length kc)) 32) (res_step H2.out.2.2.2.2.2 g3 hsA), MsBx.new hm hs23, hl⟩)
  clear h3 g3 hm hl H2
  go_upto_region 4 with fail
  have hmb : lb < w3.heap.size := by omega
  generalize w3.alloc (.cells (m.row (.slice ka m.cell.kids.length kc)) 32) = W3 at *
  generalize w3.heap.size = mb at *
  go_wp2_with fail
  refine (once_dr _ _ V len 8 _ (by decide) (by decide) H3.out.1).mono ?_
  rintro e w4 ⟨x, rfl, h4, g4⟩
  have H4 := (show Hid (_ ∧ _ ∧ _ ∧ _ ∧ _ ∧ _ ∧ _) from ⟨H3.out.2.1, H3.out.2.2.1.step g4 hg1, below_more H3.out.2.2.2.1 g4 (by omega), res_step H3.out.2.2.2.2.1 g4 (by omega), res_step H3.out.2.2.2.2.2.1 g4 hsA, H3.out.2.2.2.2.2.2.1.step g4 (by omega), H3.out.2.2.2.2.2.2.2⟩)
  clear h4 g4 H3
  go_upto_if 15 with fail
  go_cut [] from 7 (fun wc => ∃ (f : Int), Hid (l.bulk ≤ 300000 ∧ LkBx w1.heap.size wc lb l (.slice oa l.out.length oc) (.slice sa l.seen.length sc) ∧ Below w.heap.size w wc ∧ wc.heap[w.heap.size]? = some (.cells (Lk.row ⟨0, 0, [], []⟩ (.slice none 0 0) (.slice none 0 0)) 27) ∧ wc.heap[w.heap.size + 1]? = some (.cells #[.int .i64 0, .int .i64 0, .int .i64 0, .int .i64 0, .int .i64 0, .int .i64 0, .int .i64 0, .int .i64 0, .slice none 0 0] 32) ∧ MsBx W2.heap.size wc mb ⟨m.kind, f, m.dst, m.id, m.want, m.cell⟩ (.slice ka m.cell.kids.length kc) ∧ m.cell.kids.length ≤ 101))
  case first =>
    cases x with
    | true =>
      go_wp2_with fail
      go_meet
      exact ⟨m.frm, H4.out⟩
    | false =>
      obtain ⟨-, -, ⟨k1, -, k3, k4, k5⟩, -⟩ := H4.out.2.2.2.2.2.1.is
      have M8 := H4.out.2.2.2.2.2.1.put (i := 1) (u := .int .i64 1) ⟨m.kind, 1, m.dst, m.id, m.want, m.cell⟩ rfl rfl ⟨k1, ⟨by show _ ≤ (1 : Int); omega, by show (1 : Int) ≤ _; omega⟩, k3, k4, k5⟩
      have HM := (show Hid _ from M8)
      have hmge := H4.out.2.2.2.2.2.1.ge
      have e1 := H4.out.2.2.2.2.2.1.cells 1 _ rfl
      have fm1 : w4.frozen? ⟨mb, 1, none⟩ = false := unfrozen_of_block H4.out.2.2.2.2.2.1.box 1
      clear M8 k1 k3 k4 k5
      go_wp2_with fail
      go_meet
      refine ⟨1, H4.out.1, H4.out.2.1.set (.inr hmb), H4.out.2.2.1.setCell (p := ⟨mb, 1, none⟩) (by show w.heap.size ≤ mb; omega) _, (Below.heap_setCell _ _ _ _ (by show w.heap.size ≠ mb; omega)).trans H4.out.2.2.2.1, (Below.heap_setCell _ _ _ _ (by show w.heap.size + 1 ≠ mb; omega)).trans H4.out.2.2.2.2.1, HM.out, H4.out.2.2.2.2.2.2⟩
  case rest =>
  obtain ⟨fr, H5⟩ := hcut
  clear H4
  have hmge := H5.out.2.2.2.2.2.1.ge
  obtain ⟨q0, q1, q2, q3⟩ := lbox H5.out.2.1.box
  have e0 := H5.out.2.2.2.2.2.1.cells 0 _ rfl
  have e1 := H5.out.2.2.2.2.2.1.cells 1 _ rfl
  have e2 := H5.out.2.2.2.2.2.1.cells 2 _ rfl
  have e3 := H5.out.2.2.2.2.2.1.cells 3 _ rfl
  have e4 := H5.out.2.2.2.2.2.1.cells 4 _ rfl
  have e5 := H5.out.2.2.2.2.2.1.cells 5 _ rfl
  have e6 := H5.out.2.2.2.2.2.1.cells 6 _ rfl
  have e7 := H5.out.2.2.2.2.2.1.cells 7 _ rfl
  have e8 := H5.out.2.2.2.2.2.1.cells 8 _ rfl
  have az0 : wc.cell? ⟨w.heap.size, 0, none⟩ = some (.int .i64 0) := by rw [cell_of_block H5.out.2.2.2.1]; rfl
  have af0 : wc.frozen? ⟨w.heap.size, 0, none⟩ = false := unfrozen_of_block H5.out.2.2.2.1 0
  have az1 : wc.cell? ⟨w.heap.size, 1, none⟩ = some (.int .i64 0) := by rw [cell_of_block H5.out.2.2.2.1]; rfl
  have af1 : wc.frozen? ⟨w.heap.size, 1, none⟩ = false := unfrozen_of_block H5.out.2.2.2.1 1
  have az2 : wc.cell? ⟨w.heap.size, 2, none⟩ = some (.slice none 0 0) := by rw [cell_of_block H5.out.2.2.2.1]; rfl
  have af2 : wc.frozen? ⟨w.heap.size, 2, none⟩ = false := unfrozen_of_block H5.out.2.2.2.1 2
  have az3 : wc.cell? ⟨w.heap.size, 3, none⟩ = some (.slice none 0 0) := by rw [cell_of_block H5.out.2.2.2.1]; rfl
  have af3 : wc.frozen? ⟨w.heap.size, 3, none⟩ = false := unfrozen_of_block H5.out.2.2.2.1 3
  have bz0 : wc.cell? ⟨w.heap.size + 1, 0, none⟩ = some (.int .i64 0) := by rw [cell_of_block H5.out.2.2.2.2.1]; rfl
  have bf0 : wc.frozen? ⟨w.heap.size + 1, 0, none⟩ = false := unfrozen_of_block H5.out.2.2.2.2.1 0
  have bz1 : wc.cell? ⟨w.heap.size + 1, 1, none⟩ = some (.int .i64 0) := by rw [cell_of_block H5.out.2.2.2.2.1]; rfl
  have bf1 : wc.frozen? ⟨w.heap.size + 1, 1, none⟩ = false := unfrozen_of_block H5.out.2.2.2.2.1 1
  have bz2 : wc.cell? ⟨w.heap.size + 1, 2, none⟩ = some (.int .i64 0) := by rw [cell_of_block H5.out.2.2.2.2.1]; rfl
  have bf2 : wc.frozen? ⟨w.heap.size + 1, 2, none⟩ = false := unfrozen_of_block H5.out.2.2.2.2.1 2
  have bz3 : wc.cell? ⟨w.heap.size + 1, 3, none⟩ = some (.int .i64 0) := by rw [cell_of_block H5.out.2.2.2.2.1]; rfl
  have bf3 : wc.frozen? ⟨w.heap.size + 1, 3, none⟩ = false := unfrozen_of_block H5.out.2.2.2.2.1 3
  have bz4 : wc.cell? ⟨w.heap.size + 1, 4, none⟩ = some (.int .i64 0) := by rw [cell_of_block H5.out.2.2.2.2.1]; rfl
  have bf4 : wc.frozen? ⟨w.heap.size + 1, 4, none⟩ = false := unfrozen_of_block H5.out.2.2.2.2.1 4
  have bz5 : wc.cell? ⟨w.heap.size + 1, 5, none⟩ = some (.int .i64 0) := by rw [cell_of_block H5.out.2.2.2.2.1]; rfl
  have bf5 : wc.frozen? ⟨w.heap.size + 1, 5, none⟩ = false := unfrozen_of_block H5.out.2.2.2.2.1 5
  have bz6 : wc.cell? ⟨w.heap.size + 1, 6, none⟩ = some (.int .i64 0) := by rw [cell_of_block H5.out.2.2.2.2.1]; rfl
  have bf6 : wc.frozen? ⟨w.heap.size + 1, 6, none⟩ = false := unfrozen_of_block H5.out.2.2.2.2.1 6
  have bz7 : wc.cell? ⟨w.heap.size + 1, 7, none⟩ = some (.int .i64 0) := by rw [cell_of_block H5.out.2.2.2.2.1]; rfl
  have bf7 : wc.frozen? ⟨w.heap.size + 1, 7, none⟩ = false := unfrozen_of_block H5.out.2.2.2.2.1 7
  have bz8 : wc.cell? ⟨w.heap.size + 1, 8, none⟩ = some (.slice none 0 0) := by rw [cell_of_block H5.out.2.2.2.2.1]; rfl
  have bf8 : wc.frozen? ⟨w.heap.size + 1, 8, none⟩ = false := unfrozen_of_block H5.out.2.2.2.2.1 8
  go_wp2_with fail
  go_region
  all_goals
    go_wp2_with fail
    refine bodyPost_ret (v := .tuple #[.agg (l.row (.slice oa l.out.length oc) (.slice sa l.seen.length sc)), .agg (Ms.row ⟨m.kind, fr, m.dst, m.id, m.want, m.cell⟩ (.slice ka m.cell.kids.length kc))]) (by simp [results, Tryz.results5, go_sem, az0, az1, az2, az3, bz0, bz1, bz2, bz3, bz4, bz5, bz6, bz7, bz8]) rfl ?_
    have hg := grown4 wc w.heap.size (.int .i64 l.id) (.int .i64 l.next) (.slice oa l.out.length oc) (.slice sa l.seen.length sc)
    have hg2 := grown9 (((((wc.setCell ⟨w.heap.size, 0, none⟩ (.int .i64 l.id)).setCell ⟨w.heap.size, 1, none⟩ (.int .i64 l.next)).setCell ⟨w.heap.size, 2, none⟩ (.slice oa l.out.length oc)).setCell ⟨w.heap.size, 3, none⟩ (.slice sa l.seen.length sc))) (w.heap.size + 1) (.int .i64 m.kind) (.int .i64 fr) (.int .i64 m.dst) (.int .i64 m.id) (.int .i64 m.want) (.int .i64 m.cell.kind) (.int .i64 m.cell.n) (.int .i64 m.cell.pos) (.slice ka m.cell.kids.length kc)
    have M9 := (H5.out.2.2.2.2.2.1.step hg (by omega)).step hg2 (by omega)
    have L9 := (H5.out.2.1.step hg (by omega)).step hg2 (by omega)
    obtain ⟨kv', hv', e1', e2', e3', e4', hk'⟩ := M9.is
    exact ⟨_, l, _, ⟨m.kind, fr, m.dst, m.id, m.want, m.cell⟩, rfl, (L9.is.kept (fun _ _ _ => rfl) (Nat.le_refl _) (fun _ _ _ => trivial)).below (Below.refl _ _).drew, H5.out.1, (show MsAt _ (fun _ => True) _ _ from ⟨kv', hv', e1', e2', e3', e4', hk'.kept (fun _ _ _ => rfl) (Nat.le_refl _) (fun _ _ _ => trivial)⟩).below (Below.refl _ _).drew, H5.out.2.2.2.2.2.2, (below_more (below_more H5.out.2.2.1 hg (Nat.le_refl _)) hg2 (by omega)).drew⟩

end Go.Proofs.YtlbinamlehapoaaGreatDoor
