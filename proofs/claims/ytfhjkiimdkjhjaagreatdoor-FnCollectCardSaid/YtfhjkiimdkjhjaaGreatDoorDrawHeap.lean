/-
  The specification's draws of roots and of heaps: whatever is drawn is a row of the call's own, small, and the cursor stays a cursor.
-/
import Derived.Test.YtfhjkiimdkjhjaaGreatDoorDrawBase
import Derived.Test.YtfhjkiimdkjhjaaGreatDoorOwnInts
import Derived.Test.YtfhjkiimdkjhjaaGreatDoorCellsAt
namespace Go.Proofs.YtfhjkiimdkjhjaaGreatDoor
open Go.RowKit Go.Joins

set_option maxRecDepth 100000

/-- A row that does not lie in the cursor's block stays as it is. -/
theorem own_grown {W W' : World} {B n size g : Nat} {e : TypeId} {v : Value} {xs : List Value} (h : W.ownsRow B e size v n xs) (hg : W.grownBy W' (some g)) (hB : g < B) : W'.ownsRow B e size v n xs :=
  own_moved h (fun q hq => hg.block q (own_lt h q hq) (fun he => by have h1 := (own_type h q hq).1; have h2 := Option.some.inj he; omega))
theorem Dr.glt {B : Nat} {w : World} {g : Nat} {V : Value} {len : Nat} (h : Dr B w g V len) : g < w.heap.size := h.2.1.lt
theorem Dr.grownOwn {B : Nat} {w w' : World} {g : Nat} {V : Value} {len : Nat} {row : Option Nat} (h : Dr B w g V len) (hg : w.grownBy w' row) (hr : ∀ q, row = some q → B ≤ q ∧ q ≠ g) : Dr B w' g V len := by
  obtain ⟨h1, ⟨h2, i, hh, h3, h4, h5⟩, h6⟩ := h
  have hlt := (Array.getElem?_eq_some_iff.1 h5).1
  refine ⟨h1.kept (fun k hk => hg.block k (by omega) (fun e => by have := (hr k e.symm).1; omega)), ⟨h2, i, hh, h3, h4, (hg.block g hlt (fun e => (hr g e.symm).2 rfl)).trans h5⟩, Nat.le_trans h6 hg.size⟩

set_option maxHeartbeats 3200000 in
theorem roots_dr (B g : Nat) (V : Value) (len : Nat) (n : Int) (w : World) (hn0 : 0 ≤ n) (hn1 : n ≤ 1000) (h : Dr B w g V len) :
    Calls Tryz.prog 25 #[.pointer (some ⟨g, 0, none⟩), .int .i64 n] w fun e w' => ∃ (v : Value) (zs : List Int), e = .returned v ∧ zs.length ≤ 3 ∧ (∀ z ∈ zs, -1 ≤ z ∧ z ≤ n) ∧ w'.ownsRow w.heap.size 3 1 v zs.length (zs.map (fun z => Value.int .i64 z)) ∧ Dr B w' g V len ∧ w.grownBy w' (some g) := by
  obtain ⟨i0, hi, hz0, hz1, hz2⟩ := info_parts infoCdI
  have E0 := ow_empty w w.heap.size 3 (Nat.le_refl _)
  have hgl := h.glt
  have HD := (show Hid (_ ∧ True) from ⟨h, trivial⟩)
  have HE := (show Hid (_ ∧ True) from ⟨E0, trivial⟩)
  clear h E0
  go_enter Tryz.func25, Tryz.ntmps25
  go_wp2_with fail
  refine (below_dr B g V len 4 _ (by omega) (by omega) (HD.out.1.alloc _)).mono ?_
  rintro e w1 ⟨k, rfl, k0, k1, h1, g1⟩
  have hO1 := own_grown HE.out.1 g1 hgl
  have hG1 := (World.grownBy_alloc w (.cells #[] 3) (some g)).trans g1
  have HH := (show Hid (_ ∧ _ ∧ _) from ⟨h1, hO1, hG1⟩)
  obtain ⟨k, rfl⟩ := Int.eq_ofNat_of_zero_le k0
  clear h1 hO1 g1 hG1
  go_wp2_with fail
  go_loopw [5, 7] (fun ov i wr => ∃ zs : List Int, zs.length ≤ k ∧ i = .int .i64 zs.length ∧ (∀ z ∈ zs, -1 ≤ z ∧ z ≤ n) ∧ wr.ownsRow w.heap.size 3 1 ov zs.length (zs.map (fun z => Value.int .i64 z)) ∧ Dr B wr g V len ∧ w.grownBy wr (some g)) (fun _ i _ => k - (intOf i).toNat)
  case atStart => exact ⟨[], Nat.zero_le _, rfl, by simp, HH.out.2.1, HH.out.1, HH.out.2.2⟩
  case round =>
    clear HH
    obtain ⟨zs, hk, rfl, hzs, hO, hD, hG⟩ := hrel
    obtain ⟨oa, oc, rfl⟩ := own_form hO
    have hsz := hG.size
    by_cases hlt : zs.length < k
    · have hlt' : ((zs.length : Nat) : Int) < ((k : Nat) : Int) := by omega
      have HN := (show Hid (_ ∧ _ ∧ _ ∧ _) from ⟨hzs, hO, hD, hG⟩)
      clear hzs hO hD hG
      go_wp2_with fail
      refine (below_dr B g V len (n + 2) _ (by omega) (by omega) HN.out.2.2.1).mono ?_
      rintro e w1 ⟨y, rfl, y0, y1, h1, g1⟩
      have hO1 := own_grown HN.out.2.1 g1 hgl
      have hG1 := HN.out.2.2.2.trans g1
      have hs1 := hG1.size
      have HY := (show Hid (_ ∧ _ ∧ _) from ⟨hO1.alloc (.cells #[.int .i64 (y - 1)] 3), h1.alloc (.cells #[.int .i64 (y - 1)] 3), hG1.trans (World.grownBy_alloc w1 (.cells #[.int .i64 (y - 1)] 3) (some g))⟩)
      clear hO1 hG1 h1 g1
      go_wp2_with (at_builtin; refine wpList_append_own_at _ rfl _ _ 25 rfl w.heap.size 3 i0 (.int .i64 0) 1 8 Tryz.underlying25 hi hz0 hz1 hz2 rfl (by decide) _ zs.length _ rfl HY.out.1 ⟨w1.heap.size, 0, none⟩ 1 1 [.int .i64 (y - 1)] rfl rfl (cell_one_new _ _ _) (int_one _) (by unfold maxLen; omega) (by omega) (by simp; omega) ?_; intro v2 w2 hown2 hgrow2 hnil2 hat2)
      have hr : ∀ q, (Value.slice oa zs.length oc).ownBlock = some q → w.heap.size ≤ q := fun q hq => (own_type HY.out.1 q hq).1
      refine ⟨⟨zs ++ [y - 1], (by simp; omega), (by simp), ?_, ?_, HY.out.2.1.grownOwn hgrow2 (fun q hq => ⟨Nat.le_trans HD.out.1.2.2 (hr q hq), by have := hr q hq; omega⟩), HY.out.2.2.andThen hgrow2 (fun q hq => .inl (hr q hq))⟩, by simp [intOf]; omega⟩
      · intro z hz
        rcases List.mem_append.1 hz with h2 | h2
        · exact HN.out.1 z h2
        · rw [List.mem_singleton] at h2; omega
      · rw [List.length_append, List.map_append]
        exact hown2
    · have hlt' : ¬ ((zs.length : Nat) : Int) < ((k : Nat) : Int) := by omega
      go_wp2
      go_ret
      exact ⟨_, rfl, zs, by omega, hzs, hO, hD, hG⟩


def ceRow (r : Ce × Value) : List Value := [.int .i64 r.1.kind, .int .i64 r.1.n, .int .i64 r.1.pos, r.2]
/-- A drawn cell's numbers are small. -/
def CeSmall (m : Nat) (c : Ce) : Prop := (-2 ≤ c.kind ∧ c.kind ≤ 9) ∧ (-2 ≤ c.n ∧ c.n ≤ 31) ∧ (-1 ≤ c.pos ∧ c.pos ≤ 20) ∧ c.kids.length ≤ m ∧ ∀ z ∈ c.kids, -1 ≤ z ∧ z ≤ 8
/-- A heap that is drawn. -/
structure HpDr (m : Nat) (W : World) (B : Nat) (cv : Value) (rs : List (Ce × Value)) : Prop where
  cells : W.ownsRow B 32 4 cv rs.length (rs.flatMap ceRow)
  kids : ∀ r ∈ rs, IntsAt W (fun b => B ≤ b ∧ ∃ cs, W.heap[b]? = some (.cells cs 3 (0, 0))) r.2 r.1.kids ∧ CeSmall m r.1
variable {m : Nat}
theorem HpDr.wide {W : World} {B : Nat} {cv : Value} {rs : List (Ce × Value)} {m' : Nat} (h : HpDr m W B cv rs) (hm : m ≤ m') : HpDr m' W B cv rs :=
  ⟨h.cells, fun r hr => ⟨(h.kids r hr).1, (h.kids r hr).2.1, (h.kids r hr).2.2.1, (h.kids r hr).2.2.2.1, Nat.le_trans (h.kids r hr).2.2.2.2.1 hm, (h.kids r hr).2.2.2.2.2⟩⟩
theorem HpDr.grown {W W' : World} {B g : Nat} {cv : Value} {rs : List (Ce × Value)} (h : HpDr m W B cv rs) (hg : W.grownBy W' (some g)) (hB : g < B) : HpDr m W' B cv rs :=
  ⟨own_grown h.cells hg hB, fun r hr => ⟨(h.kids r hr).1.kept (fun b hb hlt => hg.block b hlt (fun e => by have := Option.some.inj e; omega)) hg.size (fun b hb hlt => ⟨hb.1, hb.2.elim fun cs hc => ⟨cs, (hg.block b hlt (fun e => by have := Option.some.inj e; omega)).trans hc⟩⟩), (h.kids r hr).2⟩⟩
theorem HpDr.alloc {W : World} {B : Nat} {cv : Value} {rs : List (Ce × Value)} (h : HpDr m W B cv rs) (o : Obj) : HpDr m (W.alloc o) B cv rs :=
  ⟨h.cells.alloc o, fun r hr => ⟨(h.kids r hr).1.kept (fun b _ hlt => Below.heap_alloc W o b hlt) (by simp) (fun b hb hlt => ⟨hb.1, hb.2.elim fun cs hc => ⟨cs, (Below.heap_alloc W o b hlt).trans hc⟩⟩), (h.kids r hr).2⟩⟩
/-- A cell more. -/
theorem HpDr.push {W W' : World} {B : Nat} {cv cv' : Value} {rs : List (Ce × Value)} {c : Ce} {kv : Value} (h : HpDr m W B cv rs) (hown : W'.ownsRow B 32 4 cv' (rs.length + 1) (rs.flatMap ceRow ++ ceRow (c, kv))) (hg : W.grownBy W' cv.ownBlock)
    (hk : IntsAt W (fun b => B ≤ b ∧ ∃ cs, W.heap[b]? = some (.cells cs 3 (0, 0))) kv c.kids) (hc : CeSmall m c) : HpDr m W' B cv' (rs ++ [(c, kv)]) := by
  have hne : ∀ b cs, W.heap[b]? = some (.cells cs 3 (0, 0)) → some b ≠ cv.ownBlock := fun b cs hb e => by
    obtain ⟨_, cs', h2⟩ := own_type h.cells b e.symm
    rw [hb] at h2
    simp at h2
  have hi : ∀ (v : Value) (zs : List Int), IntsAt W (fun b => B ≤ b ∧ ∃ cs, W.heap[b]? = some (.cells cs 3 (0, 0))) v zs → IntsAt W' (fun b => B ≤ b ∧ ∃ cs, W'.heap[b]? = some (.cells cs 3 (0, 0))) v zs := fun v zs hz =>
    hz.kept (fun b hb hlt => hb.2.elim fun cs hc => hg.block b hlt (hne b cs hc)) hg.size (fun b hb hlt => ⟨hb.1, hb.2.elim fun cs hc => ⟨cs, (hg.block b hlt (hne b cs hc)).trans hc⟩⟩)
  refine ⟨?_, fun r hr => ?_⟩
  · rw [List.length_append, List.flatMap_append]
    simpa using hown
  · rcases List.mem_append.1 hr with hr | hr
    · exact ⟨hi _ _ (h.kids r hr).1, (h.kids r hr).2⟩
    · rw [List.mem_singleton] at hr
      subst hr
      exact ⟨hi _ _ hk, hc⟩

theorem ceRow_one (c : Ce) (a : Option Addr) (n cap : Nat) : ∀ u ∈ ceRow (c, .slice a n cap), u.oneCell' = true := by
  intro u hu
  simp only [ceRow, List.mem_cons, List.not_mem_nil, or_false] at hu
  rcases hu with rfl | rfl | rfl | rfl <;> rfl
theorem ce_four_new (w : World) (c : Ce) (kv : Value) (t : TypeId) : ∀ j v, (ceRow (c, kv))[j]? = some v → (w.alloc (.cells #[.int .i64 c.kind, .int .i64 c.n, .int .i64 c.pos, kv] t)).cell? ((⟨w.heap.size, 0, none⟩ : Addr).add j) = some v := by
  intro j v hj
  rw [addr_addI, cell_of_block (MapKept.heap_alloc w _).1, Nat.zero_add]
  simpa [ceRow] using hj
/-- A row of three drawn numbers, cut. -/
theorem kids_at {w : World} {B kb cut cap : Nat} {x1 x2 x3 : Int} (hb : w.heap[kb]? = some (.cells #[.int .i64 x1, .int .i64 x2, .int .i64 x3] 3 (0, 0))) (hB : B ≤ kb) (h1 : 0 ≤ x1 ∧ x1 ≤ 8) (h2 : 0 ≤ x2 ∧ x2 ≤ 8) (h3 : 0 ≤ x3 ∧ x3 ≤ 8) (hm : cut ≤ 3) :
    IntsAt w (fun b => B ≤ b ∧ ∃ cs, w.heap[b]? = some (.cells cs 3 (0, 0))) (.slice (some ⟨kb, 0, none⟩) cut cap) ([x1, x2, x3].take cut) ∧ ([x1, x2, x3].take cut).length ≤ 3 ∧ ∀ z ∈ [x1, x2, x3].take cut, -1 ≤ z ∧ z ≤ 8 := by
  have hl : ([x1, x2, x3].take cut).length = cut := by simp; omega
  have hz : ∀ z ∈ [x1, x2, x3], 0 ≤ z ∧ z ≤ 8 := by
    intro z hz
    simp only [List.mem_cons, List.not_mem_nil, or_false] at hz
    rcases hz with rfl | rfl | rfl <;> assumption
  refine ⟨⟨_, cap, by rw [hl], by rw [hl]; unfold maxLen; omega, fun i t ht => ?_⟩, by omega, fun z h => by have := hz z (List.mem_of_mem_take h); omega⟩
  have ht' : [x1, x2, x3][i]? = some t := by
    rw [List.getElem?_take] at ht
    split at ht
    · exact ht
    · cases ht
  have := hz t (List.mem_of_getElem? ht')
  refine ⟨kb, 0, rfl, ⟨hB, _, hb⟩, (Array.getElem?_eq_some_iff.1 hb).1, ?_, ⟨by omega, by omega⟩⟩
  rw [cell_of_block hb, Nat.zero_add]
  match i, ht' with
  | 0, h => simp at h; subst h; rfl
  | 1, h => simp at h; subst h; rfl
  | 2, h => simp at h; subst h; rfl
  | i + 3, h => simp at h
theorem no_kids {w : World} {S : Nat → Prop} : IntsAt w S (.slice none 0 0) [] := ⟨none, 0, rfl, by unfold maxLen; simp, fun i t h => by simp at h⟩
/-- A cell more is drawn. -/
theorem heap_more {w wx w' : World} {B g : Nat} {V : Value} {len : Nat} {oa : Option Addr} {oc : Nat} {v' : Value} {rs : List (Ce × Value)} {c : Ce} {kv : Value} {o : Obj} (H : HpDr m wx w.heap.size (.slice oa rs.length oc) rs) (hD : Dr B wx g V len) (hG : w.grownBy wx (some g)) (hB : B ≤ w.heap.size) (hgl : g < w.heap.size)
    (hown : w'.ownsRow w.heap.size 32 4 v' (rs.length + 1) (rs.flatMap ceRow ++ ceRow (c, kv))) (hgr : (wx.alloc o).grownBy w' (Value.ownBlock (.slice oa rs.length oc))) (hk : IntsAt wx (fun b => w.heap.size ≤ b ∧ ∃ cs, wx.heap[b]? = some (.cells cs 3 (0, 0))) kv c.kids) (hc : CeSmall m c) :
    HpDr m w' w.heap.size v' (rs ++ [(c, kv)]) ∧ Dr B w' g V len ∧ w.grownBy w' (some g) := by
  have hr : ∀ q, (Value.slice oa rs.length oc).ownBlock = some q → w.heap.size ≤ q := fun q hq => (own_type H.cells q hq).1
  refine ⟨(H.alloc o).push hown hgr (hk.kept (fun b _ hlt => Below.heap_alloc wx o b hlt) (by simp) (fun b hb hlt => ⟨hb.1, hb.2.elim fun cs hc => ⟨cs, (Below.heap_alloc wx o b hlt).trans hc⟩⟩)) hc, (hD.alloc o).grownOwn hgr (fun q hq => ⟨Nat.le_trans hB (hr q hq), by have := hr q hq; omega⟩), (hG.trans (World.grownBy_alloc wx o (some g))).andThen hgr (fun q hq => .inl (hr q hq))⟩

theorem ce_small {kind n pos : Int} {kids : List Int} (h1 : -2 ≤ kind ∧ kind ≤ 9) (h2 : -2 ≤ n ∧ n ≤ 31) (h3 : -1 ≤ pos ∧ pos ≤ 20) (h4 : kids.length ≤ m ∧ ∀ z ∈ kids, -1 ≤ z ∧ z ≤ 8) : CeSmall m ⟨kind, n, pos, kids⟩ := ⟨h1, h2, h3, h4⟩
/-- What stays behind a draw. -/
theorem heap_step {w wx w' : World} {B g kb : Nat} {V : Value} {len : Nat} {ov : Value} {rs : List (Ce × Value)} {cs : Array Value} (h : HpDr m wx w.heap.size ov rs ∧ Dr B wx g V len ∧ w.grownBy wx (some g) ∧ wx.heap[kb]? = some (.cells cs 3 (0, 0))) (hgl : g < w.heap.size) (hkB : w.heap.size ≤ kb) (h1 : Dr B w' g V len) (g1 : wx.grownBy w' (some g)) :
    HpDr m w' w.heap.size ov rs ∧ Dr B w' g V len ∧ w.grownBy w' (some g) ∧ w'.heap[kb]? = some (.cells cs 3 (0, 0)) :=
  ⟨h.1.grown g1 hgl, h1, h.2.2.1.trans g1, (g1.block kb (Array.getElem?_eq_some_iff.1 h.2.2.2).1 (fun e => by have := Option.some.inj e; omega)).trans h.2.2.2⟩

theorem ceRows_len : ∀ A : List (Ce × Value), (A.flatMap ceRow).length = A.length * 4
  | [] => rfl
  | r :: A => by rw [List.flatMap_cons, List.length_append, ceRows_len A, List.length_cons]; simp [ceRow]; omega
theorem ceRows_set (A D : List (Ce × Value)) (r r' : Ce × Value) (f : Nat) (u : Value) (hf : f < 4) (h : (ceRow r).set f u = ceRow r') : ((A ++ r :: D).flatMap ceRow).set (A.length * 4 + f) u = (A ++ r' :: D).flatMap ceRow := by
  rw [List.flatMap_append, List.flatMap_append, List.flatMap_cons, List.flatMap_cons, List.set_append_right _ _ (by rw [ceRows_len]; omega), ceRows_len, show A.length * 4 + f - A.length * 4 = f by omega, List.set_append_left _ _ (by simp [ceRow]; omega), h]
/-- A field of a cell is written. -/
theorem HpDr.set {W : World} {B q n cap f : Nat} {A D : List (Ce × Value)} {c c' : Ce} {kv kv' u : Value} (h : HpDr m W B (.slice (some ⟨q, 0, none⟩) n cap) (A ++ (c, kv) :: D)) (hn : n = (A ++ (c, kv) :: D).length) (hf : f < 4) (hset : (ceRow (c, kv)).set f u = ceRow (c', kv'))
    (hk : IntsAt W (fun b => B ≤ b ∧ ∃ cs, W.heap[b]? = some (.cells cs 3 (0, 0))) kv' c'.kids) (hc : CeSmall m c') : HpDr m (W.setCell ⟨q, A.length * 4 + f, none⟩ u) B (.slice (some ⟨q, 0, none⟩) n cap) (A ++ (c', kv') :: D) := by
  have hcod : W.ownsRow B 32 4 (.slice (some ⟨q, 0, none⟩) n cap) n ((A ++ (c, kv) :: D).flatMap ceRow) := by
    have := h.cells
    rw [← hn] at this
    exact this
  have hst := hcod.stored (A.length * 4 + f) u
  have hne : ∀ b cs, W.heap[b]? = some (.cells cs 3 (0, 0)) → b ≠ q := fun b cs hb e => by
    obtain ⟨_, cs', h2⟩ := own_type h.cells q rfl
    rw [← e, hb] at h2
    simp at h2
  have hi : ∀ (v : Value) (zs : List Int), IntsAt W (fun b => B ≤ b ∧ ∃ cs, W.heap[b]? = some (.cells cs 3 (0, 0))) v zs → IntsAt (W.setCell ⟨q, A.length * 4 + f, none⟩ u) (fun b => B ≤ b ∧ ∃ cs, (W.setCell ⟨q, A.length * 4 + f, none⟩ u).heap[b]? = some (.cells cs 3 (0, 0))) v zs := fun v zs hz =>
    hz.kept (fun b hb _ => hb.2.elim fun cs hc => Below.heap_setCell _ _ _ _ (hne b cs hc)) (by simp) (fun b hb _ => ⟨hb.1, hb.2.elim fun cs hc => ⟨cs, (Below.heap_setCell _ _ _ _ (hne b cs hc)).trans hc⟩⟩)
  refine ⟨?_, fun r hr => ?_⟩
  · have := hst.1
    rw [ceRows_set A D (c, kv) (c', kv') f u hf hset] at this
    rw [show (A ++ (c', kv') :: D).length = n by rw [hn]; simp]
    exact this
  · rw [List.mem_append, List.mem_cons] at hr
    rcases hr with hr | rfl | hr
    · have := h.kids r (by simp [hr]); exact ⟨hi _ _ this.1, this.2⟩
    · exact ⟨hi _ _ hk, hc⟩
    · have := h.kids r (by simp [hr]); exact ⟨hi _ _ this.1, this.2⟩
theorem HpDr.cell {W : World} {B q n cap f : Nat} {rs A D : List (Ce × Value)} {r : Ce × Value} {u : Value} (h : HpDr m W B (.slice (some ⟨q, 0, none⟩) n cap) rs) (hrs : rs = A ++ r :: D) (hu : (ceRow r)[f]? = some u) : W.cell? ⟨q, A.length * 4 + f, none⟩ = some u := by
  have := h.cells.cells (g := q) rfl (A.length * 4 + f) u (by
    rw [hrs, List.flatMap_append, List.flatMap_cons, List.getElem?_append_right (by rw [ceRows_len]; omega), ceRows_len, show A.length * 4 + f - A.length * 4 = f by omega, List.getElem?_append_left (List.getElem?_eq_some_iff.1 hu).1]
    exact hu)
  rw [addr_addI, Nat.zero_add] at this
  exact this
theorem Dr.set {B : Nat} {w : World} {g q off : Nat} {V : Value} {len : Nat} (h : Dr B w g V len) (hq : B ≤ q) (hne : q ≠ g) (u : Value) : Dr B (w.setCell ⟨q, off, none⟩ u) g V len := by
  obtain ⟨h1, ⟨h2, i, hh, h3, h4, h5⟩, h6⟩ := h
  exact ⟨h1.kept (fun k hk => Below.heap_setCell _ _ _ _ (by show k ≠ q; omega)), ⟨h2, i, hh, h3, h4, (Below.heap_setCell _ _ _ _ (by show g ≠ q; omega)).trans h5⟩, by simpa using h6⟩
theorem grown_set {w W : World} {g q off : Nat} (h : w.grownBy W (some g)) (hq : w.heap.size ≤ q) (u : Value) : w.grownBy (W.setCell ⟨q, off, none⟩ u) (some g) :=
  ⟨h.os, h.tape, h.output, by simpa using h.size, fun k hk hne => (Below.heap_setCell _ _ _ _ (by show k ≠ q; omega)).trans (h.block k hk hne)⟩
theorem heap_fin {m' : Nat} (hmm : m ≤ m') {w W : World} {B g q f oc j : Nat} {V : Value} {len : Nat} {rs A D : List (Ce × Value)} {c c' : Ce} {kv kv' u : Value} (H : HpDr m W w.heap.size (.slice (some ⟨q, 0, none⟩) rs.length oc) rs ∧ Dr B W g V len ∧ w.grownBy W (some g)) (hrs : rs = A ++ (c, kv) :: D) (hA : A.length = j) (hB : B ≤ w.heap.size) (hgl : g < w.heap.size) (hf : f < 4) (hset : (ceRow (c, kv)).set f u = ceRow (c', kv'))
    (hk : IntsAt W (fun b => w.heap.size ≤ b ∧ ∃ cs, W.heap[b]? = some (.cells cs 3 (0, 0))) kv c.kids → IntsAt W (fun b => w.heap.size ≤ b ∧ ∃ cs, W.heap[b]? = some (.cells cs 3 (0, 0))) kv' c'.kids) (hc : CeSmall m c → CeSmall m' c') (hl : rs.length ≤ 8) :
    ∃ rs' : List (Ce × Value), rs'.length ≤ 8 ∧ HpDr m' (W.setCell ⟨q, j * 4 + f, none⟩ u) w.heap.size (.slice (some ⟨q, 0, none⟩) rs.length oc) rs' ∧ Dr B (W.setCell ⟨q, j * 4 + f, none⟩ u) g V len ∧ w.grownBy (W.setCell ⟨q, j * 4 + f, none⟩ u) (some g) := by
  have hq := (own_type H.1.cells q rfl).1
  have hh := H.1.kids (c, kv) (by rw [hrs]; simp)
  have h1 := H.1
  have hle : rs.length = (A ++ (c', kv') :: D).length := by rw [hrs]; simp
  refine ⟨A ++ (c', kv') :: D, by omega, ?_, H.2.1.set (by omega) (by omega) u, grown_set H.2.2 hq u⟩
  rw [← hA]
  refine HpDr.set (m := m') (c := c) (kv := kv) ?_ (by rw [hrs]) hf hset (hk hh.1) (hc hh.2)
  rw [← hrs]
  exact h1.wide hmm
theorem ints_lit (zs : List Int) (w : World) : ∀ j z, zs[j]? = some z → (w.alloc (.cells (zs.map (fun z => Value.int .i64 z)).toArray 3)).cell? ⟨w.heap.size, j, none⟩ = some (.int .i64 z) := by
  intro j z hj
  rw [cell_of_block (MapKept.heap_alloc w _).1]
  simp [hj]
theorem ow_intsT {w : World} {B : Nat} {v : Value} {zs : List Int} (h : w.ownsRow B 3 1 v zs.length (zs.map (fun z => Value.int .i64 z))) (hz : ∀ z ∈ zs, inI64 z) : IntsAt w (fun b => B ≤ b ∧ ∃ cs, w.heap[b]? = some (.cells cs 3 (0, 0))) v zs := by
  obtain ⟨a, cap, h1, h2, h3⟩ := ow_ints h hz
  refine ⟨a, cap, h1, h2, fun i t ht => ?_⟩
  obtain ⟨b, off, rfl, _, h5, h6, h7⟩ := h3 i t ht
  obtain ⟨q, cap', hv⟩ := own_some h (by have := (List.getElem?_eq_some_iff.1 ht).1; omega)
  have hq := own_type h q (by rw [hv]; rfl)
  rw [hv] at h1
  cases h1
  exact ⟨_, _, rfl, hq, h5, h6, h7⟩
theorem split_at {α : Type} (l : List α) (j : Nat) (hj : j < l.length) : ∃ A x D, l = A ++ x :: D ∧ A.length = j :=
  ⟨l.take j, l[j], l.drop (j + 1), by rw [← List.drop_eq_getElem_cons hj, List.take_append_drop], by rw [List.length_take]; omega⟩

set_option maxHeartbeats 6400000 in
theorem heap_dr (B g : Nat) (V : Value) (len : Nat) (w : World) (h : Dr B w g V len) :
    Calls Tryz.prog 24 #[.pointer (some ⟨g, 0, none⟩)] w fun e w' => ∃ (v : Value) (rs : List (Ce × Value)), e = .returned v ∧ rs.length ≤ 8 ∧ HpDr 4 w' w.heap.size v rs ∧ Dr B w' g V len ∧ w.grownBy w' (some g) := by
  obtain ⟨i0, hi, hz0, hz1, hz2⟩ := info_parts infoCell
  obtain ⟨j0, hj, hy0, hy1, hy2⟩ := info_parts infoCdI
  have E0 : (w.alloc (.cells #[] 32)).ownsRow w.heap.size 32 4 (.slice (some ⟨w.heap.size, 0, none⟩) 0 0) 0 [] :=
    ⟨rfl, .inr ⟨w.heap.size, 0, _, rfl, Nat.le_refl _, heap_alloc_new w _, Nat.le_refl _, by unfold maxLen; omega, rfl, rfl⟩⟩
  have hgl := h.glt
  have HD := (show Hid (_ ∧ _) from ⟨h, E0⟩)
  clear h E0
  go_enter Tryz.func24, Tryz.ntmps24
  go_wp2_with fail
  refine (below_dr B g V len 9 _ (by omega) (by omega) (HD.out.1.alloc _)).mono ?_
  rintro e w1 ⟨n, rfl, n0, n1, h1, g1⟩
  have hO1 := own_grown HD.out.2 g1 hgl
  have hG1 := (World.grownBy_alloc w (.cells #[] 32) (some g)).trans g1
  have hP1 : HpDr 3 w1 w.heap.size (.slice (some ⟨w.heap.size, 0, none⟩) 0 0) [] := ⟨hO1, fun r hr => by simp at hr⟩
  have HH := (show Hid (_ ∧ _ ∧ _) from ⟨h1, hP1, hG1⟩)
  obtain ⟨n, rfl⟩ := Int.eq_ofNat_of_zero_le n0
  clear h1 hO1 g1 hG1 hP1
  go_wp2_with fail
  go_loopw [3, 5] (fun ov i wr => ∃ rs : List (Ce × Value), rs.length ≤ n ∧ i = .int .i64 rs.length ∧ HpDr 3 wr w.heap.size ov rs ∧ Dr B wr g V len ∧ w.grownBy wr (some g)) (fun _ i _ => n - (intOf i).toNat)
  case atStart => exact ⟨[], Nat.zero_le _, rfl, HH.out.2.1, HH.out.1, HH.out.2.2⟩
  case round =>
    clear HH
    obtain ⟨rs, hk, rfl, hP, hD, hG⟩ := hrel
    obtain ⟨oa, oc, rfl⟩ := own_form hP.cells
    have hsz := hG.size
    by_cases hlt : rs.length < n
    · have hlt' : ((rs.length : Nat) : Int) < ((n : Nat) : Int) := by omega
      have HN := (show Hid (_ ∧ _ ∧ _) from ⟨hP, hD, hG⟩)
      clear hP hD hG
      go_wp2_with fail
      refine (below_dr B g V len n _ (by omega) (by omega) HN.out.2.1).mono ?_
      rintro e w2 ⟨x1, rfl, x10, x11, h2, g2⟩
      have H2 := (show Hid (_ ∧ _ ∧ _) from ⟨HN.out.1.grown g2 hgl, h2, HN.out.2.2.trans g2⟩)
      clear h2 g2 HN
      go_wp2_with fail
      refine (below_dr B g V len n _ (by omega) (by omega) H2.out.2.1).mono ?_
      rintro e w3 ⟨x2, rfl, x20, x21, h3, g3⟩
      have H3 := (show Hid (_ ∧ _ ∧ _) from ⟨H2.out.1.grown g3 hgl, h3, H2.out.2.2.trans g3⟩)
      clear h3 g3 H2
      go_wp2_with fail
      refine (below_dr B g V len n _ (by omega) (by omega) H3.out.2.1).mono ?_
      rintro e w4 ⟨x3, rfl, x30, x31, h4, g4⟩
      have H4 := (show Hid (_ ∧ _ ∧ _) from ⟨H3.out.1.grown g4 hgl, h4, H3.out.2.2.trans g4⟩)
      clear h4 g4 H3
      go_wp2_with fail
      refine (below_dr B g V len 8 _ (by omega) (by omega) (H4.out.2.1.alloc _)).mono ?_
      rintro e w5 ⟨s, rfl, s0, s1, h5, g5⟩
      have hkb : w5.heap[w4.heap.size]? = some (.cells #[.int .i64 x1, .int .i64 x2, .int .i64 x3] 3 (0, 0)) :=
        (g5.block _ (by simp) (fun e => by have h6 := Option.some.inj e; have h7 := H4.out.2.2.size; omega)).trans (MapKept.heap_alloc w4 _).1
      have H5 := (show Hid (_ ∧ _ ∧ _ ∧ _) from ⟨(H4.out.1.alloc (.cells #[.int .i64 x1, .int .i64 x2, .int .i64 x3] 3)).grown g5 hgl, h5, (H4.out.2.2.trans (World.grownBy_alloc w4 (.cells #[.int .i64 x1, .int .i64 x2, .int .i64 x3] 3) (some g))).trans g5, hkb⟩)
      have hkB : w.heap.size ≤ w4.heap.size := H4.out.2.2.size
      have hs5 : w.heap.size ≤ w5.heap.size := H5.out.2.2.1.size
      generalize w4.heap.size = kb at *
      clear h5 g5 H4 hkb
      have hs : s = 0 ∨ s = 1 ∨ s = 2 ∨ s = 3 ∨ s = 4 ∨ s = 5 ∨ s = 6 ∨ s = 7 := by omega
      rcases hs with rfl | rfl | rfl | rfl | rfl | rfl | rfl | rfl
      · go_wp2_with fail
        refine (below_dr B g V len 9 _ (by omega) (by omega) H5.out.2.1).mono ?_
        rintro e w6 ⟨y, rfl, y0, y1, h6, g6⟩
        have H6 := (show Hid (_ ∧ _ ∧ _ ∧ _) from heap_step H5.out hgl hkB h6 g6)
        have hs6 : w.heap.size ≤ w6.heap.size := H6.out.2.2.1.size
        clear h6 g6 H5
        have HY := (show Hid (_ ∧ True) from ⟨H6.out.1.cells.alloc (.cells #[.int .i64 (0), .int .i64 (y), .int .i64 (0), .slice none 0 0] 32), trivial⟩)
        go_wp2_with (at_builtin; refine wpList_append_own_at _ rfl _ _ 24 rfl w.heap.size 32 i0 _ 4 48 Tryz.underlying24 hi hz0 hz1 hz2 rfl (by decide) _ rs.length _ rfl HY.out.1 ⟨w6.heap.size, 0, none⟩ 1 1 (ceRow (⟨0, y, 0, []⟩, .slice none 0 0)) rfl rfl (ce_four_new _ ⟨0, y, 0, []⟩ _ _) (ceRow_one _ _ _ _) (by unfold maxLen; omega) (by omega) (by simp; omega) ?_; intro vz wz hownz hgrowz hnilz hatz)
        exact ⟨⟨rs ++ [(⟨0, y, 0, []⟩, .slice none 0 0)], (by simp; omega), (by simp), heap_more H6.out.1 H6.out.2.1 H6.out.2.2.1 HD.out.1.2.2 hgl hownz hgrowz no_kids (ce_small (kind := 0) (n := y) (pos := 0) (by omega) (by omega) (by omega) ⟨by simp, by simp⟩)⟩, by simp [intOf]; omega⟩
      · have HY := (show Hid (_ ∧ True) from ⟨H5.out.1.cells.alloc (.cells #[.int .i64 (1), .int .i64 (0), .int .i64 (0), .slice none 0 0] 32), trivial⟩)
        go_wp2_with (at_builtin; refine wpList_append_own_at _ rfl _ _ 24 rfl w.heap.size 32 i0 _ 4 48 Tryz.underlying24 hi hz0 hz1 hz2 rfl (by decide) _ rs.length _ rfl HY.out.1 ⟨w5.heap.size, 0, none⟩ 1 1 (ceRow (⟨1, 0, 0, []⟩, .slice none 0 0)) rfl rfl (ce_four_new _ ⟨1, 0, 0, []⟩ _ _) (ceRow_one _ _ _ _) (by unfold maxLen; omega) (by omega) (by simp; omega) ?_; intro vz wz hownz hgrowz hnilz hatz)
        exact ⟨⟨rs ++ [(⟨1, 0, 0, []⟩, .slice none 0 0)], (by simp; omega), (by simp), heap_more H5.out.1 H5.out.2.1 H5.out.2.2.1 HD.out.1.2.2 hgl hownz hgrowz no_kids (ce_small (kind := 1) (n := 0) (pos := 0) (by omega) (by omega) (by omega) ⟨by simp, by simp⟩)⟩, by simp [intOf]; omega⟩
      · have HY := (show Hid (_ ∧ True) from ⟨H5.out.1.cells.alloc (.cells #[.int .i64 (2), .int .i64 (0), .int .i64 (0), .slice (some ⟨kb, 0, none⟩) 2 3] 32), trivial⟩)
        go_wp2_with (at_builtin; refine wpList_append_own_at _ rfl _ _ 24 rfl w.heap.size 32 i0 _ 4 48 Tryz.underlying24 hi hz0 hz1 hz2 rfl (by decide) _ rs.length _ rfl HY.out.1 ⟨w5.heap.size, 0, none⟩ 1 1 (ceRow (⟨2, 0, 0, ([x1, x2, x3].take 2)⟩, .slice (some ⟨kb, 0, none⟩) 2 3)) rfl rfl (ce_four_new _ ⟨2, 0, 0, ([x1, x2, x3].take 2)⟩ _ _) (ceRow_one _ _ _ _) (by unfold maxLen; omega) (by omega) (by simp; omega) ?_; intro vz wz hownz hgrowz hnilz hatz)
        exact ⟨⟨rs ++ [(⟨2, 0, 0, ([x1, x2, x3].take 2)⟩, .slice (some ⟨kb, 0, none⟩) 2 3)], (by simp; omega), (by simp), heap_more H5.out.1 H5.out.2.1 H5.out.2.2.1 HD.out.1.2.2 hgl hownz hgrowz (kids_at (cut := 2) (cap := 3) H5.out.2.2.2 hkB ⟨x10, by omega⟩ ⟨x20, by omega⟩ ⟨x30, by omega⟩ (by omega)).1 (ce_small (kind := 2) (n := 0) (pos := 0) (by omega) (by omega) (by omega) (kids_at (cut := 2) (cap := 3) H5.out.2.2.2 hkB ⟨x10, by omega⟩ ⟨x20, by omega⟩ ⟨x30, by omega⟩ (by omega)).2)⟩, by simp [intOf]; omega⟩
      · go_wp2_with fail
        refine (below_dr B g V len 2 _ (by omega) (by omega) H5.out.2.1).mono ?_
        rintro e w6 ⟨y, rfl, y0, y1, h6, g6⟩
        have H6 := (show Hid (_ ∧ _ ∧ _ ∧ _) from heap_step H5.out hgl hkB h6 g6)
        have hs6 : w.heap.size ≤ w6.heap.size := H6.out.2.2.1.size
        clear h6 g6 H5
        go_wp2_with fail
        refine (below_dr B g V len 20 _ (by omega) (by omega) H6.out.2.1).mono ?_
        rintro e w7 ⟨z, rfl, z0, z1, h7, g7⟩
        have H7 := (show Hid (_ ∧ _ ∧ _ ∧ _) from heap_step H6.out hgl hkB h7 g7)
        have hs7 : w.heap.size ≤ w7.heap.size := H7.out.2.2.1.size
        clear h7 g7 H6
        go_wp2_with fail
        refine (below_dr B g V len 4 _ (by omega) (by omega) H7.out.2.1).mono ?_
        rintro e w8 ⟨m, rfl, m0, m1, h8, g8⟩
        have H8 := (show Hid (_ ∧ _ ∧ _ ∧ _) from heap_step H7.out hgl hkB h8 g8)
        have hs8 : w.heap.size ≤ w8.heap.size := H8.out.2.2.1.size
        clear h8 g8 H7
        obtain ⟨m, rfl⟩ := Int.eq_ofNat_of_zero_le m0
        have HY := (show Hid (_ ∧ True) from ⟨H8.out.1.cells.alloc (.cells #[.int .i64 (3), .int .i64 (1 + y), .int .i64 (z), .slice (some ⟨kb, 0, none⟩) m 3] 32), trivial⟩)
        go_wp2_with (at_builtin; refine wpList_append_own_at _ rfl _ _ 24 rfl w.heap.size 32 i0 _ 4 48 Tryz.underlying24 hi hz0 hz1 hz2 rfl (by decide) _ rs.length _ rfl HY.out.1 ⟨w8.heap.size, 0, none⟩ 1 1 (ceRow (⟨3, 1 + y, z, ([x1, x2, x3].take m)⟩, .slice (some ⟨kb, 0, none⟩) m 3)) rfl rfl (ce_four_new _ ⟨3, 1 + y, z, ([x1, x2, x3].take m)⟩ _ _) (ceRow_one _ _ _ _) (by unfold maxLen; omega) (by omega) (by simp; omega) ?_; intro vz wz hownz hgrowz hnilz hatz)
        exact ⟨⟨rs ++ [(⟨3, 1 + y, z, ([x1, x2, x3].take m)⟩, .slice (some ⟨kb, 0, none⟩) m 3)], (by simp; omega), (by simp), heap_more H8.out.1 H8.out.2.1 H8.out.2.2.1 HD.out.1.2.2 hgl hownz hgrowz (kids_at (cut := m) (cap := 3) H8.out.2.2.2 hkB ⟨x10, by omega⟩ ⟨x20, by omega⟩ ⟨x30, by omega⟩ (by omega)).1 (ce_small (kind := 3) (n := 1 + y) (pos := z) (by omega) (by omega) (by omega) (kids_at (cut := m) (cap := 3) H8.out.2.2.2 hkB ⟨x10, by omega⟩ ⟨x20, by omega⟩ ⟨x30, by omega⟩ (by omega)).2)⟩, by simp [intOf]; omega⟩
      · go_wp2_with fail
        refine (below_dr B g V len 20 _ (by omega) (by omega) H5.out.2.1).mono ?_
        rintro e w6 ⟨z, rfl, z0, z1, h6, g6⟩
        have H6 := (show Hid (_ ∧ _ ∧ _ ∧ _) from heap_step H5.out hgl hkB h6 g6)
        have hs6 : w.heap.size ≤ w6.heap.size := H6.out.2.2.1.size
        clear h6 g6 H5
        go_wp2_with fail
        refine (below_dr B g V len 4 _ (by omega) (by omega) H6.out.2.1).mono ?_
        rintro e w7 ⟨m, rfl, m0, m1, h7, g7⟩
        have H7 := (show Hid (_ ∧ _ ∧ _ ∧ _) from heap_step H6.out hgl hkB h7 g7)
        have hs7 : w.heap.size ≤ w7.heap.size := H7.out.2.2.1.size
        clear h7 g7 H6
        obtain ⟨m, rfl⟩ := Int.eq_ofNat_of_zero_le m0
        have HY := (show Hid (_ ∧ True) from ⟨H7.out.1.cells.alloc (.cells #[.int .i64 (4), .int .i64 (0), .int .i64 (z), .slice (some ⟨kb, 0, none⟩) m 3] 32), trivial⟩)
        go_wp2_with (at_builtin; refine wpList_append_own_at _ rfl _ _ 24 rfl w.heap.size 32 i0 _ 4 48 Tryz.underlying24 hi hz0 hz1 hz2 rfl (by decide) _ rs.length _ rfl HY.out.1 ⟨w7.heap.size, 0, none⟩ 1 1 (ceRow (⟨4, 0, z, ([x1, x2, x3].take m)⟩, .slice (some ⟨kb, 0, none⟩) m 3)) rfl rfl (ce_four_new _ ⟨4, 0, z, ([x1, x2, x3].take m)⟩ _ _) (ceRow_one _ _ _ _) (by unfold maxLen; omega) (by omega) (by simp; omega) ?_; intro vz wz hownz hgrowz hnilz hatz)
        exact ⟨⟨rs ++ [(⟨4, 0, z, ([x1, x2, x3].take m)⟩, .slice (some ⟨kb, 0, none⟩) m 3)], (by simp; omega), (by simp), heap_more H7.out.1 H7.out.2.1 H7.out.2.2.1 HD.out.1.2.2 hgl hownz hgrowz (kids_at (cut := m) (cap := 3) H7.out.2.2.2 hkB ⟨x10, by omega⟩ ⟨x20, by omega⟩ ⟨x30, by omega⟩ (by omega)).1 (ce_small (kind := 4) (n := 0) (pos := z) (by omega) (by omega) (by omega) (kids_at (cut := m) (cap := 3) H7.out.2.2.2 hkB ⟨x10, by omega⟩ ⟨x20, by omega⟩ ⟨x30, by omega⟩ (by omega)).2)⟩, by simp [intOf]; omega⟩
      · go_wp2_with fail
        refine (below_dr B g V len 3 _ (by omega) (by omega) H5.out.2.1).mono ?_
        rintro e w6 ⟨y, rfl, y0, y1, h6, g6⟩
        have H6 := (show Hid (_ ∧ _ ∧ _ ∧ _) from heap_step H5.out hgl hkB h6 g6)
        have hs6 : w.heap.size ≤ w6.heap.size := H6.out.2.2.1.size
        clear h6 g6 H5
        go_wp2_with fail
        refine (below_dr B g V len 5 _ (by omega) (by omega) H6.out.2.1).mono ?_
        rintro e w7 ⟨z, rfl, z0, z1, h7, g7⟩
        have H7 := (show Hid (_ ∧ _ ∧ _ ∧ _) from heap_step H6.out hgl hkB h7 g7)
        have hs7 : w.heap.size ≤ w7.heap.size := H7.out.2.2.1.size
        clear h7 g7 H6
        have HY := (show Hid (_ ∧ True) from ⟨H7.out.1.cells.alloc (.cells #[.int .i64 (7), .int .i64 (y), .int .i64 (z), .slice none 0 0] 32), trivial⟩)
        go_wp2_with (at_builtin; refine wpList_append_own_at _ rfl _ _ 24 rfl w.heap.size 32 i0 _ 4 48 Tryz.underlying24 hi hz0 hz1 hz2 rfl (by decide) _ rs.length _ rfl HY.out.1 ⟨w7.heap.size, 0, none⟩ 1 1 (ceRow (⟨7, y, z, []⟩, .slice none 0 0)) rfl rfl (ce_four_new _ ⟨7, y, z, []⟩ _ _) (ceRow_one _ _ _ _) (by unfold maxLen; omega) (by omega) (by simp; omega) ?_; intro vz wz hownz hgrowz hnilz hatz)
        exact ⟨⟨rs ++ [(⟨7, y, z, []⟩, .slice none 0 0)], (by simp; omega), (by simp), heap_more H7.out.1 H7.out.2.1 H7.out.2.2.1 HD.out.1.2.2 hgl hownz hgrowz no_kids (ce_small (kind := 7) (n := y) (pos := z) (by omega) (by omega) (by omega) ⟨by simp, by simp⟩)⟩, by simp [intOf]; omega⟩
      · have HY := (show Hid (_ ∧ True) from ⟨H5.out.1.cells.alloc (.cells #[.int .i64 (6), .int .i64 (0), .int .i64 (0), .slice (some ⟨kb, 0, none⟩) 1 3] 32), trivial⟩)
        go_wp2_with (at_builtin; refine wpList_append_own_at _ rfl _ _ 24 rfl w.heap.size 32 i0 _ 4 48 Tryz.underlying24 hi hz0 hz1 hz2 rfl (by decide) _ rs.length _ rfl HY.out.1 ⟨w5.heap.size, 0, none⟩ 1 1 (ceRow (⟨6, 0, 0, ([x1, x2, x3].take 1)⟩, .slice (some ⟨kb, 0, none⟩) 1 3)) rfl rfl (ce_four_new _ ⟨6, 0, 0, ([x1, x2, x3].take 1)⟩ _ _) (ceRow_one _ _ _ _) (by unfold maxLen; omega) (by omega) (by simp; omega) ?_; intro vz wz hownz hgrowz hnilz hatz)
        exact ⟨⟨rs ++ [(⟨6, 0, 0, ([x1, x2, x3].take 1)⟩, .slice (some ⟨kb, 0, none⟩) 1 3)], (by simp; omega), (by simp), heap_more H5.out.1 H5.out.2.1 H5.out.2.2.1 HD.out.1.2.2 hgl hownz hgrowz (kids_at (cut := 1) (cap := 3) H5.out.2.2.2 hkB ⟨x10, by omega⟩ ⟨x20, by omega⟩ ⟨x30, by omega⟩ (by omega)).1 (ce_small (kind := 6) (n := 0) (pos := 0) (by omega) (by omega) (by omega) (kids_at (cut := 1) (cap := 3) H5.out.2.2.2 hkB ⟨x10, by omega⟩ ⟨x20, by omega⟩ ⟨x30, by omega⟩ (by omega)).2)⟩, by simp [intOf]; omega⟩
      · have HY := (show Hid (_ ∧ True) from ⟨H5.out.1.cells.alloc (.cells #[.int .i64 (6), .int .i64 (0), .int .i64 (0), .slice (some ⟨kb, 0, none⟩) 1 3] 32), trivial⟩)
        go_wp2_with (at_builtin; refine wpList_append_own_at _ rfl _ _ 24 rfl w.heap.size 32 i0 _ 4 48 Tryz.underlying24 hi hz0 hz1 hz2 rfl (by decide) _ rs.length _ rfl HY.out.1 ⟨w5.heap.size, 0, none⟩ 1 1 (ceRow (⟨6, 0, 0, ([x1, x2, x3].take 1)⟩, .slice (some ⟨kb, 0, none⟩) 1 3)) rfl rfl (ce_four_new _ ⟨6, 0, 0, ([x1, x2, x3].take 1)⟩ _ _) (ceRow_one _ _ _ _) (by unfold maxLen; omega) (by omega) (by simp; omega) ?_; intro vz wz hownz hgrowz hnilz hatz)
        exact ⟨⟨rs ++ [(⟨6, 0, 0, ([x1, x2, x3].take 1)⟩, .slice (some ⟨kb, 0, none⟩) 1 3)], (by simp; omega), (by simp), heap_more H5.out.1 H5.out.2.1 H5.out.2.2.1 HD.out.1.2.2 hgl hownz hgrowz (kids_at (cut := 1) (cap := 3) H5.out.2.2.2 hkB ⟨x10, by omega⟩ ⟨x20, by omega⟩ ⟨x30, by omega⟩ (by omega)).1 (ce_small (kind := 6) (n := 0) (pos := 0) (by omega) (by omega) (by omega) (kids_at (cut := 1) (cap := 3) H5.out.2.2.2 hkB ⟨x10, by omega⟩ ⟨x20, by omega⟩ ⟨x30, by omega⟩ (by omega)).2)⟩, by simp [intOf]; omega⟩
    · have HN := (show Hid (_ ∧ _ ∧ _) from ⟨hP, hD, hG⟩)
      clear hP hD hG
      have hlt' : ¬ ((rs.length : Nat) : Int) < ((n : Nat) : Int) := by omega
      by_cases hn : n = 0
      · subst hn
        go_wp2
        go_ret
        exact ⟨_, rfl, rs, by omega, HN.out.1.wide (by decide), HN.out.2.1, HN.out.2.2⟩
      · have hn' : (0 : Int) < ((n : Nat) : Int) := by omega
        go_wp2_with fail
        refine (below_dr B g V len n _ (by omega) (by omega) HN.out.2.1).mono ?_
        rintro e w2 ⟨x1, rfl, x10, x11, h2, g2⟩
        have H2 := (show Hid (_ ∧ _ ∧ _) from ⟨HN.out.1.grown g2 hgl, h2, HN.out.2.2.trans g2⟩)
        clear h2 g2 HN
        obtain ⟨j, rfl⟩ := Int.eq_ofNat_of_zero_le x10
        go_wp2_with fail
        refine (below_dr B g V len 16 _ (by omega) (by omega) H2.out.2.1).mono ?_
        rintro e w3 ⟨s, rfl, s0, s1, h3, g3⟩
        have H3 := (show Hid (_ ∧ _ ∧ _) from ⟨H2.out.1.grown g3 hgl, h3, H2.out.2.2.trans g3⟩)
        clear h3 g3 H2
        by_cases hs : s = 0 ∨ s = 1 ∨ s = 2 ∨ s = 3
        · obtain ⟨A, ⟨c, kv⟩, D, hrs, hAj⟩ := split_at rs j (by omega)
          have hnr : n = rs.length := by omega
          obtain ⟨q, oc', hq⟩ := own_some H3.out.1.cells (by omega)
          cases hq
          have hq0 := own_type H3.out.1.cells q rfl
          have HC := (show Hid (_ ∧ _ ∧ _ ∧ _) from ⟨hrs, hAj, hnr, hq0⟩)
          have hjn : ((j : Nat) : Int) < ((rs.length : Nat) : Int) := by omega
          clear hrs hAj hnr hq0
          rcases hs with rfl | rfl | rfl | rfl
          · go_wp2_with fail
            refine (below_dr B g V len 10 _ (by omega) (by omega) H3.out.2.1).mono ?_
            rintro e w4 ⟨y, rfl, y0, y1, h4, g4⟩
            have H4 := (show Hid (_ ∧ _ ∧ _) from ⟨H3.out.1.grown g4 hgl, h4, H3.out.2.2.trans g4⟩)
            have hfz : w4.frozen? ⟨q, j * 4, none⟩ = false := by obtain ⟨_, cs, hc⟩ := own_type H4.out.1.cells q rfl; exact unfrozen_of_block hc _
            have hcz : w4.cell? ⟨q, j * 4, none⟩ = some (.int .i64 c.kind) := by have := H4.out.1.cell (f := 0) HC.out.1 (u := .int .i64 c.kind) rfl; rw [HC.out.2.1] at this; exact this
            clear h4 g4
            go_wp2
            go_ret
            obtain ⟨rs', r1, r2, r3, r4⟩ := heap_fin (m' := 4) (by decide) (f := 0) (u := .int .i64 (y - 1)) (c' := ⟨y - 1, c.n, c.pos, c.kids⟩) (kv' := kv) H4.out HC.out.1 HC.out.2.1 HD.out.1.2.2 hgl (by decide) rfl (fun h => h) (fun h => ce_small (kind := y - 1) (n := c.n) (pos := c.pos) (by omega) h.2.1 h.2.2.1 ⟨Nat.le_trans h.2.2.2.1 (by decide), h.2.2.2.2⟩) (by omega)
            exact ⟨_, rs', rfl, r1, r2, r3, r4⟩
          · obtain ⟨ka, kc, hkv⟩ := (H3.out.1.kids (c, kv) (by rw [HC.out.1]; simp)).1.form
            dsimp only at hkv
            subst hkv
            have hfz : w3.frozen? ⟨q, j * 4 + 3, none⟩ = false := by obtain ⟨_, cs, hc⟩ := own_type H3.out.1.cells q rfl; exact unfrozen_of_block hc _
            have hcz : w3.cell? ⟨q, j * 4 + 3, none⟩ = some (.slice ka c.kids.length kc) := by have := H3.out.1.cell (f := 3) HC.out.1 (u := .slice ka c.kids.length kc) rfl; rw [HC.out.2.1] at this; exact this
            have hql : q < w3.heap.size := own_lt H3.out.1.cells q rfl
            have hs3 : w.heap.size ≤ w3.heap.size := H3.out.2.2.size
            have HE := (show Hid (_ ∧ _) from ⟨ow_empty w3 w.heap.size 3 hs3, ((H3.out.1.alloc (.cells #[] 3)).kids (c, .slice ka c.kids.length kc) (by rw [HC.out.1]; simp))⟩)
            have hkl : c.kids.length ≤ 3 := HE.out.2.2.2.2.2.1
            go_wp2_with (at_builtin; refine wpList_append_ints rfl _ _ rfl w.heap.size _ 0 _ rfl HE.out.1 _ c.kids _ rfl HE.out.2.1 (by omega) (by simp; omega) ?_; intro v5 w5 hown5 hgrow5 hat5; rw [Nat.zero_add, List.nil_append] at hown5; obtain ⟨na, nc, rfl⟩ := own_form hown5)
            have R5 : ∀ b, (Value.slice na c.kids.length nc).ownBlock = some b → w3.heap.size ≤ b := fun b hb => by
              rcases hat5 with h | h
              · have := Option.some.inj (show some w3.heap.size = some b from h.symm.trans hb); omega
              · have := Option.some.inj (h.symm.trans hb); simp at this; omega
            have G5 : w3.grownBy w5 (some g) := (World.grownBy_alloc w3 (.cells #[] 3) (some g)).andThen hgrow5 (fun b hb => .inl (by have := Option.some.inj (show some w3.heap.size = some b from hb); omega))
            have D5 : Dr B w5 g V len := (H3.out.2.1.alloc (.cells #[] 3)).grownOwn hgrow5 (fun b hb => by have := Option.some.inj (show some w3.heap.size = some b from hb); have := H3.out.2.1.2.2; have := H3.out.2.1.glt; exact ⟨by omega, by omega⟩)
            have H5 := (show Hid (_ ∧ _ ∧ _ ∧ _) from ⟨G5, D5, hown5, R5⟩)
            have hs5 := G5.size
            clear hgrow5 hat5 hown5 G5 D5 R5
            go_wp2_with fail
            refine (pickInt_dr B g V len _ 3 3 [-1, (n : Int), 0] _ (by decide) (by decide) rfl (by have := H5.out.2.1.glt; omega) (ints_lit [-1, (n : Int), 0] w5) (H5.out.2.1.alloc _)).mono ?_
            rintro e w6 ⟨y, rfl, hy, h6, g6⟩
            have O6 := own_grown (H5.out.2.2.1.alloc (.cells #[.int .i64 (-1), .int .i64 (n : Int), .int .i64 0] 3)) g6 hgl
            have G6 := (H5.out.1.trans (World.grownBy_alloc w5 (.cells #[.int .i64 (-1), .int .i64 (n : Int), .int .i64 0] 3) (some g))).trans g6
            have hs6 := G6.size
            have H6 := (show Hid (_ ∧ _ ∧ _ ∧ _ ∧ _) from ⟨G6.trans (World.grownBy_alloc w6 (.cells #[.int .i64 y] 3) (some g)), h6.alloc (.cells #[.int .i64 y] 3), O6.alloc (.cells #[.int .i64 y] 3), H5.out.2.2.2, hy⟩)
            clear O6 G6 h6 g6 hy
            go_wp2_with (at_builtin; refine wpList_append_own_at _ rfl _ _ 25 rfl w.heap.size 3 j0 (.int .i64 0) 1 8 Tryz.underlying25 hj hy0 hy1 hy2 rfl (by decide) _ c.kids.length (c.kids.map (fun z => Value.int .i64 z)) rfl H6.out.2.2.1 ⟨w6.heap.size, 0, none⟩ 1 1 [.int .i64 y] rfl rfl (cell_one_new _ _ _) (int_one _) (by unfold maxLen; omega) (by omega) (by simp; omega) ?_; intro v7 w7 hown7 hgrow7 hnil7 hat7; obtain ⟨va, vc, rfl⟩ := own_form hown7; have G7 : w3.grownBy w7 (some g) := H6.out.1.andThen hgrow7 (fun b hb => .inl (H6.out.2.2.2.1 b hb)); have D7 : Dr B w7 g V len := H6.out.2.1.grownOwn hgrow7 (fun b hb => ⟨by have := H6.out.2.2.2.1 b hb; have := H3.out.2.1.2.2; omega, by have := H6.out.2.2.2.1 b hb; have := H3.out.2.1.glt; omega⟩); have P7 := H3.out.1.grown G7 hgl; have hfz7 : w7.frozen? ⟨q, j * 4 + 3, none⟩ = false := (by obtain ⟨_, cs, hc⟩ := own_type P7.cells q rfl; exact unfrozen_of_block hc _); have hcz7 : w7.cell? ⟨q, j * 4 + 3, none⟩ = some (.slice ka c.kids.length kc) := (by have := P7.cell (f := 3) HC.out.1 (u := .slice ka c.kids.length kc) rfl; rw [HC.out.2.1] at this; exact this); have H7 := (show Hid (_ ∧ _ ∧ _ ∧ _) from ⟨P7, D7, H3.out.2.2.trans G7, hown7⟩); clear hown7 hgrow7 hnil7 hat7 G7 D7 P7)
            go_ret
            have hyr : -1 ≤ y ∧ y ≤ 8 := by have := H6.out.2.2.2.2; simp only [List.mem_cons, List.not_mem_nil, or_false] at this; omega
            obtain ⟨rs', r1, r2, r3, r4⟩ := heap_fin (m' := 4) (by decide) (f := 3) (u := .slice va (c.kids.length + 1) vc) (c' := ⟨c.kind, c.n, c.pos, c.kids ++ [y]⟩) (kv' := .slice va (c.kids.length + 1) vc) ⟨H7.out.1, H7.out.2.1, H7.out.2.2.1⟩ HC.out.1 HC.out.2.1 HD.out.1.2.2 hgl (by decide) rfl
              (fun _ => ow_intsT (zs := c.kids ++ [y]) (by rw [List.length_append, List.map_append]; exact H7.out.2.2.2) (fun z hz => by
                rcases List.mem_append.1 hz with h | h
                · have := HE.out.2.2.2.2.2.2 z h; exact ⟨by omega, by omega⟩
                · rw [List.mem_singleton] at h; subst h; exact ⟨by omega, by omega⟩))
              (fun h => ce_small (kind := c.kind) (n := c.n) (pos := c.pos) h.1 h.2.1 h.2.2.1 ⟨by rw [List.length_append]; exact Nat.succ_le_succ h.2.2.2.1, fun z hz => by
                rcases List.mem_append.1 hz with h8 | h8
                · exact h.2.2.2.2 z h8
                · rw [List.mem_singleton] at h8; subst h8; exact hyr⟩) (by omega)
            exact ⟨_, rs', rfl, r1, r2, r3, r4⟩
          · go_wp2_with fail
            refine (pickInt_dr B g V len _ 3 3 [-1, 20, 1] _ (by decide) (by decide) rfl (by have := H3.out.2.1.glt; omega) (ints_lit [-1, 20, 1] w3) (H3.out.2.1.alloc _)).mono ?_
            rintro e w4 ⟨y, rfl, hy, h4, g4⟩
            have H4 := (show Hid (_ ∧ _ ∧ _) from ⟨(H3.out.1.alloc (.cells #[.int .i64 (-1), .int .i64 (20), .int .i64 (1)] 3)).grown g4 hgl, h4, (H3.out.2.2.trans (World.grownBy_alloc w3 (.cells #[.int .i64 (-1), .int .i64 (20), .int .i64 (1)] 3) (some g))).trans g4⟩)
            have hfz : w4.frozen? ⟨q, j * 4 + 2, none⟩ = false := by obtain ⟨_, cs, hc⟩ := own_type H4.out.1.cells q rfl; exact unfrozen_of_block hc _
            have hcz : w4.cell? ⟨q, j * 4 + 2, none⟩ = some (.int .i64 c.pos) := by have := H4.out.1.cell (f := 2) HC.out.1 (u := .int .i64 c.pos) rfl; rw [HC.out.2.1] at this; exact this
            have HY := (show Hid (_ ∧ True) from ⟨hy, trivial⟩)
            clear h4 g4 hy
            go_wp2
            go_ret
            obtain ⟨rs', r1, r2, r3, r4⟩ := heap_fin (m' := 4) (by decide) (f := 2) (u := .int .i64 y) (c' := ⟨c.kind, c.n, y, c.kids⟩) (kv' := kv) H4.out HC.out.1 HC.out.2.1 HD.out.1.2.2 hgl (by decide) rfl (fun h => h) (fun h => ce_small (kind := c.kind) (n := c.n) (pos := y) h.1 h.2.1 (by have := HY.out.1; simp only [List.mem_cons, List.not_mem_nil, or_false] at this; omega) ⟨Nat.le_trans h.2.2.2.1 (by decide), h.2.2.2.2⟩) (by omega)
            exact ⟨_, rs', rfl, r1, r2, r3, r4⟩
          · go_wp2_with fail
            refine (pickInt_dr B g V len _ 4 4 [-1, 31, 7, -2] _ (by decide) (by decide) rfl (by have := H3.out.2.1.glt; omega) (ints_lit [-1, 31, 7, -2] w3) (H3.out.2.1.alloc _)).mono ?_
            rintro e w4 ⟨y, rfl, hy, h4, g4⟩
            have H4 := (show Hid (_ ∧ _ ∧ _) from ⟨(H3.out.1.alloc (.cells #[.int .i64 (-1), .int .i64 (31), .int .i64 (7), .int .i64 (-2)] 3)).grown g4 hgl, h4, (H3.out.2.2.trans (World.grownBy_alloc w3 (.cells #[.int .i64 (-1), .int .i64 (31), .int .i64 (7), .int .i64 (-2)] 3) (some g))).trans g4⟩)
            have hfz : w4.frozen? ⟨q, j * 4 + 1, none⟩ = false := by obtain ⟨_, cs, hc⟩ := own_type H4.out.1.cells q rfl; exact unfrozen_of_block hc _
            have hcz : w4.cell? ⟨q, j * 4 + 1, none⟩ = some (.int .i64 c.n) := by have := H4.out.1.cell (f := 1) HC.out.1 (u := .int .i64 c.n) rfl; rw [HC.out.2.1] at this; exact this
            have HY := (show Hid (_ ∧ True) from ⟨hy, trivial⟩)
            clear h4 g4 hy
            go_wp2
            go_ret
            obtain ⟨rs', r1, r2, r3, r4⟩ := heap_fin (m' := 4) (by decide) (f := 1) (u := .int .i64 y) (c' := ⟨c.kind, y, c.pos, c.kids⟩) (kv' := kv) H4.out HC.out.1 HC.out.2.1 HD.out.1.2.2 hgl (by decide) rfl (fun h => h) (fun h => ce_small (kind := c.kind) (n := y) (pos := c.pos) h.1 (by have := HY.out.1; simp only [List.mem_cons, List.not_mem_nil, or_false] at this; omega) h.2.2.1 ⟨Nat.le_trans h.2.2.2.1 (by decide), h.2.2.2.2⟩) (by omega)
            exact ⟨_, rs', rfl, r1, r2, r3, r4⟩
        · have n0' : ¬ s = 0 := by omega
          have n1' : ¬ s = 1 := by omega
          have n2' : ¬ s = 2 := by omega
          have n3' : ¬ s = 3 := by omega
          go_wp2
          go_ret
          exact ⟨_, rs, rfl, by omega, H3.out.1.wide (by decide), H3.out.2.1, H3.out.2.2⟩
end Go.Proofs.YtfhjkiimdkjhjaaGreatDoor
