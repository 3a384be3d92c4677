/-
  The specification's copies of links.
-/
import Derived.Test.YtlbinamlehapoaaGreatDoorLinkClone
import Derived.Test.YtlbinamlehapoaaGreatDoorMB
import Derived.Test.YtlbinamlehapoaaGreatDoorMW
import Derived.OrdersHeld
import Derived.Deep.RegionHeld3
namespace Go.Proofs.YtlbinamlehapoaaGreatDoor
open Go.RowKit Go.Joins

set_option maxRecDepth 100000

theorem infoSentR : (Tryz.prog.info? 68).map (fun i => (i.zero, i.size, i.bytes)) = some (some (.agg #[.int .i64 0, .int .i64 0, .string ByteArray.empty]), 3, 32) := by kernel_rfl
/-- Rows of what was sent put behind one of the call's own, as one step of a region that draws. -/
theorem step_append_sents {ops : Array Oper} {o : Oper} {a : Act} {w : World} {K : Act → World → Prop} {Q : Exit → Act → World → Prop} {E : Prop} (hg : o.guard = none) (s x : Operand)
    (hop : o.op = Op.call { callee := Callee.builtin Builtin.append, args := #[s, x], argTypes := #[24, 24] }) (base : Nat) (v : Value) (n : Nat) (xs : List Value) (hs : a.eval s = v) (hown : w.ownsRow base 68 3 v n xs)
    (sv : Value) (es : List Sn) (S : Nat → Prop) (hx : a.eval x = sv) (hsrc : SentsAt w S sv es) (hn : n + es.length ≤ 100000000) (hbase : base ≤ w.heap.size)
    (hK : ∀ v' w', w'.ownsRow base 68 3 v' (n + es.length) (xs ++ es.flatMap snCells) → w.grownBy w' v.ownBlock → (v'.ownBlock = v.ownBlock ∨ v'.ownBlock = some w.heap.size) → K (a.put o.dst v') w') :
    if Region.wanted o (yielded ops a.tmps) = true then Oper.wp Tryz.prog o a w K Q else E := by
  obtain ⟨i0, hi, hz0, hz1, hz2⟩ := info_parts infoSentR
  obtain ⟨ad, cap, rfl, hl, hc⟩ := hsrc
  cases ad with
  | none =>
    have hz : es = [] := by
      cases es with
      | nil => rfl
      | cons z es => obtain ⟨b, off, he, _⟩ := hc 0 z rfl; cases he
    subst hz
    have hw : Region.wanted o (yielded ops a.tmps) = true := by simp [Region.wanted, hg]
    rw [if_pos hw]
    have hrun := run_append_zero (w := w) base 24 o.type 68 i0 3 Tryz.underlying24 hi v n cap xs hown
    unfold Oper.wp execOp
    simp only [List.length_nil] at hx
    simp only [hop, resolve, invoke, builtin, Sem.run_bind, Sem.run_pure, Result.andThen_ok, List.map_toArray, List.map_cons, List.map_nil, hs, hx, hrun]
    exact hK v w (by simpa using hown) (World.grownBy.refl _ _) (.inl rfl)
  | some ad =>
    refine step_append_row hg s x 24 hop base 68 i0 _ 3 32 Tryz.underlying24 hi hz0 hz1 hz2 rfl (by decide) v n xs hs hown ad es.length cap (es.flatMap snCells) hx (sn_len es) (fun j u hj => ?_) (snCells_one es) (by unfold maxLen; omega) (by omega) hbase hK
    obtain ⟨i, e, r, he, hr, rfl, hu⟩ := sn_at hj
    obtain ⟨b, off, ha, _, hlt, c0, c1, c2, _⟩ := hc i e he
    cases ha
    rw [addr_addI]
    have h3 : r = 0 ∨ r = 1 ∨ r = 2 := by omega
    rcases h3 with rfl | rfl | rfl
    · rw [Nat.add_zero]; exact c0.trans hu
    · rw [← Nat.add_assoc]; exact c1.trans hu
    · rw [← Nat.add_assoc]; exact c2.trans hu
/-- The same for numbers. -/
theorem step_append_intsR {ops : Array Oper} {o : Oper} {a : Act} {w : World} {K : Act → World → Prop} {Q : Exit → Act → World → Prop} {E : Prop} (hg : o.guard = none) (s x : Operand)
    (hop : o.op = Op.call { callee := Callee.builtin Builtin.append, args := #[s, x], argTypes := #[28, 28] }) (base : Nat) (v : Value) (n : Nat) (xs : List Value) (hs : a.eval s = v) (hown : w.ownsRow base 3 1 v n xs)
    (sv : Value) (zs : List Int) (S : Nat → Prop) (hx : a.eval x = sv) (hsrc : IntsAt w S sv zs) (hn : n + zs.length ≤ 100000000) (hbase : base ≤ w.heap.size)
    (hK : ∀ v' w', w'.ownsRow base 3 1 v' (n + zs.length) (xs ++ intVs zs) → w.grownBy w' v.ownBlock → (v'.ownBlock = v.ownBlock ∨ v'.ownBlock = some w.heap.size) → K (a.put o.dst v') w') :
    if Region.wanted o (yielded ops a.tmps) = true then Oper.wp Tryz.prog o a w K Q else E := by
  obtain ⟨i0, hi, hz0, hz1, hz2⟩ := info_parts infoCdI
  obtain ⟨ad, cap, rfl, hl, hc⟩ := hsrc
  cases ad with
  | none =>
    have hz : zs = [] := by
      cases zs with
      | nil => rfl
      | cons z zs => obtain ⟨b, off, he, _⟩ := hc 0 z rfl; cases he
    subst hz
    have hw : Region.wanted o (yielded ops a.tmps) = true := by simp [Region.wanted, hg]
    rw [if_pos hw]
    have hrun := run_append_zero (w := w) base 28 o.type 3 i0 1 Tryz.underlying28 hi v n cap xs hown
    unfold Oper.wp execOp
    simp only [List.length_nil] at hx
    simp only [hop, resolve, invoke, builtin, Sem.run_bind, Sem.run_pure, Result.andThen_ok, List.map_toArray, List.map_cons, List.map_nil, hs, hx, hrun]
    exact hK v w (by simpa using hown) (World.grownBy.refl _ _) (.inl rfl)
  | some ad =>
    refine step_append_row hg s x 28 hop base 3 i0 _ 1 8 Tryz.underlying28 hi hz0 hz1 hz2 rfl (by decide) v n xs hs hown ad zs.length cap (intVs zs) hx (by simp) (fun j u hj => ?_) (ints_one zs) (by unfold maxLen; omega) (by omega) hbase hK
    rw [List.getElem?_map] at hj
    obtain ⟨z, hz, rfl⟩ := Option.map_eq_some_iff.1 hj
    obtain ⟨b, off, he, _, _, hcell, _⟩ := hc j z hz
    cases he
    rw [addr_addI]
    exact hcell

theorem cell_twoS (w : World) (x y : Value) (t : TypeId) : ∀ j u, [x, y][j]? = some u → (w.alloc (.cells #[x, y] t)).cell? ((⟨w.heap.size, 0, none⟩ : Addr).add j) = some u := by
  intro j u hj
  obtain ⟨hl, rfl⟩ := List.getElem?_eq_some_iff.1 hj
  have h2 : j = 0 ∨ j = 1 := by simp at hl; omega
  rcases h2 with rfl | rfl <;> simp [Addr.add]
theorem SeOwn.push {W W' : World} {B : Nat} {cv cv' kv : Value} {rs : List (Se × Value)} {x : Se} (h : SeOwn W B cv rs) (hown : W'.ownsRow B 76 2 cv' (rs.length + 1) (rs.flatMap seCells ++ [.int .i64 x.low, kv])) (hkeep : ∀ r ∈ rs, ∀ b, r.2.ownBlock = some b → W'.heap[b]? = W.heap[b]?)
    (hk : W'.ownsRow B 3 1 kv x.ids.length (intVs x.ids)) (hx : SeOk x) (hap : ∀ r ∈ rs, AptV r.2 kv) : SeOwn W' B cv' (rs ++ [(x, kv)]) := by
  refine ⟨by rw [List.length_append, List.flatMap_append]; exact hown, fun r hr => ?_, ?_⟩
  · rw [List.mem_append, List.mem_singleton] at hr
    rcases hr with hr | rfl
    · exact ⟨own_moved (h.kids r hr).1 (hkeep r hr), (h.kids r hr).2⟩
    · exact ⟨hk, hx⟩
  · rw [List.map_append, List.pairwise_append]
    refine ⟨h.apart, by simp, fun u hu v hv => ?_⟩
    obtain ⟨r, hr, rfl⟩ := List.mem_map.1 hu
    simp at hv
    subst hv
    exact hap r hr
/-- One round of the copying, in memory. -/
theorem l08Copy_round {w wr w5 w8 : World} {lo : Lk} {out : List Sn} {rl rr : Array Value} {ob k : Nat} {qv v8 ov kv : Value} {rs : List (Se × Value)} {x : Se} {WA : World}
    (hSe : SeOwn wr w.heap.size qv rs) (hSn : SnOwn wr w.heap.size ov out) (hO : wr.heap[ob]? = some (.cells (lo.row ov qv) 27)) (hL : wr.heap[w.heap.size]? = some (.cells rl 27)) (hbw : Below w.heap.size w wr) (hrl : rs.length = k) (_ : Below wr.heap.size wr WA) (B5 : Below wr.heap.size wr w5)
    (hown6 : w5.ownsRow wr.heap.size 3 1 kv x.ids.length (intVs x.ids)) (hown8 : w8.ownsRow w.heap.size 76 2 v8 (k + 1) (rs.flatMap seCells ++ [.int .i64 x.low, kv])) (hgrow8 : (w5.alloc (.cells #[.int .i64 x.low, kv] 76)).grownBy w8 qv.ownBlock) (hx : SeOk x) (hsz : w.heap.size ≤ wr.heap.size) (hobw : w.heap.size + 1 < ob) (hR : wr.heap[w.heap.size + 1]? = some (.cells rr 27)) :
    w8.heap[ob]? = some (.cells (lo.row ov qv) 27) ∧ w8.heap[w.heap.size]? = some (.cells rl 27) ∧ Below w.heap.size w w8 ∧
      SeOwn (w8.setCell ⟨ob, 3, none⟩ v8) w.heap.size v8 (rs ++ [(x, kv)]) ∧ SnOwn (w8.setCell ⟨ob, 3, none⟩ v8) w.heap.size ov out ∧ (w8.setCell ⟨ob, 3, none⟩ v8).heap[ob]? = some (.cells (lo.row ov v8) 27) ∧ (w8.setCell ⟨ob, 3, none⟩ v8).heap[w.heap.size]? = some (.cells rl 27) ∧ Below w.heap.size w (w8.setCell ⟨ob, 3, none⟩ v8) ∧ (w8.setCell ⟨ob, 3, none⟩ v8).heap[w.heap.size + 1]? = some (.cells rr 27) := by
  have B6 := B5.alloc B5.size (.cells #[.int .i64 x.low, kv] 76)
  have hq : ∀ g, qv.ownBlock = some g → ∃ cs, wr.heap[g]? = some (.cells cs 76) := fun g hg => (own_type hSe.cells g hg).2
  have keep : ∀ (g : Nat) (t : TypeId) (cs : Array Value), wr.heap[g]? = some (.cells cs t) → t ≠ 76 → w8.heap[g]? = wr.heap[g]? := fun g t cs hg ht => by
    refine (hgrow8.block g (Nat.lt_of_lt_of_le (lt_heap hg) B6.size) (fun e => ?_)).trans (B6.block g (lt_heap hg))
    obtain ⟨cs', h'⟩ := hq g e.symm
    rw [hg] at h'
    simp at h'
    exact ht h'.2
  have O8 := (keep ob _ _ hO (by decide)).trans hO
  have L8 := (keep _ _ _ hL (by decide)).trans hL
  have R8 := (keep _ _ _ hR (by decide)).trans hR
  have B8 : Below w.heap.size w w8 := Below.grown (hbw.trans (B6.mono hsz)) hgrow8 (hB := (hbw.trans (B6.mono hsz)).size) (hr := fun b hb => (own_type hSe.cells b hb).1)
  have k9 : ∀ g, g ≠ ob → (w8.setCell ⟨ob, 3, none⟩ v8).heap[g]? = w8.heap[g]? := fun g hg => Below.heap_setCell _ _ _ g (by simpa using hg)
  have nob : ∀ (B n size : Nat) (e : TypeId) (v : Value) (xs : List Value), w8.ownsRow B e size v n xs → e ≠ 27 → ∀ g, v.ownBlock = some g → g ≠ ob := fun B n size e v xs ho he g hg hgo => by
    obtain ⟨_, cs, h2⟩ := own_type ho g hg
    rw [hgo, O8] at h2
    simp at h2
    exact he h2.2.symm
  have kr : ∀ r ∈ rs, ∀ b, r.2.ownBlock = some b → w8.heap[b]? = wr.heap[b]? := fun r hr b hb => by
    obtain ⟨_, cs, h2⟩ := own_type (hSe.kids r hr).1 b hb
    exact keep b _ _ h2 (by decide)
  have hk6 : w8.ownsRow wr.heap.size 3 1 kv x.ids.length (intVs x.ids) := own_moved hown6 (fun g hg => by
    have hlt := own_lt hown6 g hg
    refine (hgrow8.block g (by simp; omega) (fun e => ?_)).trans (Below.heap_alloc _ _ _ hlt)
    have h1 := own_lt hSe.cells g e.symm
    have h2 := (own_type hown6 g hg).1
    omega)
  have hSn8 : SnOwn w8 w.heap.size ov out := hSn.moved (fun b hb => by
    obtain ⟨_, cs, h2⟩ := own_type hSn.1 b hb
    exact keep b _ _ h2 (by decide))
  refine ⟨O8, L8, B8, ?_, hSn8.moved (fun b hb => k9 b (nob _ _ _ _ _ _ hSn8.1 (by decide) b hb)), ?_, (k9 _ (by omega)).trans L8, B8.setCell (p := ⟨ob, 3, none⟩) (by simp; omega) _, (k9 _ (by omega)).trans R8⟩
  · have h8 : SeOwn w8 w.heap.size v8 (rs ++ [(x, kv)]) := SeOwn.push hSe (by rw [hrl]; exact hown8) kr (own_mono hk6 hsz) hx (fun r hr => by
      cases hb' : r.2.ownBlock with
      | none => exact .inl hb'
      | some q =>
        refine .inr fun e => ?_
        have h2 := own_lt (hSe.kids r hr).1 q hb'
        have h4 := (own_type hown6 q (e.symm.trans hb')).1
        omega)
    exact h8.moved (fun b hb => k9 b (by
      rcases hb with hb | ⟨r, hr, hb⟩
      · exact nob _ _ _ _ _ _ h8.cells (by decide) b hb
      · exact nob _ _ _ _ _ _ (h8.kids r hr).1 (by decide) b hb))
  · rw [block_setCell O8]
    rfl

set_option maxHeartbeats 8000000 in
theorem l08Copy_any (v : Value) (l : Lk) (S : Nat → Prop) (w : World) (h : LkAt w S v l) (hb : l.bulk ≤ 1048576) :
    Calls Tryz.prog 32 #[v] w fun e w' => ∃ v' ov sv rs, e = .returned v' ∧ LkOwn w' w.heap.size v' l ov sv rs ∧ Below w.heap.size w w' := by
  have hfit : inI64 l.id ∧ inI64 l.next := by obtain ⟨_, _, _, a, b, _⟩ := h; exact ⟨a, b⟩
  obtain ⟨oa, oc, sa, sc, rfl, h3, h4⟩ := h.form
  have hbe := (show l.bulk = bulkO l.out + bulkN l.seen from rfl)
  have hbo := (show bulkO l.out = l.out.length + preO l.out l.out.length from rfl)
  obtain ⟨i0, hi, hz0, hz1, hz2⟩ := info_parts infoSeen
  have hbn := (show bulkN l.seen = l.seen.length + preN l.seen l.seen.length from rfl)
  have hokS : ∀ s ∈ l.out, SnOk s := fun s hs => by
    obtain ⟨a, cap, _, _, hc⟩ := h3
    obtain ⟨i, hi⟩ := List.getElem?_of_mem hs
    obtain ⟨_, _, _, _, _, _, _, _, r⟩ := hc i s hi
    exact r
  obtain ⟨W0, hW0⟩ : ∃ W0, W0 = (w.alloc (.cells (l.row (.slice oa l.out.length oc) (.slice sa l.seen.length sc)) 27)).alloc (.cells #[.int .i64 0, .int .i64 0, .slice none 0 0, .slice none 0 0] 27) := ⟨_, rfl⟩
  have B0 : Below w.heap.size w W0 := by rw [hW0]; exact ((Below.refl _ w).alloc (Nat.le_refl _) _).alloc (by simp) _
  have O0 : W0.heap[w.heap.size]? = some (.cells (l.row (.slice oa l.out.length oc) (.slice sa l.seen.length sc)) 27) := by
    rw [hW0, Below.heap_alloc _ _ _ (by simp)]; exact (MapKept.heap_alloc w _).1
  have O1 : W0.heap[w.heap.size + 1]? = some (.cells (Lk.row ⟨0, 0, [], []⟩ (.slice none 0 0) (.slice none 0 0)) 27) := by
    have := (MapKept.heap_alloc (w.alloc (.cells (l.row (.slice oa l.out.length oc) (.slice sa l.seen.length sc)) 27)) (.cells #[.int .i64 0, .int .i64 0, .slice none 0 0, .slice none 0 0] 27)).1
    rw [hW0]
    simpa using this
  have hs0 : w.heap.size + 2 = W0.heap.size := by rw [hW0]; simp
  have bD : Below W0.heap.size W0 W0.drew := (Below.refl _ _).drew
  have hsD : W0.drew.heap.size = W0.heap.size := rfl
  have E1 : (W0.drew.alloc (.cells #[] 68)).ownsRow W0.heap.size 68 3 (.slice (some ⟨W0.heap.size, 0, none⟩) 0 0) 0 [] := made_empty W0.drew W0.heap.size 3 68 (Nat.le_refl _)
  have PEO : ((W0.alloc (.cells #[] 68)).alloc (.cells #[.int .i64 0, .int .i64 0, .slice none 0 0, .slice none 0 0] 27)).drew.heap[W0.heap.size + 1]? = some (.cells (Lk.row ⟨0, 0, [], []⟩ (.slice none 0 0) (.slice none 0 0)) 27) := by
    have := (MapKept.heap_alloc (W0.alloc (.cells #[] 68)) (.cells #[.int .i64 0, .int .i64 0, .slice none 0 0, .slice none 0 0] 27)).1
    rw [show (W0.alloc (.cells #[] 68)).heap.size = W0.heap.size + 1 by simp] at this
    exact this
  have POE : ((W0.alloc (.cells #[.int .i64 0, .int .i64 0, .slice none 0 0, .slice none 0 0] 27)).alloc (.cells #[] 68)).drew.heap[W0.heap.size]? = some (.cells (Lk.row ⟨0, 0, [], []⟩ (.slice none 0 0) (.slice none 0 0)) 27) :=
    (Below.heap_alloc (W0.alloc (.cells #[.int .i64 0, .int .i64 0, .slice none 0 0, .slice none 0 0] 27)) _ _ (by simp)).trans (MapKept.heap_alloc W0 (.cells #[.int .i64 0, .int .i64 0, .slice none 0 0, .slice none 0 0] 27)).1
  have E2 : ((W0.alloc (.cells #[.int .i64 0, .int .i64 0, .slice none 0 0, .slice none 0 0] 27)).alloc (.cells #[] 68)).drew.ownsRow W0.heap.size 68 3 (.slice (some ⟨W0.heap.size + 1, 0, none⟩) 0 0) 0 [] := by
    have := made_empty (W0.drew.alloc (.cells #[.int .i64 0, .int .i64 0, .slice none 0 0, .slice none 0 0] 27)) W0.heap.size 3 68 (by simp)
    rw [show (W0.drew.alloc (.cells #[.int .i64 0, .int .i64 0, .slice none 0 0, .slice none 0 0] 27)).heap.size = W0.heap.size + 1 by simp] at this
    exact this
  have PE0 : (W0.alloc (.cells #[] 68)).drew.heap[w.heap.size]? = some (.cells (l.row (.slice oa l.out.length oc) (.slice sa l.seen.length sc)) 27) := (Below.heap_alloc W0 _ _ (by omega)).trans O0
  have PEO0 : ((W0.alloc (.cells #[] 68)).alloc (.cells #[.int .i64 0, .int .i64 0, .slice none 0 0, .slice none 0 0] 27)).drew.heap[w.heap.size]? = some (.cells (l.row (.slice oa l.out.length oc) (.slice sa l.seen.length sc)) 27) := (Below.heap_alloc (W0.alloc (.cells #[] 68)) _ _ (by simp; omega)).trans PE0
  have POE0 : ((W0.alloc (.cells #[.int .i64 0, .int .i64 0, .slice none 0 0, .slice none 0 0] 27)).alloc (.cells #[] 68)).drew.heap[w.heap.size]? = some (.cells (l.row (.slice oa l.out.length oc) (.slice sa l.seen.length sc)) 27) := (Below.heap_alloc (W0.alloc (.cells #[.int .i64 0, .int .i64 0, .slice none 0 0, .slice none 0 0] 27)) _ _ (by simp; omega)).trans ((Below.heap_alloc W0 _ _ (by omega)).trans O0)
  have H0 := (show Hid (_ ∧ _ ∧ _ ∧ _ ∧ _ ∧ _ ∧ _) from ⟨B0, O0, O1, E1, h3, hokS, hW0⟩)
  have HE := (show Hid (_ ∧ _ ∧ _ ∧ _ ∧ _ ∧ _) from ⟨PEO, POE, E2, PE0, PEO0, POE0⟩)
  have HF := (show Hid (_ ∧ _) from ⟨hfit, h4⟩)
  clear PEO POE E2 PE0 PEO0 POE0
  clear B0 O0 O1 hW0 h E1 h3 hokS h4 hfit bD
  go_enter Tryz.func32, Tryz.ntmps32
  go_wp2_with fail
  rw [← (show W0 = _ from H0.out.2.2.2.2.2.2)]
  refine wp_region_held_drew (S := fun w' => w'.heap[w.heap.size]? = some (.cells (l.row (.slice oa l.out.length oc) (.slice sa l.seen.length sc)) 27)) (by kernel_rfl) H0.out.2.1 (fun hS => ?_)
  refine wpAnyH_take (i := 0) (v := .pointer (some ⟨w.heap.size, 0, none⟩)) rfl (by kernel_rfl) (by kernel_rfl) (by kernel_rfl) (fun _ _ _ h => h) (Or.inl ⟨by rfl, ?_⟩) hS ?_
  · intro wq hSw
    obtain ⟨q0, q1, q2, q3⟩ := lbox hSw
    go_simp
  simp only [Act.put, List.getElem_toArray, List.getElem_cons_zero, List.setIfInBounds_toArray, List.set_cons_zero, List.set_cons_succ]
  refine wpAnyH_take (i := 1) (v := .int .i64 l.id) rfl (by kernel_rfl) (by kernel_rfl) (by kernel_rfl) (fun _ _ _ h => h) (Or.inl ⟨by rfl, ?_⟩) hS ?_
  · intro wq hSw
    obtain ⟨q0, q1, q2, q3⟩ := lbox hSw
    go_simp
  simp only [Act.put, List.getElem_toArray, List.getElem_cons_zero, List.getElem_cons_succ, List.setIfInBounds_toArray, List.set_cons_zero, List.set_cons_succ]
  refine wpAnyH_take (i := 2) (v := .pointer (some ⟨w.heap.size, 1, none⟩)) rfl (by kernel_rfl) (by kernel_rfl) (by kernel_rfl) (fun _ _ _ h => h) (Or.inl ⟨by rfl, ?_⟩) hS ?_
  · intro wq hSw
    obtain ⟨q0, q1, q2, q3⟩ := lbox hSw
    go_simp
  simp only [Act.put, List.getElem_toArray, List.getElem_cons_zero, List.getElem_cons_succ, List.setIfInBounds_toArray, List.set_cons_zero, List.set_cons_succ]
  refine wpAnyH_take (i := 3) (v := .int .i64 l.next) rfl (by kernel_rfl) (by kernel_rfl) (by kernel_rfl) (fun _ _ _ h => h) (Or.inl ⟨by rfl, ?_⟩) hS ?_
  · intro wq hSw
    obtain ⟨q0, q1, q2, q3⟩ := lbox hSw
    go_simp
  simp only [Act.put, List.getElem_toArray, List.getElem_cons_zero, List.getElem_cons_succ, List.setIfInBounds_toArray, List.set_cons_zero, List.set_cons_succ]
  refine wpAnyH_take (i := 5) (v := .pointer (some ⟨w.heap.size, 2, none⟩)) rfl (by kernel_rfl) (by kernel_rfl) (by kernel_rfl) (fun _ _ _ h => h) (Or.inl ⟨by rfl, ?_⟩) hS ?_
  · intro wq hSw
    obtain ⟨q0, q1, q2, q3⟩ := lbox hSw
    go_simp
  simp only [Act.put, List.getElem_toArray, List.getElem_cons_zero, List.getElem_cons_succ, List.setIfInBounds_toArray, List.set_cons_zero, List.set_cons_succ]
  refine wpAnyH_take (i := 6) (v := .slice oa l.out.length oc) rfl (by kernel_rfl) (by kernel_rfl) (by kernel_rfl) (fun _ _ _ h => h) (Or.inl ⟨by rfl, ?_⟩) hS ?_
  · intro wq hSw
    obtain ⟨q0, q1, q2, q3⟩ := lbox hSw
    go_simp
  simp only [Act.put, List.getElem_toArray, List.getElem_cons_zero, List.getElem_cons_succ, List.setIfInBounds_toArray, List.set_cons_zero, List.set_cons_succ]
  refine wpAnyH_ready (rs := [4, 9]) (by kernel_rfl) (by simp) ?_
  refine AllReadyH.cons rfl (fun K hK => ?_) (AllReadyH.cons rfl (fun K hK => ?_) AllReadyH.nil)
  · go_simp
    refine hK.out _ _ HE.out.2.2.2.1 (fun _ => ?_)
    clear hK K
    refine wpAnyH_ready (rs := [7, 9]) (by kernel_rfl) (by simp) ?_
    refine AllReadyH.cons rfl (fun K hK => ?_) (AllReadyH.cons rfl (fun K hK => ?_) AllReadyH.nil)
    · refine step_append_sents rfl (.tmp 9) (.tmp 11) rfl W0.heap.size (.slice (some ⟨W0.heap.size, 0, none⟩) 0 0) 0 [] (by simp [Act.eval]) (by exact H0.out.2.2.2.1) (.slice oa l.out.length oc) l.out S (by simp [Act.eval]) (H0.out.2.2.2.2.1.below (H0.out.1.drew.alloc (by rw [hsD]; omega) _)) (by omega) (by simp <;> omega) ?_
      intro v5 w5 hown5 hgrow5 hat5
      rw [Nat.zero_add, List.nil_append] at hown5
      obtain ⟨a5, c5, rfl⟩ := own_form hown5
      have P0 : w5.heap[w.heap.size]? = some (.cells (l.row (.slice oa l.out.length oc) (.slice sa l.seen.length sc)) 27) := (hgrow5.block w.heap.size (by simp <;> omega) (by simp [Value.ownBlock] <;> omega)).trans HE.out.2.2.2.1
      have PR : w5.heap[w.heap.size + 1]? = some (.cells (Lk.row ⟨0, 0, [], []⟩ (.slice none 0 0) (.slice none 0 0)) 27) := ((Below.grown (((Below.refl W0.heap.size W0).drew).alloc (by simp) _) hgrow5 (hB := by simp <;> omega) (hr := fun b hb => by simp [Value.ownBlock] at hb; omega)).block (w.heap.size + 1) (by omega)).trans H0.out.2.2.1
      have B5 : Below w.heap.size w w5 := Below.grown (H0.out.1.drew.alloc (by rw [hsD]; omega) _) hgrow5 (hB := (H0.out.1.drew.alloc (by rw [hsD]; omega) _).size) (hr := fun b hb => by simp [Value.ownBlock] at hb; omega)
      refine hK.out _ _ P0 (fun _ => ?_)
      clear hK K
      simp only [Act.put, List.getElem_toArray, List.getElem_cons_zero, List.getElem_cons_succ, List.setIfInBounds_toArray, List.set_cons_zero, List.set_cons_succ]
      refine wpAnyH_take (i := 8) (v := .agg #[.int .i64 l.id, .int .i64 l.next, .slice a5 l.out.length c5, .slice none 0 0]) rfl (by kernel_rfl) (by kernel_rfl) (by kernel_rfl) (fun _ _ _ h => h) (Or.inl ⟨by rfl, ?_⟩) P0 ?_
      · intro wq hSw
        go_simp
      simp only [Act.put, List.getElem_toArray, List.getElem_cons_zero, List.getElem_cons_succ, List.setIfInBounds_toArray, List.set_cons_zero, List.set_cons_succ]
      refine wpAnyH_ready (rs := [9]) (by kernel_rfl) (by simp) ?_
      refine AllReadyH.cons rfl (fun K hK => ?_) AllReadyH.nil
      go_simp
      refine hK.out _ _ ((Below.heap_alloc w5 _ _ (lt_heap P0)).trans P0) (fun _ => ?_)
      clear hK K
      have hsz5 : W0.heap.size < w5.heap.size := Nat.lt_of_lt_of_le (by simp <;> omega) hgrow5.size
      obtain ⟨w6, hw6⟩ : ∃ w6, w6 = w5.alloc (.cells #[.int .i64 0, .int .i64 0, .slice none 0 0, .slice none 0 0] 27) := ⟨_, rfl⟩
      obtain ⟨ob, hob⟩ : ∃ ob, ob = w5.heap.size := ⟨_, rfl⟩
      have O6 : w6.heap[ob]? = some (.cells (Lk.row ⟨0, 0, [], []⟩ (.slice none 0 0) (.slice none 0 0)) 27) := by rw [hw6, hob]; exact (MapKept.heap_alloc w5 (.cells #[.int .i64 0, .int .i64 0, .slice none 0 0, .slice none 0 0] 27)).1
      have L6 : w6.heap[w.heap.size]? = some (.cells (l.row (.slice oa l.out.length oc) (.slice sa l.seen.length sc)) 27) := by rw [hw6]; exact (Below.heap_alloc w5 _ _ (lt_heap P0)).trans P0
      have S6 : SnOwn w6 w.heap.size (.slice a5 l.out.length c5) l.out := by rw [hw6]; exact ⟨own_mono (hown5.alloc (.cells #[.int .i64 0, .int .i64 0, .slice none 0 0, .slice none 0 0] 27)) (by omega), H0.out.2.2.2.2.2.1⟩
      have R6 : w6.heap[w.heap.size + 1]? = some (.cells (Lk.row ⟨0, 0, [], []⟩ (.slice none 0 0) (.slice none 0 0)) 27) := by rw [hw6]; exact (Below.heap_alloc w5 _ _ (lt_heap PR)).trans PR
      have B6 : Below w.heap.size w w6 := by rw [hw6]; exact B5.alloc B5.size _
      have hobw : w.heap.size + 1 < ob := by rw [hob]; omega
      rw [← hw6, ← hob]
      have hne : ¬ w.heap.size = ob := by omega
      have hlt6 : ob < w6.heap.size := lt_heap O6
      clear hw6 hob P0 PR B5 hown5 hgrow5 hat5 hsz5 hS hs0 hsD
      clear HE
      obtain ⟨u0, u1, u2, u3⟩ := lbox O6
      obtain ⟨f0, f1, f2, f3⟩ : w6.frozen? ⟨ob, 0, none⟩ = false ∧ w6.frozen? ⟨ob, 1, none⟩ = false ∧ w6.frozen? ⟨ob, 2, none⟩ = false ∧ w6.frozen? ⟨ob, 3, none⟩ = false := ⟨unfrozen_of_block O6 0, unfrozen_of_block O6 1, unfrozen_of_block O6 2, unfrozen_of_block O6 3⟩
      obtain ⟨W7, hW7⟩ : ∃ W7, W7 = (((w6.setCell ⟨ob, 0, none⟩ (.int .i64 l.id)).setCell ⟨ob, 1, none⟩ (.int .i64 l.next)).setCell ⟨ob, 2, none⟩ (.slice a5 l.out.length c5)).setCell ⟨ob, 3, none⟩ (.slice none 0 0) := ⟨_, rfl⟩
      have k7 : ∀ k, k ≠ ob → W7.heap[k]? = w6.heap[k]? := fun k hk => by
        have hk' : ¬ k = ob := hk
        rw [hW7, Below.heap_setCell _ _ _ _ (by simpa using hk'), Below.heap_setCell _ _ _ _ (by simpa using hk'), Below.heap_setCell _ _ _ _ (by simpa using hk'), Below.heap_setCell _ _ _ _ (by simpa using hk')]
      have O7 : W7.heap[ob]? = some (.cells (Lk.row ⟨l.id, l.next, l.out, []⟩ (.slice a5 l.out.length c5) (.slice none 0 0)) 27) := by
        rw [hW7, block_setCell (block_setCell (block_setCell (block_setCell O6 _) _) _) _]
        rfl
      have L7 : W7.heap[w.heap.size]? = some (.cells (l.row (.slice oa l.out.length oc) (.slice sa l.seen.length sc)) 27) := (k7 _ hne).trans L6
      have S7 : SnOwn W7 w.heap.size (.slice a5 l.out.length c5) l.out := S6.moved (fun b hb => k7 b (fun e => by
        obtain ⟨_, cs, h2⟩ := own_type S6.1 b hb
        rw [e, O6] at h2
        simp at h2))
      have B7 : Below w.heap.size w W7 := by rw [hW7]; exact (((B6.setCell (p := ⟨ob, 0, none⟩) (by simp; omega) _).setCell (p := ⟨ob, 1, none⟩) (by simp; omega) _).setCell (p := ⟨ob, 2, none⟩) (by simp; omega) _).setCell (p := ⟨ob, 3, none⟩) (by simp; omega) _
      have R7 : W7.heap[w.heap.size + 1]? = some (.cells (Lk.row ⟨0, 0, [], []⟩ (.slice none 0 0) (.slice none 0 0)) 27) := (k7 _ (by omega)).trans R6
      have H7 := (show Hid (_ ∧ _ ∧ _ ∧ _ ∧ _ ∧ _) from ⟨O7, L7, S7, B7, R7, hW7⟩)
      clear O7 L7 S7 B7 R7 hW7 k7 O6 L6 S6 B6 R6
      refine wpAnyH_ready (rs := [10]) (by kernel_rfl) (by simp) ?_
      refine AllReadyH.cons rfl (fun K hK => ?_) AllReadyH.nil
      go_simp
      rw [← (show W7 = _ from H7.out.2.2.2.2.2)]
      refine hK.out _ _ H7.out.2.1 (fun _ => ?_)
      clear hK K u0 u1 u2 u3 f0 f1 f2 f3
      refine wpAnyH_done (by kernel_rfl) ?_ _
      go_wp2
      go_loopw [4] (fun i wr => ∃ (k : Nat) (qa : Option Addr) (qc : Nat) (rs : List (Se × Value)), k ≤ l.seen.length ∧ i = .int .i64 k ∧ rs.length = k ∧ rs.map Prod.fst = l.seen.take k ∧ SeOwn wr w.heap.size (.slice qa k qc) rs ∧ SnOwn wr w.heap.size (.slice a5 l.out.length c5) l.out ∧ wr.heap[w.heap.size]? = some (.cells (l.row (.slice oa l.out.length oc) (.slice sa l.seen.length sc)) 27) ∧ wr.heap[ob]? = some (.cells (Lk.row ⟨l.id, l.next, l.out, []⟩ (.slice a5 l.out.length c5) (.slice qa k qc)) 27) ∧ wr.heap[w.heap.size + 1]? = some (.cells (Lk.row ⟨0, 0, [], []⟩ (.slice none 0 0) (.slice none 0 0)) 27) ∧ Below w.heap.size w wr) (fun i _ => l.seen.length - (intOf i).toNat)
      case atStart => exact ⟨0, none, 0, [], Nat.zero_le _, rfl, rfl, rfl, ⟨⟨rfl, .inl ⟨rfl, rfl⟩⟩, (fun r hr => by cases hr), by simp⟩, H7.out.2.2.1, H7.out.2.1, H7.out.1, H7.out.2.2.2.2.1, H7.out.2.2.2.1⟩
      case round =>
        clear H7
        obtain ⟨k, qa, qc, rs, hk, rfl, hrl, hrm, hSe, hSn, hL, hO, hR1, hbw⟩ := hrel
        have hsz := hbw.size
        obtain ⟨q0, q1, q2, q3⟩ := lbox hL
        by_cases hkl : k < l.seen.length
        · have he := List.getElem?_eq_getElem hkl
          have hbk := bulkN_at he
          have htk : l.seen.take (k + 1) = l.seen.take k ++ [l.seen[k]] := (List.take_append_getElem hkl).symm
          generalize l.seen[k] = x at *
          have hxb := (show x.bulk = x.ids.length from rfl)
          obtain ⟨b, off, kv, hoa, hSb, hlt2, c0, c1, r0, hkk⟩ := (by obtain ⟨a', cap', hv', _, hc'⟩ := HF.out.2; cases hv'; exact hc' k x he : ∃ b off kv, sa = some ⟨b, off, none⟩ ∧ S b ∧ b < w.heap.size ∧ w.cell? ⟨b, off + k * 2, none⟩ = some (.int .i64 x.low) ∧ w.cell? ⟨b, off + k * 2 + 1, none⟩ = some kv ∧ inI64 x.low ∧ IntsAt w S kv x.ids)
          subst hoa
          obtain ⟨ka, kc, rfl⟩ := hkk.form
          have hlt' : ((k : Nat) : Int) < ((l.seen.length : Nat) : Int) := by omega
          have hSof : ∀ W : World, Below w.heap.size w W → W.heap[w.heap.size]? = some (.cells (l.row (.slice oa l.out.length oc) (.slice (some ⟨b, off, none⟩) l.seen.length sc)) 27) → (W.heap[w.heap.size]? = some (.cells (l.row (.slice oa l.out.length oc) (.slice (some ⟨b, off, none⟩) l.seen.length sc)) 27) ∧ W.cell? ⟨b, off + k * 2, none⟩ = some (.int .i64 x.low) ∧ W.cell? ⟨b, off + k * 2 + 1, none⟩ = some (.slice ka x.ids.length kc)) := fun W hW hWL => ⟨hWL, (hW.cell (p := ⟨b, off + k * 2, none⟩) hlt2).trans c0, (hW.cell (p := ⟨b, off + k * 2 + 1, none⟩) hlt2).trans c1⟩
          have HX := (show Hid (_ ∧ _) from ⟨(⟨r0, fun z hz => by obtain ⟨a, cap, _, _, hc⟩ := hkk; obtain ⟨i, hi⟩ := List.getElem?_of_mem hz; obtain ⟨_, _, _, _, _, _, r⟩ := hc i z hi; exact r⟩ : SeOk x), htk⟩)
          have HR := (show Hid (_ ∧ _ ∧ _ ∧ _ ∧ _ ∧ _ ∧ _ ∧ _) from ⟨hO, hbw, hL, hSe, hSn, hrl, hrm, hR1⟩)
          have HS := (show Hid (_ ∧ _) from ⟨hSof, hkk⟩)
          clear hSof hkk hO hbw hL hSe hSn hrl hrm hR1 c0 c1 htk he r0 hSb
          go_wp2_with fail
          clear q0 q1 q2 q3
          have hSof := HS.out.1
          have BA : Below wr.heap.size wr (wr.drew.alloc (.cells #[] 3)) := ((Below.refl _ wr).drew).alloc (by simp) _
          have E1 : (wr.drew.alloc (.cells #[] 3)).ownsRow wr.heap.size 3 1 (.slice (some ⟨wr.heap.size, 0, none⟩) 0 0) 0 [] := made_empty wr.drew wr.heap.size 1 3 (Nat.le_refl _)
          have KA : IntsAt (wr.drew.alloc (.cells #[] 3)) S (.slice ka x.ids.length kc) x.ids := HS.out.2.below (HR.out.2.1.trans (BA.mono hsz))
          have OA : (wr.alloc (.cells #[] 3)).heap[ob]? = some (.cells (Lk.row ⟨l.id, l.next, l.out, []⟩ (.slice a5 l.out.length c5) (.slice qa k qc)) 27) := (BA.block _ (lt_heap HR.out.1)).trans HR.out.1
          have SA := hSof _ (HR.out.2.1.trans (BA.mono hsz)) ((BA.block _ (lt_heap HR.out.2.2.1)).trans HR.out.2.2.1)
          refine wp_region_held_drew (S := fun w' => w'.heap[w.heap.size]? = some (.cells (l.row (.slice oa l.out.length oc) (.slice (some ⟨b, off, none⟩) l.seen.length sc)) 27) ∧ w'.cell? ⟨b, off + k * 2, none⟩ = some (.int .i64 x.low) ∧ w'.cell? ⟨b, off + k * 2 + 1, none⟩ = some (.slice ka x.ids.length kc)) (by kernel_rfl) (hSof _ HR.out.2.1.drew HR.out.2.2.1) (fun hS => ?_)
          refine wpAnyH_take (i := 0) (v := .pointer (some ⟨ob, 3, none⟩)) rfl (by kernel_rfl) (by kernel_rfl) (by kernel_rfl) (fun _ _ _ h => h) (Or.inl ⟨by rfl, ?_⟩) hS ?_
          · intro wq hSw
            obtain ⟨hq, x0, x1⟩ := hSw
            obtain ⟨q0, q1, q2, q3⟩ := lbox hq
            go_simp
          simp only [Act.put, List.getElem_toArray, List.getElem_cons_zero, List.setIfInBounds_toArray, List.set_cons_zero, List.set_cons_succ]
          refine wpAnyH_take (i := 2) (v := .pointer (some ⟨w.heap.size, 3, none⟩)) rfl (by kernel_rfl) (by kernel_rfl) (by kernel_rfl) (fun _ _ _ h => h) (Or.inl ⟨by rfl, ?_⟩) hS ?_
          · intro wq hSw
            obtain ⟨hq, x0, x1⟩ := hSw
            obtain ⟨q0, q1, q2, q3⟩ := lbox hq
            go_simp
          simp only [Act.put, List.getElem_toArray, List.getElem_cons_zero, List.getElem_cons_succ, List.setIfInBounds_toArray, List.set_cons_zero, List.set_cons_succ]
          refine wpAnyH_take (i := 3) (v := .slice (some ⟨b, off, none⟩) l.seen.length sc) rfl (by kernel_rfl) (by kernel_rfl) (by kernel_rfl) (fun _ _ _ h => h) (Or.inl ⟨by rfl, ?_⟩) hS ?_
          · intro wq hSw
            obtain ⟨hq, x0, x1⟩ := hSw
            obtain ⟨q0, q1, q2, q3⟩ := lbox hq
            go_simp
          simp only [Act.put, List.getElem_toArray, List.getElem_cons_zero, List.getElem_cons_succ, List.setIfInBounds_toArray, List.set_cons_zero, List.set_cons_succ]
          refine wpAnyH_take (i := 4) (v := .int .i64 k) rfl (by kernel_rfl) (by kernel_rfl) (by kernel_rfl) (fun _ _ _ h => h) (Or.inl ⟨by rfl, ?_⟩) hS ?_
          · intro wq hSw
            obtain ⟨hq, x0, x1⟩ := hSw
            obtain ⟨q0, q1, q2, q3⟩ := lbox hq
            go_simp
          simp only [Act.put, List.getElem_toArray, List.getElem_cons_zero, List.getElem_cons_succ, List.setIfInBounds_toArray, List.set_cons_zero, List.set_cons_succ]
          refine wpAnyH_take (i := 5) (v := .pointer (some ⟨b, off + k * 2, none⟩)) rfl (by kernel_rfl) (by kernel_rfl) (by kernel_rfl) (fun _ _ _ h => h) (Or.inl ⟨by rfl, ?_⟩) hS ?_
          · intro wq hSw
            obtain ⟨hq, x0, x1⟩ := hSw
            obtain ⟨q0, q1, q2, q3⟩ := lbox hq
            go_simp
          simp only [Act.put, List.getElem_toArray, List.getElem_cons_zero, List.getElem_cons_succ, List.setIfInBounds_toArray, List.set_cons_zero, List.set_cons_succ]
          refine wpAnyH_take (i := 6) (v := .pointer (some ⟨b, off + k * 2, none⟩)) rfl (by kernel_rfl) (by kernel_rfl) (by kernel_rfl) (fun _ _ _ h => h) (Or.inl ⟨by rfl, ?_⟩) hS ?_
          · intro wq hSw
            obtain ⟨hq, x0, x1⟩ := hSw
            obtain ⟨q0, q1, q2, q3⟩ := lbox hq
            go_simp
          simp only [Act.put, List.getElem_toArray, List.getElem_cons_zero, List.getElem_cons_succ, List.setIfInBounds_toArray, List.set_cons_zero, List.set_cons_succ]
          refine wpAnyH_take (i := 7) (v := .int .i64 x.low) rfl (by kernel_rfl) (by kernel_rfl) (by kernel_rfl) (fun _ _ _ h => h) (Or.inl ⟨by rfl, ?_⟩) hS ?_
          · intro wq hSw
            obtain ⟨hq, x0, x1⟩ := hSw
            obtain ⟨q0, q1, q2, q3⟩ := lbox hq
            go_simp
          simp only [Act.put, List.getElem_toArray, List.getElem_cons_zero, List.getElem_cons_succ, List.setIfInBounds_toArray, List.set_cons_zero, List.set_cons_succ]
          refine wpAnyH_take (i := 9) (v := .pointer (some ⟨w.heap.size, 3, none⟩)) rfl (by kernel_rfl) (by kernel_rfl) (by kernel_rfl) (fun _ _ _ h => h) (Or.inl ⟨by rfl, ?_⟩) hS ?_
          · intro wq hSw
            obtain ⟨hq, x0, x1⟩ := hSw
            obtain ⟨q0, q1, q2, q3⟩ := lbox hq
            go_simp
          simp only [Act.put, List.getElem_toArray, List.getElem_cons_zero, List.getElem_cons_succ, List.setIfInBounds_toArray, List.set_cons_zero, List.set_cons_succ]
          refine wpAnyH_take (i := 10) (v := .slice (some ⟨b, off, none⟩) l.seen.length sc) rfl (by kernel_rfl) (by kernel_rfl) (by kernel_rfl) (fun _ _ _ h => h) (Or.inl ⟨by rfl, ?_⟩) hS ?_
          · intro wq hSw
            obtain ⟨hq, x0, x1⟩ := hSw
            obtain ⟨q0, q1, q2, q3⟩ := lbox hq
            go_simp
          simp only [Act.put, List.getElem_toArray, List.getElem_cons_zero, List.getElem_cons_succ, List.setIfInBounds_toArray, List.set_cons_zero, List.set_cons_succ]
          refine wpAnyH_take (i := 11) (v := .int .i64 k) rfl (by kernel_rfl) (by kernel_rfl) (by kernel_rfl) (fun _ _ _ h => h) (Or.inl ⟨by rfl, ?_⟩) hS ?_
          · intro wq hSw
            obtain ⟨hq, x0, x1⟩ := hSw
            obtain ⟨q0, q1, q2, q3⟩ := lbox hq
            go_simp
          simp only [Act.put, List.getElem_toArray, List.getElem_cons_zero, List.getElem_cons_succ, List.setIfInBounds_toArray, List.set_cons_zero, List.set_cons_succ]
          refine wpAnyH_take (i := 12) (v := .pointer (some ⟨b, off + k * 2, none⟩)) rfl (by kernel_rfl) (by kernel_rfl) (by kernel_rfl) (fun _ _ _ h => h) (Or.inl ⟨by rfl, ?_⟩) hS ?_
          · intro wq hSw
            obtain ⟨hq, x0, x1⟩ := hSw
            obtain ⟨q0, q1, q2, q3⟩ := lbox hq
            go_simp
          simp only [Act.put, List.getElem_toArray, List.getElem_cons_zero, List.getElem_cons_succ, List.setIfInBounds_toArray, List.set_cons_zero, List.set_cons_succ]
          refine wpAnyH_take (i := 13) (v := .pointer (some ⟨b, off + k * 2 + 1, none⟩)) rfl (by kernel_rfl) (by kernel_rfl) (by kernel_rfl) (fun _ _ _ h => h) (Or.inl ⟨by rfl, ?_⟩) hS ?_
          · intro wq hSw
            obtain ⟨hq, x0, x1⟩ := hSw
            obtain ⟨q0, q1, q2, q3⟩ := lbox hq
            go_simp
          simp only [Act.put, List.getElem_toArray, List.getElem_cons_zero, List.getElem_cons_succ, List.setIfInBounds_toArray, List.set_cons_zero, List.set_cons_succ]
          refine wpAnyH_take (i := 14) (v := .slice ka x.ids.length kc) rfl (by kernel_rfl) (by kernel_rfl) (by kernel_rfl) (fun _ _ _ h => h) (Or.inl ⟨by rfl, ?_⟩) hS ?_
          · intro wq hSw
            obtain ⟨hq, x0, x1⟩ := hSw
            obtain ⟨q0, q1, q2, q3⟩ := lbox hq
            go_simp
          simp only [Act.put, List.getElem_toArray, List.getElem_cons_zero, List.getElem_cons_succ, List.setIfInBounds_toArray, List.set_cons_zero, List.set_cons_succ]
          refine wpAnyH_ready (rs := [1, 8]) (by kernel_rfl) (by simp) ?_
          refine AllReadyH.cons rfl (fun K hK => ?_) (AllReadyH.cons rfl (fun K hK => ?_) AllReadyH.nil)
          · obtain ⟨y0, y1, y2, y3⟩ := lbox HR.out.1
            go_simp
            refine hK.out _ _ hS (fun _ => ?_)
            clear hK K y0 y1 y2 y3
            refine wpAnyH_ready (rs := [8]) (by kernel_rfl) (by simp) ?_
            refine AllReadyH.cons rfl (fun K hK => ?_) AllReadyH.nil
            go_simp
            refine hK.out _ _ SA (fun _ => ?_)
            clear hK K
            refine wpAnyH_ready (rs := [15]) (by kernel_rfl) (by simp) ?_
            refine AllReadyH.cons rfl (fun K hK => ?_) AllReadyH.nil
            refine step_append_intsR rfl (.tmp 29) (.tmp 35) rfl wr.heap.size (.slice (some ⟨wr.heap.size, 0, none⟩) 0 0) 0 [] (by simp [Act.eval]) (by exact E1) (.slice ka x.ids.length kc) x.ids S (by simp [Act.eval]) (by exact KA) (by omega) (by simp) ?_
            intro v6 w5 hown6 hgrow6 hat6
            rw [Nat.zero_add, List.nil_append] at hown6
            obtain ⟨a6, c6, rfl⟩ := own_form hown6
            have B5 : Below wr.heap.size wr w5 := Below.grown BA hgrow6 (hB := by simp) (hr := fun b hb => by simp [Value.ownBlock] at hb; omega)
            have O5 := (B5.block _ (lt_heap HR.out.1)).trans HR.out.1
            have S5 := hSof _ (HR.out.2.1.trans (B5.mono hsz)) ((B5.block _ (lt_heap HR.out.2.2.1)).trans HR.out.2.2.1)
            have B6 := B5.alloc B5.size (.cells #[.int .i64 x.low, .slice a6 x.ids.length c6] 76)
            have O6 := (B6.block _ (lt_heap HR.out.1)).trans HR.out.1
            have S6 := hSof _ (HR.out.2.1.trans (B6.mono hsz)) ((B6.block _ (lt_heap HR.out.2.2.1)).trans HR.out.2.2.1)
            refine hK.out _ _ S5 (fun _ => ?_)
            clear hK K
            simp only [Act.put, List.getElem_toArray, List.getElem_cons_zero, List.getElem_cons_succ, List.setIfInBounds_toArray, List.set_cons_zero, List.set_cons_succ]
            refine wpAnyH_take (i := 16) (v := .agg #[.int .i64 x.low, .slice a6 x.ids.length c6]) rfl (by kernel_rfl) (by kernel_rfl) (by kernel_rfl) (fun _ _ _ h => h) (Or.inl ⟨by rfl, ?_⟩) S5 ?_
            · intro wq hSw
              go_simp
            simp only [Act.put, List.getElem_toArray, List.getElem_cons_zero, List.getElem_cons_succ, List.setIfInBounds_toArray, List.set_cons_zero, List.set_cons_succ]
            refine wpAnyH_ready (rs := [17]) (by kernel_rfl) (by simp) ?_
            refine AllReadyH.cons rfl (fun K hK => ?_) AllReadyH.nil
            go_simp
            refine hK.out _ _ S6 (fun _ => ?_)
            clear hK K
            refine wpAnyH_ready (rs := [18]) (by kernel_rfl) (by simp) ?_
            refine AllReadyH.cons rfl (fun K hK => ?_) AllReadyH.nil
            have R6 := own_moved HR.out.2.2.2.1.cells (fun g hg => B6.block g (own_lt HR.out.2.2.2.1.cells g hg))
            rw [HR.out.2.2.2.2.2.1] at R6
            refine step_append_row rfl (.tmp 22) (.tmp 38) 25 rfl w.heap.size 76 i0 (.agg #[.int .i64 0, .slice none 0 0]) 2 32 Tryz.underlying25 hi hz0 hz1 hz2 rfl (by decide) (.slice qa k qc) k _ (by simp [Act.eval]) (by exact R6) ⟨w5.heap.size, 0, none⟩ 1 1 [.int .i64 x.low, .slice a6 x.ids.length c6] (by simp [Act.eval]) rfl (cell_twoS _ _ _ _) (by simp [Value.oneCell']) (by unfold maxLen; omega) (by omega) (by have := B6.size; omega) ?_
            intro v8 w8 hown8 hgrow8 hat8
            have hF := l08Copy_round HR.out.2.2.2.1 HR.out.2.2.2.2.1 HR.out.1 HR.out.2.2.1 HR.out.2.1 HR.out.2.2.2.2.2.1 BA B5 hown6 hown8 hgrow8 HX.out.1 hsz hobw HR.out.2.2.2.2.2.2.2
            obtain ⟨a8, c8, rfl⟩ := own_form hown8
            obtain ⟨O8, L8, B8, F1, F2, F3, F4, F5, F6⟩ := hF
            have S8 := hSof _ B8 L8
            have S9 := hSof _ F5 F4
            refine hK.out _ _ S8 (fun _ => ?_)
            clear hK K
            simp only [Act.put, List.getElem_toArray, List.getElem_cons_zero, List.getElem_cons_succ, List.setIfInBounds_toArray, List.set_cons_zero, List.set_cons_succ]
            refine wpAnyH_take (i := 19) (v := .pointer (some ⟨ob, 3, none⟩)) rfl (by kernel_rfl) (by kernel_rfl) (by kernel_rfl) (fun _ _ _ h => h) (Or.inl ⟨by rfl, ?_⟩) S8 ?_
            · intro wq hSw
              go_simp
            simp only [Act.put, List.getElem_toArray, List.getElem_cons_zero, List.getElem_cons_succ, List.setIfInBounds_toArray, List.set_cons_zero, List.set_cons_succ]
            refine wpAnyH_ready (rs := [20]) (by kernel_rfl) (by simp) ?_
            refine AllReadyH.cons rfl (fun K hK => ?_) AllReadyH.nil
            obtain ⟨y0, y1, y2, y3⟩ := lbox O8
            have f3 : w8.frozen? ⟨ob, 3, none⟩ = false := unfrozen_of_block O8 3
            go_simp
            refine hK.out _ _ S9 (fun _ => ?_)
            refine wpAnyH_done (by kernel_rfl) ?_ _
            have HZ := (show Hid (_ ∧ _ ∧ _ ∧ _ ∧ _ ∧ _ ∧ _) from ⟨F1, F2, F3, F4, F5, True.intro, F6⟩)
            clear hK K y0 y1 y2 y3 f3 O8 L8 B8 F1 F2 F3 F4 F5 F6 S8 S9 S6 S5 O6 O5 OA SA B6 B5 BA R6 hown8 hgrow8 hat8 hown6 hgrow6 hat6 KA E1 hS
            go_wp2
            go_roundw
            case rel =>
              refine ⟨k + 1, a8, c8, rs ++ [(x, .slice a6 x.ids.length c6)], by omega, by go_num, by rw [List.length_append, HR.out.2.2.2.2.2.1]; rfl, ?_, HZ.out.1, HZ.out.2.1, HZ.out.2.2.2.1, HZ.out.2.2.1, HZ.out.2.2.2.2.2.2, HZ.out.2.2.2.2.1⟩
              rw [List.map_append, HR.out.2.2.2.2.2.2.1, HX.out.2]
              rfl
            case measure => simp [intOf]; omega
          · go_simp
            refine hK.out _ _ SA (fun _ => ?_)
            clear hK K
            refine wpAnyH_ready (rs := [1, 15]) (by kernel_rfl) (by simp) ?_
            refine AllReadyH.cons rfl (fun K hK => ?_) (AllReadyH.cons rfl (fun K hK => ?_) AllReadyH.nil)
            · obtain ⟨y0, y1, y2, y3⟩ := lbox OA
              go_simp
              refine hK.out _ _ SA (fun _ => ?_)
              clear hK K y0 y1 y2 y3
              refine wpAnyH_ready (rs := [15]) (by kernel_rfl) (by simp) ?_
              refine AllReadyH.cons rfl (fun K hK => ?_) AllReadyH.nil
              refine step_append_intsR rfl (.tmp 29) (.tmp 35) rfl wr.heap.size (.slice (some ⟨wr.heap.size, 0, none⟩) 0 0) 0 [] (by simp [Act.eval]) (by exact E1) (.slice ka x.ids.length kc) x.ids S (by simp [Act.eval]) (by exact KA) (by omega) (by simp) ?_
              intro v6 w5 hown6 hgrow6 hat6
              rw [Nat.zero_add, List.nil_append] at hown6
              obtain ⟨a6, c6, rfl⟩ := own_form hown6
              have B5 : Below wr.heap.size wr w5 := Below.grown BA hgrow6 (hB := by simp) (hr := fun b hb => by simp [Value.ownBlock] at hb; omega)
              have O5 := (B5.block _ (lt_heap HR.out.1)).trans HR.out.1
              have S5 := hSof _ (HR.out.2.1.trans (B5.mono hsz)) ((B5.block _ (lt_heap HR.out.2.2.1)).trans HR.out.2.2.1)
              have B6 := B5.alloc B5.size (.cells #[.int .i64 x.low, .slice a6 x.ids.length c6] 76)
              have O6 := (B6.block _ (lt_heap HR.out.1)).trans HR.out.1
              have S6 := hSof _ (HR.out.2.1.trans (B6.mono hsz)) ((B6.block _ (lt_heap HR.out.2.2.1)).trans HR.out.2.2.1)
              refine hK.out _ _ S5 (fun _ => ?_)
              clear hK K
              simp only [Act.put, List.getElem_toArray, List.getElem_cons_zero, List.getElem_cons_succ, List.setIfInBounds_toArray, List.set_cons_zero, List.set_cons_succ]
              refine wpAnyH_take (i := 16) (v := .agg #[.int .i64 x.low, .slice a6 x.ids.length c6]) rfl (by kernel_rfl) (by kernel_rfl) (by kernel_rfl) (fun _ _ _ h => h) (Or.inl ⟨by rfl, ?_⟩) S5 ?_
              · intro wq hSw
                go_simp
              simp only [Act.put, List.getElem_toArray, List.getElem_cons_zero, List.getElem_cons_succ, List.setIfInBounds_toArray, List.set_cons_zero, List.set_cons_succ]
              refine wpAnyH_ready (rs := [17]) (by kernel_rfl) (by simp) ?_
              refine AllReadyH.cons rfl (fun K hK => ?_) AllReadyH.nil
              go_simp
              refine hK.out _ _ S6 (fun _ => ?_)
              clear hK K
              refine wpAnyH_ready (rs := [18]) (by kernel_rfl) (by simp) ?_
              refine AllReadyH.cons rfl (fun K hK => ?_) AllReadyH.nil
              have R6 := own_moved HR.out.2.2.2.1.cells (fun g hg => B6.block g (own_lt HR.out.2.2.2.1.cells g hg))
              rw [HR.out.2.2.2.2.2.1] at R6
              refine step_append_row rfl (.tmp 22) (.tmp 38) 25 rfl w.heap.size 76 i0 (.agg #[.int .i64 0, .slice none 0 0]) 2 32 Tryz.underlying25 hi hz0 hz1 hz2 rfl (by decide) (.slice qa k qc) k _ (by simp [Act.eval]) (by exact R6) ⟨w5.heap.size, 0, none⟩ 1 1 [.int .i64 x.low, .slice a6 x.ids.length c6] (by simp [Act.eval]) rfl (cell_twoS _ _ _ _) (by simp [Value.oneCell']) (by unfold maxLen; omega) (by omega) (by have := B6.size; omega) ?_
              intro v8 w8 hown8 hgrow8 hat8
              have hF := l08Copy_round HR.out.2.2.2.1 HR.out.2.2.2.2.1 HR.out.1 HR.out.2.2.1 HR.out.2.1 HR.out.2.2.2.2.2.1 BA B5 hown6 hown8 hgrow8 HX.out.1 hsz hobw HR.out.2.2.2.2.2.2.2
              obtain ⟨a8, c8, rfl⟩ := own_form hown8
              obtain ⟨O8, L8, B8, F1, F2, F3, F4, F5, F6⟩ := hF
              have S8 := hSof _ B8 L8
              have S9 := hSof _ F5 F4
              refine hK.out _ _ S8 (fun _ => ?_)
              clear hK K
              simp only [Act.put, List.getElem_toArray, List.getElem_cons_zero, List.getElem_cons_succ, List.setIfInBounds_toArray, List.set_cons_zero, List.set_cons_succ]
              refine wpAnyH_take (i := 19) (v := .pointer (some ⟨ob, 3, none⟩)) rfl (by kernel_rfl) (by kernel_rfl) (by kernel_rfl) (fun _ _ _ h => h) (Or.inl ⟨by rfl, ?_⟩) S8 ?_
              · intro wq hSw
                go_simp
              simp only [Act.put, List.getElem_toArray, List.getElem_cons_zero, List.getElem_cons_succ, List.setIfInBounds_toArray, List.set_cons_zero, List.set_cons_succ]
              refine wpAnyH_ready (rs := [20]) (by kernel_rfl) (by simp) ?_
              refine AllReadyH.cons rfl (fun K hK => ?_) AllReadyH.nil
              obtain ⟨y0, y1, y2, y3⟩ := lbox O8
              have f3 : w8.frozen? ⟨ob, 3, none⟩ = false := unfrozen_of_block O8 3
              go_simp
              refine hK.out _ _ S9 (fun _ => ?_)
              refine wpAnyH_done (by kernel_rfl) ?_ _
              have HZ := (show Hid (_ ∧ _ ∧ _ ∧ _ ∧ _ ∧ _ ∧ _) from ⟨F1, F2, F3, F4, F5, True.intro, F6⟩)
              clear hK K y0 y1 y2 y3 f3 O8 L8 B8 F1 F2 F3 F4 F5 F6 S8 S9 S6 S5 O6 O5 OA SA B6 B5 BA R6 hown8 hgrow8 hat8 hown6 hgrow6 hat6 KA E1 hS
              go_wp2
              go_roundw
              case rel =>
                refine ⟨k + 1, a8, c8, rs ++ [(x, .slice a6 x.ids.length c6)], by omega, by go_num, by rw [List.length_append, HR.out.2.2.2.2.2.1]; rfl, ?_, HZ.out.1, HZ.out.2.1, HZ.out.2.2.2.1, HZ.out.2.2.1, HZ.out.2.2.2.2.2.2, HZ.out.2.2.2.2.1⟩
                rw [List.map_append, HR.out.2.2.2.2.2.2.1, HX.out.2]
                rfl
              case measure => simp [intOf]; omega
            · refine step_append_intsR rfl (.tmp 29) (.tmp 35) rfl wr.heap.size (.slice (some ⟨wr.heap.size, 0, none⟩) 0 0) 0 [] (by simp [Act.eval]) (by exact E1) (.slice ka x.ids.length kc) x.ids S (by simp [Act.eval]) (by exact KA) (by omega) (by simp) ?_
              intro v6 w5 hown6 hgrow6 hat6
              rw [Nat.zero_add, List.nil_append] at hown6
              obtain ⟨a6, c6, rfl⟩ := own_form hown6
              have B5 : Below wr.heap.size wr w5 := Below.grown BA hgrow6 (hB := by simp) (hr := fun b hb => by simp [Value.ownBlock] at hb; omega)
              have O5 := (B5.block _ (lt_heap HR.out.1)).trans HR.out.1
              have S5 := hSof _ (HR.out.2.1.trans (B5.mono hsz)) ((B5.block _ (lt_heap HR.out.2.2.1)).trans HR.out.2.2.1)
              have B6 := B5.alloc B5.size (.cells #[.int .i64 x.low, .slice a6 x.ids.length c6] 76)
              have O6 := (B6.block _ (lt_heap HR.out.1)).trans HR.out.1
              have S6 := hSof _ (HR.out.2.1.trans (B6.mono hsz)) ((B6.block _ (lt_heap HR.out.2.2.1)).trans HR.out.2.2.1)
              refine hK.out _ _ S5 (fun _ => ?_)
              clear hK K
              simp only [Act.put, List.getElem_toArray, List.getElem_cons_zero, List.getElem_cons_succ, List.setIfInBounds_toArray, List.set_cons_zero, List.set_cons_succ]
              refine wpAnyH_take (i := 16) (v := .agg #[.int .i64 x.low, .slice a6 x.ids.length c6]) rfl (by kernel_rfl) (by kernel_rfl) (by kernel_rfl) (fun _ _ _ h => h) (Or.inl ⟨by rfl, ?_⟩) S5 ?_
              · intro wq hSw
                go_simp
              simp only [Act.put, List.getElem_toArray, List.getElem_cons_zero, List.getElem_cons_succ, List.setIfInBounds_toArray, List.set_cons_zero, List.set_cons_succ]
              refine wpAnyH_ready (rs := [1, 17]) (by kernel_rfl) (by simp) ?_
              refine AllReadyH.cons rfl (fun K hK => ?_) (AllReadyH.cons rfl (fun K hK => ?_) AllReadyH.nil)
              · obtain ⟨y0, y1, y2, y3⟩ := lbox O5
                go_simp
                refine hK.out _ _ S5 (fun _ => ?_)
                clear hK K y0 y1 y2 y3
                refine wpAnyH_ready (rs := [17]) (by kernel_rfl) (by simp) ?_
                refine AllReadyH.cons rfl (fun K hK => ?_) AllReadyH.nil
                go_simp
                refine hK.out _ _ S6 (fun _ => ?_)
                clear hK K
                refine wpAnyH_ready (rs := [18]) (by kernel_rfl) (by simp) ?_
                refine AllReadyH.cons rfl (fun K hK => ?_) AllReadyH.nil
                have R6 := own_moved HR.out.2.2.2.1.cells (fun g hg => B6.block g (own_lt HR.out.2.2.2.1.cells g hg))
                rw [HR.out.2.2.2.2.2.1] at R6
                refine step_append_row rfl (.tmp 22) (.tmp 38) 25 rfl w.heap.size 76 i0 (.agg #[.int .i64 0, .slice none 0 0]) 2 32 Tryz.underlying25 hi hz0 hz1 hz2 rfl (by decide) (.slice qa k qc) k _ (by simp [Act.eval]) (by exact R6) ⟨w5.heap.size, 0, none⟩ 1 1 [.int .i64 x.low, .slice a6 x.ids.length c6] (by simp [Act.eval]) rfl (cell_twoS _ _ _ _) (by simp [Value.oneCell']) (by unfold maxLen; omega) (by omega) (by have := B6.size; omega) ?_
                intro v8 w8 hown8 hgrow8 hat8
                have hF := l08Copy_round HR.out.2.2.2.1 HR.out.2.2.2.2.1 HR.out.1 HR.out.2.2.1 HR.out.2.1 HR.out.2.2.2.2.2.1 BA B5 hown6 hown8 hgrow8 HX.out.1 hsz hobw HR.out.2.2.2.2.2.2.2
                obtain ⟨a8, c8, rfl⟩ := own_form hown8
                obtain ⟨O8, L8, B8, F1, F2, F3, F4, F5, F6⟩ := hF
                have S8 := hSof _ B8 L8
                have S9 := hSof _ F5 F4
                refine hK.out _ _ S8 (fun _ => ?_)
                clear hK K
                simp only [Act.put, List.getElem_toArray, List.getElem_cons_zero, List.getElem_cons_succ, List.setIfInBounds_toArray, List.set_cons_zero, List.set_cons_succ]
                refine wpAnyH_take (i := 19) (v := .pointer (some ⟨ob, 3, none⟩)) rfl (by kernel_rfl) (by kernel_rfl) (by kernel_rfl) (fun _ _ _ h => h) (Or.inl ⟨by rfl, ?_⟩) S8 ?_
                · intro wq hSw
                  go_simp
                simp only [Act.put, List.getElem_toArray, List.getElem_cons_zero, List.getElem_cons_succ, List.setIfInBounds_toArray, List.set_cons_zero, List.set_cons_succ]
                refine wpAnyH_ready (rs := [20]) (by kernel_rfl) (by simp) ?_
                refine AllReadyH.cons rfl (fun K hK => ?_) AllReadyH.nil
                obtain ⟨y0, y1, y2, y3⟩ := lbox O8
                have f3 : w8.frozen? ⟨ob, 3, none⟩ = false := unfrozen_of_block O8 3
                go_simp
                refine hK.out _ _ S9 (fun _ => ?_)
                refine wpAnyH_done (by kernel_rfl) ?_ _
                have HZ := (show Hid (_ ∧ _ ∧ _ ∧ _ ∧ _ ∧ _ ∧ _) from ⟨F1, F2, F3, F4, F5, True.intro, F6⟩)
                clear hK K y0 y1 y2 y3 f3 O8 L8 B8 F1 F2 F3 F4 F5 F6 S8 S9 S6 S5 O6 O5 OA SA B6 B5 BA R6 hown8 hgrow8 hat8 hown6 hgrow6 hat6 KA E1 hS
                go_wp2
                go_roundw
                case rel =>
                  refine ⟨k + 1, a8, c8, rs ++ [(x, .slice a6 x.ids.length c6)], by omega, by go_num, by rw [List.length_append, HR.out.2.2.2.2.2.1]; rfl, ?_, HZ.out.1, HZ.out.2.1, HZ.out.2.2.2.1, HZ.out.2.2.1, HZ.out.2.2.2.2.2.2, HZ.out.2.2.2.2.1⟩
                  rw [List.map_append, HR.out.2.2.2.2.2.2.1, HX.out.2]
                  rfl
                case measure => simp [intOf]; omega
              · go_simp
                refine hK.out _ _ S6 (fun _ => ?_)
                clear hK K
                refine wpAnyH_ready (rs := [1]) (by kernel_rfl) (by simp) ?_
                refine AllReadyH.cons rfl (fun K hK => ?_) AllReadyH.nil
                obtain ⟨y0, y1, y2, y3⟩ := lbox O6
                go_simp
                refine hK.out _ _ S6 (fun _ => ?_)
                clear hK K y0 y1 y2 y3
                refine wpAnyH_ready (rs := [18]) (by kernel_rfl) (by simp) ?_
                refine AllReadyH.cons rfl (fun K hK => ?_) AllReadyH.nil
                have R6 := own_moved HR.out.2.2.2.1.cells (fun g hg => B6.block g (own_lt HR.out.2.2.2.1.cells g hg))
                rw [HR.out.2.2.2.2.2.1] at R6
                refine step_append_row rfl (.tmp 22) (.tmp 38) 25 rfl w.heap.size 76 i0 (.agg #[.int .i64 0, .slice none 0 0]) 2 32 Tryz.underlying25 hi hz0 hz1 hz2 rfl (by decide) (.slice qa k qc) k _ (by simp [Act.eval]) (by exact R6) ⟨w5.heap.size, 0, none⟩ 1 1 [.int .i64 x.low, .slice a6 x.ids.length c6] (by simp [Act.eval]) rfl (cell_twoS _ _ _ _) (by simp [Value.oneCell']) (by unfold maxLen; omega) (by omega) (by have := B6.size; omega) ?_
                intro v8 w8 hown8 hgrow8 hat8
                have hF := l08Copy_round HR.out.2.2.2.1 HR.out.2.2.2.2.1 HR.out.1 HR.out.2.2.1 HR.out.2.1 HR.out.2.2.2.2.2.1 BA B5 hown6 hown8 hgrow8 HX.out.1 hsz hobw HR.out.2.2.2.2.2.2.2
                obtain ⟨a8, c8, rfl⟩ := own_form hown8
                obtain ⟨O8, L8, B8, F1, F2, F3, F4, F5, F6⟩ := hF
                have S8 := hSof _ B8 L8
                have S9 := hSof _ F5 F4
                refine hK.out _ _ S8 (fun _ => ?_)
                clear hK K
                simp only [Act.put, List.getElem_toArray, List.getElem_cons_zero, List.getElem_cons_succ, List.setIfInBounds_toArray, List.set_cons_zero, List.set_cons_succ]
                refine wpAnyH_take (i := 19) (v := .pointer (some ⟨ob, 3, none⟩)) rfl (by kernel_rfl) (by kernel_rfl) (by kernel_rfl) (fun _ _ _ h => h) (Or.inl ⟨by rfl, ?_⟩) S8 ?_
                · intro wq hSw
                  go_simp
                simp only [Act.put, List.getElem_toArray, List.getElem_cons_zero, List.getElem_cons_succ, List.setIfInBounds_toArray, List.set_cons_zero, List.set_cons_succ]
                refine wpAnyH_ready (rs := [20]) (by kernel_rfl) (by simp) ?_
                refine AllReadyH.cons rfl (fun K hK => ?_) AllReadyH.nil
                obtain ⟨y0, y1, y2, y3⟩ := lbox O8
                have f3 : w8.frozen? ⟨ob, 3, none⟩ = false := unfrozen_of_block O8 3
                go_simp
                refine hK.out _ _ S9 (fun _ => ?_)
                refine wpAnyH_done (by kernel_rfl) ?_ _
                have HZ := (show Hid (_ ∧ _ ∧ _ ∧ _ ∧ _ ∧ _ ∧ _) from ⟨F1, F2, F3, F4, F5, True.intro, F6⟩)
                clear hK K y0 y1 y2 y3 f3 O8 L8 B8 F1 F2 F3 F4 F5 F6 S8 S9 S6 S5 O6 O5 OA SA B6 B5 BA R6 hown8 hgrow8 hat8 hown6 hgrow6 hat6 KA E1 hS
                go_wp2
                go_roundw
                case rel =>
                  refine ⟨k + 1, a8, c8, rs ++ [(x, .slice a6 x.ids.length c6)], by omega, by go_num, by rw [List.length_append, HR.out.2.2.2.2.2.1]; rfl, ?_, HZ.out.1, HZ.out.2.1, HZ.out.2.2.2.1, HZ.out.2.2.1, HZ.out.2.2.2.2.2.2, HZ.out.2.2.2.2.1⟩
                  rw [List.map_append, HR.out.2.2.2.2.2.2.1, HX.out.2]
                  rfl
                case measure => simp [intOf]; omega
        · obtain rfl : k = l.seen.length := by omega
          rw [List.take_length] at hrm
          obtain ⟨y0, y1, y2, y3⟩ := lbox hO
          obtain ⟨z0, z1, z2, z3⟩ := lbox hR1
          have f10 : wr.frozen? ⟨w.heap.size + 1, 0, none⟩ = false := unfrozen_of_block hR1 0
          have f11 : wr.frozen? ⟨w.heap.size + 1, 1, none⟩ = false := unfrozen_of_block hR1 1
          have f12 : wr.frozen? ⟨w.heap.size + 1, 2, none⟩ = false := unfrozen_of_block hR1 2
          have f13 : wr.frozen? ⟨w.heap.size + 1, 3, none⟩ = false := unfrozen_of_block hR1 3
          have HZ := (show Hid (_ ∧ _ ∧ _ ∧ _ ∧ _ ∧ _ ∧ _) from ⟨hrm, hSe, hSn, hbw, hO, hrl, hR1⟩)
          clear hrm hSe hSn hbw hO hL hrl hR1
          go_wp2
          refine bodyPost_ret (v := .agg (l.row (.slice a5 l.out.length c5) (.slice qa l.seen.length qc))) (by simp [results, Tryz.results32, go_sem, z0, z1, z2, z3]) rfl ⟨_, rfl, ⟨.slice a5 l.out.length c5, .slice qa l.seen.length qc, rs, ⟨rfl, HF.out.1, ?_, ?_, HZ.out.1⟩⟩, ?_⟩
          · refine HZ.out.2.2.1.moved (fun g hg => ?_)
            have hgn : ¬ g = w.heap.size + 1 := fun e => by
              obtain ⟨_, cs, h2⟩ := own_type HZ.out.2.2.1.1 g hg
              rw [e, HZ.out.2.2.2.2.2.2] at h2
              simp at h2
            rw [Below.heap_setCell _ _ _ _ (by simpa using hgn), Below.heap_setCell _ _ _ _ (by simpa using hgn), Below.heap_setCell _ _ _ _ (by simpa using hgn), Below.heap_setCell _ _ _ _ (by simpa using hgn)]
          · refine HZ.out.2.1.moved (fun g hg => ?_)
            have hgn : ¬ g = w.heap.size + 1 := fun e => by
              rcases hg with hg | ⟨r, hr, hg⟩
              · obtain ⟨_, cs, h2⟩ := own_type HZ.out.2.1.cells g hg
                rw [e, HZ.out.2.2.2.2.2.2] at h2
                simp at h2
              · obtain ⟨_, cs, h2⟩ := own_type (HZ.out.2.1.kids r hr).1 g hg
                rw [e, HZ.out.2.2.2.2.2.2] at h2
                simp at h2
            rw [Below.heap_setCell _ _ _ _ (by simpa using hgn), Below.heap_setCell _ _ _ _ (by simpa using hgn), Below.heap_setCell _ _ _ _ (by simpa using hgn), Below.heap_setCell _ _ _ _ (by simpa using hgn)]
          · exact (((HZ.out.2.2.2.1.setCell (p := ⟨w.heap.size + 1, 0, none⟩) (by simp) _).setCell (p := ⟨w.heap.size + 1, 1, none⟩) (by simp) _).setCell (p := ⟨w.heap.size + 1, 2, none⟩) (by simp) _).setCell (p := ⟨w.heap.size + 1, 3, none⟩) (by simp) _
    · go_simp
      refine hK.out _ _ HE.out.2.2.2.2.1 (fun _ => ?_)
      clear hK K
      refine wpAnyH_ready (rs := [7]) (by kernel_rfl) (by simp) ?_
      refine AllReadyH.cons rfl (fun K hK => ?_) AllReadyH.nil
      refine step_append_sents rfl (.tmp 9) (.tmp 11) rfl W0.heap.size (.slice (some ⟨W0.heap.size, 0, none⟩) 0 0) 0 [] (by simp [Act.eval]) (by exact H0.out.2.2.2.1.alloc (.cells #[.int .i64 0, .int .i64 0, .slice none 0 0, .slice none 0 0] 27)) (.slice oa l.out.length oc) l.out S (by simp [Act.eval]) (H0.out.2.2.2.2.1.below ((H0.out.1.drew.alloc (by rw [hsD]; omega) _).alloc (by simp; omega) _)) (by omega) (by simp <;> omega) ?_
      intro v5 w5 hown5 hgrow5 hat5
      rw [Nat.zero_add, List.nil_append] at hown5
      obtain ⟨a5, c5, rfl⟩ := own_form hown5
      have P0 : w5.heap[w.heap.size]? = some (.cells (l.row (.slice oa l.out.length oc) (.slice sa l.seen.length sc)) 27) := (hgrow5.block w.heap.size (by simp <;> omega) (by simp [Value.ownBlock] <;> omega)).trans HE.out.2.2.2.2.1
      have PR : w5.heap[w.heap.size + 1]? = some (.cells (Lk.row ⟨0, 0, [], []⟩ (.slice none 0 0) (.slice none 0 0)) 27) := ((Below.grown ((((Below.refl W0.heap.size W0).drew).alloc (by simp) _).alloc (by simp) _) hgrow5 (hB := by simp <;> omega) (hr := fun b hb => by simp [Value.ownBlock] at hb; omega)).block (w.heap.size + 1) (by omega)).trans H0.out.2.2.1
      have B5 : Below w.heap.size w w5 := Below.grown ((H0.out.1.drew.alloc (by rw [hsD]; omega) _).alloc (by simp; omega) _) hgrow5 (hB := ((H0.out.1.drew.alloc (by rw [hsD]; omega) _).alloc (by simp; omega) _).size) (hr := fun b hb => by simp [Value.ownBlock] at hb; omega)
      refine hK.out _ _ P0 (fun _ => ?_)
      clear hK K
      simp only [Act.put, List.getElem_toArray, List.getElem_cons_zero, List.getElem_cons_succ, List.setIfInBounds_toArray, List.set_cons_zero, List.set_cons_succ]
      refine wpAnyH_take (i := 8) (v := .agg #[.int .i64 l.id, .int .i64 l.next, .slice a5 l.out.length c5, .slice none 0 0]) rfl (by kernel_rfl) (by kernel_rfl) (by kernel_rfl) (fun _ _ _ h => h) (Or.inl ⟨by rfl, ?_⟩) P0 ?_
      · intro wq hSw
        go_simp
      simp only [Act.put, List.getElem_toArray, List.getElem_cons_zero, List.getElem_cons_succ, List.setIfInBounds_toArray, List.set_cons_zero, List.set_cons_succ]
      have hsz5 : W0.heap.size < w5.heap.size := Nat.lt_of_lt_of_le (by simp <;> omega) hgrow5.size
      obtain ⟨w6, hw6⟩ : ∃ w6, w6 = w5 := ⟨_, rfl⟩
      obtain ⟨ob, hob⟩ : ∃ ob, ob = W0.heap.size + 1 := ⟨_, rfl⟩
      have O6 : w6.heap[ob]? = some (.cells (Lk.row ⟨0, 0, [], []⟩ (.slice none 0 0) (.slice none 0 0)) 27) := by rw [hw6, hob]; exact (hgrow5.block (W0.heap.size + 1) (by simp) (by simp [Value.ownBlock])).trans HE.out.1
      have L6 : w6.heap[w.heap.size]? = some (.cells (l.row (.slice oa l.out.length oc) (.slice sa l.seen.length sc)) 27) := by rw [hw6]; exact P0
      have S6 : SnOwn w6 w.heap.size (.slice a5 l.out.length c5) l.out := by rw [hw6]; exact ⟨own_mono (hown5) (by omega), H0.out.2.2.2.2.2.1⟩
      have R6 : w6.heap[w.heap.size + 1]? = some (.cells (Lk.row ⟨0, 0, [], []⟩ (.slice none 0 0) (.slice none 0 0)) 27) := by rw [hw6]; exact PR
      have B6 : Below w.heap.size w w6 := by rw [hw6]; exact B5
      have hobw : w.heap.size + 1 < ob := by rw [hob]; omega
      rw [← hw6, ← hob]
      have hne : ¬ w.heap.size = ob := by omega
      have hlt6 : ob < w6.heap.size := lt_heap O6
      clear hw6 hob P0 PR B5 hown5 hgrow5 hat5 hsz5 hS hs0 hsD
      clear HE
      obtain ⟨u0, u1, u2, u3⟩ := lbox O6
      obtain ⟨f0, f1, f2, f3⟩ : w6.frozen? ⟨ob, 0, none⟩ = false ∧ w6.frozen? ⟨ob, 1, none⟩ = false ∧ w6.frozen? ⟨ob, 2, none⟩ = false ∧ w6.frozen? ⟨ob, 3, none⟩ = false := ⟨unfrozen_of_block O6 0, unfrozen_of_block O6 1, unfrozen_of_block O6 2, unfrozen_of_block O6 3⟩
      obtain ⟨W7, hW7⟩ : ∃ W7, W7 = (((w6.setCell ⟨ob, 0, none⟩ (.int .i64 l.id)).setCell ⟨ob, 1, none⟩ (.int .i64 l.next)).setCell ⟨ob, 2, none⟩ (.slice a5 l.out.length c5)).setCell ⟨ob, 3, none⟩ (.slice none 0 0) := ⟨_, rfl⟩
      have k7 : ∀ k, k ≠ ob → W7.heap[k]? = w6.heap[k]? := fun k hk => by
        have hk' : ¬ k = ob := hk
        rw [hW7, Below.heap_setCell _ _ _ _ (by simpa using hk'), Below.heap_setCell _ _ _ _ (by simpa using hk'), Below.heap_setCell _ _ _ _ (by simpa using hk'), Below.heap_setCell _ _ _ _ (by simpa using hk')]
      have O7 : W7.heap[ob]? = some (.cells (Lk.row ⟨l.id, l.next, l.out, []⟩ (.slice a5 l.out.length c5) (.slice none 0 0)) 27) := by
        rw [hW7, block_setCell (block_setCell (block_setCell (block_setCell O6 _) _) _) _]
        rfl
      have L7 : W7.heap[w.heap.size]? = some (.cells (l.row (.slice oa l.out.length oc) (.slice sa l.seen.length sc)) 27) := (k7 _ hne).trans L6
      have S7 : SnOwn W7 w.heap.size (.slice a5 l.out.length c5) l.out := S6.moved (fun b hb => k7 b (fun e => by
        obtain ⟨_, cs, h2⟩ := own_type S6.1 b hb
        rw [e, O6] at h2
        simp at h2))
      have B7 : Below w.heap.size w W7 := by rw [hW7]; exact (((B6.setCell (p := ⟨ob, 0, none⟩) (by simp; omega) _).setCell (p := ⟨ob, 1, none⟩) (by simp; omega) _).setCell (p := ⟨ob, 2, none⟩) (by simp; omega) _).setCell (p := ⟨ob, 3, none⟩) (by simp; omega) _
      have R7 : W7.heap[w.heap.size + 1]? = some (.cells (Lk.row ⟨0, 0, [], []⟩ (.slice none 0 0) (.slice none 0 0)) 27) := (k7 _ (by omega)).trans R6
      have H7 := (show Hid (_ ∧ _ ∧ _ ∧ _ ∧ _ ∧ _) from ⟨O7, L7, S7, B7, R7, hW7⟩)
      clear O7 L7 S7 B7 R7 hW7 k7 O6 L6 S6 B6 R6
      refine wpAnyH_ready (rs := [10]) (by kernel_rfl) (by simp) ?_
      refine AllReadyH.cons rfl (fun K hK => ?_) AllReadyH.nil
      go_simp
      rw [← (show W7 = _ from H7.out.2.2.2.2.2)]
      refine hK.out _ _ H7.out.2.1 (fun _ => ?_)
      clear hK K u0 u1 u2 u3 f0 f1 f2 f3
      refine wpAnyH_done (by kernel_rfl) ?_ _
      go_wp2
      go_loopw [4] (fun i wr => ∃ (k : Nat) (qa : Option Addr) (qc : Nat) (rs : List (Se × Value)), k ≤ l.seen.length ∧ i = .int .i64 k ∧ rs.length = k ∧ rs.map Prod.fst = l.seen.take k ∧ SeOwn wr w.heap.size (.slice qa k qc) rs ∧ SnOwn wr w.heap.size (.slice a5 l.out.length c5) l.out ∧ wr.heap[w.heap.size]? = some (.cells (l.row (.slice oa l.out.length oc) (.slice sa l.seen.length sc)) 27) ∧ wr.heap[ob]? = some (.cells (Lk.row ⟨l.id, l.next, l.out, []⟩ (.slice a5 l.out.length c5) (.slice qa k qc)) 27) ∧ wr.heap[w.heap.size + 1]? = some (.cells (Lk.row ⟨0, 0, [], []⟩ (.slice none 0 0) (.slice none 0 0)) 27) ∧ Below w.heap.size w wr) (fun i _ => l.seen.length - (intOf i).toNat)
      case atStart => exact ⟨0, none, 0, [], Nat.zero_le _, rfl, rfl, rfl, ⟨⟨rfl, .inl ⟨rfl, rfl⟩⟩, (fun r hr => by cases hr), by simp⟩, H7.out.2.2.1, H7.out.2.1, H7.out.1, H7.out.2.2.2.2.1, H7.out.2.2.2.1⟩
      case round =>
        clear H7
        obtain ⟨k, qa, qc, rs, hk, rfl, hrl, hrm, hSe, hSn, hL, hO, hR1, hbw⟩ := hrel
        have hsz := hbw.size
        obtain ⟨q0, q1, q2, q3⟩ := lbox hL
        by_cases hkl : k < l.seen.length
        · have he := List.getElem?_eq_getElem hkl
          have hbk := bulkN_at he
          have htk : l.seen.take (k + 1) = l.seen.take k ++ [l.seen[k]] := (List.take_append_getElem hkl).symm
          generalize l.seen[k] = x at *
          have hxb := (show x.bulk = x.ids.length from rfl)
          obtain ⟨b, off, kv, hoa, hSb, hlt2, c0, c1, r0, hkk⟩ := (by obtain ⟨a', cap', hv', _, hc'⟩ := HF.out.2; cases hv'; exact hc' k x he : ∃ b off kv, sa = some ⟨b, off, none⟩ ∧ S b ∧ b < w.heap.size ∧ w.cell? ⟨b, off + k * 2, none⟩ = some (.int .i64 x.low) ∧ w.cell? ⟨b, off + k * 2 + 1, none⟩ = some kv ∧ inI64 x.low ∧ IntsAt w S kv x.ids)
          subst hoa
          obtain ⟨ka, kc, rfl⟩ := hkk.form
          have hlt' : ((k : Nat) : Int) < ((l.seen.length : Nat) : Int) := by omega
          have hSof : ∀ W : World, Below w.heap.size w W → W.heap[w.heap.size]? = some (.cells (l.row (.slice oa l.out.length oc) (.slice (some ⟨b, off, none⟩) l.seen.length sc)) 27) → (W.heap[w.heap.size]? = some (.cells (l.row (.slice oa l.out.length oc) (.slice (some ⟨b, off, none⟩) l.seen.length sc)) 27) ∧ W.cell? ⟨b, off + k * 2, none⟩ = some (.int .i64 x.low) ∧ W.cell? ⟨b, off + k * 2 + 1, none⟩ = some (.slice ka x.ids.length kc)) := fun W hW hWL => ⟨hWL, (hW.cell (p := ⟨b, off + k * 2, none⟩) hlt2).trans c0, (hW.cell (p := ⟨b, off + k * 2 + 1, none⟩) hlt2).trans c1⟩
          have HX := (show Hid (_ ∧ _) from ⟨(⟨r0, fun z hz => by obtain ⟨a, cap, _, _, hc⟩ := hkk; obtain ⟨i, hi⟩ := List.getElem?_of_mem hz; obtain ⟨_, _, _, _, _, _, r⟩ := hc i z hi; exact r⟩ : SeOk x), htk⟩)
          have HR := (show Hid (_ ∧ _ ∧ _ ∧ _ ∧ _ ∧ _ ∧ _ ∧ _) from ⟨hO, hbw, hL, hSe, hSn, hrl, hrm, hR1⟩)
          have HS := (show Hid (_ ∧ _) from ⟨hSof, hkk⟩)
          clear hSof hkk hO hbw hL hSe hSn hrl hrm hR1 c0 c1 htk he r0 hSb
          go_wp2_with fail
          clear q0 q1 q2 q3
          have hSof := HS.out.1
          have BA : Below wr.heap.size wr (wr.drew.alloc (.cells #[] 3)) := ((Below.refl _ wr).drew).alloc (by simp) _
          have E1 : (wr.drew.alloc (.cells #[] 3)).ownsRow wr.heap.size 3 1 (.slice (some ⟨wr.heap.size, 0, none⟩) 0 0) 0 [] := made_empty wr.drew wr.heap.size 1 3 (Nat.le_refl _)
          have KA : IntsAt (wr.drew.alloc (.cells #[] 3)) S (.slice ka x.ids.length kc) x.ids := HS.out.2.below (HR.out.2.1.trans (BA.mono hsz))
          have OA : (wr.alloc (.cells #[] 3)).heap[ob]? = some (.cells (Lk.row ⟨l.id, l.next, l.out, []⟩ (.slice a5 l.out.length c5) (.slice qa k qc)) 27) := (BA.block _ (lt_heap HR.out.1)).trans HR.out.1
          have SA := hSof _ (HR.out.2.1.trans (BA.mono hsz)) ((BA.block _ (lt_heap HR.out.2.2.1)).trans HR.out.2.2.1)
          refine wp_region_held_drew (S := fun w' => w'.heap[w.heap.size]? = some (.cells (l.row (.slice oa l.out.length oc) (.slice (some ⟨b, off, none⟩) l.seen.length sc)) 27) ∧ w'.cell? ⟨b, off + k * 2, none⟩ = some (.int .i64 x.low) ∧ w'.cell? ⟨b, off + k * 2 + 1, none⟩ = some (.slice ka x.ids.length kc)) (by kernel_rfl) (hSof _ HR.out.2.1.drew HR.out.2.2.1) (fun hS => ?_)
          refine wpAnyH_take (i := 0) (v := .pointer (some ⟨ob, 3, none⟩)) rfl (by kernel_rfl) (by kernel_rfl) (by kernel_rfl) (fun _ _ _ h => h) (Or.inl ⟨by rfl, ?_⟩) hS ?_
          · intro wq hSw
            obtain ⟨hq, x0, x1⟩ := hSw
            obtain ⟨q0, q1, q2, q3⟩ := lbox hq
            go_simp
          simp only [Act.put, List.getElem_toArray, List.getElem_cons_zero, List.setIfInBounds_toArray, List.set_cons_zero, List.set_cons_succ]
          refine wpAnyH_take (i := 2) (v := .pointer (some ⟨w.heap.size, 3, none⟩)) rfl (by kernel_rfl) (by kernel_rfl) (by kernel_rfl) (fun _ _ _ h => h) (Or.inl ⟨by rfl, ?_⟩) hS ?_
          · intro wq hSw
            obtain ⟨hq, x0, x1⟩ := hSw
            obtain ⟨q0, q1, q2, q3⟩ := lbox hq
            go_simp
          simp only [Act.put, List.getElem_toArray, List.getElem_cons_zero, List.getElem_cons_succ, List.setIfInBounds_toArray, List.set_cons_zero, List.set_cons_succ]
          refine wpAnyH_take (i := 3) (v := .slice (some ⟨b, off, none⟩) l.seen.length sc) rfl (by kernel_rfl) (by kernel_rfl) (by kernel_rfl) (fun _ _ _ h => h) (Or.inl ⟨by rfl, ?_⟩) hS ?_
          · intro wq hSw
            obtain ⟨hq, x0, x1⟩ := hSw
            obtain ⟨q0, q1, q2, q3⟩ := lbox hq
            go_simp
          simp only [Act.put, List.getElem_toArray, List.getElem_cons_zero, List.getElem_cons_succ, List.setIfInBounds_toArray, List.set_cons_zero, List.set_cons_succ]
          refine wpAnyH_take (i := 4) (v := .int .i64 k) rfl (by kernel_rfl) (by kernel_rfl) (by kernel_rfl) (fun _ _ _ h => h) (Or.inl ⟨by rfl, ?_⟩) hS ?_
          · intro wq hSw
            obtain ⟨hq, x0, x1⟩ := hSw
            obtain ⟨q0, q1, q2, q3⟩ := lbox hq
            go_simp
          simp only [Act.put, List.getElem_toArray, List.getElem_cons_zero, List.getElem_cons_succ, List.setIfInBounds_toArray, List.set_cons_zero, List.set_cons_succ]
          refine wpAnyH_take (i := 5) (v := .pointer (some ⟨b, off + k * 2, none⟩)) rfl (by kernel_rfl) (by kernel_rfl) (by kernel_rfl) (fun _ _ _ h => h) (Or.inl ⟨by rfl, ?_⟩) hS ?_
          · intro wq hSw
            obtain ⟨hq, x0, x1⟩ := hSw
            obtain ⟨q0, q1, q2, q3⟩ := lbox hq
            go_simp
          simp only [Act.put, List.getElem_toArray, List.getElem_cons_zero, List.getElem_cons_succ, List.setIfInBounds_toArray, List.set_cons_zero, List.set_cons_succ]
          refine wpAnyH_take (i := 6) (v := .pointer (some ⟨b, off + k * 2, none⟩)) rfl (by kernel_rfl) (by kernel_rfl) (by kernel_rfl) (fun _ _ _ h => h) (Or.inl ⟨by rfl, ?_⟩) hS ?_
          · intro wq hSw
            obtain ⟨hq, x0, x1⟩ := hSw
            obtain ⟨q0, q1, q2, q3⟩ := lbox hq
            go_simp
          simp only [Act.put, List.getElem_toArray, List.getElem_cons_zero, List.getElem_cons_succ, List.setIfInBounds_toArray, List.set_cons_zero, List.set_cons_succ]
          refine wpAnyH_take (i := 7) (v := .int .i64 x.low) rfl (by kernel_rfl) (by kernel_rfl) (by kernel_rfl) (fun _ _ _ h => h) (Or.inl ⟨by rfl, ?_⟩) hS ?_
          · intro wq hSw
            obtain ⟨hq, x0, x1⟩ := hSw
            obtain ⟨q0, q1, q2, q3⟩ := lbox hq
            go_simp
          simp only [Act.put, List.getElem_toArray, List.getElem_cons_zero, List.getElem_cons_succ, List.setIfInBounds_toArray, List.set_cons_zero, List.set_cons_succ]
          refine wpAnyH_take (i := 9) (v := .pointer (some ⟨w.heap.size, 3, none⟩)) rfl (by kernel_rfl) (by kernel_rfl) (by kernel_rfl) (fun _ _ _ h => h) (Or.inl ⟨by rfl, ?_⟩) hS ?_
          · intro wq hSw
            obtain ⟨hq, x0, x1⟩ := hSw
            obtain ⟨q0, q1, q2, q3⟩ := lbox hq
            go_simp
          simp only [Act.put, List.getElem_toArray, List.getElem_cons_zero, List.getElem_cons_succ, List.setIfInBounds_toArray, List.set_cons_zero, List.set_cons_succ]
          refine wpAnyH_take (i := 10) (v := .slice (some ⟨b, off, none⟩) l.seen.length sc) rfl (by kernel_rfl) (by kernel_rfl) (by kernel_rfl) (fun _ _ _ h => h) (Or.inl ⟨by rfl, ?_⟩) hS ?_
          · intro wq hSw
            obtain ⟨hq, x0, x1⟩ := hSw
            obtain ⟨q0, q1, q2, q3⟩ := lbox hq
            go_simp
          simp only [Act.put, List.getElem_toArray, List.getElem_cons_zero, List.getElem_cons_succ, List.setIfInBounds_toArray, List.set_cons_zero, List.set_cons_succ]
          refine wpAnyH_take (i := 11) (v := .int .i64 k) rfl (by kernel_rfl) (by kernel_rfl) (by kernel_rfl) (fun _ _ _ h => h) (Or.inl ⟨by rfl, ?_⟩) hS ?_
          · intro wq hSw
            obtain ⟨hq, x0, x1⟩ := hSw
            obtain ⟨q0, q1, q2, q3⟩ := lbox hq
            go_simp
          simp only [Act.put, List.getElem_toArray, List.getElem_cons_zero, List.getElem_cons_succ, List.setIfInBounds_toArray, List.set_cons_zero, List.set_cons_succ]
          refine wpAnyH_take (i := 12) (v := .pointer (some ⟨b, off + k * 2, none⟩)) rfl (by kernel_rfl) (by kernel_rfl) (by kernel_rfl) (fun _ _ _ h => h) (Or.inl ⟨by rfl, ?_⟩) hS ?_
          · intro wq hSw
            obtain ⟨hq, x0, x1⟩ := hSw
            obtain ⟨q0, q1, q2, q3⟩ := lbox hq
            go_simp
          simp only [Act.put, List.getElem_toArray, List.getElem_cons_zero, List.getElem_cons_succ, List.setIfInBounds_toArray, List.set_cons_zero, List.set_cons_succ]
          refine wpAnyH_take (i := 13) (v := .pointer (some ⟨b, off + k * 2 + 1, none⟩)) rfl (by kernel_rfl) (by kernel_rfl) (by kernel_rfl) (fun _ _ _ h => h) (Or.inl ⟨by rfl, ?_⟩) hS ?_
          · intro wq hSw
            obtain ⟨hq, x0, x1⟩ := hSw
            obtain ⟨q0, q1, q2, q3⟩ := lbox hq
            go_simp
          simp only [Act.put, List.getElem_toArray, List.getElem_cons_zero, List.getElem_cons_succ, List.setIfInBounds_toArray, List.set_cons_zero, List.set_cons_succ]
          refine wpAnyH_take (i := 14) (v := .slice ka x.ids.length kc) rfl (by kernel_rfl) (by kernel_rfl) (by kernel_rfl) (fun _ _ _ h => h) (Or.inl ⟨by rfl, ?_⟩) hS ?_
          · intro wq hSw
            obtain ⟨hq, x0, x1⟩ := hSw
            obtain ⟨q0, q1, q2, q3⟩ := lbox hq
            go_simp
          simp only [Act.put, List.getElem_toArray, List.getElem_cons_zero, List.getElem_cons_succ, List.setIfInBounds_toArray, List.set_cons_zero, List.set_cons_succ]
          refine wpAnyH_ready (rs := [1, 8]) (by kernel_rfl) (by simp) ?_
          refine AllReadyH.cons rfl (fun K hK => ?_) (AllReadyH.cons rfl (fun K hK => ?_) AllReadyH.nil)
          · obtain ⟨y0, y1, y2, y3⟩ := lbox HR.out.1
            go_simp
            refine hK.out _ _ hS (fun _ => ?_)
            clear hK K y0 y1 y2 y3
            refine wpAnyH_ready (rs := [8]) (by kernel_rfl) (by simp) ?_
            refine AllReadyH.cons rfl (fun K hK => ?_) AllReadyH.nil
            go_simp
            refine hK.out _ _ SA (fun _ => ?_)
            clear hK K
            refine wpAnyH_ready (rs := [15]) (by kernel_rfl) (by simp) ?_
            refine AllReadyH.cons rfl (fun K hK => ?_) AllReadyH.nil
            refine step_append_intsR rfl (.tmp 29) (.tmp 35) rfl wr.heap.size (.slice (some ⟨wr.heap.size, 0, none⟩) 0 0) 0 [] (by simp [Act.eval]) (by exact E1) (.slice ka x.ids.length kc) x.ids S (by simp [Act.eval]) (by exact KA) (by omega) (by simp) ?_
            intro v6 w5 hown6 hgrow6 hat6
            rw [Nat.zero_add, List.nil_append] at hown6
            obtain ⟨a6, c6, rfl⟩ := own_form hown6
            have B5 : Below wr.heap.size wr w5 := Below.grown BA hgrow6 (hB := by simp) (hr := fun b hb => by simp [Value.ownBlock] at hb; omega)
            have O5 := (B5.block _ (lt_heap HR.out.1)).trans HR.out.1
            have S5 := hSof _ (HR.out.2.1.trans (B5.mono hsz)) ((B5.block _ (lt_heap HR.out.2.2.1)).trans HR.out.2.2.1)
            have B6 := B5.alloc B5.size (.cells #[.int .i64 x.low, .slice a6 x.ids.length c6] 76)
            have O6 := (B6.block _ (lt_heap HR.out.1)).trans HR.out.1
            have S6 := hSof _ (HR.out.2.1.trans (B6.mono hsz)) ((B6.block _ (lt_heap HR.out.2.2.1)).trans HR.out.2.2.1)
            refine hK.out _ _ S5 (fun _ => ?_)
            clear hK K
            simp only [Act.put, List.getElem_toArray, List.getElem_cons_zero, List.getElem_cons_succ, List.setIfInBounds_toArray, List.set_cons_zero, List.set_cons_succ]
            refine wpAnyH_take (i := 16) (v := .agg #[.int .i64 x.low, .slice a6 x.ids.length c6]) rfl (by kernel_rfl) (by kernel_rfl) (by kernel_rfl) (fun _ _ _ h => h) (Or.inl ⟨by rfl, ?_⟩) S5 ?_
            · intro wq hSw
              go_simp
            simp only [Act.put, List.getElem_toArray, List.getElem_cons_zero, List.getElem_cons_succ, List.setIfInBounds_toArray, List.set_cons_zero, List.set_cons_succ]
            refine wpAnyH_ready (rs := [17]) (by kernel_rfl) (by simp) ?_
            refine AllReadyH.cons rfl (fun K hK => ?_) AllReadyH.nil
            go_simp
            refine hK.out _ _ S6 (fun _ => ?_)
            clear hK K
            refine wpAnyH_ready (rs := [18]) (by kernel_rfl) (by simp) ?_
            refine AllReadyH.cons rfl (fun K hK => ?_) AllReadyH.nil
            have R6 := own_moved HR.out.2.2.2.1.cells (fun g hg => B6.block g (own_lt HR.out.2.2.2.1.cells g hg))
            rw [HR.out.2.2.2.2.2.1] at R6
            refine step_append_row rfl (.tmp 22) (.tmp 38) 25 rfl w.heap.size 76 i0 (.agg #[.int .i64 0, .slice none 0 0]) 2 32 Tryz.underlying25 hi hz0 hz1 hz2 rfl (by decide) (.slice qa k qc) k _ (by simp [Act.eval]) (by exact R6) ⟨w5.heap.size, 0, none⟩ 1 1 [.int .i64 x.low, .slice a6 x.ids.length c6] (by simp [Act.eval]) rfl (cell_twoS _ _ _ _) (by simp [Value.oneCell']) (by unfold maxLen; omega) (by omega) (by have := B6.size; omega) ?_
            intro v8 w8 hown8 hgrow8 hat8
            have hF := l08Copy_round HR.out.2.2.2.1 HR.out.2.2.2.2.1 HR.out.1 HR.out.2.2.1 HR.out.2.1 HR.out.2.2.2.2.2.1 BA B5 hown6 hown8 hgrow8 HX.out.1 hsz hobw HR.out.2.2.2.2.2.2.2
            obtain ⟨a8, c8, rfl⟩ := own_form hown8
            obtain ⟨O8, L8, B8, F1, F2, F3, F4, F5, F6⟩ := hF
            have S8 := hSof _ B8 L8
            have S9 := hSof _ F5 F4
            refine hK.out _ _ S8 (fun _ => ?_)
            clear hK K
            simp only [Act.put, List.getElem_toArray, List.getElem_cons_zero, List.getElem_cons_succ, List.setIfInBounds_toArray, List.set_cons_zero, List.set_cons_succ]
            refine wpAnyH_take (i := 19) (v := .pointer (some ⟨ob, 3, none⟩)) rfl (by kernel_rfl) (by kernel_rfl) (by kernel_rfl) (fun _ _ _ h => h) (Or.inl ⟨by rfl, ?_⟩) S8 ?_
            · intro wq hSw
              go_simp
            simp only [Act.put, List.getElem_toArray, List.getElem_cons_zero, List.getElem_cons_succ, List.setIfInBounds_toArray, List.set_cons_zero, List.set_cons_succ]
            refine wpAnyH_ready (rs := [20]) (by kernel_rfl) (by simp) ?_
            refine AllReadyH.cons rfl (fun K hK => ?_) AllReadyH.nil
            obtain ⟨y0, y1, y2, y3⟩ := lbox O8
            have f3 : w8.frozen? ⟨ob, 3, none⟩ = false := unfrozen_of_block O8 3
            go_simp
            refine hK.out _ _ S9 (fun _ => ?_)
            refine wpAnyH_done (by kernel_rfl) ?_ _
            have HZ := (show Hid (_ ∧ _ ∧ _ ∧ _ ∧ _ ∧ _ ∧ _) from ⟨F1, F2, F3, F4, F5, True.intro, F6⟩)
            clear hK K y0 y1 y2 y3 f3 O8 L8 B8 F1 F2 F3 F4 F5 F6 S8 S9 S6 S5 O6 O5 OA SA B6 B5 BA R6 hown8 hgrow8 hat8 hown6 hgrow6 hat6 KA E1 hS
            go_wp2
            go_roundw
            case rel =>
              refine ⟨k + 1, a8, c8, rs ++ [(x, .slice a6 x.ids.length c6)], by omega, by go_num, by rw [List.length_append, HR.out.2.2.2.2.2.1]; rfl, ?_, HZ.out.1, HZ.out.2.1, HZ.out.2.2.2.1, HZ.out.2.2.1, HZ.out.2.2.2.2.2.2, HZ.out.2.2.2.2.1⟩
              rw [List.map_append, HR.out.2.2.2.2.2.2.1, HX.out.2]
              rfl
            case measure => simp [intOf]; omega
          · go_simp
            refine hK.out _ _ SA (fun _ => ?_)
            clear hK K
            refine wpAnyH_ready (rs := [1, 15]) (by kernel_rfl) (by simp) ?_
            refine AllReadyH.cons rfl (fun K hK => ?_) (AllReadyH.cons rfl (fun K hK => ?_) AllReadyH.nil)
            · obtain ⟨y0, y1, y2, y3⟩ := lbox OA
              go_simp
              refine hK.out _ _ SA (fun _ => ?_)
              clear hK K y0 y1 y2 y3
              refine wpAnyH_ready (rs := [15]) (by kernel_rfl) (by simp) ?_
              refine AllReadyH.cons rfl (fun K hK => ?_) AllReadyH.nil
              refine step_append_intsR rfl (.tmp 29) (.tmp 35) rfl wr.heap.size (.slice (some ⟨wr.heap.size, 0, none⟩) 0 0) 0 [] (by simp [Act.eval]) (by exact E1) (.slice ka x.ids.length kc) x.ids S (by simp [Act.eval]) (by exact KA) (by omega) (by simp) ?_
              intro v6 w5 hown6 hgrow6 hat6
              rw [Nat.zero_add, List.nil_append] at hown6
              obtain ⟨a6, c6, rfl⟩ := own_form hown6
              have B5 : Below wr.heap.size wr w5 := Below.grown BA hgrow6 (hB := by simp) (hr := fun b hb => by simp [Value.ownBlock] at hb; omega)
              have O5 := (B5.block _ (lt_heap HR.out.1)).trans HR.out.1
              have S5 := hSof _ (HR.out.2.1.trans (B5.mono hsz)) ((B5.block _ (lt_heap HR.out.2.2.1)).trans HR.out.2.2.1)
              have B6 := B5.alloc B5.size (.cells #[.int .i64 x.low, .slice a6 x.ids.length c6] 76)
              have O6 := (B6.block _ (lt_heap HR.out.1)).trans HR.out.1
              have S6 := hSof _ (HR.out.2.1.trans (B6.mono hsz)) ((B6.block _ (lt_heap HR.out.2.2.1)).trans HR.out.2.2.1)
              refine hK.out _ _ S5 (fun _ => ?_)
              clear hK K
              simp only [Act.put, List.getElem_toArray, List.getElem_cons_zero, List.getElem_cons_succ, List.setIfInBounds_toArray, List.set_cons_zero, List.set_cons_succ]
              refine wpAnyH_take (i := 16) (v := .agg #[.int .i64 x.low, .slice a6 x.ids.length c6]) rfl (by kernel_rfl) (by kernel_rfl) (by kernel_rfl) (fun _ _ _ h => h) (Or.inl ⟨by rfl, ?_⟩) S5 ?_
              · intro wq hSw
                go_simp
              simp only [Act.put, List.getElem_toArray, List.getElem_cons_zero, List.getElem_cons_succ, List.setIfInBounds_toArray, List.set_cons_zero, List.set_cons_succ]
              refine wpAnyH_ready (rs := [17]) (by kernel_rfl) (by simp) ?_
              refine AllReadyH.cons rfl (fun K hK => ?_) AllReadyH.nil
              go_simp
              refine hK.out _ _ S6 (fun _ => ?_)
              clear hK K
              refine wpAnyH_ready (rs := [18]) (by kernel_rfl) (by simp) ?_
              refine AllReadyH.cons rfl (fun K hK => ?_) AllReadyH.nil
              have R6 := own_moved HR.out.2.2.2.1.cells (fun g hg => B6.block g (own_lt HR.out.2.2.2.1.cells g hg))
              rw [HR.out.2.2.2.2.2.1] at R6
              refine step_append_row rfl (.tmp 22) (.tmp 38) 25 rfl w.heap.size 76 i0 (.agg #[.int .i64 0, .slice none 0 0]) 2 32 Tryz.underlying25 hi hz0 hz1 hz2 rfl (by decide) (.slice qa k qc) k _ (by simp [Act.eval]) (by exact R6) ⟨w5.heap.size, 0, none⟩ 1 1 [.int .i64 x.low, .slice a6 x.ids.length c6] (by simp [Act.eval]) rfl (cell_twoS _ _ _ _) (by simp [Value.oneCell']) (by unfold maxLen; omega) (by omega) (by have := B6.size; omega) ?_
              intro v8 w8 hown8 hgrow8 hat8
              have hF := l08Copy_round HR.out.2.2.2.1 HR.out.2.2.2.2.1 HR.out.1 HR.out.2.2.1 HR.out.2.1 HR.out.2.2.2.2.2.1 BA B5 hown6 hown8 hgrow8 HX.out.1 hsz hobw HR.out.2.2.2.2.2.2.2
              obtain ⟨a8, c8, rfl⟩ := own_form hown8
              obtain ⟨O8, L8, B8, F1, F2, F3, F4, F5, F6⟩ := hF
              have S8 := hSof _ B8 L8
              have S9 := hSof _ F5 F4
              refine hK.out _ _ S8 (fun _ => ?_)
              clear hK K
              simp only [Act.put, List.getElem_toArray, List.getElem_cons_zero, List.getElem_cons_succ, List.setIfInBounds_toArray, List.set_cons_zero, List.set_cons_succ]
              refine wpAnyH_take (i := 19) (v := .pointer (some ⟨ob, 3, none⟩)) rfl (by kernel_rfl) (by kernel_rfl) (by kernel_rfl) (fun _ _ _ h => h) (Or.inl ⟨by rfl, ?_⟩) S8 ?_
              · intro wq hSw
                go_simp
              simp only [Act.put, List.getElem_toArray, List.getElem_cons_zero, List.getElem_cons_succ, List.setIfInBounds_toArray, List.set_cons_zero, List.set_cons_succ]
              refine wpAnyH_ready (rs := [20]) (by kernel_rfl) (by simp) ?_
              refine AllReadyH.cons rfl (fun K hK => ?_) AllReadyH.nil
              obtain ⟨y0, y1, y2, y3⟩ := lbox O8
              have f3 : w8.frozen? ⟨ob, 3, none⟩ = false := unfrozen_of_block O8 3
              go_simp
              refine hK.out _ _ S9 (fun _ => ?_)
              refine wpAnyH_done (by kernel_rfl) ?_ _
              have HZ := (show Hid (_ ∧ _ ∧ _ ∧ _ ∧ _ ∧ _ ∧ _) from ⟨F1, F2, F3, F4, F5, True.intro, F6⟩)
              clear hK K y0 y1 y2 y3 f3 O8 L8 B8 F1 F2 F3 F4 F5 F6 S8 S9 S6 S5 O6 O5 OA SA B6 B5 BA R6 hown8 hgrow8 hat8 hown6 hgrow6 hat6 KA E1 hS
              go_wp2
              go_roundw
              case rel =>
                refine ⟨k + 1, a8, c8, rs ++ [(x, .slice a6 x.ids.length c6)], by omega, by go_num, by rw [List.length_append, HR.out.2.2.2.2.2.1]; rfl, ?_, HZ.out.1, HZ.out.2.1, HZ.out.2.2.2.1, HZ.out.2.2.1, HZ.out.2.2.2.2.2.2, HZ.out.2.2.2.2.1⟩
                rw [List.map_append, HR.out.2.2.2.2.2.2.1, HX.out.2]
                rfl
              case measure => simp [intOf]; omega
            · refine step_append_intsR rfl (.tmp 29) (.tmp 35) rfl wr.heap.size (.slice (some ⟨wr.heap.size, 0, none⟩) 0 0) 0 [] (by simp [Act.eval]) (by exact E1) (.slice ka x.ids.length kc) x.ids S (by simp [Act.eval]) (by exact KA) (by omega) (by simp) ?_
              intro v6 w5 hown6 hgrow6 hat6
              rw [Nat.zero_add, List.nil_append] at hown6
              obtain ⟨a6, c6, rfl⟩ := own_form hown6
              have B5 : Below wr.heap.size wr w5 := Below.grown BA hgrow6 (hB := by simp) (hr := fun b hb => by simp [Value.ownBlock] at hb; omega)
              have O5 := (B5.block _ (lt_heap HR.out.1)).trans HR.out.1
              have S5 := hSof _ (HR.out.2.1.trans (B5.mono hsz)) ((B5.block _ (lt_heap HR.out.2.2.1)).trans HR.out.2.2.1)
              have B6 := B5.alloc B5.size (.cells #[.int .i64 x.low, .slice a6 x.ids.length c6] 76)
              have O6 := (B6.block _ (lt_heap HR.out.1)).trans HR.out.1
              have S6 := hSof _ (HR.out.2.1.trans (B6.mono hsz)) ((B6.block _ (lt_heap HR.out.2.2.1)).trans HR.out.2.2.1)
              refine hK.out _ _ S5 (fun _ => ?_)
              clear hK K
              simp only [Act.put, List.getElem_toArray, List.getElem_cons_zero, List.getElem_cons_succ, List.setIfInBounds_toArray, List.set_cons_zero, List.set_cons_succ]
              refine wpAnyH_take (i := 16) (v := .agg #[.int .i64 x.low, .slice a6 x.ids.length c6]) rfl (by kernel_rfl) (by kernel_rfl) (by kernel_rfl) (fun _ _ _ h => h) (Or.inl ⟨by rfl, ?_⟩) S5 ?_
              · intro wq hSw
                go_simp
              simp only [Act.put, List.getElem_toArray, List.getElem_cons_zero, List.getElem_cons_succ, List.setIfInBounds_toArray, List.set_cons_zero, List.set_cons_succ]
              refine wpAnyH_ready (rs := [1, 17]) (by kernel_rfl) (by simp) ?_
              refine AllReadyH.cons rfl (fun K hK => ?_) (AllReadyH.cons rfl (fun K hK => ?_) AllReadyH.nil)
              · obtain ⟨y0, y1, y2, y3⟩ := lbox O5
                go_simp
                refine hK.out _ _ S5 (fun _ => ?_)
                clear hK K y0 y1 y2 y3
                refine wpAnyH_ready (rs := [17]) (by kernel_rfl) (by simp) ?_
                refine AllReadyH.cons rfl (fun K hK => ?_) AllReadyH.nil
                go_simp
                refine hK.out _ _ S6 (fun _ => ?_)
                clear hK K
                refine wpAnyH_ready (rs := [18]) (by kernel_rfl) (by simp) ?_
                refine AllReadyH.cons rfl (fun K hK => ?_) AllReadyH.nil
                have R6 := own_moved HR.out.2.2.2.1.cells (fun g hg => B6.block g (own_lt HR.out.2.2.2.1.cells g hg))
                rw [HR.out.2.2.2.2.2.1] at R6
                refine step_append_row rfl (.tmp 22) (.tmp 38) 25 rfl w.heap.size 76 i0 (.agg #[.int .i64 0, .slice none 0 0]) 2 32 Tryz.underlying25 hi hz0 hz1 hz2 rfl (by decide) (.slice qa k qc) k _ (by simp [Act.eval]) (by exact R6) ⟨w5.heap.size, 0, none⟩ 1 1 [.int .i64 x.low, .slice a6 x.ids.length c6] (by simp [Act.eval]) rfl (cell_twoS _ _ _ _) (by simp [Value.oneCell']) (by unfold maxLen; omega) (by omega) (by have := B6.size; omega) ?_
                intro v8 w8 hown8 hgrow8 hat8
                have hF := l08Copy_round HR.out.2.2.2.1 HR.out.2.2.2.2.1 HR.out.1 HR.out.2.2.1 HR.out.2.1 HR.out.2.2.2.2.2.1 BA B5 hown6 hown8 hgrow8 HX.out.1 hsz hobw HR.out.2.2.2.2.2.2.2
                obtain ⟨a8, c8, rfl⟩ := own_form hown8
                obtain ⟨O8, L8, B8, F1, F2, F3, F4, F5, F6⟩ := hF
                have S8 := hSof _ B8 L8
                have S9 := hSof _ F5 F4
                refine hK.out _ _ S8 (fun _ => ?_)
                clear hK K
                simp only [Act.put, List.getElem_toArray, List.getElem_cons_zero, List.getElem_cons_succ, List.setIfInBounds_toArray, List.set_cons_zero, List.set_cons_succ]
                refine wpAnyH_take (i := 19) (v := .pointer (some ⟨ob, 3, none⟩)) rfl (by kernel_rfl) (by kernel_rfl) (by kernel_rfl) (fun _ _ _ h => h) (Or.inl ⟨by rfl, ?_⟩) S8 ?_
                · intro wq hSw
                  go_simp
                simp only [Act.put, List.getElem_toArray, List.getElem_cons_zero, List.getElem_cons_succ, List.setIfInBounds_toArray, List.set_cons_zero, List.set_cons_succ]
                refine wpAnyH_ready (rs := [20]) (by kernel_rfl) (by simp) ?_
                refine AllReadyH.cons rfl (fun K hK => ?_) AllReadyH.nil
                obtain ⟨y0, y1, y2, y3⟩ := lbox O8
                have f3 : w8.frozen? ⟨ob, 3, none⟩ = false := unfrozen_of_block O8 3
                go_simp
                refine hK.out _ _ S9 (fun _ => ?_)
                refine wpAnyH_done (by kernel_rfl) ?_ _
                have HZ := (show Hid (_ ∧ _ ∧ _ ∧ _ ∧ _ ∧ _ ∧ _) from ⟨F1, F2, F3, F4, F5, True.intro, F6⟩)
                clear hK K y0 y1 y2 y3 f3 O8 L8 B8 F1 F2 F3 F4 F5 F6 S8 S9 S6 S5 O6 O5 OA SA B6 B5 BA R6 hown8 hgrow8 hat8 hown6 hgrow6 hat6 KA E1 hS
                go_wp2
                go_roundw
                case rel =>
                  refine ⟨k + 1, a8, c8, rs ++ [(x, .slice a6 x.ids.length c6)], by omega, by go_num, by rw [List.length_append, HR.out.2.2.2.2.2.1]; rfl, ?_, HZ.out.1, HZ.out.2.1, HZ.out.2.2.2.1, HZ.out.2.2.1, HZ.out.2.2.2.2.2.2, HZ.out.2.2.2.2.1⟩
                  rw [List.map_append, HR.out.2.2.2.2.2.2.1, HX.out.2]
                  rfl
                case measure => simp [intOf]; omega
              · go_simp
                refine hK.out _ _ S6 (fun _ => ?_)
                clear hK K
                refine wpAnyH_ready (rs := [1]) (by kernel_rfl) (by simp) ?_
                refine AllReadyH.cons rfl (fun K hK => ?_) AllReadyH.nil
                obtain ⟨y0, y1, y2, y3⟩ := lbox O6
                go_simp
                refine hK.out _ _ S6 (fun _ => ?_)
                clear hK K y0 y1 y2 y3
                refine wpAnyH_ready (rs := [18]) (by kernel_rfl) (by simp) ?_
                refine AllReadyH.cons rfl (fun K hK => ?_) AllReadyH.nil
                have R6 := own_moved HR.out.2.2.2.1.cells (fun g hg => B6.block g (own_lt HR.out.2.2.2.1.cells g hg))
                rw [HR.out.2.2.2.2.2.1] at R6
                refine step_append_row rfl (.tmp 22) (.tmp 38) 25 rfl w.heap.size 76 i0 (.agg #[.int .i64 0, .slice none 0 0]) 2 32 Tryz.underlying25 hi hz0 hz1 hz2 rfl (by decide) (.slice qa k qc) k _ (by simp [Act.eval]) (by exact R6) ⟨w5.heap.size, 0, none⟩ 1 1 [.int .i64 x.low, .slice a6 x.ids.length c6] (by simp [Act.eval]) rfl (cell_twoS _ _ _ _) (by simp [Value.oneCell']) (by unfold maxLen; omega) (by omega) (by have := B6.size; omega) ?_
                intro v8 w8 hown8 hgrow8 hat8
                have hF := l08Copy_round HR.out.2.2.2.1 HR.out.2.2.2.2.1 HR.out.1 HR.out.2.2.1 HR.out.2.1 HR.out.2.2.2.2.2.1 BA B5 hown6 hown8 hgrow8 HX.out.1 hsz hobw HR.out.2.2.2.2.2.2.2
                obtain ⟨a8, c8, rfl⟩ := own_form hown8
                obtain ⟨O8, L8, B8, F1, F2, F3, F4, F5, F6⟩ := hF
                have S8 := hSof _ B8 L8
                have S9 := hSof _ F5 F4
                refine hK.out _ _ S8 (fun _ => ?_)
                clear hK K
                simp only [Act.put, List.getElem_toArray, List.getElem_cons_zero, List.getElem_cons_succ, List.setIfInBounds_toArray, List.set_cons_zero, List.set_cons_succ]
                refine wpAnyH_take (i := 19) (v := .pointer (some ⟨ob, 3, none⟩)) rfl (by kernel_rfl) (by kernel_rfl) (by kernel_rfl) (fun _ _ _ h => h) (Or.inl ⟨by rfl, ?_⟩) S8 ?_
                · intro wq hSw
                  go_simp
                simp only [Act.put, List.getElem_toArray, List.getElem_cons_zero, List.getElem_cons_succ, List.setIfInBounds_toArray, List.set_cons_zero, List.set_cons_succ]
                refine wpAnyH_ready (rs := [20]) (by kernel_rfl) (by simp) ?_
                refine AllReadyH.cons rfl (fun K hK => ?_) AllReadyH.nil
                obtain ⟨y0, y1, y2, y3⟩ := lbox O8
                have f3 : w8.frozen? ⟨ob, 3, none⟩ = false := unfrozen_of_block O8 3
                go_simp
                refine hK.out _ _ S9 (fun _ => ?_)
                refine wpAnyH_done (by kernel_rfl) ?_ _
                have HZ := (show Hid (_ ∧ _ ∧ _ ∧ _ ∧ _ ∧ _ ∧ _) from ⟨F1, F2, F3, F4, F5, True.intro, F6⟩)
                clear hK K y0 y1 y2 y3 f3 O8 L8 B8 F1 F2 F3 F4 F5 F6 S8 S9 S6 S5 O6 O5 OA SA B6 B5 BA R6 hown8 hgrow8 hat8 hown6 hgrow6 hat6 KA E1 hS
                go_wp2
                go_roundw
                case rel =>
                  refine ⟨k + 1, a8, c8, rs ++ [(x, .slice a6 x.ids.length c6)], by omega, by go_num, by rw [List.length_append, HR.out.2.2.2.2.2.1]; rfl, ?_, HZ.out.1, HZ.out.2.1, HZ.out.2.2.2.1, HZ.out.2.2.1, HZ.out.2.2.2.2.2.2, HZ.out.2.2.2.2.1⟩
                  rw [List.map_append, HR.out.2.2.2.2.2.2.1, HX.out.2]
                  rfl
                case measure => simp [intOf]; omega
        · obtain rfl : k = l.seen.length := by omega
          rw [List.take_length] at hrm
          obtain ⟨y0, y1, y2, y3⟩ := lbox hO
          obtain ⟨z0, z1, z2, z3⟩ := lbox hR1
          have f10 : wr.frozen? ⟨w.heap.size + 1, 0, none⟩ = false := unfrozen_of_block hR1 0
          have f11 : wr.frozen? ⟨w.heap.size + 1, 1, none⟩ = false := unfrozen_of_block hR1 1
          have f12 : wr.frozen? ⟨w.heap.size + 1, 2, none⟩ = false := unfrozen_of_block hR1 2
          have f13 : wr.frozen? ⟨w.heap.size + 1, 3, none⟩ = false := unfrozen_of_block hR1 3
          have HZ := (show Hid (_ ∧ _ ∧ _ ∧ _ ∧ _ ∧ _ ∧ _) from ⟨hrm, hSe, hSn, hbw, hO, hrl, hR1⟩)
          clear hrm hSe hSn hbw hO hL hrl hR1
          go_wp2
          refine bodyPost_ret (v := .agg (l.row (.slice a5 l.out.length c5) (.slice qa l.seen.length qc))) (by simp [results, Tryz.results32, go_sem, z0, z1, z2, z3]) rfl ⟨_, rfl, ⟨.slice a5 l.out.length c5, .slice qa l.seen.length qc, rs, ⟨rfl, HF.out.1, ?_, ?_, HZ.out.1⟩⟩, ?_⟩
          · refine HZ.out.2.2.1.moved (fun g hg => ?_)
            have hgn : ¬ g = w.heap.size + 1 := fun e => by
              obtain ⟨_, cs, h2⟩ := own_type HZ.out.2.2.1.1 g hg
              rw [e, HZ.out.2.2.2.2.2.2] at h2
              simp at h2
            rw [Below.heap_setCell _ _ _ _ (by simpa using hgn), Below.heap_setCell _ _ _ _ (by simpa using hgn), Below.heap_setCell _ _ _ _ (by simpa using hgn), Below.heap_setCell _ _ _ _ (by simpa using hgn)]
          · refine HZ.out.2.1.moved (fun g hg => ?_)
            have hgn : ¬ g = w.heap.size + 1 := fun e => by
              rcases hg with hg | ⟨r, hr, hg⟩
              · obtain ⟨_, cs, h2⟩ := own_type HZ.out.2.1.cells g hg
                rw [e, HZ.out.2.2.2.2.2.2] at h2
                simp at h2
              · obtain ⟨_, cs, h2⟩ := own_type (HZ.out.2.1.kids r hr).1 g hg
                rw [e, HZ.out.2.2.2.2.2.2] at h2
                simp at h2
            rw [Below.heap_setCell _ _ _ _ (by simpa using hgn), Below.heap_setCell _ _ _ _ (by simpa using hgn), Below.heap_setCell _ _ _ _ (by simpa using hgn), Below.heap_setCell _ _ _ _ (by simpa using hgn)]
          · exact (((HZ.out.2.2.2.1.setCell (p := ⟨w.heap.size + 1, 0, none⟩) (by simp) _).setCell (p := ⟨w.heap.size + 1, 1, none⟩) (by simp) _).setCell (p := ⟨w.heap.size + 1, 2, none⟩) (by simp) _).setCell (p := ⟨w.heap.size + 1, 3, none⟩) (by simp) _
  · go_simp
    refine hK.out _ _ ((Below.heap_alloc W0.drew _ _ (by simp; omega)).trans H0.out.2.1) (fun _ => ?_)
    clear hK K
    refine wpAnyH_ready (rs := [4]) (by kernel_rfl) (by simp) ?_
    refine AllReadyH.cons rfl (fun K hK => ?_) AllReadyH.nil
    go_simp
    refine hK.out _ _ HE.out.2.2.2.2.2 (fun _ => ?_)
    clear hK K
    refine wpAnyH_ready (rs := [7]) (by kernel_rfl) (by simp) ?_
    refine AllReadyH.cons rfl (fun K hK => ?_) AllReadyH.nil
    refine step_append_sents rfl (.tmp 9) (.tmp 11) rfl W0.heap.size (.slice (some ⟨W0.heap.size + 1, 0, none⟩) 0 0) 0 [] (by simp [Act.eval]) (by exact HE.out.2.2.1) (.slice oa l.out.length oc) l.out S (by simp [Act.eval]) (H0.out.2.2.2.2.1.below ((H0.out.1.drew.alloc (by rw [hsD]; omega) _).alloc (by simp; omega) _)) (by omega) (by simp <;> omega) ?_
    intro v5 w5 hown5 hgrow5 hat5
    rw [Nat.zero_add, List.nil_append] at hown5
    obtain ⟨a5, c5, rfl⟩ := own_form hown5
    have P0 : w5.heap[w.heap.size]? = some (.cells (l.row (.slice oa l.out.length oc) (.slice sa l.seen.length sc)) 27) := (hgrow5.block w.heap.size (by simp <;> omega) (by simp [Value.ownBlock] <;> omega)).trans HE.out.2.2.2.2.2
    have PR : w5.heap[w.heap.size + 1]? = some (.cells (Lk.row ⟨0, 0, [], []⟩ (.slice none 0 0) (.slice none 0 0)) 27) := ((Below.grown ((((Below.refl W0.heap.size W0).drew).alloc (by simp) _).alloc (by simp) _) hgrow5 (hB := by simp <;> omega) (hr := fun b hb => by simp [Value.ownBlock] at hb; omega)).block (w.heap.size + 1) (by omega)).trans H0.out.2.2.1
    have B5 : Below w.heap.size w w5 := Below.grown ((H0.out.1.drew.alloc (by rw [hsD]; omega) _).alloc (by simp; omega) _) hgrow5 (hB := ((H0.out.1.drew.alloc (by rw [hsD]; omega) _).alloc (by simp; omega) _).size) (hr := fun b hb => by simp [Value.ownBlock] at hb; omega)
    refine hK.out _ _ P0 (fun _ => ?_)
    clear hK K
    simp only [Act.put, List.getElem_toArray, List.getElem_cons_zero, List.getElem_cons_succ, List.setIfInBounds_toArray, List.set_cons_zero, List.set_cons_succ]
    refine wpAnyH_take (i := 8) (v := .agg #[.int .i64 l.id, .int .i64 l.next, .slice a5 l.out.length c5, .slice none 0 0]) rfl (by kernel_rfl) (by kernel_rfl) (by kernel_rfl) (fun _ _ _ h => h) (Or.inl ⟨by rfl, ?_⟩) P0 ?_
    · intro wq hSw
      go_simp
    simp only [Act.put, List.getElem_toArray, List.getElem_cons_zero, List.getElem_cons_succ, List.setIfInBounds_toArray, List.set_cons_zero, List.set_cons_succ]
    have hsz5 : W0.heap.size < w5.heap.size := Nat.lt_of_lt_of_le (by simp <;> omega) hgrow5.size
    obtain ⟨w6, hw6⟩ : ∃ w6, w6 = w5 := ⟨_, rfl⟩
    obtain ⟨ob, hob⟩ : ∃ ob, ob = W0.heap.size := ⟨_, rfl⟩
    have O6 : w6.heap[ob]? = some (.cells (Lk.row ⟨0, 0, [], []⟩ (.slice none 0 0) (.slice none 0 0)) 27) := by rw [hw6, hob]; exact (hgrow5.block W0.heap.size (by simp <;> omega) (by simp [Value.ownBlock])).trans HE.out.2.1
    have L6 : w6.heap[w.heap.size]? = some (.cells (l.row (.slice oa l.out.length oc) (.slice sa l.seen.length sc)) 27) := by rw [hw6]; exact P0
    have S6 : SnOwn w6 w.heap.size (.slice a5 l.out.length c5) l.out := by rw [hw6]; exact ⟨own_mono (hown5) (by omega), H0.out.2.2.2.2.2.1⟩
    have R6 : w6.heap[w.heap.size + 1]? = some (.cells (Lk.row ⟨0, 0, [], []⟩ (.slice none 0 0) (.slice none 0 0)) 27) := by rw [hw6]; exact PR
    have B6 : Below w.heap.size w w6 := by rw [hw6]; exact B5
    have hobw : w.heap.size + 1 < ob := by rw [hob]; omega
    rw [← hw6, ← hob]
    have hne : ¬ w.heap.size = ob := by omega
    have hlt6 : ob < w6.heap.size := lt_heap O6
    clear hw6 hob P0 PR B5 hown5 hgrow5 hat5 hsz5 hS hs0 hsD
    clear HE
    obtain ⟨u0, u1, u2, u3⟩ := lbox O6
    obtain ⟨f0, f1, f2, f3⟩ : w6.frozen? ⟨ob, 0, none⟩ = false ∧ w6.frozen? ⟨ob, 1, none⟩ = false ∧ w6.frozen? ⟨ob, 2, none⟩ = false ∧ w6.frozen? ⟨ob, 3, none⟩ = false := ⟨unfrozen_of_block O6 0, unfrozen_of_block O6 1, unfrozen_of_block O6 2, unfrozen_of_block O6 3⟩
    obtain ⟨W7, hW7⟩ : ∃ W7, W7 = (((w6.setCell ⟨ob, 0, none⟩ (.int .i64 l.id)).setCell ⟨ob, 1, none⟩ (.int .i64 l.next)).setCell ⟨ob, 2, none⟩ (.slice a5 l.out.length c5)).setCell ⟨ob, 3, none⟩ (.slice none 0 0) := ⟨_, rfl⟩
    have k7 : ∀ k, k ≠ ob → W7.heap[k]? = w6.heap[k]? := fun k hk => by
      have hk' : ¬ k = ob := hk
      rw [hW7, Below.heap_setCell _ _ _ _ (by simpa using hk'), Below.heap_setCell _ _ _ _ (by simpa using hk'), Below.heap_setCell _ _ _ _ (by simpa using hk'), Below.heap_setCell _ _ _ _ (by simpa using hk')]
    have O7 : W7.heap[ob]? = some (.cells (Lk.row ⟨l.id, l.next, l.out, []⟩ (.slice a5 l.out.length c5) (.slice none 0 0)) 27) := by
      rw [hW7, block_setCell (block_setCell (block_setCell (block_setCell O6 _) _) _) _]
      rfl
    have L7 : W7.heap[w.heap.size]? = some (.cells (l.row (.slice oa l.out.length oc) (.slice sa l.seen.length sc)) 27) := (k7 _ hne).trans L6
    have S7 : SnOwn W7 w.heap.size (.slice a5 l.out.length c5) l.out := S6.moved (fun b hb => k7 b (fun e => by
      obtain ⟨_, cs, h2⟩ := own_type S6.1 b hb
      rw [e, O6] at h2
      simp at h2))
    have B7 : Below w.heap.size w W7 := by rw [hW7]; exact (((B6.setCell (p := ⟨ob, 0, none⟩) (by simp; omega) _).setCell (p := ⟨ob, 1, none⟩) (by simp; omega) _).setCell (p := ⟨ob, 2, none⟩) (by simp; omega) _).setCell (p := ⟨ob, 3, none⟩) (by simp; omega) _
    have R7 : W7.heap[w.heap.size + 1]? = some (.cells (Lk.row ⟨0, 0, [], []⟩ (.slice none 0 0) (.slice none 0 0)) 27) := (k7 _ (by omega)).trans R6
    have H7 := (show Hid (_ ∧ _ ∧ _ ∧ _ ∧ _ ∧ _) from ⟨O7, L7, S7, B7, R7, hW7⟩)
    clear O7 L7 S7 B7 R7 hW7 k7 O6 L6 S6 B6 R6
    refine wpAnyH_ready (rs := [10]) (by kernel_rfl) (by simp) ?_
    refine AllReadyH.cons rfl (fun K hK => ?_) AllReadyH.nil
    go_simp
    rw [← (show W7 = _ from H7.out.2.2.2.2.2)]
    refine hK.out _ _ H7.out.2.1 (fun _ => ?_)
    clear hK K u0 u1 u2 u3 f0 f1 f2 f3
    refine wpAnyH_done (by kernel_rfl) ?_ _
    go_wp2
    go_loopw [4] (fun i wr => ∃ (k : Nat) (qa : Option Addr) (qc : Nat) (rs : List (Se × Value)), k ≤ l.seen.length ∧ i = .int .i64 k ∧ rs.length = k ∧ rs.map Prod.fst = l.seen.take k ∧ SeOwn wr w.heap.size (.slice qa k qc) rs ∧ SnOwn wr w.heap.size (.slice a5 l.out.length c5) l.out ∧ wr.heap[w.heap.size]? = some (.cells (l.row (.slice oa l.out.length oc) (.slice sa l.seen.length sc)) 27) ∧ wr.heap[ob]? = some (.cells (Lk.row ⟨l.id, l.next, l.out, []⟩ (.slice a5 l.out.length c5) (.slice qa k qc)) 27) ∧ wr.heap[w.heap.size + 1]? = some (.cells (Lk.row ⟨0, 0, [], []⟩ (.slice none 0 0) (.slice none 0 0)) 27) ∧ Below w.heap.size w wr) (fun i _ => l.seen.length - (intOf i).toNat)
    case atStart => exact ⟨0, none, 0, [], Nat.zero_le _, rfl, rfl, rfl, ⟨⟨rfl, .inl ⟨rfl, rfl⟩⟩, (fun r hr => by cases hr), by simp⟩, H7.out.2.2.1, H7.out.2.1, H7.out.1, H7.out.2.2.2.2.1, H7.out.2.2.2.1⟩
    case round =>
      clear H7
      obtain ⟨k, qa, qc, rs, hk, rfl, hrl, hrm, hSe, hSn, hL, hO, hR1, hbw⟩ := hrel
      have hsz := hbw.size
      obtain ⟨q0, q1, q2, q3⟩ := lbox hL
      by_cases hkl : k < l.seen.length
      · have he := List.getElem?_eq_getElem hkl
        have hbk := bulkN_at he
        have htk : l.seen.take (k + 1) = l.seen.take k ++ [l.seen[k]] := (List.take_append_getElem hkl).symm
        generalize l.seen[k] = x at *
        have hxb := (show x.bulk = x.ids.length from rfl)
        obtain ⟨b, off, kv, hoa, hSb, hlt2, c0, c1, r0, hkk⟩ := (by obtain ⟨a', cap', hv', _, hc'⟩ := HF.out.2; cases hv'; exact hc' k x he : ∃ b off kv, sa = some ⟨b, off, none⟩ ∧ S b ∧ b < w.heap.size ∧ w.cell? ⟨b, off + k * 2, none⟩ = some (.int .i64 x.low) ∧ w.cell? ⟨b, off + k * 2 + 1, none⟩ = some kv ∧ inI64 x.low ∧ IntsAt w S kv x.ids)
        subst hoa
        obtain ⟨ka, kc, rfl⟩ := hkk.form
        have hlt' : ((k : Nat) : Int) < ((l.seen.length : Nat) : Int) := by omega
        have hSof : ∀ W : World, Below w.heap.size w W → W.heap[w.heap.size]? = some (.cells (l.row (.slice oa l.out.length oc) (.slice (some ⟨b, off, none⟩) l.seen.length sc)) 27) → (W.heap[w.heap.size]? = some (.cells (l.row (.slice oa l.out.length oc) (.slice (some ⟨b, off, none⟩) l.seen.length sc)) 27) ∧ W.cell? ⟨b, off + k * 2, none⟩ = some (.int .i64 x.low) ∧ W.cell? ⟨b, off + k * 2 + 1, none⟩ = some (.slice ka x.ids.length kc)) := fun W hW hWL => ⟨hWL, (hW.cell (p := ⟨b, off + k * 2, none⟩) hlt2).trans c0, (hW.cell (p := ⟨b, off + k * 2 + 1, none⟩) hlt2).trans c1⟩
        have HX := (show Hid (_ ∧ _) from ⟨(⟨r0, fun z hz => by obtain ⟨a, cap, _, _, hc⟩ := hkk; obtain ⟨i, hi⟩ := List.getElem?_of_mem hz; obtain ⟨_, _, _, _, _, _, r⟩ := hc i z hi; exact r⟩ : SeOk x), htk⟩)
        have HR := (show Hid (_ ∧ _ ∧ _ ∧ _ ∧ _ ∧ _ ∧ _ ∧ _) from ⟨hO, hbw, hL, hSe, hSn, hrl, hrm, hR1⟩)
        have HS := (show Hid (_ ∧ _) from ⟨hSof, hkk⟩)
        clear hSof hkk hO hbw hL hSe hSn hrl hrm hR1 c0 c1 htk he r0 hSb
        go_wp2_with fail
        clear q0 q1 q2 q3
        have hSof := HS.out.1
        have BA : Below wr.heap.size wr (wr.drew.alloc (.cells #[] 3)) := ((Below.refl _ wr).drew).alloc (by simp) _
        have E1 : (wr.drew.alloc (.cells #[] 3)).ownsRow wr.heap.size 3 1 (.slice (some ⟨wr.heap.size, 0, none⟩) 0 0) 0 [] := made_empty wr.drew wr.heap.size 1 3 (Nat.le_refl _)
        have KA : IntsAt (wr.drew.alloc (.cells #[] 3)) S (.slice ka x.ids.length kc) x.ids := HS.out.2.below (HR.out.2.1.trans (BA.mono hsz))
        have OA : (wr.alloc (.cells #[] 3)).heap[ob]? = some (.cells (Lk.row ⟨l.id, l.next, l.out, []⟩ (.slice a5 l.out.length c5) (.slice qa k qc)) 27) := (BA.block _ (lt_heap HR.out.1)).trans HR.out.1
        have SA := hSof _ (HR.out.2.1.trans (BA.mono hsz)) ((BA.block _ (lt_heap HR.out.2.2.1)).trans HR.out.2.2.1)
        refine wp_region_held_drew (S := fun w' => w'.heap[w.heap.size]? = some (.cells (l.row (.slice oa l.out.length oc) (.slice (some ⟨b, off, none⟩) l.seen.length sc)) 27) ∧ w'.cell? ⟨b, off + k * 2, none⟩ = some (.int .i64 x.low) ∧ w'.cell? ⟨b, off + k * 2 + 1, none⟩ = some (.slice ka x.ids.length kc)) (by kernel_rfl) (hSof _ HR.out.2.1.drew HR.out.2.2.1) (fun hS => ?_)
        refine wpAnyH_take (i := 0) (v := .pointer (some ⟨ob, 3, none⟩)) rfl (by kernel_rfl) (by kernel_rfl) (by kernel_rfl) (fun _ _ _ h => h) (Or.inl ⟨by rfl, ?_⟩) hS ?_
        · intro wq hSw
          obtain ⟨hq, x0, x1⟩ := hSw
          obtain ⟨q0, q1, q2, q3⟩ := lbox hq
          go_simp
        simp only [Act.put, List.getElem_toArray, List.getElem_cons_zero, List.setIfInBounds_toArray, List.set_cons_zero, List.set_cons_succ]
        refine wpAnyH_take (i := 2) (v := .pointer (some ⟨w.heap.size, 3, none⟩)) rfl (by kernel_rfl) (by kernel_rfl) (by kernel_rfl) (fun _ _ _ h => h) (Or.inl ⟨by rfl, ?_⟩) hS ?_
        · intro wq hSw
          obtain ⟨hq, x0, x1⟩ := hSw
          obtain ⟨q0, q1, q2, q3⟩ := lbox hq
          go_simp
        simp only [Act.put, List.getElem_toArray, List.getElem_cons_zero, List.getElem_cons_succ, List.setIfInBounds_toArray, List.set_cons_zero, List.set_cons_succ]
        refine wpAnyH_take (i := 3) (v := .slice (some ⟨b, off, none⟩) l.seen.length sc) rfl (by kernel_rfl) (by kernel_rfl) (by kernel_rfl) (fun _ _ _ h => h) (Or.inl ⟨by rfl, ?_⟩) hS ?_
        · intro wq hSw
          obtain ⟨hq, x0, x1⟩ := hSw
          obtain ⟨q0, q1, q2, q3⟩ := lbox hq
          go_simp
        simp only [Act.put, List.getElem_toArray, List.getElem_cons_zero, List.getElem_cons_succ, List.setIfInBounds_toArray, List.set_cons_zero, List.set_cons_succ]
        refine wpAnyH_take (i := 4) (v := .int .i64 k) rfl (by kernel_rfl) (by kernel_rfl) (by kernel_rfl) (fun _ _ _ h => h) (Or.inl ⟨by rfl, ?_⟩) hS ?_
        · intro wq hSw
          obtain ⟨hq, x0, x1⟩ := hSw
          obtain ⟨q0, q1, q2, q3⟩ := lbox hq
          go_simp
        simp only [Act.put, List.getElem_toArray, List.getElem_cons_zero, List.getElem_cons_succ, List.setIfInBounds_toArray, List.set_cons_zero, List.set_cons_succ]
        refine wpAnyH_take (i := 5) (v := .pointer (some ⟨b, off + k * 2, none⟩)) rfl (by kernel_rfl) (by kernel_rfl) (by kernel_rfl) (fun _ _ _ h => h) (Or.inl ⟨by rfl, ?_⟩) hS ?_
        · intro wq hSw
          obtain ⟨hq, x0, x1⟩ := hSw
          obtain ⟨q0, q1, q2, q3⟩ := lbox hq
          go_simp
        simp only [Act.put, List.getElem_toArray, List.getElem_cons_zero, List.getElem_cons_succ, List.setIfInBounds_toArray, List.set_cons_zero, List.set_cons_succ]
        refine wpAnyH_take (i := 6) (v := .pointer (some ⟨b, off + k * 2, none⟩)) rfl (by kernel_rfl) (by kernel_rfl) (by kernel_rfl) (fun _ _ _ h => h) (Or.inl ⟨by rfl, ?_⟩) hS ?_
        · intro wq hSw
          obtain ⟨hq, x0, x1⟩ := hSw
          obtain ⟨q0, q1, q2, q3⟩ := lbox hq
          go_simp
        simp only [Act.put, List.getElem_toArray, List.getElem_cons_zero, List.getElem_cons_succ, List.setIfInBounds_toArray, List.set_cons_zero, List.set_cons_succ]
        refine wpAnyH_take (i := 7) (v := .int .i64 x.low) rfl (by kernel_rfl) (by kernel_rfl) (by kernel_rfl) (fun _ _ _ h => h) (Or.inl ⟨by rfl, ?_⟩) hS ?_
        · intro wq hSw
          obtain ⟨hq, x0, x1⟩ := hSw
          obtain ⟨q0, q1, q2, q3⟩ := lbox hq
          go_simp
        simp only [Act.put, List.getElem_toArray, List.getElem_cons_zero, List.getElem_cons_succ, List.setIfInBounds_toArray, List.set_cons_zero, List.set_cons_succ]
        refine wpAnyH_take (i := 9) (v := .pointer (some ⟨w.heap.size, 3, none⟩)) rfl (by kernel_rfl) (by kernel_rfl) (by kernel_rfl) (fun _ _ _ h => h) (Or.inl ⟨by rfl, ?_⟩) hS ?_
        · intro wq hSw
          obtain ⟨hq, x0, x1⟩ := hSw
          obtain ⟨q0, q1, q2, q3⟩ := lbox hq
          go_simp
        simp only [Act.put, List.getElem_toArray, List.getElem_cons_zero, List.getElem_cons_succ, List.setIfInBounds_toArray, List.set_cons_zero, List.set_cons_succ]
        refine wpAnyH_take (i := 10) (v := .slice (some ⟨b, off, none⟩) l.seen.length sc) rfl (by kernel_rfl) (by kernel_rfl) (by kernel_rfl) (fun _ _ _ h => h) (Or.inl ⟨by rfl, ?_⟩) hS ?_
        · intro wq hSw
          obtain ⟨hq, x0, x1⟩ := hSw
          obtain ⟨q0, q1, q2, q3⟩ := lbox hq
          go_simp
        simp only [Act.put, List.getElem_toArray, List.getElem_cons_zero, List.getElem_cons_succ, List.setIfInBounds_toArray, List.set_cons_zero, List.set_cons_succ]
        refine wpAnyH_take (i := 11) (v := .int .i64 k) rfl (by kernel_rfl) (by kernel_rfl) (by kernel_rfl) (fun _ _ _ h => h) (Or.inl ⟨by rfl, ?_⟩) hS ?_
        · intro wq hSw
          obtain ⟨hq, x0, x1⟩ := hSw
          obtain ⟨q0, q1, q2, q3⟩ := lbox hq
          go_simp
        simp only [Act.put, List.getElem_toArray, List.getElem_cons_zero, List.getElem_cons_succ, List.setIfInBounds_toArray, List.set_cons_zero, List.set_cons_succ]
        refine wpAnyH_take (i := 12) (v := .pointer (some ⟨b, off + k * 2, none⟩)) rfl (by kernel_rfl) (by kernel_rfl) (by kernel_rfl) (fun _ _ _ h => h) (Or.inl ⟨by rfl, ?_⟩) hS ?_
        · intro wq hSw
          obtain ⟨hq, x0, x1⟩ := hSw
          obtain ⟨q0, q1, q2, q3⟩ := lbox hq
          go_simp
        simp only [Act.put, List.getElem_toArray, List.getElem_cons_zero, List.getElem_cons_succ, List.setIfInBounds_toArray, List.set_cons_zero, List.set_cons_succ]
        refine wpAnyH_take (i := 13) (v := .pointer (some ⟨b, off + k * 2 + 1, none⟩)) rfl (by kernel_rfl) (by kernel_rfl) (by kernel_rfl) (fun _ _ _ h => h) (Or.inl ⟨by rfl, ?_⟩) hS ?_
        · intro wq hSw
          obtain ⟨hq, x0, x1⟩ := hSw
          obtain ⟨q0, q1, q2, q3⟩ := lbox hq
          go_simp
        simp only [Act.put, List.getElem_toArray, List.getElem_cons_zero, List.getElem_cons_succ, List.setIfInBounds_toArray, List.set_cons_zero, List.set_cons_succ]
        refine wpAnyH_take (i := 14) (v := .slice ka x.ids.length kc) rfl (by kernel_rfl) (by kernel_rfl) (by kernel_rfl) (fun _ _ _ h => h) (Or.inl ⟨by rfl, ?_⟩) hS ?_
        · intro wq hSw
          obtain ⟨hq, x0, x1⟩ := hSw
          obtain ⟨q0, q1, q2, q3⟩ := lbox hq
          go_simp
        simp only [Act.put, List.getElem_toArray, List.getElem_cons_zero, List.getElem_cons_succ, List.setIfInBounds_toArray, List.set_cons_zero, List.set_cons_succ]
        refine wpAnyH_ready (rs := [1, 8]) (by kernel_rfl) (by simp) ?_
        refine AllReadyH.cons rfl (fun K hK => ?_) (AllReadyH.cons rfl (fun K hK => ?_) AllReadyH.nil)
        · obtain ⟨y0, y1, y2, y3⟩ := lbox HR.out.1
          go_simp
          refine hK.out _ _ hS (fun _ => ?_)
          clear hK K y0 y1 y2 y3
          refine wpAnyH_ready (rs := [8]) (by kernel_rfl) (by simp) ?_
          refine AllReadyH.cons rfl (fun K hK => ?_) AllReadyH.nil
          go_simp
          refine hK.out _ _ SA (fun _ => ?_)
          clear hK K
          refine wpAnyH_ready (rs := [15]) (by kernel_rfl) (by simp) ?_
          refine AllReadyH.cons rfl (fun K hK => ?_) AllReadyH.nil
          refine step_append_intsR rfl (.tmp 29) (.tmp 35) rfl wr.heap.size (.slice (some ⟨wr.heap.size, 0, none⟩) 0 0) 0 [] (by simp [Act.eval]) (by exact E1) (.slice ka x.ids.length kc) x.ids S (by simp [Act.eval]) (by exact KA) (by omega) (by simp) ?_
          intro v6 w5 hown6 hgrow6 hat6
          rw [Nat.zero_add, List.nil_append] at hown6
          obtain ⟨a6, c6, rfl⟩ := own_form hown6
          have B5 : Below wr.heap.size wr w5 := Below.grown BA hgrow6 (hB := by simp) (hr := fun b hb => by simp [Value.ownBlock] at hb; omega)
          have O5 := (B5.block _ (lt_heap HR.out.1)).trans HR.out.1
          have S5 := hSof _ (HR.out.2.1.trans (B5.mono hsz)) ((B5.block _ (lt_heap HR.out.2.2.1)).trans HR.out.2.2.1)
          have B6 := B5.alloc B5.size (.cells #[.int .i64 x.low, .slice a6 x.ids.length c6] 76)
          have O6 := (B6.block _ (lt_heap HR.out.1)).trans HR.out.1
          have S6 := hSof _ (HR.out.2.1.trans (B6.mono hsz)) ((B6.block _ (lt_heap HR.out.2.2.1)).trans HR.out.2.2.1)
          refine hK.out _ _ S5 (fun _ => ?_)
          clear hK K
          simp only [Act.put, List.getElem_toArray, List.getElem_cons_zero, List.getElem_cons_succ, List.setIfInBounds_toArray, List.set_cons_zero, List.set_cons_succ]
          refine wpAnyH_take (i := 16) (v := .agg #[.int .i64 x.low, .slice a6 x.ids.length c6]) rfl (by kernel_rfl) (by kernel_rfl) (by kernel_rfl) (fun _ _ _ h => h) (Or.inl ⟨by rfl, ?_⟩) S5 ?_
          · intro wq hSw
            go_simp
          simp only [Act.put, List.getElem_toArray, List.getElem_cons_zero, List.getElem_cons_succ, List.setIfInBounds_toArray, List.set_cons_zero, List.set_cons_succ]
          refine wpAnyH_ready (rs := [17]) (by kernel_rfl) (by simp) ?_
          refine AllReadyH.cons rfl (fun K hK => ?_) AllReadyH.nil
          go_simp
          refine hK.out _ _ S6 (fun _ => ?_)
          clear hK K
          refine wpAnyH_ready (rs := [18]) (by kernel_rfl) (by simp) ?_
          refine AllReadyH.cons rfl (fun K hK => ?_) AllReadyH.nil
          have R6 := own_moved HR.out.2.2.2.1.cells (fun g hg => B6.block g (own_lt HR.out.2.2.2.1.cells g hg))
          rw [HR.out.2.2.2.2.2.1] at R6
          refine step_append_row rfl (.tmp 22) (.tmp 38) 25 rfl w.heap.size 76 i0 (.agg #[.int .i64 0, .slice none 0 0]) 2 32 Tryz.underlying25 hi hz0 hz1 hz2 rfl (by decide) (.slice qa k qc) k _ (by simp [Act.eval]) (by exact R6) ⟨w5.heap.size, 0, none⟩ 1 1 [.int .i64 x.low, .slice a6 x.ids.length c6] (by simp [Act.eval]) rfl (cell_twoS _ _ _ _) (by simp [Value.oneCell']) (by unfold maxLen; omega) (by omega) (by have := B6.size; omega) ?_
          intro v8 w8 hown8 hgrow8 hat8
          have hF := l08Copy_round HR.out.2.2.2.1 HR.out.2.2.2.2.1 HR.out.1 HR.out.2.2.1 HR.out.2.1 HR.out.2.2.2.2.2.1 BA B5 hown6 hown8 hgrow8 HX.out.1 hsz hobw HR.out.2.2.2.2.2.2.2
          obtain ⟨a8, c8, rfl⟩ := own_form hown8
          obtain ⟨O8, L8, B8, F1, F2, F3, F4, F5, F6⟩ := hF
          have S8 := hSof _ B8 L8
          have S9 := hSof _ F5 F4
          refine hK.out _ _ S8 (fun _ => ?_)
          clear hK K
          simp only [Act.put, List.getElem_toArray, List.getElem_cons_zero, List.getElem_cons_succ, List.setIfInBounds_toArray, List.set_cons_zero, List.set_cons_succ]
          refine wpAnyH_take (i := 19) (v := .pointer (some ⟨ob, 3, none⟩)) rfl (by kernel_rfl) (by kernel_rfl) (by kernel_rfl) (fun _ _ _ h => h) (Or.inl ⟨by rfl, ?_⟩) S8 ?_
          · intro wq hSw
            go_simp
          simp only [Act.put, List.getElem_toArray, List.getElem_cons_zero, List.getElem_cons_succ, List.setIfInBounds_toArray, List.set_cons_zero, List.set_cons_succ]
          refine wpAnyH_ready (rs := [20]) (by kernel_rfl) (by simp) ?_
          refine AllReadyH.cons rfl (fun K hK => ?_) AllReadyH.nil
          obtain ⟨y0, y1, y2, y3⟩ := lbox O8
          have f3 : w8.frozen? ⟨ob, 3, none⟩ = false := unfrozen_of_block O8 3
          go_simp
          refine hK.out _ _ S9 (fun _ => ?_)
          refine wpAnyH_done (by kernel_rfl) ?_ _
          have HZ := (show Hid (_ ∧ _ ∧ _ ∧ _ ∧ _ ∧ _ ∧ _) from ⟨F1, F2, F3, F4, F5, True.intro, F6⟩)
          clear hK K y0 y1 y2 y3 f3 O8 L8 B8 F1 F2 F3 F4 F5 F6 S8 S9 S6 S5 O6 O5 OA SA B6 B5 BA R6 hown8 hgrow8 hat8 hown6 hgrow6 hat6 KA E1 hS
          go_wp2
          go_roundw
          case rel =>
            refine ⟨k + 1, a8, c8, rs ++ [(x, .slice a6 x.ids.length c6)], by omega, by go_num, by rw [List.length_append, HR.out.2.2.2.2.2.1]; rfl, ?_, HZ.out.1, HZ.out.2.1, HZ.out.2.2.2.1, HZ.out.2.2.1, HZ.out.2.2.2.2.2.2, HZ.out.2.2.2.2.1⟩
            rw [List.map_append, HR.out.2.2.2.2.2.2.1, HX.out.2]
            rfl
          case measure => simp [intOf]; omega
        · go_simp
          refine hK.out _ _ SA (fun _ => ?_)
          clear hK K
          refine wpAnyH_ready (rs := [1, 15]) (by kernel_rfl) (by simp) ?_
          refine AllReadyH.cons rfl (fun K hK => ?_) (AllReadyH.cons rfl (fun K hK => ?_) AllReadyH.nil)
          · obtain ⟨y0, y1, y2, y3⟩ := lbox OA
            go_simp
            refine hK.out _ _ SA (fun _ => ?_)
            clear hK K y0 y1 y2 y3
            refine wpAnyH_ready (rs := [15]) (by kernel_rfl) (by simp) ?_
            refine AllReadyH.cons rfl (fun K hK => ?_) AllReadyH.nil
            refine step_append_intsR rfl (.tmp 29) (.tmp 35) rfl wr.heap.size (.slice (some ⟨wr.heap.size, 0, none⟩) 0 0) 0 [] (by simp [Act.eval]) (by exact E1) (.slice ka x.ids.length kc) x.ids S (by simp [Act.eval]) (by exact KA) (by omega) (by simp) ?_
            intro v6 w5 hown6 hgrow6 hat6
            rw [Nat.zero_add, List.nil_append] at hown6
            obtain ⟨a6, c6, rfl⟩ := own_form hown6
            have B5 : Below wr.heap.size wr w5 := Below.grown BA hgrow6 (hB := by simp) (hr := fun b hb => by simp [Value.ownBlock] at hb; omega)
            have O5 := (B5.block _ (lt_heap HR.out.1)).trans HR.out.1
            have S5 := hSof _ (HR.out.2.1.trans (B5.mono hsz)) ((B5.block _ (lt_heap HR.out.2.2.1)).trans HR.out.2.2.1)
            have B6 := B5.alloc B5.size (.cells #[.int .i64 x.low, .slice a6 x.ids.length c6] 76)
            have O6 := (B6.block _ (lt_heap HR.out.1)).trans HR.out.1
            have S6 := hSof _ (HR.out.2.1.trans (B6.mono hsz)) ((B6.block _ (lt_heap HR.out.2.2.1)).trans HR.out.2.2.1)
            refine hK.out _ _ S5 (fun _ => ?_)
            clear hK K
            simp only [Act.put, List.getElem_toArray, List.getElem_cons_zero, List.getElem_cons_succ, List.setIfInBounds_toArray, List.set_cons_zero, List.set_cons_succ]
            refine wpAnyH_take (i := 16) (v := .agg #[.int .i64 x.low, .slice a6 x.ids.length c6]) rfl (by kernel_rfl) (by kernel_rfl) (by kernel_rfl) (fun _ _ _ h => h) (Or.inl ⟨by rfl, ?_⟩) S5 ?_
            · intro wq hSw
              go_simp
            simp only [Act.put, List.getElem_toArray, List.getElem_cons_zero, List.getElem_cons_succ, List.setIfInBounds_toArray, List.set_cons_zero, List.set_cons_succ]
            refine wpAnyH_ready (rs := [17]) (by kernel_rfl) (by simp) ?_
            refine AllReadyH.cons rfl (fun K hK => ?_) AllReadyH.nil
            go_simp
            refine hK.out _ _ S6 (fun _ => ?_)
            clear hK K
            refine wpAnyH_ready (rs := [18]) (by kernel_rfl) (by simp) ?_
            refine AllReadyH.cons rfl (fun K hK => ?_) AllReadyH.nil
            have R6 := own_moved HR.out.2.2.2.1.cells (fun g hg => B6.block g (own_lt HR.out.2.2.2.1.cells g hg))
            rw [HR.out.2.2.2.2.2.1] at R6
            refine step_append_row rfl (.tmp 22) (.tmp 38) 25 rfl w.heap.size 76 i0 (.agg #[.int .i64 0, .slice none 0 0]) 2 32 Tryz.underlying25 hi hz0 hz1 hz2 rfl (by decide) (.slice qa k qc) k _ (by simp [Act.eval]) (by exact R6) ⟨w5.heap.size, 0, none⟩ 1 1 [.int .i64 x.low, .slice a6 x.ids.length c6] (by simp [Act.eval]) rfl (cell_twoS _ _ _ _) (by simp [Value.oneCell']) (by unfold maxLen; omega) (by omega) (by have := B6.size; omega) ?_
            intro v8 w8 hown8 hgrow8 hat8
            have hF := l08Copy_round HR.out.2.2.2.1 HR.out.2.2.2.2.1 HR.out.1 HR.out.2.2.1 HR.out.2.1 HR.out.2.2.2.2.2.1 BA B5 hown6 hown8 hgrow8 HX.out.1 hsz hobw HR.out.2.2.2.2.2.2.2
            obtain ⟨a8, c8, rfl⟩ := own_form hown8
            obtain ⟨O8, L8, B8, F1, F2, F3, F4, F5, F6⟩ := hF
            have S8 := hSof _ B8 L8
            have S9 := hSof _ F5 F4
            refine hK.out _ _ S8 (fun _ => ?_)
            clear hK K
            simp only [Act.put, List.getElem_toArray, List.getElem_cons_zero, List.getElem_cons_succ, List.setIfInBounds_toArray, List.set_cons_zero, List.set_cons_succ]
            refine wpAnyH_take (i := 19) (v := .pointer (some ⟨ob, 3, none⟩)) rfl (by kernel_rfl) (by kernel_rfl) (by kernel_rfl) (fun _ _ _ h => h) (Or.inl ⟨by rfl, ?_⟩) S8 ?_
            · intro wq hSw
              go_simp
            simp only [Act.put, List.getElem_toArray, List.getElem_cons_zero, List.getElem_cons_succ, List.setIfInBounds_toArray, List.set_cons_zero, List.set_cons_succ]
            refine wpAnyH_ready (rs := [20]) (by kernel_rfl) (by simp) ?_
            refine AllReadyH.cons rfl (fun K hK => ?_) AllReadyH.nil
            obtain ⟨y0, y1, y2, y3⟩ := lbox O8
            have f3 : w8.frozen? ⟨ob, 3, none⟩ = false := unfrozen_of_block O8 3
            go_simp
            refine hK.out _ _ S9 (fun _ => ?_)
            refine wpAnyH_done (by kernel_rfl) ?_ _
            have HZ := (show Hid (_ ∧ _ ∧ _ ∧ _ ∧ _ ∧ _ ∧ _) from ⟨F1, F2, F3, F4, F5, True.intro, F6⟩)
            clear hK K y0 y1 y2 y3 f3 O8 L8 B8 F1 F2 F3 F4 F5 F6 S8 S9 S6 S5 O6 O5 OA SA B6 B5 BA R6 hown8 hgrow8 hat8 hown6 hgrow6 hat6 KA E1 hS
            go_wp2
            go_roundw
            case rel =>
              refine ⟨k + 1, a8, c8, rs ++ [(x, .slice a6 x.ids.length c6)], by omega, by go_num, by rw [List.length_append, HR.out.2.2.2.2.2.1]; rfl, ?_, HZ.out.1, HZ.out.2.1, HZ.out.2.2.2.1, HZ.out.2.2.1, HZ.out.2.2.2.2.2.2, HZ.out.2.2.2.2.1⟩
              rw [List.map_append, HR.out.2.2.2.2.2.2.1, HX.out.2]
              rfl
            case measure => simp [intOf]; omega
          · refine step_append_intsR rfl (.tmp 29) (.tmp 35) rfl wr.heap.size (.slice (some ⟨wr.heap.size, 0, none⟩) 0 0) 0 [] (by simp [Act.eval]) (by exact E1) (.slice ka x.ids.length kc) x.ids S (by simp [Act.eval]) (by exact KA) (by omega) (by simp) ?_
            intro v6 w5 hown6 hgrow6 hat6
            rw [Nat.zero_add, List.nil_append] at hown6
            obtain ⟨a6, c6, rfl⟩ := own_form hown6
            have B5 : Below wr.heap.size wr w5 := Below.grown BA hgrow6 (hB := by simp) (hr := fun b hb => by simp [Value.ownBlock] at hb; omega)
            have O5 := (B5.block _ (lt_heap HR.out.1)).trans HR.out.1
            have S5 := hSof _ (HR.out.2.1.trans (B5.mono hsz)) ((B5.block _ (lt_heap HR.out.2.2.1)).trans HR.out.2.2.1)
            have B6 := B5.alloc B5.size (.cells #[.int .i64 x.low, .slice a6 x.ids.length c6] 76)
            have O6 := (B6.block _ (lt_heap HR.out.1)).trans HR.out.1
            have S6 := hSof _ (HR.out.2.1.trans (B6.mono hsz)) ((B6.block _ (lt_heap HR.out.2.2.1)).trans HR.out.2.2.1)
            refine hK.out _ _ S5 (fun _ => ?_)
            clear hK K
            simp only [Act.put, List.getElem_toArray, List.getElem_cons_zero, List.getElem_cons_succ, List.setIfInBounds_toArray, List.set_cons_zero, List.set_cons_succ]
            refine wpAnyH_take (i := 16) (v := .agg #[.int .i64 x.low, .slice a6 x.ids.length c6]) rfl (by kernel_rfl) (by kernel_rfl) (by kernel_rfl) (fun _ _ _ h => h) (Or.inl ⟨by rfl, ?_⟩) S5 ?_
            · intro wq hSw
              go_simp
            simp only [Act.put, List.getElem_toArray, List.getElem_cons_zero, List.getElem_cons_succ, List.setIfInBounds_toArray, List.set_cons_zero, List.set_cons_succ]
            refine wpAnyH_ready (rs := [1, 17]) (by kernel_rfl) (by simp) ?_
            refine AllReadyH.cons rfl (fun K hK => ?_) (AllReadyH.cons rfl (fun K hK => ?_) AllReadyH.nil)
            · obtain ⟨y0, y1, y2, y3⟩ := lbox O5
              go_simp
              refine hK.out _ _ S5 (fun _ => ?_)
              clear hK K y0 y1 y2 y3
              refine wpAnyH_ready (rs := [17]) (by kernel_rfl) (by simp) ?_
              refine AllReadyH.cons rfl (fun K hK => ?_) AllReadyH.nil
              go_simp
              refine hK.out _ _ S6 (fun _ => ?_)
              clear hK K
              refine wpAnyH_ready (rs := [18]) (by kernel_rfl) (by simp) ?_
              refine AllReadyH.cons rfl (fun K hK => ?_) AllReadyH.nil
              have R6 := own_moved HR.out.2.2.2.1.cells (fun g hg => B6.block g (own_lt HR.out.2.2.2.1.cells g hg))
              rw [HR.out.2.2.2.2.2.1] at R6
              refine step_append_row rfl (.tmp 22) (.tmp 38) 25 rfl w.heap.size 76 i0 (.agg #[.int .i64 0, .slice none 0 0]) 2 32 Tryz.underlying25 hi hz0 hz1 hz2 rfl (by decide) (.slice qa k qc) k _ (by simp [Act.eval]) (by exact R6) ⟨w5.heap.size, 0, none⟩ 1 1 [.int .i64 x.low, .slice a6 x.ids.length c6] (by simp [Act.eval]) rfl (cell_twoS _ _ _ _) (by simp [Value.oneCell']) (by unfold maxLen; omega) (by omega) (by have := B6.size; omega) ?_
              intro v8 w8 hown8 hgrow8 hat8
              have hF := l08Copy_round HR.out.2.2.2.1 HR.out.2.2.2.2.1 HR.out.1 HR.out.2.2.1 HR.out.2.1 HR.out.2.2.2.2.2.1 BA B5 hown6 hown8 hgrow8 HX.out.1 hsz hobw HR.out.2.2.2.2.2.2.2
              obtain ⟨a8, c8, rfl⟩ := own_form hown8
              obtain ⟨O8, L8, B8, F1, F2, F3, F4, F5, F6⟩ := hF
              have S8 := hSof _ B8 L8
              have S9 := hSof _ F5 F4
              refine hK.out _ _ S8 (fun _ => ?_)
              clear hK K
              simp only [Act.put, List.getElem_toArray, List.getElem_cons_zero, List.getElem_cons_succ, List.setIfInBounds_toArray, List.set_cons_zero, List.set_cons_succ]
              refine wpAnyH_take (i := 19) (v := .pointer (some ⟨ob, 3, none⟩)) rfl (by kernel_rfl) (by kernel_rfl) (by kernel_rfl) (fun _ _ _ h => h) (Or.inl ⟨by rfl, ?_⟩) S8 ?_
              · intro wq hSw
                go_simp
              simp only [Act.put, List.getElem_toArray, List.getElem_cons_zero, List.getElem_cons_succ, List.setIfInBounds_toArray, List.set_cons_zero, List.set_cons_succ]
              refine wpAnyH_ready (rs := [20]) (by kernel_rfl) (by simp) ?_
              refine AllReadyH.cons rfl (fun K hK => ?_) AllReadyH.nil
              obtain ⟨y0, y1, y2, y3⟩ := lbox O8
              have f3 : w8.frozen? ⟨ob, 3, none⟩ = false := unfrozen_of_block O8 3
              go_simp
              refine hK.out _ _ S9 (fun _ => ?_)
              refine wpAnyH_done (by kernel_rfl) ?_ _
              have HZ := (show Hid (_ ∧ _ ∧ _ ∧ _ ∧ _ ∧ _ ∧ _) from ⟨F1, F2, F3, F4, F5, True.intro, F6⟩)
              clear hK K y0 y1 y2 y3 f3 O8 L8 B8 F1 F2 F3 F4 F5 F6 S8 S9 S6 S5 O6 O5 OA SA B6 B5 BA R6 hown8 hgrow8 hat8 hown6 hgrow6 hat6 KA E1 hS
              go_wp2
              go_roundw
              case rel =>
                refine ⟨k + 1, a8, c8, rs ++ [(x, .slice a6 x.ids.length c6)], by omega, by go_num, by rw [List.length_append, HR.out.2.2.2.2.2.1]; rfl, ?_, HZ.out.1, HZ.out.2.1, HZ.out.2.2.2.1, HZ.out.2.2.1, HZ.out.2.2.2.2.2.2, HZ.out.2.2.2.2.1⟩
                rw [List.map_append, HR.out.2.2.2.2.2.2.1, HX.out.2]
                rfl
              case measure => simp [intOf]; omega
            · go_simp
              refine hK.out _ _ S6 (fun _ => ?_)
              clear hK K
              refine wpAnyH_ready (rs := [1]) (by kernel_rfl) (by simp) ?_
              refine AllReadyH.cons rfl (fun K hK => ?_) AllReadyH.nil
              obtain ⟨y0, y1, y2, y3⟩ := lbox O6
              go_simp
              refine hK.out _ _ S6 (fun _ => ?_)
              clear hK K y0 y1 y2 y3
              refine wpAnyH_ready (rs := [18]) (by kernel_rfl) (by simp) ?_
              refine AllReadyH.cons rfl (fun K hK => ?_) AllReadyH.nil
              have R6 := own_moved HR.out.2.2.2.1.cells (fun g hg => B6.block g (own_lt HR.out.2.2.2.1.cells g hg))
              rw [HR.out.2.2.2.2.2.1] at R6
              refine step_append_row rfl (.tmp 22) (.tmp 38) 25 rfl w.heap.size 76 i0 (.agg #[.int .i64 0, .slice none 0 0]) 2 32 Tryz.underlying25 hi hz0 hz1 hz2 rfl (by decide) (.slice qa k qc) k _ (by simp [Act.eval]) (by exact R6) ⟨w5.heap.size, 0, none⟩ 1 1 [.int .i64 x.low, .slice a6 x.ids.length c6] (by simp [Act.eval]) rfl (cell_twoS _ _ _ _) (by simp [Value.oneCell']) (by unfold maxLen; omega) (by omega) (by have := B6.size; omega) ?_
              intro v8 w8 hown8 hgrow8 hat8
              have hF := l08Copy_round HR.out.2.2.2.1 HR.out.2.2.2.2.1 HR.out.1 HR.out.2.2.1 HR.out.2.1 HR.out.2.2.2.2.2.1 BA B5 hown6 hown8 hgrow8 HX.out.1 hsz hobw HR.out.2.2.2.2.2.2.2
              obtain ⟨a8, c8, rfl⟩ := own_form hown8
              obtain ⟨O8, L8, B8, F1, F2, F3, F4, F5, F6⟩ := hF
              have S8 := hSof _ B8 L8
              have S9 := hSof _ F5 F4
              refine hK.out _ _ S8 (fun _ => ?_)
              clear hK K
              simp only [Act.put, List.getElem_toArray, List.getElem_cons_zero, List.getElem_cons_succ, List.setIfInBounds_toArray, List.set_cons_zero, List.set_cons_succ]
              refine wpAnyH_take (i := 19) (v := .pointer (some ⟨ob, 3, none⟩)) rfl (by kernel_rfl) (by kernel_rfl) (by kernel_rfl) (fun _ _ _ h => h) (Or.inl ⟨by rfl, ?_⟩) S8 ?_
              · intro wq hSw
                go_simp
              simp only [Act.put, List.getElem_toArray, List.getElem_cons_zero, List.getElem_cons_succ, List.setIfInBounds_toArray, List.set_cons_zero, List.set_cons_succ]
              refine wpAnyH_ready (rs := [20]) (by kernel_rfl) (by simp) ?_
              refine AllReadyH.cons rfl (fun K hK => ?_) AllReadyH.nil
              obtain ⟨y0, y1, y2, y3⟩ := lbox O8
              have f3 : w8.frozen? ⟨ob, 3, none⟩ = false := unfrozen_of_block O8 3
              go_simp
              refine hK.out _ _ S9 (fun _ => ?_)
              refine wpAnyH_done (by kernel_rfl) ?_ _
              have HZ := (show Hid (_ ∧ _ ∧ _ ∧ _ ∧ _ ∧ _ ∧ _) from ⟨F1, F2, F3, F4, F5, True.intro, F6⟩)
              clear hK K y0 y1 y2 y3 f3 O8 L8 B8 F1 F2 F3 F4 F5 F6 S8 S9 S6 S5 O6 O5 OA SA B6 B5 BA R6 hown8 hgrow8 hat8 hown6 hgrow6 hat6 KA E1 hS
              go_wp2
              go_roundw
              case rel =>
                refine ⟨k + 1, a8, c8, rs ++ [(x, .slice a6 x.ids.length c6)], by omega, by go_num, by rw [List.length_append, HR.out.2.2.2.2.2.1]; rfl, ?_, HZ.out.1, HZ.out.2.1, HZ.out.2.2.2.1, HZ.out.2.2.1, HZ.out.2.2.2.2.2.2, HZ.out.2.2.2.2.1⟩
                rw [List.map_append, HR.out.2.2.2.2.2.2.1, HX.out.2]
                rfl
              case measure => simp [intOf]; omega
      · obtain rfl : k = l.seen.length := by omega
        rw [List.take_length] at hrm
        obtain ⟨y0, y1, y2, y3⟩ := lbox hO
        obtain ⟨z0, z1, z2, z3⟩ := lbox hR1
        have f10 : wr.frozen? ⟨w.heap.size + 1, 0, none⟩ = false := unfrozen_of_block hR1 0
        have f11 : wr.frozen? ⟨w.heap.size + 1, 1, none⟩ = false := unfrozen_of_block hR1 1
        have f12 : wr.frozen? ⟨w.heap.size + 1, 2, none⟩ = false := unfrozen_of_block hR1 2
        have f13 : wr.frozen? ⟨w.heap.size + 1, 3, none⟩ = false := unfrozen_of_block hR1 3
        have HZ := (show Hid (_ ∧ _ ∧ _ ∧ _ ∧ _ ∧ _ ∧ _) from ⟨hrm, hSe, hSn, hbw, hO, hrl, hR1⟩)
        clear hrm hSe hSn hbw hO hL hrl hR1
        go_wp2
        refine bodyPost_ret (v := .agg (l.row (.slice a5 l.out.length c5) (.slice qa l.seen.length qc))) (by simp [results, Tryz.results32, go_sem, z0, z1, z2, z3]) rfl ⟨_, rfl, ⟨.slice a5 l.out.length c5, .slice qa l.seen.length qc, rs, ⟨rfl, HF.out.1, ?_, ?_, HZ.out.1⟩⟩, ?_⟩
        · refine HZ.out.2.2.1.moved (fun g hg => ?_)
          have hgn : ¬ g = w.heap.size + 1 := fun e => by
            obtain ⟨_, cs, h2⟩ := own_type HZ.out.2.2.1.1 g hg
            rw [e, HZ.out.2.2.2.2.2.2] at h2
            simp at h2
          rw [Below.heap_setCell _ _ _ _ (by simpa using hgn), Below.heap_setCell _ _ _ _ (by simpa using hgn), Below.heap_setCell _ _ _ _ (by simpa using hgn), Below.heap_setCell _ _ _ _ (by simpa using hgn)]
        · refine HZ.out.2.1.moved (fun g hg => ?_)
          have hgn : ¬ g = w.heap.size + 1 := fun e => by
            rcases hg with hg | ⟨r, hr, hg⟩
            · obtain ⟨_, cs, h2⟩ := own_type HZ.out.2.1.cells g hg
              rw [e, HZ.out.2.2.2.2.2.2] at h2
              simp at h2
            · obtain ⟨_, cs, h2⟩ := own_type (HZ.out.2.1.kids r hr).1 g hg
              rw [e, HZ.out.2.2.2.2.2.2] at h2
              simp at h2
          rw [Below.heap_setCell _ _ _ _ (by simpa using hgn), Below.heap_setCell _ _ _ _ (by simpa using hgn), Below.heap_setCell _ _ _ _ (by simpa using hgn), Below.heap_setCell _ _ _ _ (by simpa using hgn)]
        · exact (((HZ.out.2.2.2.1.setCell (p := ⟨w.heap.size + 1, 0, none⟩) (by simp) _).setCell (p := ⟨w.heap.size + 1, 1, none⟩) (by simp) _).setCell (p := ⟨w.heap.size + 1, 2, none⟩) (by simp) _).setCell (p := ⟨w.heap.size + 1, 3, none⟩) (by simp) _
end Go.Proofs.YtlbinamlehapoaaGreatDoor
