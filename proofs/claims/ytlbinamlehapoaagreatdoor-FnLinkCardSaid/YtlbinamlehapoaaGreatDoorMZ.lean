/-
  What taking a pack makes of a link, in plain words; a Seen that is put into its place.
  Steps of a region that draws its order: a row that is made, and what runs to a value.
-/
import Derived.Test.YtlbinamlehapoaaGreatDoorMB
import Derived.Test.YtlbinamlehapoaaGreatDoorMK
import Derived.Test.YtlbinamlehapoaaGreatDoorMY
import Derived.Test.YtlbinamlehapoaaGreatDoorMW
namespace Go.Proofs.YtlbinamlehapoaaGreatDoor
open Go.RowKit Go.Joins

set_option maxRecDepth 100000

/-- The greater one. -/
def upTo (a b : Int) : Int := if a < b then b else a
/-- A Seen that goes on. -/
def Se.lift (s : Se) (low : Int) : Se := ⟨upTo s.low low, s.ids.filter (fun z => decide (upTo s.low low ≤ z))⟩
/-- Whether a number was taken before. -/
def Se.has (s : Se) (q : Int) : Bool := decide (q < s.low) || s.ids.contains q
/-- Where a number has its place. -/
def placeL (ids : List Int) (q : Int) : Nat := (ids.takeWhile (fun z => decide (z < q))).length
/-- With one more number. -/
def Se.put (s : Se) (q : Int) : Se := ⟨s.low, s.ids.take (placeL s.ids q) ++ q :: s.ids.drop (placeL s.ids q)⟩
/-- A link with another Seen. -/
def Lk.setSe (l : Lk) (f : Nat) (s : Se) : Lk := ⟨l.id, l.next, l.out, l.seen.set f s⟩
/-- Whether a pack is one for this link. -/
def Lk.takes (l : Lk) (p : Pa) : Bool := (((l.ok && p.ok) && (p.kind == 0)) && (p.dst == l.id)) && decide (p.frm < l.seen.length)
def Lk.seenOf (l : Lk) (p : Pa) : Se := (l.seen.getD p.frm.toNat ⟨0, []⟩).lift p.low
/-- What LinkTake makes of a link. -/
def Lk.take (l : Lk) (p : Pa) : Lk :=
  if l.takes p then
    if (l.seenOf p).has p.seq || decide (60 ≤ (l.seenOf p).ids.length) then l.setSe p.frm.toNat (l.seenOf p) else l.setSe p.frm.toNat ((l.seenOf p).put p.seq)
  else l
def Lk.fresh (l : Lk) (p : Pa) : Bool := l.takes p && !(l.seenOf p).has p.seq && !decide (60 ≤ (l.seenOf p).ids.length)
def Lk.due (l : Lk) (p : Pa) : Bool := l.takes p && ((l.seenOf p).has p.seq || !decide (60 ≤ (l.seenOf p).ids.length))

/-- One cell of a row of a call's own is written. -/
theorem own_put {W : World} {B n size i g cap : Nat} {e : TypeId} {xs : List Value} (h : W.ownsRow B e size (.slice (some ⟨g, 0, none⟩) n cap) n xs) (_hi : i < n * size) (u : Value) :
    (W.setCell ⟨g, i, none⟩ u).ownsRow B e size (.slice (some ⟨g, 0, none⟩) n cap) n (xs.set i u) := by
  have hl := h.1
  rcases h.2 with ⟨h', _⟩ | ⟨g', cap', cur, h', hb', hc', hn', hm', hs', ht'⟩
  · simp at h'
  simp only [Value.slice.injEq, Option.some.injEq, Addr.mk.injEq, and_true, true_and] at h'
  obtain ⟨rfl, rfl⟩ := h'
  refine ⟨by rw [List.length_set]; exact hl, .inr ⟨g, cap, _, rfl, hb', block_setCell hc' _, hn', hm', by simp [hs'], ?_⟩⟩
  rw [← ht']
  obtain ⟨c⟩ := cur
  simp [List.take_set]
theorem se_flat2 (A D : List (Se × Value)) (r : Se × Value) (u v : Value) (x : Se) (kv : Value) (hu : u = .int .i64 x.low) (hv : v = kv) : (((A ++ r :: D).flatMap seCells).set (A.length * 2) u).set (A.length * 2 + 1) v = (A ++ (x, kv) :: D).flatMap seCells := by
  subst hu hv
  rw [List.flatMap_append, List.flatMap_append, List.flatMap_cons, List.flatMap_cons, ← se_len A]
  rw [List.set_append_right _ _ (Nat.le_refl _), Nat.sub_self, List.set_append_right _ _ (Nat.le_succ _)]
  simp [seCells]
/-- A Seen is put into its place. -/
theorem SeOwn.put {W : World} {B g n cap : Nat} {A D : List (Se × Value)} {r : Se × Value} {x : Se} {kv : Value} (h : SeOwn W B (.slice (some ⟨g, 0, none⟩) n cap) (A ++ r :: D)) (hn : n = (A ++ r :: D).length)
    (hk : W.ownsRow B 3 1 kv x.ids.length (intVs x.ids)) (hok : SeOk x) (hap : ∀ r' ∈ A ++ r :: D, ∀ b, r'.2.ownBlock = some b → kv.ownBlock ≠ some b) :
    SeOwn ((W.setCell ⟨g, A.length * 2, none⟩ (.int .i64 x.low)).setCell ⟨g, A.length * 2 + 1, none⟩ kv) B (.slice (some ⟨g, 0, none⟩) n cap) (A ++ (x, kv) :: D) := by
  have hlen : (A ++ r :: D).length = A.length + 1 + D.length := by simp; omega
  have hlen' : (A ++ (x, kv) :: D).length = (A ++ r :: D).length := by simp
  have keep : ∀ b, b ≠ g → ((W.setCell ⟨g, A.length * 2, none⟩ (.int .i64 x.low)).setCell ⟨g, A.length * 2 + 1, none⟩ kv).heap[b]? = W.heap[b]? := fun b hb => by
    rw [Below.heap_setCell _ _ _ b (by simpa using hb), Below.heap_setCell _ _ _ b (by simpa using hb)]
  have hc := h.cells
  rw [← hn] at hc
  refine ⟨?_, fun r' hr => ?_, ?_⟩
  · rw [hlen', ← hn, ← se_flat2 A D r (.int .i64 x.low) kv x kv rfl rfl]
    exact own_put (own_put hc (by omega) _) (by omega) _
  · have hk' : W.ownsRow B 3 1 r'.2 r'.1.ids.length (intVs r'.1.ids) ∧ SeOk r'.1 := by
      rw [List.mem_append, List.mem_cons] at hr
      rcases hr with hr | rfl | hr
      · exact h.kids r' (by simp [hr])
      · exact ⟨hk, hok⟩
      · exact h.kids r' (by simp [hr])
    exact ⟨own_moved hk'.1 (fun b hb => keep b (fun e => own_ne hk'.1 hc (by decide) b hb (by rw [e]; rfl))), hk'.2⟩
  · have hp := h.apart
    rw [List.map_append, List.map_cons, List.pairwise_append, List.pairwise_cons] at hp ⊢
    have hx : ∀ u ∈ (A ++ r :: D).map Prod.snd, AptV u kv := fun u hu => by
      obtain ⟨r', hr', rfl⟩ := List.mem_map.1 hu
      cases hb : r'.2.ownBlock with
      | none => exact .inl hb
      | some q => exact .inr (fun e => hap r' hr' q hb (e.symm.trans hb))
    refine ⟨hp.1, ⟨fun u hu => AptV.symm (hx u (by rw [List.map_append, List.map_cons]; simp [hu])), hp.2.1.2⟩, fun u hu v hv => ?_⟩
    rcases List.mem_cons.1 hv with rfl | hv
    · exact hx u (by rw [List.map_append]; simp [hu])
    · exact hp.2.2 u hu v (List.mem_cons_of_mem _ hv)
theorem rs_split {rs : List (Se × Value)} {es : List Se} {f : Nat} {x : Se} (hi : rs.map Prod.fst = es) (hx : es[f]? = some x) : ∃ A D kv, rs = A ++ (x, kv) :: D ∧ A.length = f := by
  subst hi
  rw [List.getElem?_map] at hx
  obtain ⟨r, hr, rfl⟩ := Option.map_eq_some_iff.1 hx
  have hl := (List.getElem?_eq_some_iff.1 hr).1
  refine ⟨rs.take f, rs.drop (f + 1), r.2, ?_, by rw [List.length_take]; omega⟩
  conv => lhs; rw [← List.take_append_drop f rs, List.drop_eq_getElem_cons hl, (List.getElem?_eq_some_iff.1 hr).2]
theorem rs_set {A D : List (Se × Value)} {es : List Se} {f : Nat} {x y : Se} {kv kv' : Value} (hi : (A ++ (x, kv) :: D).map Prod.fst = es) (hA : A.length = f) : (A ++ (y, kv') :: D).map Prod.fst = es.set f y := by
  subst hi hA
  rw [List.map_append, List.map_append, List.map_cons, List.map_cons, ← List.length_map (f := Prod.fst), List.set_append_right _ _ (Nat.le_refl _), Nat.sub_self]
  rfl
/-- On the way: the boxes of both arguments, of the result and of the copy. -/
structure TkSt (w W : World) (l : Lk) (p : Pa) (lov lsv : Value) (ob Bc : Nat) (k : Lk) (ov sv : Value) (rs : List (Se × Value)) : Prop where
  base : Below w.heap.size w W
  lbx : W.heap[w.heap.size]? = some (.cells (l.row lov lsv) 27)
  pbx : W.heap[w.heap.size + 1]? = some (.cells p.row 38)
  res : W.heap[w.heap.size + 1 + 1]? = some (.cells (Lk.row ⟨0, 0, [], []⟩ (.slice none 0 0) (.slice none 0 0)) 27)
  own : LkOwn W Bc (.agg #[.int .i64 k.id, .int .i64 k.next, ov, sv]) k ov sv rs
  apt : ∀ b, LkBlk ov sv rs b → b ≠ ob
  obx : W.heap[ob]? = some (.cells (k.row ov sv) 27)
  ord : w.heap.size + 3 ≤ Bc ∧ Bc ≤ ob
theorem TkSt.below {w W W' : World} {l : Lk} {p : Pa} {lov lsv : Value} {ob Bc : Nat} {k : Lk} {ov sv : Value} {rs : List (Se × Value)} (h : TkSt w W l p lov lsv ob Bc k ov sv rs) (hb : Below W.heap.size W W') : TkSt w W' l p lov lsv ob Bc k ov sv rs :=
  ⟨h.base.trans (hb.mono h.base.size), (hb.block _ (lt_heap h.lbx)).trans h.lbx, (hb.block _ (lt_heap h.pbx)).trans h.pbx, (hb.block _ (lt_heap h.res)).trans h.res, h.own.below hb, h.apt, (hb.block _ (lt_heap h.obx)).trans h.obx, h.ord⟩
/-- A change in blocks that are none of these. -/
theorem TkSt.kept {X : Nat → Prop} {w W W' : World} {l : Lk} {p : Pa} {lov lsv : Value} {ob Bc : Nat} {k : Lk} {ov sv : Value} {rs : List (Se × Value)} (h : TkSt w W l p lov lsv ob Bc k ov sv rs) (hb : KB X W W') (hX : ∀ b, X b → ob < b ∧ ¬ LkBlk ov sv rs b) : TkSt w W' l p lov lsv ob Bc k ov sv rs := by
  have ho := h.ord
  exact ⟨h.base.trans (hb.below (fun b hx => by have := (hX b hx).1; omega) h.base.size), hb.heap h.lbx (fun hx => by have := (hX _ hx).1; omega), hb.heap h.pbx (fun hx => by have := (hX _ hx).1; omega), hb.heap h.res (fun hx => by have := (hX _ hx).1; omega), h.own.kept hb (fun b hb' hx => (hX b hx).2 hb'), h.apt, hb.heap h.obx (fun hx => by have := (hX _ hx).1; omega), ho⟩
/-- A Seen is put into its place. -/
theorem TkSt.put {w W : World} {l : Lk} {p : Pa} {lov lsv : Value} {ob Bc g n cap f : Nat} {k : Lk} {ov kv0 kv : Value} {A D : List (Se × Value)} {x0 x : Se} (h : TkSt w W l p lov lsv ob Bc k ov (.slice (some ⟨g, 0, none⟩) n cap) (A ++ (x0, kv0) :: D)) (hn : n = k.seen.length) (hA : A.length = f)
    (hk : W.ownsRow Bc 3 1 kv x.ids.length (intVs x.ids)) (hok : SeOk x) (hap : ∀ b, LkBlk ov (.slice (some ⟨g, 0, none⟩) n cap) (A ++ (x0, kv0) :: D) b → kv.ownBlock ≠ some b) (hob : kv.ownBlock ≠ some ob) :
    TkSt w ((W.setCell ⟨g, f * 2, none⟩ (.int .i64 x.low)).setCell ⟨g, f * 2 + 1, none⟩ kv) l p lov lsv ob Bc (k.setSe f x) ov (.slice (some ⟨g, 0, none⟩) n cap) (A ++ (x, kv) :: D) := by
  have ho := h.ord
  have hg : Bc ≤ g ∧ g ≠ ob := ⟨(h.own.own (.inr (.inl rfl))).1, h.apt g (.inr (.inl rfl))⟩
  have keep : ∀ b, b ≠ g → ((W.setCell ⟨g, f * 2, none⟩ (.int .i64 x.low)).setCell ⟨g, f * 2 + 1, none⟩ kv).heap[b]? = W.heap[b]? := fun b hb => by
    rw [Below.heap_setCell _ _ _ b (by simpa using hb), Below.heap_setCell _ _ _ b (by simpa using hb)]
  have hrl : (A ++ (x0, kv0) :: D).length = k.seen.length := by rw [← h.own.is]; simp
  subst hA
  refine ⟨(h.base.setCell (p := ⟨g, A.length * 2, none⟩) (by show _ ≤ g; omega) _).setCell (p := ⟨g, A.length * 2 + 1, none⟩) (by show _ ≤ g; omega) _, (keep _ (by omega)).trans h.lbx, (keep _ (by omega)).trans h.pbx, (keep _ (by omega)).trans h.res,
    ⟨rfl, h.own.fits, h.own.out.moved (fun b hb => keep b (fun e => own_ne h.own.out.1 h.own.seen.cells (by decide) b hb (by rw [e]; rfl))), SeOwn.put h.own.seen (by rw [hn, hrl]) hk hok (fun r' hr' b hb => hap b (.inr (.inr ⟨r', hr', hb⟩))), rs_set h.own.is rfl⟩, fun b hb => ?_, (keep _ (fun e => hg.2 e.symm)).trans h.obx, ho⟩
  rcases hb with hb | hb | ⟨r', hr', hb⟩
  · exact h.apt b (.inl hb)
  · exact h.apt b (.inr (.inl hb))
  · rw [List.mem_append, List.mem_cons] at hr'
    rcases hr' with hr' | rfl | hr'
    · exact h.apt b (.inr (.inr ⟨r', by simp [hr'], hb⟩))
    · exact fun e => hob (by rw [← e]; exact hb)
    · exact h.apt b (.inr (.inr ⟨r', by simp [hr'], hb⟩))
end Go.Proofs.YtlbinamlehapoaaGreatDoor

namespace Go.Proofs.YtlbinamlehapoaaGreatDoor
open Go.RowKit Go.Joins Go.Shelf

set_option maxRecDepth 100000

theorem step_run {P : Program} {ops : Array Oper} {o : Oper} {a : Act} {w : World} {K : Act → World → Prop} {Q : Exit → Act → World → Prop} {E : Prop} (hg : o.guard = none) (v : Value) (w' : World)
    (hr : (execOp a.eval o).run P w = .ok (.value v) w') (hK : K (a.put o.dst v) w') :
    if Region.wanted o (yielded ops a.tmps) = true then Oper.wp P o a w K Q else E := by
  have hw : Region.wanted o (yielded ops a.tmps) = true := by simp [Region.wanted, hg]
  rw [if_pos hw]
  unfold Oper.wp
  rw [hr]
  exact hK
theorem run_build0 (e : Operand → Value) (o : Oper) (ho : o.op = .buildSlice 28 0 #[]) (w : World) : (execOp e o).run Tryz.prog w = .ok (.value (.slice (some ⟨w.heap.size, 0, none⟩) 0 0)) (w.alloc (.cells #[] 3)) := by
  obtain ⟨d, op, t, ps, af, g⟩ := o
  cases ho
  kernel_rfl
theorem run_build1 (e : Operand → Value) (o : Oper) (x : Operand) (z : Int) (ho : o.op = .buildSlice 28 1 #[(0, x)]) (hx : e x = .int .i64 z) (w : World) : (execOp e o).run Tryz.prog w = .ok (.value (.slice (some ⟨w.heap.size, 0, none⟩) 1 1)) (w.alloc (.cells #[.int .i64 z] 3)) := by
  obtain ⟨d, op, t, ps, af, g⟩ := o
  cases ho
  simp [execOp, hx, go_sem]
theorem run_storeI (e : Operand → Value) (o : Oper) (x y : Operand) (ad : Addr) (a : Option Addr) (n c : Nat) (old : Value) (ho : o.op = .store 28 x y) (hx : e x = .pointer (some ad)) (hy : e y = .slice a n c) (w : World) (hc : w.cell? ad = some old) (hf : w.frozen? ad = false) : (execOp e o).run Tryz.prog w = .ok .skip (w.setCell ad (.slice a n c)) := by
  obtain ⟨d, op, t, ps, af, g⟩ := o
  cases ho
  simp [execOp, hx, hy, go_sem, hc, hf]
theorem step_skip {P : Program} {ops : Array Oper} {o : Oper} {a : Act} {w : World} {K : Act → World → Prop} {Q : Exit → Act → World → Prop} {E : Prop} (hg : o.guard = none) (w' : World)
    (hr : (execOp a.eval o).run P w = .ok .skip w') (hK : K (a.put o.dst undef) w') :
    if Region.wanted o (yielded ops a.tmps) = true then Oper.wp P o a w K Q else E := by
  have hw : Region.wanted o (yielded ops a.tmps) = true := by simp [Region.wanted, hg]
  rw [if_pos hw]
  unfold Oper.wp
  rw [hr]
  exact hK
end Go.Proofs.YtlbinamlehapoaaGreatDoor
