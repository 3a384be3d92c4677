/-
  What the law of chapter 5 holds of the world on its way.
-/
import Derived.Test.YtfhjkiimdkjhjaaGreatDoorDrawColl
import Derived.Test.YtfhjkiimdkjhjaaGreatDoorLawSame
import Derived.Test.YtfhjkiimdkjhjaaGreatDoorLawAlike
import Derived.Test.YtfhjkiimdkjhjaaGreatDoorImplCollect
import Derived.Test.YtfhjkiimdkjhjaaGreatDoorImplAlive
import Derived.Test.YtfhjkiimdkjhjaaGreatDoorSpecAlive
import Derived.Test.YtfhjkiimdkjhjaaGreatDoorME
import Derived.Test.YtfhjkiimdkjhjaaGreatDoorMC
import Derived.Test.YtfhjkiimdkjhjaaGreatDoorImplFollow
import Derived.Test.YtfhjkiimdkjhjaaGreatDoorImplCellText
namespace Go.Proofs.YtfhjkiimdkjhjaaGreatDoor
open Go.RowKit Go.Joins

set_option maxRecDepth 100000

theorem any_cells {w : World} {S : Nat → Prop} {v : Value} {es : List Ce} (h : CellsAt w S v es) : CellsAt w AnyB v es := h.kept (fun _ _ _ => rfl) (Nat.le_refl _) (fun _ _ _ => trivial)
theorem any_ints {w : World} {S : Nat → Prop} {v : Value} {zs : List Int} (h : IntsAt w S v zs) : IntsAt w AnyB v zs := h.kept (fun _ _ _ => rfl) (Nat.le_refl _) (fun _ _ _ => trivial)
/-- What was drawn, and what both collectors made of it. -/
structure StA (W : World) (hv rv gv lv wv tv : Value) (es : List Ce) (zs : List Int) : Prop where
  h : HpIs W hv es
  r : IntsAt W AnyB rv zs
  g : CellsAt W AnyB gv (collectC es zs)
  l : IntsAt W AnyB lv (collectR es zs)
  w : CellsAt W AnyB wv (collectC es zs)
  t : IntsAt W AnyB tv (collectR es zs)
theorem StA.below {W W' : World} {hv rv gv lv wv tv : Value} {es : List Ce} {zs : List Int} (h : StA W hv rv gv lv wv tv es zs) (hb : Below W.heap.size W W') : StA W' hv rv gv lv wv tv es zs :=
  ⟨h.h.below hb, h.r.below hb, h.g.below hb, h.l.below hb, h.w.below hb, h.t.below hb⟩
/-- What else was drawn. -/
structure StB (W : World) (fv av sv ov : Value) (fs bs os : List Ce) (ss : List Int) : Prop where
  f : HpIs W fv fs
  a : HpIs W av bs
  s : IntsAt W AnyB sv ss
  o : HpIs W ov os
theorem StB.below {W W' : World} {fv av sv ov : Value} {fs bs os : List Ce} {ss : List Int} (h : StB W fv av sv ov fs bs os ss) (hb : Below W.heap.size W W') : StB W' fv av sv ov fs bs os ss :=
  ⟨h.f.below hb, h.a.below hb, h.s.below hb, h.o.below hb⟩
theorem roots_in {es : List Ce} {zs : List Int} (hl : es.length ≤ 8) : ∀ z ∈ collectR es zs, inI64 z := by
  intro z hz
  obtain ⟨k, hk⟩ := List.getElem?_of_mem hz
  rw [collectR_at] at hk
  obtain ⟨y, hy, rfl⟩ := Option.map_eq_some_iff.1 hk
  rcases root_new (es := es) (rs := zs) (List.mem_of_getElem? hy) with ⟨_, h⟩ | ⟨q, _, hq, h⟩
  · rw [h]; unfold inI64; omega
  · rw [h]
    have h1 := hq.new_lt
    have h2 := collectC_le (es := es) (rs := zs)
    unfold inI64; omega
theorem aliveC_in (es : List Ce) (rs : List Int) (h : es.length ≤ 1048576) : ∀ z ∈ aliveOf es rs, inI64 z := by
  intro z hz
  unfold aliveOf at hz
  obtain ⟨k, hk, rfl⟩ := List.mem_map.1 hz
  have := List.mem_range.1 (List.mem_filter.1 hk).1
  unfold inI64
  omega
theorem bulk_le {l : List Ce} (h8 : l.length ≤ 8) (h : ∀ c ∈ l, c.kids.length ≤ 4) : bulkL l ≤ 40 := by
  have : ∀ l : List Ce, (∀ c ∈ l, c.kids.length ≤ 4) → (l.map Ce.bulk).sum ≤ l.length * 4 := by
    intro l
    induction l with
    | nil => intro _; simp
    | cons a l ih =>
      intro hl
      have h1 := ih (fun c hc => hl c (by simp [hc]))
      have h2 : a.bulk ≤ 4 := hl a (by simp)
      simp only [List.map_cons, List.sum_cons, List.length_cons]
      omega
  have h1 := this l h
  unfold bulkL preL
  rw [List.take_length]
  omega
theorem new_bulk {es : List Ce} {zs : List Int} (h8 : es.length ≤ 8) (h : ∀ c ∈ es, CeSmall 4 c) : bulkL (collectC es zs) ≤ 40 := by
  refine bulk_le (Nat.le_trans collectC_le h8) fun c hc => ?_
  obtain ⟨j, hj⟩ := List.getElem?_of_mem hc
  obtain ⟨i, d, -, hd, -, hn⟩ := new_from (es := es) (rs := zs) (List.getElem?_eq_some_iff.1 hj).1
  rw [hj] at hn
  cases hn
  rw [newCell_len]
  exact (h d (List.mem_of_getElem? hd)).2.2.2.1
theorem root_case {es : List Ce} {zs : List Int} (h3 : es.length ≤ 3000) (hok : heapOk es 20 = true) {n : Nat} {z : Int} (hz : zs[n]? = some z) :
    ∃ y, (collectR es zs)[n]? = some y ∧ inI64 y ∧ ((¬ (0 ≤ z ∧ z < es.length) ∧ y < 0) ∨ (0 ≤ z ∧ z < es.length ∧ 0 ≤ y ∧ alikeB es (collectC es zs) 4 z y = true)) := by
  have hmem := List.mem_of_getElem? hz
  refine ⟨newZ es zs z, by rw [collectR_at, hz]; rfl, ?_, ?_⟩
  · rcases root_new (es := es) (rs := zs) hmem with ⟨_, h⟩ | ⟨q, _, hq, h⟩
    · rw [h]; unfold inI64; omega
    · rw [h]
      have h1 := hq.new_lt
      have h2 := collectC_le (es := es) (rs := zs)
      unfold inI64; omega
  · rcases root_new (es := es) (rs := zs) hmem with ⟨h0, h⟩ | ⟨q, hs, hq, h⟩
    · exact .inl ⟨h0, by rw [h]; omega⟩
    · have hr := (shortZ_range (es := es) (z := z)).1 (by rw [hs]; have := hq.lt; omega)
      exact .inr ⟨hr.1, hr.2, by rw [h]; omega, by rw [h]; exact alike_new (heapOk_kids hok) (heapOk_one hok) 4 z q hs hq⟩
theorem bigC_any (a : Option Addr) (len cap : Nat) (w : World) :
    Calls Tryz.prog 4 #[.slice a len cap] w fun e w' => e = .returned (.bool (decide ((1048576 : Int) < (len : Int)))) ∧ w' = w := by
  go_enter Tryz.func4, Tryz.ntmps4
  go_wp2
  go_ret
  exact ⟨rfl, rfl⟩
theorem collR_len (es : List Ce) (zs : List Int) : (collectR es zs).length = zs.length := by
  have : ∀ k, (collectR es zs)[k]? = none ↔ zs[k]? = none := fun k => by rw [collectR_at, Option.map_eq_none_iff]
  rcases Nat.lt_trichotomy (collectR es zs).length zs.length with h | h | h
  · have := (this (collectR es zs).length).1 (by simp); rw [List.getElem?_eq_none_iff] at this; omega
  · exact h
  · have := (this zs.length).2 (by simp); rw [List.getElem?_eq_none_iff] at this; omega
theorem box_cells {W : World} {b : Nat} {v0 v1 v2 v3 : Value} {t : TypeId} (h : W.heap[b]? = some (.cells #[v0, v1, v2, v3] t)) : W.cell? ⟨b, 0, none⟩ = some v0 ∧ W.cell? ⟨b, 1, none⟩ = some v1 ∧ W.cell? ⟨b, 2, none⟩ = some v2 ∧ W.cell? ⟨b, 3, none⟩ = some v3 :=
  ⟨(cell_of_block h 0).trans rfl, (cell_of_block h 1).trans rfl, (cell_of_block h 2).trans rfl, (cell_of_block h 3).trans rfl⟩
/-- All that the law holds, at one world. -/
structure StC (w W : World) (hv rv gv lv wv tv fv av sv ov xv : Value) (xb : Nat) (xo : Obj) (es fs bs os : List Ce) (zs ss : List Int) (x : Ce) : Prop where
  a : StA W hv rv gv lv wv tv es zs
  b : StB W fv av sv ov fs bs os ss
  x : CeAt W AnyB xv x
  base : Below w.heap.size w W
  box : W.heap[xb]? = some xo
theorem CeAt.belowC {w w' : World} {S : Nat → Prop} {v : Value} {c : Ce} (h : CeAt w S v c) (hb : Below w.heap.size w w') : CeAt w' S v c := by
  obtain ⟨kv, hv, r1, r2, r3, hk⟩ := h
  exact ⟨kv, hv, r1, r2, r3, hk.below hb⟩
theorem StC.below {w W W' : World} {hv rv gv lv wv tv fv av sv ov xv : Value} {xb : Nat} {xo : Obj} {es fs bs os : List Ce} {zs ss : List Int} {x : Ce} (h : StC w W hv rv gv lv wv tv fv av sv ov xv xb xo es fs bs os zs ss x) (hb : Below W.heap.size W W') : StC w W' hv rv gv lv wv tv fv av sv ov xv xb xo es fs bs os zs ss x :=
  ⟨h.a.below hb, h.b.below hb, h.x.belowC hb, h.base.trans (hb.mono h.base.size), (hb.block xb (Array.getElem?_eq_some_iff.1 h.box).1).trans h.box⟩
end Go.Proofs.YtfhjkiimdkjhjaaGreatDoor
