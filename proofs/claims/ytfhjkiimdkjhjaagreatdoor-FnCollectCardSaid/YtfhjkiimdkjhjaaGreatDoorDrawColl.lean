/-
  The specification's draws of chapter 5, each whole: a small heap and what goes with it, in memory that was not there before.
-/
import Derived.Test.YtfhjkiimdkjhjaaGreatDoorDrawHeap
import Derived.Test.YtfhjkiimdkjhjaaGreatDoorCellsPure
namespace Go.Proofs.YtfhjkiimdkjhjaaGreatDoor
open Go.RowKit Go.Joins

set_option maxRecDepth 100000

def AnyB (_ : Nat) : Prop := True
theorem HpDr.at {m : Nat} {W : World} {B : Nat} {cv : Value} {rs : List (Ce × Value)} (h : HpDr m W B cv rs) : CellsAt W AnyB cv (rs.map Prod.fst) := by
  rcases h.cells.2 with ⟨rfl, h0⟩ | ⟨g, cap, cur, rfl, hb, hc, hn, hcm, hs, ht⟩
  · obtain rfl : rs = [] := List.length_eq_zero_iff.1 h0
    exact ⟨none, 0, rfl, Nat.zero_le _, fun i t h => by simp at h⟩
  · refine ⟨some ⟨g, 0, none⟩, cap, by simp, by simp; omega, fun i e he => ?_⟩
    rw [List.getElem?_map] at he
    obtain ⟨r, hr, rfl⟩ := Option.map_eq_some_iff.1 he
    have hil := (List.getElem?_eq_some_iff.1 hr).1
    have hsp : rs = rs.take i ++ r :: rs.drop (i + 1) := by
      conv => lhs; rw [← List.take_append_drop i rs, List.drop_eq_getElem_cons hil, (List.getElem?_eq_some_iff.1 hr).2]
    have hlt : (rs.take i).length = i := by rw [List.length_take]; omega
    have hcell : ∀ f u, (ceRow r)[f]? = some u → W.cell? ⟨g, i * 4 + f, none⟩ = some u := fun f u hu => by
      have := h.cell (f := f) hsp hu
      rw [hlt] at this
      exact this
    have hk := h.kids r (List.mem_of_getElem? hr)
    obtain ⟨⟨k1, k2⟩, ⟨k3, k4⟩, ⟨k5, k6⟩, -, -⟩ := hk.2
    refine ⟨g, 0, r.2, rfl, trivial, (Array.getElem?_eq_some_iff.1 hc).1, ?_, ?_, ?_, ?_, ⟨by omega, by omega⟩, ⟨by omega, by omega⟩, ⟨by omega, by omega⟩, hk.1.kept (fun _ _ _ => rfl) (Nat.le_refl _) (fun _ _ _ => trivial)⟩
    · rw [Nat.zero_add]; exact hcell 0 _ rfl
    · rw [Nat.zero_add]; exact hcell 1 _ rfl
    · rw [Nat.zero_add]; exact hcell 2 _ rfl
    · rw [Nat.zero_add]; exact hcell 3 _ rfl
/-- A drawn heap in memory: small. -/
structure HpIs (w : World) (v : Value) (es : List Ce) : Prop where
  at_ : CellsAt w AnyB v es
  len : es.length ≤ 8
  small : ∀ c ∈ es, CeSmall 4 c
theorem HpIs.below {w w' : World} {v : Value} {es : List Ce} (h : HpIs w v es) (hb : Below w.heap.size w w') : HpIs w' v es := ⟨h.at_.below hb, h.len, h.small⟩
theorem HpIs.bulk {w : World} {v : Value} {es : List Ce} (h : HpIs w v es) : bulkL es ≤ 40 := by
  have : ∀ l : List Ce, (∀ c ∈ l, CeSmall 4 c) → (l.map Ce.bulk).sum ≤ l.length * 4 := by
    intro l
    induction l with
    | nil => intro _; simp
    | cons a l ih =>
      intro hl
      have h1 := ih (fun c hc => hl c (by simp [hc]))
      have h2 : a.bulk ≤ 4 := (hl a (by simp)).2.2.2.1
      simp only [List.map_cons, List.sum_cons, List.length_cons]
      omega
  have h1 := this es h.small
  have h2 := h.len
  unfold bulkL preL
  rw [List.take_length]
  omega
theorem HpDr.is {w : World} {B : Nat} {v : Value} {rs : List (Ce × Value)} (h : HpDr 4 w B v rs) (hl : rs.length ≤ 8) : HpIs w v (rs.map Prod.fst) :=
  ⟨h.at, by simpa using hl, fun c hc => by
    obtain ⟨r, hr, rfl⟩ := List.mem_map.1 hc
    exact (h.kids r hr).2⟩
theorem below_grown {w w1 w2 : World} (hb : Below w.heap.size w w1) (hg : w1.grownBy w2 (some w.heap.size)) : Below w.heap.size w w2 :=
  Below.grown hb hg (fun k hk => by cases hk; exact Nat.le_refl _) hb.size
theorem own_any {w : World} {B : Nat} {v : Value} {zs : List Int} (h : w.ownsRow B 3 1 v zs.length (zs.map (fun z => Value.int .i64 z))) (hz : ∀ z ∈ zs, inI64 z) : IntsAt w AnyB v zs :=
  (ow_intsT h hz).kept (fun _ _ _ => rfl) (Nat.le_refl _) (fun _ _ _ => trivial)

theorem code_up {w w' : World} {V : Value} {len : Nat} (h : CodeIs w.heap.size w V len) (hb : Below w.heap.size w w') : CodeIs w'.heap.size w' V len := by
  obtain ⟨a, cap, hv, hl, hc⟩ := h
  refine ⟨a, cap, hv, hl, fun h0 => ?_⟩
  obtain ⟨b, off, ha, hb1, hcell⟩ := hc h0
  refine ⟨b, off, ha, Nat.lt_of_lt_of_le hb1 hb.size, fun j hj => ?_⟩
  obtain ⟨z, h1, h2, h3⟩ := hcell j hj
  exact ⟨z, h1, h2, (hb.cell (by exact hb1)).trans h3⟩

set_option maxHeartbeats 3200000 in
theorem drawCollect_any (V : Value) (len : Nat) (w : World) (hcode : CodeIs w.heap.size w V len) :
    Calls Tryz.prog 5 #[V] w fun e w' => ∃ (v rv : Value) (es : List Ce) (zs : List Int), e = .returned (.tuple #[v, rv]) ∧ HpIs w' v es ∧ IntsAt w' AnyB rv zs ∧ zs.length ≤ 3 ∧ (∀ z ∈ zs, -1 ≤ z ∧ z ≤ es.length) ∧ Below w.heap.size w w' := by
  go_enter Tryz.func5, Tryz.ntmps5
  go_wp2_with fail
  refine (new_dr V len w hcode).mono ?_
  rintro e w1 ⟨rfl, h1, b1⟩
  go_wp2_with fail
  refine (heap_dr _ _ V len w1 h1).mono ?_
  rintro e w2 ⟨v, rs, rfl, hl, H2, h2, g2⟩
  obtain ⟨a, c, rfl⟩ := own_form H2.cells
  have H := (show Hid (_ ∧ _ ∧ _ ∧ _ ∧ _) from ⟨H2, h2, g2, b1, h1.glt⟩)
  clear H2 h2 g2 b1 h1
  go_wp2_with (go_at_call 25; refine (roots_dr _ _ V len _ _ (by omega) (by omega) H.out.2.1).mono ?_; rintro e w3 ⟨rv, zs, rfl, hz, hr, ho, h3, g3⟩)
  go_ret2
  refine ⟨_, _, rs.map Prod.fst, zs, rfl, (H.out.1.grown g3 H.out.2.2.2.2).is hl, own_any ho (fun z hz => ⟨by have := hr z hz; omega, by have := hr z hz; omega⟩), hz, fun z hz => by simpa using hr z hz, below_grown H.out.2.2.2.1 (H.out.2.2.1.trans g3)⟩

set_option maxHeartbeats 3200000 in
theorem drawAlive_any (V : Value) (len : Nat) (w : World) (hcode : CodeIs w.heap.size w V len) :
    Calls Tryz.prog 9 #[V] w fun e w' => ∃ (v rv : Value) (es : List Ce) (zs : List Int), e = .returned (.tuple #[v, rv]) ∧ HpIs w' v es ∧ IntsAt w' AnyB rv zs ∧ zs.length ≤ 3 ∧ (∀ z ∈ zs, -1 ≤ z ∧ z ≤ es.length) ∧ Below w.heap.size w w' := by
  go_enter Tryz.func9, Tryz.ntmps9
  go_wp2_with fail
  refine (new_dr V len w hcode).mono ?_
  rintro e w1 ⟨rfl, h1, b1⟩
  go_wp2_with fail
  refine (heap_dr _ _ V len w1 h1).mono ?_
  rintro e w2 ⟨v, rs, rfl, hl, H2, h2, g2⟩
  obtain ⟨a, c, rfl⟩ := own_form H2.cells
  have H := (show Hid (_ ∧ _ ∧ _ ∧ _ ∧ _) from ⟨H2, h2, g2, b1, h1.glt⟩)
  clear H2 h2 g2 b1 h1
  go_wp2_with (go_at_call 25; refine (roots_dr _ _ V len _ _ (by omega) (by omega) H.out.2.1).mono ?_; rintro e w3 ⟨rv, zs, rfl, hz, hr, ho, h3, g3⟩)
  go_ret2
  refine ⟨_, _, rs.map Prod.fst, zs, rfl, (H.out.1.grown g3 H.out.2.2.2.2).is hl, own_any ho (fun z hz => ⟨by have := hr z hz; omega, by have := hr z hz; omega⟩), hz, fun z hz => by simpa using hr z hz, below_grown H.out.2.2.2.1 (H.out.2.2.1.trans g3)⟩

set_option maxHeartbeats 3200000 in
theorem drawFollow_any (V : Value) (len : Nat) (w : World) (hcode : CodeIs w.heap.size w V len) :
    Calls Tryz.prog 8 #[V] w fun e w' => ∃ (v : Value) (es : List Ce) (i : Int), e = .returned (.tuple #[v, .int .i64 i]) ∧ HpIs w' v es ∧ -1 ≤ i ∧ i ≤ 10 ∧ Below w.heap.size w w' := by
  go_enter Tryz.func8, Tryz.ntmps8
  go_wp2_with fail
  refine (new_dr V len w hcode).mono ?_
  rintro e w1 ⟨rfl, h1, b1⟩
  go_wp2_with fail
  refine (heap_dr _ _ V len w1 h1).mono ?_
  rintro e w2 ⟨v, rs, rfl, hl, H2, h2, g2⟩
  obtain ⟨a, c, rfl⟩ := own_form H2.cells
  have H := (show Hid (_ ∧ _ ∧ _ ∧ _ ∧ _) from ⟨H2, h2, g2, b1, h1.glt⟩)
  clear H2 h2 g2 b1 h1
  go_wp2_with (go_at_call 34; refine (below_dr _ _ V len _ _ (by omega) (by omega) H.out.2.1).mono ?_; rintro e w3 ⟨x, rfl, x0, x1, h3, g3⟩)
  go_ret2
  refine ⟨_, rs.map Prod.fst, _, rfl, (H.out.1.grown g3 H.out.2.2.2.2).is hl, by omega, by omega, below_grown H.out.2.2.2.1 (H.out.2.2.1.trans g3)⟩

set_option maxHeartbeats 3200000 in
theorem drawHeapOk_any (V : Value) (len : Nat) (w : World) (hcode : CodeIs w.heap.size w V len) :
    Calls Tryz.prog 10 #[V] w fun e w' => ∃ (v : Value) (es : List Ce) (i : Int), e = .returned (.tuple #[v, .int .i64 i]) ∧ HpIs w' v es ∧ Below w.heap.size w w' := by
  go_enter Tryz.func10, Tryz.ntmps10
  go_wp2_with fail
  refine (new_dr V len w hcode).mono ?_
  rintro e w1 ⟨rfl, h1, b1⟩
  go_wp2_with fail
  refine (heap_dr _ _ V len w1 h1).mono ?_
  rintro e w2 ⟨v, rs, rfl, hl, H2, h2, g2⟩
  obtain ⟨a, c, rfl⟩ := own_form H2.cells
  have H := (show Hid (_ ∧ _ ∧ _ ∧ _ ∧ _) from ⟨H2, h2, g2, b1, h1.glt⟩)
  have hgw := h1.glt
  have hs2 := g2.size
  clear H2 h2 g2 b1 h1
  go_wp2_with (go_at_call 35; refine (pickInt_dr _ _ V len _ 4 4 [20, 20, 20, 5] _ (by decide) (by decide) rfl (by omega) (ints_lit [20, 20, 20, 5] w2) (H.out.2.1.alloc _)).mono ?_; rintro e w3 ⟨x, rfl, hx, h3, g3⟩)
  go_ret2
  have G3 := (World.grownBy_alloc w2 (.cells #[.int .i64 20, .int .i64 20, .int .i64 20, .int .i64 5] 3) (some w.heap.size)).trans g3
  refine ⟨_, rs.map Prod.fst, _, rfl, (H.out.1.grown G3 H.out.2.2.2.2).is hl, below_grown H.out.2.2.2.1 (H.out.2.2.1.trans G3)⟩

set_option maxHeartbeats 3200000 in
theorem drawCellText_any (V : Value) (len : Nat) (w : World) (hcode : CodeIs w.heap.size w V len) :
    Calls Tryz.prog 11 #[V] w fun e w' => ∃ (v : Value) (c : Ce), e = .returned v ∧ CeAt w' AnyB v c ∧ c.kids.length ≤ 4 ∧ Below w.heap.size w w' := by
  have hbA : Below w.heap.size w (w.alloc (.cells #[.int .i64 0, .int .i64 0, .int .i64 0, .slice none 0 0] 32)) := (Below.refl _ w).alloc (Nat.le_refl _) _
  have hcA : CodeIs (w.alloc (.cells #[.int .i64 0, .int .i64 0, .int .i64 0, .slice none 0 0] 32)).heap.size (w.alloc (.cells #[.int .i64 0, .int .i64 0, .int .i64 0, .slice none 0 0] 32)) V len := code_up hcode hbA
  have hsA : (w.alloc (.cells #[.int .i64 0, .int .i64 0, .int .i64 0, .slice none 0 0] 32)).heap.size = w.heap.size + 1 := by simp
  have hoA : (w.alloc (.cells #[.int .i64 0, .int .i64 0, .int .i64 0, .slice none 0 0] 32)).heap[w.heap.size]? = some (.cells #[.int .i64 0, .int .i64 0, .int .i64 0, .slice none 0 0] 32) := (MapKept.heap_alloc w _).1
  have HA := (show Hid (_ ∧ _ ∧ _ ∧ _) from ⟨hbA, hcA, hoA, hsA⟩)
  clear hbA hcA hoA hcode hsA
  go_enter Tryz.func11, Tryz.ntmps11
  go_wp2_with fail
  generalize w.alloc (.cells #[.int .i64 0, .int .i64 0, .int .i64 0, .slice none 0 0] 32) = wA at *
  refine (new_dr V len wA HA.out.2.1).mono ?_
  rintro e w1 ⟨rfl, h1, b1⟩
  go_wp2_with fail
  refine (heap_dr _ _ V len w1 h1).mono ?_
  rintro e w2 ⟨v, rs, rfl, hl, H2, h2, g2⟩
  obtain ⟨a, c, rfl⟩ := own_form H2.cells
  have H := (show Hid (_ ∧ _ ∧ _ ∧ _ ∧ _) from ⟨H2, h2, g2, b1, h1.glt⟩)
  have hoB : w2.heap[w.heap.size]? = some (.cells #[.int .i64 0, .int .i64 0, .int .i64 0, .slice none 0 0] 32) := ((below_grown b1 g2).block _ (by have := HA.out.2.2.2; omega)).trans HA.out.2.2.1
  have hbT : Below w.heap.size w w2 := HA.out.1.trans ((below_grown b1 g2).mono (by have := HA.out.2.2.2; omega))
  have HT := (show Hid (_ ∧ _) from ⟨hbT, hoB⟩)
  clear H2 h2 g2 b1 h1 hoB hbT
  have z0 : w2.cell? ⟨w.heap.size, 0, none⟩ = some (.int .i64 0) := by rw [cell_of_block HT.out.2]; rfl
  have z1 : w2.cell? ⟨w.heap.size, 1, none⟩ = some (.int .i64 0) := by rw [cell_of_block HT.out.2]; rfl
  have z2 : w2.cell? ⟨w.heap.size, 2, none⟩ = some (.int .i64 0) := by rw [cell_of_block HT.out.2]; rfl
  have z3 : w2.cell? ⟨w.heap.size, 3, none⟩ = some (.slice none 0 0) := by rw [cell_of_block HT.out.2]; rfl
  have f0 : w2.frozen? ⟨w.heap.size, 0, none⟩ = false := unfrozen_of_block HT.out.2 0
  have f1 : w2.frozen? ⟨w.heap.size, 1, none⟩ = false := unfrozen_of_block HT.out.2 1
  have f2 : w2.frozen? ⟨w.heap.size, 2, none⟩ = false := unfrozen_of_block HT.out.2 2
  have f3 : w2.frozen? ⟨w.heap.size, 3, none⟩ = false := unfrozen_of_block HT.out.2 3
  by_cases h0 : rs.length = 0
  · have h0' : ((rs.length : Nat) : Int) = 0 := by omega
    go_wp2_with (go_at_call 34; refine (below_dr _ _ V len _ _ (by omega) (by omega) H.out.2.1).mono ?_; rintro e w3 ⟨x, rfl, x0, x1, h3, g3⟩; have hoC := (g3.block w.heap.size (by have := HT.out.1.size; have := H.out.2.1.2.2; have := HA.out.2.2.2; omega) (by have := HA.out.2.2.2; simp; omega)).trans HT.out.2; clear z0 z1 z2 z3 f0 f1 f2 f3; have z0 : w3.cell? ⟨w.heap.size, 0, none⟩ = some (.int .i64 0) := (by rw [cell_of_block hoC]; rfl); have z1 : w3.cell? ⟨w.heap.size, 1, none⟩ = some (.int .i64 0) := (by rw [cell_of_block hoC]; rfl); have z2 : w3.cell? ⟨w.heap.size, 2, none⟩ = some (.int .i64 0) := (by rw [cell_of_block hoC]; rfl); have z3 : w3.cell? ⟨w.heap.size, 3, none⟩ = some (.slice none 0 0) := (by rw [cell_of_block hoC]; rfl); have f0 : w3.frozen? ⟨w.heap.size, 0, none⟩ = false := unfrozen_of_block hoC 0; have f1 : w3.frozen? ⟨w.heap.size, 1, none⟩ = false := unfrozen_of_block hoC 1; have f2 : w3.frozen? ⟨w.heap.size, 2, none⟩ = false := unfrozen_of_block hoC 2; have f3 : w3.frozen? ⟨w.heap.size, 3, none⟩ = false := unfrozen_of_block hoC 3; have HC := (show Hid (_ ∧ True) from ⟨hoC, trivial⟩); clear hoC)
    have hB : Below w.heap.size w w3 := HT.out.1.trans ((below_grown (w := wA) H.out.2.2.2.1 (H.out.2.2.1.trans g3)) |> fun hb => ⟨g3.os, g3.tape, g3.output, g3.size, fun k hk => g3.block k (by have := HT.out.1.size; omega) (by have := HA.out.2.2.2; simp; omega)⟩)
    refine bodyPost_ret (v := .agg #[.int .i64 (x - 1), .int .i64 0, .int .i64 0, .slice none 0 0]) (by simp [results, Tryz.results11, go_sem, z0, z1, z2, z3]) rfl ⟨_, ⟨x - 1, 0, 0, []⟩, rfl, ⟨_, rfl, ⟨by show _ ≤ x - 1; omega, by show x - 1 ≤ _; omega⟩, (show inI64 0 by unfold inI64; omega), (show inI64 0 by unfold inI64; omega), ⟨none, 0, rfl, by unfold maxLen; simp, fun i t h => by simp at h⟩⟩, by simp, ?_⟩
    exact (((hB.setCell (p := ⟨w.heap.size, 0, none⟩) (by simp) _).setCell (p := ⟨w.heap.size, 1, none⟩) (by simp) _).setCell (p := ⟨w.heap.size, 2, none⟩) (by simp) _).setCell (p := ⟨w.heap.size, 3, none⟩) (by simp) _
  · cases rs with
    | nil => exact absurd rfl h0
    | cons r rs' =>
    have h0' : ¬ (((r :: rs').length : Nat) : Int) = 0 := by omega
    rcases H.out.1.cells.2 with ⟨hv, hz⟩ | ⟨q, cap, cur, hv, -, hc, hn, -⟩
    · simp at hz
    have hq : a = some ⟨q, 0, none⟩ := by simp at hv; exact hv.1
    subst hq
    have hcell : ∀ f u, (ceRow r)[f]? = some u → w2.cell? ⟨q, f, none⟩ = some u := fun f u hu => by
      have := H.out.1.cell (f := f) (A := []) (D := rs') rfl hu
      simpa using this
    have c0 := hcell 0 _ rfl
    have c1 := hcell 1 _ rfl
    have c2 := hcell 2 _ rfl
    have c3 := hcell 3 _ rfl
    obtain ⟨hk, hsm⟩ := H.out.1.kids r (by simp)
    obtain ⟨x, kv⟩ := r
    simp only at c0 c1 c2 c3 hk hsm
    obtain ⟨ka, kc, rfl⟩ := hk.form
    have HK := (show Hid (_ ∧ _) from ⟨hk, hsm⟩)
    clear hk hsm hcell hv hc hn
    go_wp2
    refine bodyPost_ret (v := .agg #[.int .i64 x.kind, .int .i64 x.n, .int .i64 x.pos, .slice ka x.kids.length kc]) (by simp [results, Tryz.results11, go_sem, z0, z1, z2, z3]) rfl ?_
    obtain ⟨⟨k1, k2⟩, ⟨k3, k4⟩, ⟨k5, k6⟩, k7, -⟩ := HK.out.2
    refine ⟨_, x, rfl, ⟨_, rfl, ⟨by omega, by omega⟩, ⟨by omega, by omega⟩, ⟨by omega, by omega⟩, ?_⟩, k7, ?_⟩
    · refine HK.out.1.kept (fun b hb1 hb2 => ?_) (by simp) (fun _ _ _ => trivial)
      have hge : w.heap.size + 1 ≤ b := by have := HA.out.2.2.2; have := H.out.2.2.2.1.size; have := hb1.1; omega
      have e1 : ∀ (j : Nat) (u : Value) (W : World), (W.setCell ⟨w.heap.size, j, none⟩ u).heap[b]? = W.heap[b]? := fun j u W => Below.heap_setCell W _ u b (by simp; omega)
      rw [e1, e1, e1, e1]
    · exact (((HT.out.1.setCell (p := ⟨w.heap.size, 0, none⟩) (by simp) _).setCell (p := ⟨w.heap.size, 1, none⟩) (by simp) _).setCell (p := ⟨w.heap.size, 2, none⟩) (by simp) _).setCell (p := ⟨w.heap.size, 3, none⟩) (by simp) _
end Go.Proofs.YtfhjkiimdkjhjaaGreatDoor
