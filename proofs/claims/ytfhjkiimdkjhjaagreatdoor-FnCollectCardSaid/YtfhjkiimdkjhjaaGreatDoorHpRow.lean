/-
  A heap that a call makes: no two of its rows share memory; its marking, and the look whether the marks still stand.
-/
import Derived.Test.YtfhjkiimdkjhjaaGreatDoorCellsAt
import Derived.Test.YtfhjkiimdkjhjaaGreatDoorOwnRow
namespace Go.Proofs.YtfhjkiimdkjhjaaGreatDoor
open Go.RowKit Go.Joins

set_option maxRecDepth 100000

def ceCells (r : Ce × Value) : List Value := [.int .i64 r.1.kind, .int .i64 r.1.n, .int .i64 r.1.pos, r.2]
def CeOk (c : Ce) : Prop := inI64 c.kind ∧ inI64 c.n ∧ inI64 c.pos ∧ ∀ z ∈ c.kids, inI64 z
structure HpAt (W : World) (B : Nat) (cv : Value) (rs : List (Ce × Value)) : Prop where
  cells : W.ownsRow B 32 4 cv rs.length (rs.flatMap ceCells)
  kids : ∀ r ∈ rs, W.ownsRow B 3 1 r.2 r.1.kids.length (intVs r.1.kids) ∧ CeOk r.1
  apart : (rs.map Prod.snd).Pairwise AptV
/-- The blocks of such a heap. -/
def HpOwn (cv : Value) (rs : List (Ce × Value)) (b : Nat) : Prop := cv.ownBlock = some b ∨ ∃ r ∈ rs, r.2.ownBlock = some b
/-- Whatever lies in no such block lies as it lay. -/
structure OutsP (P : Nat → Prop) (w w' : World) : Prop where
  os : w'.os = w.os
  tape : w'.tape = w.tape
  output : w'.output = w.output
  size : w.heap.size ≤ w'.heap.size
  out : ∀ k, k < w.heap.size → ¬ P k → w'.heap[k]? = w.heap[k]?
theorem OutsP.refl (P : Nat → Prop) (w : World) : OutsP P w w := ⟨rfl, rfl, rfl, Nat.le_refl _, fun _ _ _ => rfl⟩
theorem OutsP.trans {P : Nat → Prop} {a b c : World} (h : OutsP P a b) (k : OutsP P b c) : OutsP P a c :=
  ⟨k.os.trans h.os, k.tape.trans h.tape, k.output.trans h.output, Nat.le_trans h.size k.size, fun q hq hn => (k.out q (Nat.lt_of_lt_of_le hq h.size) hn).trans (h.out q hq hn)⟩
theorem OutsP.set {P : Nat → Prop} (w : World) (b o : Nat) (h : P b) (u : Value) : OutsP P w (w.setCell ⟨b, o, none⟩ u) :=
  ⟨rfl, rfl, rfl, by simp, fun k _ hn => Below.heap_setCell _ _ _ _ (fun e => hn (by have e' : k = b := e; rw [e']; exact h))⟩
theorem OutsP.of_grown {P : Nat → Prop} {w w' : World} {row : Option Nat} (h : w.grownBy w' row) (hr : ∀ g, row = some g → P g) : OutsP P w w' :=
  ⟨h.os, h.tape, h.output, h.size, fun k hk hn => h.block k hk (fun e => hn (hr k e.symm))⟩
theorem OutsP.mono {P Q : Nat → Prop} {w w' : World} (h : OutsP P w w') (hq : ∀ b, P b → Q b) : OutsP Q w w' :=
  ⟨h.os, h.tape, h.output, h.size, fun k hk hn => h.out k hk (fun hp => hn (hq k hp))⟩

theorem HpAt.moved {W W' : World} {B : Nat} {cv : Value} {rs : List (Ce × Value)} (h : HpAt W B cv rs) (hb : ∀ b, HpOwn cv rs b → W'.heap[b]? = W.heap[b]?) : HpAt W' B cv rs :=
  ⟨own_moved h.cells (fun g hg => hb g (.inl hg)), fun r hr => ⟨own_moved (h.kids r hr).1 (fun g hg => hb g (.inr ⟨r, hr, hg⟩)), (h.kids r hr).2⟩, h.apart⟩
theorem HpAt.own {W : World} {B : Nat} {cv : Value} {rs : List (Ce × Value)} (h : HpAt W B cv rs) {b : Nat} (hb : HpOwn cv rs b) : B ≤ b ∧ b < W.heap.size := by
  rcases hb with hb | ⟨r, hr, hb⟩
  · exact ⟨(own_type h.cells b hb).1, own_lt h.cells b hb⟩
  · exact ⟨(own_type (h.kids r hr).1 b hb).1, own_lt (h.kids r hr).1 b hb⟩
theorem HpAt.below {W W' : World} {B : Nat} {cv : Value} {rs : List (Ce × Value)} (h : HpAt W B cv rs) (hb : Below W.heap.size W W') : HpAt W' B cv rs :=
  h.moved (fun b ho => hb.block b (h.own ho).2)
theorem HpAt.outs {W W' : World} {B : Nat} {cv : Value} {rs : List (Ce × Value)} {P : Nat → Prop} (h : HpAt W B cv rs) (hb : OutsP P W W') (hp : ∀ b, HpOwn cv rs b → ¬ P b) : HpAt W' B cv rs :=
  h.moved (fun b ho => hb.out b (h.own ho).2 (hp b ho))
theorem ce_len (rs : List (Ce × Value)) : (rs.flatMap ceCells).length = rs.length * 4 := by
  induction rs with
  | nil => rfl
  | cons a r ih => rw [List.flatMap_cons, List.length_append, ih, List.length_cons]; simp [ceCells]; omega
theorem ce_mid (A D : List (Ce × Value)) (c : Ce) (u : Value) (i : Nat) (hi : i < 4) : ((A ++ (c, u) :: D).flatMap ceCells)[A.length * 4 + i]? = (ceCells (c, u))[i]? := by
  rw [List.flatMap_append, List.flatMap_cons, List.getElem?_append_right (by rw [ce_len]; omega), ce_len, show A.length * 4 + i - A.length * 4 = i by omega, List.getElem?_append_left (by simp [ceCells]; omega)]
theorem ce_set (A D : List (Ce × Value)) (c c' : Ce) (u v : Value) (i : Nat) (hi : i < 4) (h : (ceCells (c, u)).set i v = ceCells (c', u)) : ((A ++ (c, u) :: D).flatMap ceCells).set (A.length * 4 + i) v = (A ++ (c', u) :: D).flatMap ceCells := by
  rw [List.flatMap_append, List.flatMap_append, List.flatMap_cons, List.flatMap_cons, List.set_append_right _ _ (by rw [ce_len]; omega), ce_len, show A.length * 4 + i - A.length * 4 = i by omega, List.set_append_left _ _ (by simp [ceCells]; omega), h]
/-- Such a heap is a row of cells in memory. -/
theorem HpAt.at {W : World} {B : Nat} {cv : Value} {rs : List (Ce × Value)} (h : HpAt W B cv rs) : CellsAt W (fun b => B ≤ b ∧ Pl W b) cv (rs.map Prod.fst) := by
  have hints : ∀ (v : Value) (zs : List Int), W.ownsRow B 3 1 v zs.length (intVs zs) → (∀ z ∈ zs, inI64 z) → IntsAt W (fun b => B ≤ b ∧ Pl W b) v zs := by
    intro v zs h hz
    rcases h.2 with ⟨rfl, h0⟩ | ⟨g, cap, cur, rfl, hb, hc, hn, hcm, hs, ht⟩
    · obtain rfl : zs = [] := List.length_eq_zero_iff.1 h0
      exact ⟨none, 0, rfl, Nat.zero_le _, fun i t h => by simp at h⟩
    · refine ⟨_, _, rfl, Nat.le_trans hn hcm, fun i z hi => ⟨g, 0, rfl, ⟨hb, cur, _, hc⟩, (Array.getElem?_eq_some_iff.1 hc).1, ?_, hz z (List.mem_of_getElem? hi)⟩⟩
      have := h.cells (g := g) rfl i (.int .i64 z) (by rw [List.getElem?_map, hi]; rfl)
      rw [addr_addI] at this
      exact this
  rcases h.cells.2 with ⟨rfl, h0⟩ | ⟨g, cap, cur, rfl, hb, hc, hn, hcm, hs, ht⟩
  · obtain rfl : rs = [] := List.length_eq_zero_iff.1 h0
    exact ⟨none, 0, rfl, Nat.zero_le _, fun i t h => by simp at h⟩
  · refine ⟨some ⟨g, 0, none⟩, cap, by simp, by simp; omega, fun i e he => ?_⟩
    rw [List.getElem?_map] at he
    obtain ⟨r, hr, rfl⟩ := Option.map_eq_some_iff.1 he
    have hil := (List.getElem?_eq_some_iff.1 hr).1
    have hsp : rs = rs.take i ++ (r.1, r.2) :: rs.drop (i + 1) := by
      conv => lhs; rw [← List.take_append_drop i rs, List.drop_eq_getElem_cons hil, (List.getElem?_eq_some_iff.1 hr).2]
    have hlt : (rs.take i).length = i := by rw [List.length_take]; omega
    have hcell : ∀ j v, j < 4 → (ceCells (r.1, r.2))[j]? = some v → W.cell? ⟨g, i * 4 + j, none⟩ = some v := fun j v hj hv => by
      have := h.cells.cells (g := g) rfl (i * 4 + j) v (by
        have := ce_mid (rs.take i) (rs.drop (i + 1)) r.1 r.2 j hj
        rw [hlt, ← hsp] at this
        exact this.trans hv)
      rw [addr_addI, Nat.zero_add] at this
      exact this
    have hk := h.kids r (List.mem_of_getElem? hr)
    refine ⟨g, 0, r.2, rfl, ⟨hb, cur, _, hc⟩, (Array.getElem?_eq_some_iff.1 hc).1, ?_, ?_, ?_, ?_, hk.2.1, hk.2.2.1, hk.2.2.2.1, hints r.2 r.1.kids hk.1 hk.2.2.2.2⟩
    · rw [Nat.zero_add]; exact hcell 0 _ (by omega) rfl
    · rw [Nat.zero_add]; exact hcell 1 _ (by omega) rfl
    · rw [Nat.zero_add]; exact hcell 2 _ (by omega) rfl
    · rw [Nat.zero_add]; exact hcell 3 _ (by omega) rfl

/-- A field of a cell is set. -/
theorem HpAt.field {W : World} {B g cap n i : Nat} {u v : Value} {A D : List (Ce × Value)} {c c' : Ce} (h : HpAt W B (.slice (some ⟨g, 0, none⟩) n cap) (A ++ (c, u) :: D)) (hn : n = (A ++ (c, u) :: D).length)
    (hi : i < 4) (hs : (ceCells (c, u)).set i v = ceCells (c', u)) (hok : CeOk c') (hk : c'.kids = c.kids) : HpAt (W.setCell ⟨g, A.length * 4 + i, none⟩ v) B (.slice (some ⟨g, 0, none⟩) n cap) (A ++ (c', u) :: D) := by
  have hcod := h.cells
  rw [← hn] at hcod
  have hst := hcod.stored (A.length * 4 + i) v
  have hint : ∀ (m : Nat) (v' : Value) (xs : List Value), W.ownsRow B 3 1 v' m xs → (W.setCell ⟨g, A.length * 4 + i, none⟩ v).ownsRow B 3 1 v' m xs := fun m v' xs ho =>
    own_moved ho (fun k hk => Below.heap_setCell _ _ _ _ (fun e => own_ne ho hcod (by decide) k hk (congrArg some e)))
  refine ⟨?_, fun r hr => ?_, ?_⟩
  · have := hst.1
    rw [ce_set A D c c' u v i hi hs, hn] at this
    rw [show (A ++ (c', u) :: D).length = (A ++ (c, u) :: D).length by simp, hn]
    exact this
  · rw [List.mem_append, List.mem_cons] at hr
    rcases hr with hr | rfl | hr
    · have := h.kids r (by simp [hr])
      exact ⟨hint _ _ _ this.1, this.2⟩
    · have := h.kids (c, u) (by simp)
      refine ⟨hint _ _ _ ?_, hok⟩
      show W.ownsRow B 3 1 u c'.kids.length (intVs c'.kids)
      rw [hk]
      exact this.1
    · have := h.kids r (by simp [hr])
      exact ⟨hint _ _ _ this.1, this.2⟩
  · have := h.apart
    simpa using this
/-- A cell more. -/
theorem HpAt.push {W W' : World} {B : Nat} {cv cv' kv : Value} {rs : List (Ce × Value)} {x : Ce} (h : HpAt W B cv rs)
    (hown : W'.ownsRow B 32 4 cv' (rs.length + 1) (rs.flatMap ceCells ++ ceCells (x, kv))) (hg : W.grownBy W' cv.ownBlock) (hx : W.ownsRow B 3 1 kv x.kids.length (intVs x.kids)) (hok : CeOk x) (hap : ∀ r ∈ rs, AptV r.2 kv) : HpAt W' B cv' (rs ++ [(x, kv)]) := by
  have hi : ∀ (n : Nat) (v : Value) (xs : List Value), W.ownsRow B 3 1 v n xs → W'.ownsRow B 3 1 v n xs := fun n v xs ho =>
    own_moved ho (fun g hgo => hg.block g (own_lt ho g hgo) (own_ne ho h.cells (by decide) g hgo))
  refine ⟨?_, fun r hr => ?_, ?_⟩
  · rw [List.length_append, List.flatMap_append]
    simpa using hown
  · rw [List.mem_append, List.mem_singleton] at hr
    rcases hr with hr | rfl
    · exact ⟨hi _ _ _ (h.kids r hr).1, (h.kids r hr).2⟩
    · exact ⟨hi _ _ _ hx, hok⟩
  · rw [List.map_append, List.pairwise_append]
    refine ⟨h.apart, by simp, fun u hu v hv => ?_⟩
    obtain ⟨r, hr, rfl⟩ := List.mem_map.1 hu
    simp at hv
    subst hv
    exact hap r hr
/-- A store elsewhere. -/
theorem HpAt.store {W : World} {B : Nat} {cv : Value} {rs : List (Ce × Value)} (h : HpAt W B cv rs) {b off : Nat} (hb : ¬ HpOwn cv rs b) (u : Value) : HpAt (W.setCell ⟨b, off, none⟩ u) B cv rs :=
  h.moved (fun k hk => Below.heap_setCell _ _ _ _ (fun e => hb (by have e' : k = b := e; rw [← e']; exact hk)))
theorem HpAt.alloc {W : World} {B : Nat} {cv : Value} {rs : List (Ce × Value)} (h : HpAt W B cv rs) (o : Obj) : HpAt (W.alloc o) B cv rs :=
  h.moved (fun _ hk => Below.heap_alloc _ _ _ (h.own hk).2)
/-- The kids of a cell are written over. -/
theorem HpAt.ints {W W' : World} {B : Nat} {cv u : Value} {A D : List (Ce × Value)} {ks : List Int} {c : Ce} (h : HpAt W B cv (A ++ (c, u) :: D))
    (hown : W'.ownsRow B 3 1 u c.kids.length (intVs ks)) (hks : ks.length = c.kids.length) (hin : ∀ z ∈ ks, inI64 z) (hg : W.grownBy W' u.ownBlock) : HpAt W' B cv (A ++ ({ c with kids := ks }, u) :: D) := by
  have hu := (h.kids (c, u) (by simp)).1
  have hap2 := h.apart
  rw [List.map_append, List.map_cons, List.pairwise_append] at hap2
  have hcons := List.pairwise_cons.1 hap2.2.1
  refine ⟨?_, fun r hr => ?_, ?_⟩
  · have := own_moved (W' := W') h.cells (fun k hk => hg.block k (own_lt h.cells k hk) (own_ne h.cells hu (by decide) k hk))
    simpa [ceCells] using this
  · rw [List.mem_append, List.mem_cons] at hr
    rcases hr with hr | rfl | hr
    · have := h.kids r (by simp [hr])
      exact ⟨own_kept this.1 hg (hap2.2.2 r.2 (List.mem_map.2 ⟨r, hr, rfl⟩) u (by simp)), this.2⟩
    · have hk := (h.kids (c, u) (by simp)).2
      refine ⟨?_, hk.1, hk.2.1, hk.2.2.1, hin⟩
      show W'.ownsRow B 3 1 u ks.length (intVs ks)
      rw [hks]
      exact hown
    · have := h.kids r (by simp [hr])
      exact ⟨own_kept this.1 hg (hcons.1 r.2 (List.mem_map.2 ⟨r, hr, rfl⟩)).symm, this.2⟩
  · have := h.apart
    simpa using this
end Go.Proofs.YtfhjkiimdkjhjaaGreatDoor
