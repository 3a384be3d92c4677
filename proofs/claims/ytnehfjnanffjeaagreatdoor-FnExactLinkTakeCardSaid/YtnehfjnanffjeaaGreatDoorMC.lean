/-
  What a call leaves as it was, but for some blocks.
  Links of a call's own: rows that share nothing.
  Links: two that are alike.
  Copies of links' rows, as rows of a call's own that share nothing.
-/
import Derived.Test.YtnehfjnanffjeaaGreatDoorMA
import Derived.Below
import Derived.Test.YtnehfjnanffjeaaGreatDoorMB
import Derived.Test.YtnehfjnanffjeaaGreatDoorLinkEqS
import Derived.Test.YtnehfjnanffjeaaGreatDoorLinkOne
namespace Go.Proofs.YtnehfjnanffjeaaGreatDoor
open Go.RowKit

/-- Blocks outside X are as they were. -/
structure KB (X : Nat → Prop) (w w' : World) : Prop where
  os : w'.os = w.os
  tape : w'.tape = w.tape
  output : w'.output = w.output
  size : w.heap.size ≤ w'.heap.size
  block : ∀ k, k < w.heap.size → ¬ X k → w'.heap[k]? = w.heap[k]?
theorem KB.refl (X : Nat → Prop) (w : World) : KB X w w := ⟨rfl, rfl, rfl, Nat.le_refl _, fun _ _ _ => rfl⟩
theorem KB.trans {X : Nat → Prop} {a b c : World} (h : KB X a b) (k : KB X b c) : KB X a c :=
  ⟨k.os.trans h.os, k.tape.trans h.tape, k.output.trans h.output, Nat.le_trans h.size k.size, fun i hi hx => (k.block i (Nat.lt_of_lt_of_le hi h.size) hx).trans (h.block i hi hx)⟩
theorem KB.more {X Y : Nat → Prop} {a b : World} (h : KB X a b) (hs : ∀ k, k < a.heap.size → X k → Y k) : KB Y a b :=
  ⟨h.os, h.tape, h.output, h.size, fun i hi hy => h.block i hi (fun hx => hy (hs i hi hx))⟩
theorem KB.of_below {X : Nat → Prop} {w w' : World} (h : Below w.heap.size w w') : KB X w w' := ⟨h.os, h.tape, h.output, h.size, fun k hk _ => h.block k hk⟩
theorem KB.setCell {X : Nat → Prop} {a w : World} (h : KB X a w) {p : Addr} (hp : X p.block) (u : Value) : KB X a (w.setCell p u) := by
  have hb : Below 0 w (w.setCell p u) := (Below.refl 0 w).setCell (Nat.zero_le _) u
  refine ⟨hb.os.trans h.os, hb.tape.trans h.tape, hb.output.trans h.output, Nat.le_trans h.size hb.size, fun k hk hx => ?_⟩
  have hne : k ≠ p.block := fun e => hx (by rw [e]; exact hp)
  rw [Below.heap_setCell w p u k hne]
  exact h.block k hk hx
theorem KB.below {X : Nat → Prop} {w w' : World} {B : Nat} (h : KB X w w') (hX : ∀ k, X k → B ≤ k) (hB : B ≤ w.heap.size) : Below B w w' :=
  ⟨h.os, h.tape, h.output, h.size, fun k hk => h.block k (Nat.lt_of_lt_of_le hk hB) (fun hx => by have := hX k hx; omega)⟩
theorem KB.heap {X : Nat → Prop} {w w' : World} {b : Nat} {o : Obj} (h : KB X w w') (hb : w.heap[b]? = some o) (hx : ¬ X b) : w'.heap[b]? = some o :=
  (h.block b (Array.getElem?_eq_some_iff.1 hb).1 hx).trans hb
theorem KB.grown {X : Nat → Prop} {a w w' : World} {row : Option Nat} (h : KB X a w) (hg : w.grownBy w' row) (hr : ∀ k, row = some k → a.heap.size ≤ k) : KB X a w' :=
  ⟨hg.os.trans h.os, hg.tape.trans h.tape, hg.output.trans h.output, Nat.le_trans h.size hg.size, fun k hk hx =>
    (hg.block k (Nat.lt_of_lt_of_le hk h.size) (fun e => by have := hr k e.symm; omega)).trans (h.block k hk hx)⟩
theorem lt_heap {w : World} {b : Nat} {o : Obj} (h : w.heap[b]? = some o) : b < w.heap.size := (Array.getElem?_eq_some_iff.1 h).1
end Go.Proofs.YtnehfjnanffjeaaGreatDoor

namespace Go.Proofs.YtnehfjnanffjeaaGreatDoor
open Go.RowKit Go.Joins

set_option maxRecDepth 100000

def snCells (s : Sn) : List Value := [.int .i64 s.seq, .int .i64 s.dst, .string s.body]
def SnOk (s : Sn) : Prop := inI64 s.seq ∧ inI64 s.dst ∧ s.body.size ≤ maxLen
def SnOwn (W : World) (B : Nat) (v : Value) (ns : List Sn) : Prop := W.ownsRow B 65 3 v ns.length (ns.flatMap snCells) ∧ ∀ s ∈ ns, SnOk s
def seCells (r : Se × Value) : List Value := [.int .i64 r.1.low, r.2]
def SeOk (s : Se) : Prop := inI64 s.low ∧ ∀ z ∈ s.ids, inI64 z
structure SeOwn (W : World) (B : Nat) (cv : Value) (rs : List (Se × Value)) : Prop where
  cells : W.ownsRow B 83 2 cv rs.length (rs.flatMap seCells)
  kids : ∀ r ∈ rs, W.ownsRow B 3 1 r.2 r.1.ids.length (intVs r.1.ids) ∧ SeOk r.1
  apart : (rs.map Prod.snd).Pairwise AptV
/-- The blocks of such rows. -/
def SeBlk (cv : Value) (rs : List (Se × Value)) (b : Nat) : Prop := cv.ownBlock = some b ∨ ∃ r ∈ rs, r.2.ownBlock = some b
/-- A link of a call's own. -/
structure LkOwn (W : World) (B : Nat) (v : Value) (l : Lk) (ov sv : Value) (rs : List (Se × Value)) : Prop where
  val : v = .agg #[.int .i64 l.id, .int .i64 l.next, ov, sv]
  fits : inI64 l.id ∧ inI64 l.next
  out : SnOwn W B ov l.out
  seen : SeOwn W B sv rs
  is : rs.map Prod.fst = l.seen
def LkBlk (ov sv : Value) (rs : List (Se × Value)) (b : Nat) : Prop := ov.ownBlock = some b ∨ SeBlk sv rs b

theorem SnOwn.moved {W W' : World} {B : Nat} {v : Value} {ns : List Sn} (h : SnOwn W B v ns) (hb : ∀ b, v.ownBlock = some b → W'.heap[b]? = W.heap[b]?) : SnOwn W' B v ns := ⟨own_moved h.1 hb, h.2⟩
theorem SeOwn.moved {W W' : World} {B : Nat} {cv : Value} {rs : List (Se × Value)} (h : SeOwn W B cv rs) (hb : ∀ b, SeBlk cv rs b → W'.heap[b]? = W.heap[b]?) : SeOwn W' B cv rs :=
  ⟨own_moved h.cells (fun g hg => hb g (.inl hg)), fun r hr => ⟨own_moved (h.kids r hr).1 (fun g hg => hb g (.inr ⟨r, hr, hg⟩)), (h.kids r hr).2⟩, h.apart⟩
theorem SeOwn.own {W : World} {B : Nat} {cv : Value} {rs : List (Se × Value)} (h : SeOwn W B cv rs) {b : Nat} (hb : SeBlk cv rs b) : B ≤ b ∧ b < W.heap.size := by
  rcases hb with hb | ⟨r, hr, hb⟩
  · exact ⟨(own_type h.cells b hb).1, own_lt h.cells b hb⟩
  · exact ⟨(own_type (h.kids r hr).1 b hb).1, own_lt (h.kids r hr).1 b hb⟩
theorem LkOwn.own {W : World} {B : Nat} {v : Value} {l : Lk} {ov sv : Value} {rs : List (Se × Value)} (h : LkOwn W B v l ov sv rs) {b : Nat} (hb : LkBlk ov sv rs b) : B ≤ b ∧ b < W.heap.size := by
  rcases hb with hb | hb
  · exact ⟨(own_type h.out.1 b hb).1, own_lt h.out.1 b hb⟩
  · exact h.seen.own hb
theorem LkOwn.moved {W W' : World} {B : Nat} {v : Value} {l : Lk} {ov sv : Value} {rs : List (Se × Value)} (h : LkOwn W B v l ov sv rs) (hb : ∀ b, LkBlk ov sv rs b → W'.heap[b]? = W.heap[b]?) : LkOwn W' B v l ov sv rs :=
  ⟨h.val, h.fits, h.out.moved (fun b hg => hb b (.inl hg)), h.seen.moved (fun b hg => hb b (.inr hg)), h.is⟩
theorem LkOwn.below {W W' : World} {B : Nat} {v : Value} {l : Lk} {ov sv : Value} {rs : List (Se × Value)} (h : LkOwn W B v l ov sv rs) (hb : Below W.heap.size W W') : LkOwn W' B v l ov sv rs :=
  h.moved (fun b ho => hb.block b (h.own ho).2)
theorem LkOwn.kept {X : Nat → Prop} {W W' : World} {B : Nat} {v : Value} {l : Lk} {ov sv : Value} {rs : List (Se × Value)} (h : LkOwn W B v l ov sv rs) (hb : KB X W W') (hx : ∀ b, LkBlk ov sv rs b → ¬ X b) : LkOwn W' B v l ov sv rs :=
  h.moved (fun b ho => hb.block b (h.own ho).2 (hx b ho))
theorem SeOwn.below {W W' : World} {B : Nat} {cv : Value} {rs : List (Se × Value)} (h : SeOwn W B cv rs) (hb : Below W.heap.size W W') : SeOwn W' B cv rs :=
  h.moved (fun b ho => hb.block b (h.own ho).2)
theorem SnOwn.below {W W' : World} {B : Nat} {v : Value} {ns : List Sn} (h : SnOwn W B v ns) (hb : Below W.heap.size W W') : SnOwn W' B v ns :=
  h.moved (fun b ho => hb.block b (own_lt h.1 b ho))

theorem sn_len (ns : List Sn) : (ns.flatMap snCells).length = ns.length * 3 := by
  induction ns with
  | nil => rfl
  | cons a r ih => rw [List.flatMap_cons, List.length_append, ih, List.length_cons]; simp [snCells]; omega
theorem sn_mid (A D : List Sn) (c : Sn) (i : Nat) (hi : i < 3) : ((A ++ c :: D).flatMap snCells)[A.length * 3 + i]? = (snCells c)[i]? := by
  rw [List.flatMap_append, List.flatMap_cons, List.getElem?_append_right (by rw [sn_len]; omega), sn_len, show A.length * 3 + i - A.length * 3 = i by omega, List.getElem?_append_left (by simp [snCells]; omega)]
theorem se_len (rs : List (Se × Value)) : (rs.flatMap seCells).length = rs.length * 2 := by
  induction rs with
  | nil => rfl
  | cons a r ih => rw [List.flatMap_cons, List.length_append, ih, List.length_cons]; simp [seCells]; omega
theorem se_mid (A D : List (Se × Value)) (c : Se) (u : Value) (i : Nat) (hi : i < 2) : ((A ++ (c, u) :: D).flatMap seCells)[A.length * 2 + i]? = (seCells (c, u))[i]? := by
  rw [List.flatMap_append, List.flatMap_cons, List.getElem?_append_right (by rw [se_len]; omega), se_len, show A.length * 2 + i - A.length * 2 = i by omega, List.getElem?_append_left (by simp [seCells]; omega)]

theorem SnOwn.at {W : World} {B : Nat} {v : Value} {ns : List Sn} (h : SnOwn W B v ns) : SentsAt W (fun b => B ≤ b ∧ Pl W b) v ns := by
  rcases h.1.2 with ⟨rfl, h0⟩ | ⟨g, cap, cur, rfl, hb, hc, hn, hcm, hs, ht⟩
  · obtain rfl : ns = [] := List.length_eq_zero_iff.1 h0
    exact ⟨none, 0, rfl, Nat.zero_le _, fun i t h => by simp at h⟩
  · refine ⟨some ⟨g, 0, none⟩, cap, rfl, by omega, fun i e he => ?_⟩
    have hil := (List.getElem?_eq_some_iff.1 he).1
    have hsp : ns = ns.take i ++ e :: ns.drop (i + 1) := by
      conv => lhs; rw [← List.take_append_drop i ns, List.drop_eq_getElem_cons hil, (List.getElem?_eq_some_iff.1 he).2]
    have hlt : (ns.take i).length = i := by rw [List.length_take]; omega
    have hcell : ∀ j v, j < 3 → (snCells e)[j]? = some v → W.cell? ⟨g, i * 3 + j, none⟩ = some v := fun j v hj hv => by
      have := h.1.cells (g := g) rfl (i * 3 + j) v (by
        have := sn_mid (ns.take i) (ns.drop (i + 1)) e j hj
        rw [hlt, ← hsp] at this
        exact this.trans hv)
      rw [addr_addI, Nat.zero_add] at this
      exact this
    have hk := h.2 e (List.mem_of_getElem? he)
    refine ⟨g, 0, rfl, ⟨hb, cur, _, hc⟩, (Array.getElem?_eq_some_iff.1 hc).1, ?_, ?_, ?_, hk⟩
    · rw [Nat.zero_add]; exact hcell 0 _ (by omega) rfl
    · rw [Nat.zero_add]; exact hcell 1 _ (by omega) rfl
    · rw [Nat.zero_add]; exact hcell 2 _ (by omega) rfl
theorem SeOwn.at {W : World} {B : Nat} {cv : Value} {rs : List (Se × Value)} (h : SeOwn W B cv rs) : SeensAt W (fun b => B ≤ b ∧ Pl W b) cv (rs.map Prod.fst) := by
  rcases h.cells.2 with ⟨rfl, h0⟩ | ⟨g, cap, cur, rfl, hb, hc, hn, hcm, hs, ht⟩
  · obtain rfl : rs = [] := List.length_eq_zero_iff.1 h0
    exact ⟨none, 0, rfl, Nat.zero_le _, fun i t h => by simp at h⟩
  · refine ⟨some ⟨g, 0, none⟩, cap, by simp, by simp; omega, fun i e he => ?_⟩
    rw [List.getElem?_map] at he
    obtain ⟨r, hr, rfl⟩ := Option.map_eq_some_iff.1 he
    have hil := (List.getElem?_eq_some_iff.1 hr).1
    have hsp : rs = rs.take i ++ (r.1, r.2) :: rs.drop (i + 1) := by
      conv => lhs; rw [← List.take_append_drop i rs, List.drop_eq_getElem_cons hil, (List.getElem?_eq_some_iff.1 hr).2]
    have hlt : (rs.take i).length = i := by rw [List.length_take]; omega
    have hcell : ∀ j v, j < 2 → (seCells (r.1, r.2))[j]? = some v → W.cell? ⟨g, i * 2 + j, none⟩ = some v := fun j v hj hv => by
      have := h.cells.cells (g := g) rfl (i * 2 + j) v (by
        have := se_mid (rs.take i) (rs.drop (i + 1)) r.1 r.2 j hj
        rw [hlt, ← hsp] at this
        exact this.trans hv)
      rw [addr_addI, Nat.zero_add] at this
      exact this
    have hk := h.kids r (List.mem_of_getElem? hr)
    refine ⟨g, 0, r.2, rfl, ⟨hb, cur, _, hc⟩, (Array.getElem?_eq_some_iff.1 hc).1, ?_, ?_, hk.2.1, own_ints hk.1 hk.2.2⟩
    · rw [Nat.zero_add]; exact hcell 0 _ (by omega) rfl
    · rw [Nat.zero_add]; exact hcell 1 _ (by omega) rfl
theorem LkOwn.at {W : World} {B : Nat} {v : Value} {l : Lk} {ov sv : Value} {rs : List (Se × Value)} (h : LkOwn W B v l ov sv rs) : LkAt W (fun b => B ≤ b ∧ Pl W b) v l :=
  ⟨ov, sv, h.val, h.fits.1, h.fits.2, h.out.at, by have := h.seen.at; rw [h.is] at this; exact this⟩

theorem set_cell1 (xs : Array Value) (k : Nat) (u : Value) (L : List Value) (hs : k + 1 ≤ xs.size) (ht : xs.toList.take k = L) : (xs.setIfInBounds k u).toList.take (k + 1) = L ++ [u] := by
  obtain ⟨l⟩ := xs
  simp only [List.setIfInBounds_toArray] at *
  have hl : k + 1 ≤ l.length := by simpa using hs
  have hL : L.length = k := by rw [← ht]; simp; omega
  apply List.ext_getElem?
  intro j
  rcases Nat.lt_trichotomy j k with h | h | h
  · rw [List.getElem?_append_left (by omega), ← ht, List.getElem?_take_of_lt (by omega), List.getElem?_take_of_lt (by omega), List.getElem?_set_ne (by omega)]
  · subst h
    rw [List.getElem?_take_of_lt (by omega), List.getElem?_append_right (by omega), hL, Nat.sub_self, List.getElem?_set_self (by omega)]
    rfl
  · rw [List.getElem?_eq_none (by simp; omega), List.getElem?_eq_none (by simp; omega)]
/-- Three cells put behind a row with room. -/
theorem own_next3 {W : World} {B g n k : Nat} {e : TypeId} {xs : List Value} (h : W.ownsRow B e 3 (.slice (some ⟨g, 0, none⟩) k n) k xs) (hk : k < n) (a b c : Value) :
    (((W.setCell ⟨g, k * 3, none⟩ a).setCell ⟨g, k * 3 + 1, none⟩ b).setCell ⟨g, k * 3 + 2, none⟩ c).ownsRow B e 3 (.slice (some ⟨g, 0, none⟩) (k + 1) n) (k + 1) (xs ++ [a, b, c]) := by
  have hl := h.1
  rcases h.2 with ⟨h', _⟩ | ⟨g', cap', cur, h', hb', hc', hn', hm', hs', ht'⟩
  · simp at h'
  simp only [Value.slice.injEq, Option.some.injEq, Addr.mk.injEq, and_true, true_and] at h'
  obtain ⟨rfl, rfl⟩ := h'
  refine ⟨by simp; omega, .inr ⟨g, n, _, rfl, hb', block_setCell (block_setCell (block_setCell hc' _) _) _, by omega, hm', by simp [hs'], ?_⟩⟩
  have h0 := set_cell1 cur (k * 3) a xs (by omega) ht'
  have h1 := set_cell1 _ (k * 3 + 1) b _ (by simp; omega) h0
  have h2 := set_cell1 _ (k * 3 + 2) c _ (by simp; omega) h1
  rw [show (k + 1) * 3 = k * 3 + 2 + 1 by omega, h2]
  simp
theorem own_next2 {W : World} {B g n k : Nat} {e : TypeId} {xs : List Value} (h : W.ownsRow B e 2 (.slice (some ⟨g, 0, none⟩) k n) k xs) (hk : k < n) (a b : Value) :
    ((W.setCell ⟨g, k * 2, none⟩ a).setCell ⟨g, k * 2 + 1, none⟩ b).ownsRow B e 2 (.slice (some ⟨g, 0, none⟩) (k + 1) n) (k + 1) (xs ++ [a, b]) := by
  have hl := h.1
  rcases h.2 with ⟨h', _⟩ | ⟨g', cap', cur, h', hb', hc', hn', hm', hs', ht'⟩
  · simp at h'
  simp only [Value.slice.injEq, Option.some.injEq, Addr.mk.injEq, and_true, true_and] at h'
  obtain ⟨rfl, rfl⟩ := h'
  refine ⟨by simp; omega, .inr ⟨g, n, _, rfl, hb', block_setCell (block_setCell hc' _) _, by omega, hm', by simp [hs'], ?_⟩⟩
  have h0 := set_cell1 cur (k * 2) a xs (by omega) ht'
  have h1 := set_cell1 _ (k * 2 + 1) b _ (by simp; omega) h0
  rw [show (k + 1) * 2 = k * 2 + 1 + 1 by omega, h1]
  simp
/-- One more lies there. -/
theorem SeOwn.next {wr w1 : World} {B g n k : Nat} {rs : List (Se × Value)} {x : Se} {kv : Value} (h : SeOwn wr B (.slice (some ⟨g, 0, none⟩) k n) rs) (hk : rs.length = k) (hkn : k < n) (hb : Below wr.heap.size wr w1)
    (hx : w1.ownsRow wr.heap.size 3 1 kv x.ids.length (intVs x.ids)) (hok : SeOk x) (hB : B ≤ wr.heap.size) :
    SeOwn ((w1.setCell ⟨g, k * 2, none⟩ (.int .i64 x.low)).setCell ⟨g, k * 2 + 1, none⟩ kv) B (.slice (some ⟨g, 0, none⟩) (k + 1) n) (rs ++ [(x, kv)]) := by
  have h1 := h.below hb
  subst hk
  have hn2 := own_next2 h1.cells hkn (.int .i64 x.low) kv
  have keep : ∀ b, b ≠ g → ((w1.setCell ⟨g, rs.length * 2, none⟩ (.int .i64 x.low)).setCell ⟨g, rs.length * 2 + 1, none⟩ kv).heap[b]? = w1.heap[b]? := fun b hb => by
    rw [Below.heap_setCell _ _ _ b (by simpa using hb), Below.heap_setCell _ _ _ b (by simpa using hb)]
  refine ⟨?_, fun r hr => ?_, ?_⟩
  · rw [List.length_append, List.length_singleton, List.flatMap_append]
    simpa [seCells] using hn2
  · rw [List.mem_append, List.mem_singleton] at hr
    rcases hr with hr | rfl
    · have hk := h1.kids r hr
      exact ⟨own_moved hk.1 (fun b hb => keep b (fun e => own_ne hk.1 h1.cells (by decide) b hb (by rw [e]; rfl))), hk.2⟩
    · exact ⟨own_mono (own_moved hx (fun b hb => keep b (fun e => own_ne hx h1.cells (by decide) b hb (by rw [e]; rfl)))) hB, hok⟩
  · rw [List.map_append, List.pairwise_append]
    refine ⟨h.apart, by simp, fun u hu v hv => ?_⟩
    obtain ⟨r, hr, rfl⟩ := List.mem_map.1 hu
    simp at hv
    subst hv
    cases hb' : r.2.ownBlock with
    | none => exact .inl hb'
    | some q =>
      refine .inr fun e => ?_
      have h2 := own_lt (h.kids r hr).1 q hb'
      have h3 := (own_type hx q (e.symm.trans hb')).1
      omega
end Go.Proofs.YtnehfjnanffjeaaGreatDoor

namespace Go.Proofs.YtnehfjnanffjeaaGreatDoor
open Go.RowKit Go.Joins

set_option maxRecDepth 100000

abbrev Lk.row (l : Lk) (ov sv : Value) : Array Value := #[.int .i64 l.id, .int .i64 l.next, ov, sv]
theorem lbox {W : World} {b : Nat} {l : Lk} {ov sv : Value} {t : TypeId} {fz : Nat × Nat} (h : W.heap[b]? = some (.cells (l.row ov sv) t fz)) : W.cell? ⟨b, 0, none⟩ = some (.int .i64 l.id) ∧ W.cell? ⟨b, 1, none⟩ = some (.int .i64 l.next) ∧ W.cell? ⟨b, 2, none⟩ = some ov ∧ W.cell? ⟨b, 3, none⟩ = some sv :=
  ⟨(cell_of_block h 0).trans rfl, (cell_of_block h 1).trans rfl, (cell_of_block h 2).trans rfl, (cell_of_block h 3).trans rfl⟩

set_option maxHeartbeats 1600000 in
theorem eqLink_any (v1 v2 : Value) (l : Lk) (S1 S2 : Nat → Prop) (w : World) (h1 : LkAt w S1 v1 l) (h2 : LkAt w S2 v2 l) (hb : l.bulk ≤ 4194304) :
    Calls Tryz.prog 11 #[v1, v2] w fun e w' => e = .returned (.bool true) ∧ Below w.heap.size w w' := by
  obtain ⟨oa, oc, sa, sc, rfl, h3, h4⟩ := h1.form
  obtain ⟨oa', oc', sa', sc', rfl, h3', h4'⟩ := h2.form
  clear h1 h2
  have hbe := (show l.bulk = bulkO l.out + bulkN l.seen from rfl)
  have hnot := ex_not
  have e1 : (l.id != l.id) = false := by simp
  have e2 : (l.next != l.next) = false := by simp
  obtain ⟨W0, hW0⟩ : ∃ W0, W0 = (w.alloc (.cells (l.row (.slice oa l.out.length oc) (.slice sa l.seen.length sc)) 36)).alloc (.cells (l.row (.slice oa' l.out.length oc') (.slice sa' l.seen.length sc')) 36) := ⟨_, rfl⟩
  have B0 : Below w.heap.size w W0 := by rw [hW0]; exact ((Below.refl _ w).alloc (Nat.le_refl _) _).alloc (by simp) _
  have O0 : W0.heap[w.heap.size]? = some (.cells (l.row (.slice oa l.out.length oc) (.slice sa l.seen.length sc)) 36) := by
    rw [hW0, Below.heap_alloc _ _ _ (by simp)]; exact (MapKept.heap_alloc w _).1
  have O1 : W0.heap[w.heap.size + 1]? = some (.cells (l.row (.slice oa' l.out.length oc') (.slice sa' l.seen.length sc')) 36) := by
    have := (MapKept.heap_alloc (w.alloc (.cells (l.row (.slice oa l.out.length oc) (.slice sa l.seen.length sc)) 36)) (.cells (l.row (.slice oa' l.out.length oc') (.slice sa' l.seen.length sc')) 36)).1
    rw [hW0]
    simpa using this
  have H0 := (show Hid (_ ∧ _ ∧ _ ∧ _ ∧ _ ∧ _ ∧ _ ∧ _) from ⟨h3.below B0, h3'.below B0, h4.below B0, h4'.below B0, B0, O0, O1, hW0⟩)
  have hs0 : w.heap.size + 2 ≤ W0.heap.size := lt_heap O1
  clear h3 h4 h3' h4' B0 O0 O1 hW0
  go_enter Tryz.func11, Tryz.ntmps11
  go_wp2_with fail
  rw [← (show W0 = _ from H0.out.2.2.2.2.2.2.2)]
  refine (eqSentS_any _ _ l.out S1 S2 _ H0.out.1 H0.out.2.1 (by omega)).mono ?_
  rintro e w1 ⟨rfl, b1⟩
  have hs1 : W0.heap.size ≤ w1.heap.size := b1.size
  have H1 := (show Hid (_ ∧ _ ∧ _ ∧ _ ∧ _) from ⟨H0.out.2.2.1.below b1, H0.out.2.2.2.1.below b1, H0.out.2.2.2.2.1.trans (b1.mono (by omega)), (b1.block _ (lt_heap H0.out.2.2.2.2.2.1)).trans H0.out.2.2.2.2.2.1, (b1.block _ (lt_heap H0.out.2.2.2.2.2.2.1)).trans H0.out.2.2.2.2.2.2.1⟩)
  clear b1 H0
  obtain ⟨q0, q1, q2, q3⟩ := lbox H1.out.2.2.2.1
  obtain ⟨p0, p1, p2, p3⟩ := lbox H1.out.2.2.2.2
  go_wp2_with fail
  clear q0 q1 q2 q3 p0 p1 p2 p3
  refine (eqSeenS_any _ _ l.seen S1 S2 _ H1.out.1 H1.out.2.1 (by omega)).mono ?_
  rintro e w2 ⟨rfl, b2⟩
  have H2 := (show Hid (_ ∧ True) from ⟨H1.out.2.2.1.trans (b2.mono (by omega)), trivial⟩)
  clear b2 H1
  go_wp2
  go_ret
  exact ⟨rfl, H2.out.1⟩
end Go.Proofs.YtnehfjnanffjeaaGreatDoor

namespace Go.Proofs.YtnehfjnanffjeaaGreatDoor
open Go.RowKit Go.Joins

set_option maxRecDepth 100000

theorem make_sents (n : Nat) (hn : n ≤ 1048576) (w : World) : (Instr.makeSlice 33 (.int .i64 (n : Int)) (.int .i64 (n : Int))).run Tryz.prog w = .ok (.slice (some ⟨w.heap.size, 0, none⟩) n n) (w.alloc (.cells (madeCells #[.int .i64 0, .int .i64 0, .string ByteArray.empty] (n * 3)) 65)) := by
  obtain ⟨i0, hi, hz0, hz1, hz2⟩ := info_parts infoSent
  have h := run_make (P := Tryz.prog) w 33 65 i0 _ Tryz.underlying33 hi hz0 .i64 .i64 (n : Int) (n : Int) (by omega) (by omega) (by rw [hz2]; omega) (by omega)
  rw [h, hz1]
  rfl
theorem make_seens (n : Nat) (hn : n ≤ 1048576) (w : World) : (Instr.makeSlice 34 (.int .i64 (n : Int)) (.int .i64 (n : Int))).run Tryz.prog w = .ok (.slice (some ⟨w.heap.size, 0, none⟩) n n) (w.alloc (.cells (madeCells #[.int .i64 0, .slice none 0 0] (n * 2)) 83)) := by
  obtain ⟨i0, hi, hz0, hz1, hz2⟩ := info_parts infoSeen
  have h := run_make (P := Tryz.prog) w 34 83 i0 _ Tryz.underlying34 hi hz0 .i64 .i64 (n : Int) (n : Int) (by omega) (by omega) (by rw [hz2]; omega) (by omega)
  rw [h, hz1]
  rfl

set_option maxHeartbeats 6400000 in
theorem toSentS_any (v : Value) (es : List Sn) (S : Nat → Prop) (w : World) (h : SentsAt w S v es) (hb : bulkO es ≤ 1048576) :
    Calls Tryz.prog 28 #[v] w fun e w' => ∃ v', e = .returned v' ∧ SnOwn w' w.heap.size v' es ∧ Below w.heap.size w w' := by
  have hlen : es.length ≤ bulkO es := Nat.le_add_right _ _
  obtain ⟨a, cap, rfl, hl, hc⟩ := h
  clear hl
  have HC := (show Hid (_ ∧ True) from ⟨hc, trivial⟩)
  have hmk := make_sents es.length (by omega)
  clear hc
  have hms : (madeCells #[.int .i64 0, .int .i64 0, .string ByteArray.empty] (es.length * 3)).size = es.length * 3 := size_madeCells _ _
  have R0 : (w.alloc (.cells (madeCells #[.int .i64 0, .int .i64 0, .string ByteArray.empty] (es.length * 3)) 65)).ownsRow w.heap.size 65 3 (.slice (some ⟨w.heap.size, 0, none⟩) 0 es.length) 0 [] :=
    ⟨rfl, .inr ⟨_, _, _, rfl, Nat.le_refl _, (MapKept.heap_alloc w _).1, Nat.zero_le _, by unfold maxLen; omega, hms, rfl⟩⟩
  have B0 : Below w.heap.size w (w.alloc (.cells (madeCells #[.int .i64 0, .int .i64 0, .string ByteArray.empty] (es.length * 3)) 65)) := (Below.refl _ w).alloc (Nat.le_refl _) _
  generalize madeCells #[.int .i64 0, .int .i64 0, .string ByteArray.empty] (es.length * 3) = c0 at *
  clear hms
  go_enter Tryz.func28, Tryz.ntmps28
  go_wp2
  clear hmk
  go_loopw [4] (fun i wr => ∃ (k : Nat), k ≤ es.length ∧ i = .int .i64 k ∧ (∀ s ∈ es.take k, SnOk s) ∧ wr.ownsRow w.heap.size 65 3 (.slice (some ⟨w.heap.size, 0, none⟩) k es.length) k ((es.take k).flatMap snCells) ∧ Below w.heap.size w wr) (fun i _ => es.length - (intOf i).toNat)
  case atStart => exact ⟨0, Nat.zero_le _, rfl, fun s hs => by simp at hs, R0, B0⟩
  case round =>
    clear R0 B0
    obtain ⟨k, hk, rfl, hoks, hrow, hbw⟩ := hrel
    by_cases hkl : k < es.length
    · have he := List.getElem?_eq_getElem hkl
      have htk : es.take (k + 1) = es.take k ++ [es[k]] := List.take_succ_eq_append_getElem hkl
      generalize es[k] = x at *
      obtain ⟨b, off, rfl, hSb, hlt2, c0, c1, c2, r1, r2, r3⟩ := HC.out.1 k x he
      rw [← hbw.cell (by exact hlt2)] at c0 c1 c2
      have HH := (show Hid (_ ∧ _ ∧ _ ∧ _) from ⟨htk, hoks, hrow, (⟨r1, r2, r3⟩ : SnOk x)⟩)
      have hsz := hbw.size
      clear he HC htk hoks hrow r1 r2 r3
      have hlt' : ((k : Nat) : Int) < ((es.length : Nat) : Int) := by omega
      go_wp2_with fail
      refine (toSent_any x _).mono ?_
      rintro e w1 ⟨rfl, b1⟩
      have hrow1 := own_moved HH.out.2.2.1 (fun g hg => b1.block g (own_lt HH.out.2.2.1 g hg))
      have hn1 := own_next3 hrow1 hkl (.int .i64 x.seq) (.int .i64 x.dst) (.string x.body)
      have B1 : Below w.heap.size w w1 := hbw.trans (b1.mono hsz)
      rcases hrow1.2 with ⟨h', _⟩ | ⟨g', cap', cur, h', hb', hg1, hn', hm', hcs, ht'⟩
      · simp at h'
      simp only [Value.slice.injEq, Option.some.injEq, Addr.mk.injEq, and_true] at h'
      obtain ⟨rfl, hkr, hcc⟩ := h'
      rw [← hcc] at hcs
      clear hkr hcc hn' hm'
      have d0 : w1.cell? ⟨w.heap.size, k * 3, none⟩ = some (cur[k * 3]'(by omega)) := by rw [cell_of_block hg1]; exact Array.getElem?_eq_getElem _
      have d1 : w1.cell? ⟨w.heap.size, k * 3 + 1, none⟩ = some (cur[k * 3 + 1]'(by omega)) := by rw [cell_of_block hg1]; exact Array.getElem?_eq_getElem _
      have d2 : w1.cell? ⟨w.heap.size, k * 3 + 2, none⟩ = some (cur[k * 3 + 2]'(by omega)) := by rw [cell_of_block hg1]; exact Array.getElem?_eq_getElem _
      generalize cur[k * 3]'(by omega) = y0 at d0
      generalize cur[k * 3 + 1]'(by omega) = y1 at d1
      generalize cur[k * 3 + 2]'(by omega) = y2 at d2
      have f0 : w1.frozen? ⟨w.heap.size, k * 3, none⟩ = false := unfrozen_of_block hg1 _
      have f1 : w1.frozen? ⟨w.heap.size, k * 3 + 1, none⟩ = false := unfrozen_of_block hg1 _
      have f2 : w1.frozen? ⟨w.heap.size, k * 3 + 2, none⟩ = false := unfrozen_of_block hg1 _
      have HN := (show Hid (_ ∧ True) from ⟨hn1, trivial⟩)
      clear hg1 hn1 hrow1 b1 c0 c1 c2 ht' hcs
      go_wp2
      refine ⟨⟨k + 1, by omega, by go_num, ?_, ?_, ?_⟩, by simp [intOf]; omega⟩
      · rw [HH.out.1]
        intro s hs
        rcases List.mem_append.1 hs with hs | hs
        · exact HH.out.2.1 s hs
        · rw [List.mem_singleton.1 hs]; exact HH.out.2.2.2
      · rw [HH.out.1, List.flatMap_append]
        simpa [snCells] using HN.out.1
      · exact ((B1.setCell (p := ⟨w.heap.size, k * 3, none⟩) (Nat.le_refl _) _).setCell (p := ⟨w.heap.size, k * 3 + 1, none⟩) (Nat.le_refl _) _).setCell (p := ⟨w.heap.size, k * 3 + 2, none⟩) (Nat.le_refl _) _
    · obtain rfl : k = es.length := by omega
      rw [List.take_length] at hoks hrow
      have HF := (show Hid (_ ∧ _) from ⟨(⟨hrow, hoks⟩ : SnOwn wr w.heap.size _ es), hbw⟩)
      clear hrow hoks HC hbw
      go_wp2
      go_ret
      exact ⟨_, rfl, HF.out.1, HF.out.2⟩

set_option maxHeartbeats 6400000 in
theorem toSeenS_any (v : Value) (es : List Se) (S : Nat → Prop) (w : World) (h : SeensAt w S v es) (hb : bulkN es ≤ 1048576) :
    Calls Tryz.prog 29 #[v] w fun e w' => ∃ v' rs, e = .returned v' ∧ SeOwn w' w.heap.size v' rs ∧ rs.map Prod.fst = es ∧ Below w.heap.size w w' := by
  have hlen : es.length ≤ bulkN es := Nat.le_add_right _ _
  have hBA := @bulkN_at es
  obtain ⟨a, cap, rfl, hl, hc⟩ := h
  clear hl
  have HC := (show Hid (_ ∧ True) from ⟨hc, trivial⟩)
  have hmk := make_seens es.length (by omega)
  clear hc
  have hms : (madeCells #[.int .i64 0, .slice none 0 0] (es.length * 2)).size = es.length * 2 := size_madeCells _ _
  have R0 : SeOwn (w.alloc (.cells (madeCells #[.int .i64 0, .slice none 0 0] (es.length * 2)) 83)) w.heap.size (.slice (some ⟨w.heap.size, 0, none⟩) 0 es.length) [] :=
    ⟨⟨rfl, .inr ⟨_, _, _, rfl, Nat.le_refl _, (MapKept.heap_alloc w _).1, Nat.zero_le _, by unfold maxLen; omega, hms, rfl⟩⟩, fun r hr => by simp at hr, by simp⟩
  have B0 : Below w.heap.size w (w.alloc (.cells (madeCells #[.int .i64 0, .slice none 0 0] (es.length * 2)) 83)) := (Below.refl _ w).alloc (Nat.le_refl _) _
  generalize madeCells #[.int .i64 0, .slice none 0 0] (es.length * 2) = c0 at *
  clear hms
  go_enter Tryz.func29, Tryz.ntmps29
  go_wp2
  clear hmk
  go_loopw [4] (fun i wr => ∃ (k : Nat) (rs : List (Se × Value)), k ≤ es.length ∧ i = .int .i64 k ∧ rs.length = k ∧ rs.map Prod.fst = es.take k ∧ SeOwn wr w.heap.size (.slice (some ⟨w.heap.size, 0, none⟩) k es.length) rs ∧ Below w.heap.size w wr) (fun i _ => es.length - (intOf i).toNat)
  case atStart => exact ⟨0, [], Nat.zero_le _, rfl, rfl, by simp, R0, B0⟩
  case round =>
    clear R0 B0
    obtain ⟨k, rs, hk, rfl, hrl, hmap, hrow, hbw⟩ := hrel
    by_cases hkl : k < es.length
    · have he := List.getElem?_eq_getElem hkl
      have hbk := hBA he
      have htk : es.take (k + 1) = es.take k ++ [es[k]] := List.take_succ_eq_append_getElem hkl
      generalize es[k] = x at *
      obtain ⟨b, off, kv, rfl, hSb, hlt2, c0, c1, r1, hkk⟩ := HC.out.1 k x he
      rw [← hbw.cell (by exact hlt2)] at c0 c1
      have HX : Hid (IntsAt wr S kv x.ids) := hkk.below hbw
      obtain ⟨ka, kc, rfl⟩ := hkk.form
      have HH := (show Hid (_ ∧ _ ∧ _ ∧ _ ∧ _) from ⟨htk, hmap, hrow, hrl, r1⟩)
      have hsz := hbw.size
      have hgl := own_lt hrow.cells w.heap.size rfl
      clear hkk he HC hBA htk hmap hrow hrl r1
      have hlt' : ((k : Nat) : Int) < ((es.length : Nat) : Int) := by omega
      go_wp2_with fail
      refine (toSeenO_any _ x S _ HX.out (by omega)).mono ?_
      rintro e w1 ⟨kv', rfl, hx1, hok, b1⟩
      obtain ⟨ka', kc', rfl⟩ := own_form hx1
      have hn1 := HH.out.2.2.1.next HH.out.2.2.2.1 hkl b1 hx1 ⟨HH.out.2.2.2.2, hok⟩ hsz
      have B1 : Below w.heap.size w w1 := hbw.trans (b1.mono hsz)
      rcases (HH.out.2.2.1.below b1).cells.2 with ⟨h', _⟩ | ⟨g', cap', cur, h', hb', hg1, hn', hm', hcs, ht'⟩
      · simp at h'
      simp only [Value.slice.injEq, Option.some.injEq, Addr.mk.injEq, and_true] at h'
      obtain ⟨rfl, hkr, hcc⟩ := h'
      rw [← hcc] at hcs
      clear hkr hcc hn' hm'
      have d0 : w1.cell? ⟨w.heap.size, k * 2, none⟩ = some (cur[k * 2]'(by omega)) := by rw [cell_of_block hg1]; exact Array.getElem?_eq_getElem _
      have d1 : w1.cell? ⟨w.heap.size, k * 2 + 1, none⟩ = some (cur[k * 2 + 1]'(by omega)) := by rw [cell_of_block hg1]; exact Array.getElem?_eq_getElem _
      generalize cur[k * 2]'(by omega) = y0 at d0
      generalize cur[k * 2 + 1]'(by omega) = y1 at d1
      have f0 : w1.frozen? ⟨w.heap.size, k * 2, none⟩ = false := unfrozen_of_block hg1 _
      have f1 : w1.frozen? ⟨w.heap.size, k * 2 + 1, none⟩ = false := unfrozen_of_block hg1 _
      have HN := (show Hid (_ ∧ True) from ⟨hn1, trivial⟩)
      clear hg1 hn1 hx1 hok b1 HX c0 c1 ht' hcs
      go_wp2
      refine ⟨⟨k + 1, rs ++ [(x, .slice ka' x.ids.length kc')], by omega, by go_num, by rw [List.length_append, HH.out.2.2.2.1]; rfl, by rw [List.map_append, HH.out.2.1, HH.out.1]; rfl, HN.out.1, ?_⟩, by simp [intOf]; omega⟩
      exact (B1.setCell (p := ⟨w.heap.size, k * 2, none⟩) (Nat.le_refl _) _).setCell (p := ⟨w.heap.size, k * 2 + 1, none⟩) (Nat.le_refl _) _
    · obtain rfl : k = es.length := by omega
      rw [List.take_length] at hmap
      have HF := (show Hid (_ ∧ _ ∧ _) from ⟨hrow, hmap, hbw⟩)
      clear hrow hmap HC hbw
      go_wp2
      go_ret
      exact ⟨_, rs, rfl, HF.out.1, HF.out.2.1, HF.out.2.2⟩
end Go.Proofs.YtnehfjnanffjeaaGreatDoor
