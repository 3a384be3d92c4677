/-
  Links of a call's own: rows that share nothing.
-/
import Derived.Test.YtbaakhpmfljgnaaLinkAt
import Derived.Test.YtbaakhpmfljgnaaOwnAt
import Derived.Test.YtbaakhpmfljgnaaKeptBut
namespace Go.Proofs.Ytbaakhpmfljgnaa
open Go.RowKit Go.Joins

set_option maxRecDepth 100000

def snCells (s : Sn) : List Value := [.int .i64 s.seq, .int .i64 s.dst, .string s.body]
def SnOk (s : Sn) : Prop := inI64 s.seq ∧ inI64 s.dst ∧ s.body.size ≤ maxLen
def SnOwn (W : World) (B : Nat) (v : Value) (ns : List Sn) : Prop := W.ownsRow B 42 3 v ns.length (ns.flatMap snCells) ∧ ∀ s ∈ ns, SnOk s
def seCells (r : Se × Value) : List Value := [.int .i64 r.1.low, r.2]
def SeOk (s : Se) : Prop := inI64 s.low ∧ ∀ z ∈ s.ids, inI64 z
structure SeOwn (W : World) (B : Nat) (cv : Value) (rs : List (Se × Value)) : Prop where
  cells : W.ownsRow B 33 2 cv rs.length (rs.flatMap seCells)
  kids : ∀ r ∈ rs, W.ownsRow B 3 1 r.2 r.1.ids.length (intVs r.1.ids) ∧ SeOk r.1
  apart : (rs.map Prod.snd).Pairwise AptV
/-- The blocks of such rows. -/
def SeBlk (cv : Value) (rs : List (Se × Value)) (b : Nat) : Prop := cv.ownBlock = some b ∨ ∃ r ∈ rs, r.2.ownBlock = some b
/-- A link of a call's own. -/
structure LkOwn (W : World) (B : Nat) (v : Value) (l : Lk) (ov sv : Value) (rs : List (Se × Value)) : Prop where
  val : v = .agg #[.int .i64 l.id, .int .i64 l.next, ov, sv]
  fits : inI64 l.id ∧ inI64 l.next
  out : SnOwn W B ov l.out
  seen : SeOwn W B sv rs
  is : rs.map Prod.fst = l.seen
def LkBlk (ov sv : Value) (rs : List (Se × Value)) (b : Nat) : Prop := ov.ownBlock = some b ∨ SeBlk sv rs b

theorem SnOwn.moved {W W' : World} {B : Nat} {v : Value} {ns : List Sn} (h : SnOwn W B v ns) (hb : ∀ b, v.ownBlock = some b → W'.heap[b]? = W.heap[b]?) : SnOwn W' B v ns := ⟨own_moved h.1 hb, h.2⟩
theorem SeOwn.moved {W W' : World} {B : Nat} {cv : Value} {rs : List (Se × Value)} (h : SeOwn W B cv rs) (hb : ∀ b, SeBlk cv rs b → W'.heap[b]? = W.heap[b]?) : SeOwn W' B cv rs :=
  ⟨own_moved h.cells (fun g hg => hb g (.inl hg)), fun r hr => ⟨own_moved (h.kids r hr).1 (fun g hg => hb g (.inr ⟨r, hr, hg⟩)), (h.kids r hr).2⟩, h.apart⟩
theorem SeOwn.own {W : World} {B : Nat} {cv : Value} {rs : List (Se × Value)} (h : SeOwn W B cv rs) {b : Nat} (hb : SeBlk cv rs b) : B ≤ b ∧ b < W.heap.size := by
  rcases hb with hb | ⟨r, hr, hb⟩
  · exact ⟨(own_type h.cells b hb).1, own_lt h.cells b hb⟩
  · exact ⟨(own_type (h.kids r hr).1 b hb).1, own_lt (h.kids r hr).1 b hb⟩
theorem LkOwn.own {W : World} {B : Nat} {v : Value} {l : Lk} {ov sv : Value} {rs : List (Se × Value)} (h : LkOwn W B v l ov sv rs) {b : Nat} (hb : LkBlk ov sv rs b) : B ≤ b ∧ b < W.heap.size := by
  rcases hb with hb | hb
  · exact ⟨(own_type h.out.1 b hb).1, own_lt h.out.1 b hb⟩
  · exact h.seen.own hb
theorem LkOwn.moved {W W' : World} {B : Nat} {v : Value} {l : Lk} {ov sv : Value} {rs : List (Se × Value)} (h : LkOwn W B v l ov sv rs) (hb : ∀ b, LkBlk ov sv rs b → W'.heap[b]? = W.heap[b]?) : LkOwn W' B v l ov sv rs :=
  ⟨h.val, h.fits, h.out.moved (fun b hg => hb b (.inl hg)), h.seen.moved (fun b hg => hb b (.inr hg)), h.is⟩
theorem LkOwn.below {W W' : World} {B : Nat} {v : Value} {l : Lk} {ov sv : Value} {rs : List (Se × Value)} (h : LkOwn W B v l ov sv rs) (hb : Below W.heap.size W W') : LkOwn W' B v l ov sv rs :=
  h.moved (fun b ho => hb.block b (h.own ho).2)
theorem LkOwn.kept {X : Nat → Prop} {W W' : World} {B : Nat} {v : Value} {l : Lk} {ov sv : Value} {rs : List (Se × Value)} (h : LkOwn W B v l ov sv rs) (hb : KB X W W') (hx : ∀ b, LkBlk ov sv rs b → ¬ X b) : LkOwn W' B v l ov sv rs :=
  h.moved (fun b ho => hb.block b (h.own ho).2 (hx b ho))
theorem SeOwn.below {W W' : World} {B : Nat} {cv : Value} {rs : List (Se × Value)} (h : SeOwn W B cv rs) (hb : Below W.heap.size W W') : SeOwn W' B cv rs :=
  h.moved (fun b ho => hb.block b (h.own ho).2)
theorem SnOwn.below {W W' : World} {B : Nat} {v : Value} {ns : List Sn} (h : SnOwn W B v ns) (hb : Below W.heap.size W W') : SnOwn W' B v ns :=
  h.moved (fun b ho => hb.block b (own_lt h.1 b ho))

theorem sn_len (ns : List Sn) : (ns.flatMap snCells).length = ns.length * 3 := by
  induction ns with
  | nil => rfl
  | cons a r ih => rw [List.flatMap_cons, List.length_append, ih, List.length_cons]; simp [snCells]; omega
theorem sn_mid (A D : List Sn) (c : Sn) (i : Nat) (hi : i < 3) : ((A ++ c :: D).flatMap snCells)[A.length * 3 + i]? = (snCells c)[i]? := by
  rw [List.flatMap_append, List.flatMap_cons, List.getElem?_append_right (by rw [sn_len]; omega), sn_len, show A.length * 3 + i - A.length * 3 = i by omega, List.getElem?_append_left (by simp [snCells]; omega)]
theorem se_len (rs : List (Se × Value)) : (rs.flatMap seCells).length = rs.length * 2 := by
  induction rs with
  | nil => rfl
  | cons a r ih => rw [List.flatMap_cons, List.length_append, ih, List.length_cons]; simp [seCells]; omega
theorem se_mid (A D : List (Se × Value)) (c : Se) (u : Value) (i : Nat) (hi : i < 2) : ((A ++ (c, u) :: D).flatMap seCells)[A.length * 2 + i]? = (seCells (c, u))[i]? := by
  rw [List.flatMap_append, List.flatMap_cons, List.getElem?_append_right (by rw [se_len]; omega), se_len, show A.length * 2 + i - A.length * 2 = i by omega, List.getElem?_append_left (by simp [seCells]; omega)]

theorem SnOwn.at {W : World} {B : Nat} {v : Value} {ns : List Sn} (h : SnOwn W B v ns) : SentsAt W (fun b => B ≤ b ∧ Pl W b) v ns := by
  rcases h.1.2 with ⟨rfl, h0⟩ | ⟨g, cap, cur, rfl, hb, hc, hn, hcm, hs, ht⟩
  · obtain rfl : ns = [] := List.length_eq_zero_iff.1 h0
    exact ⟨none, 0, rfl, Nat.zero_le _, fun i t h => by simp at h⟩
  · refine ⟨some ⟨g, 0, none⟩, cap, rfl, by omega, fun i e he => ?_⟩
    have hil := (List.getElem?_eq_some_iff.1 he).1
    have hsp : ns = ns.take i ++ e :: ns.drop (i + 1) := by
      conv => lhs; rw [← List.take_append_drop i ns, List.drop_eq_getElem_cons hil, (List.getElem?_eq_some_iff.1 he).2]
    have hlt : (ns.take i).length = i := by rw [List.length_take]; omega
    have hcell : ∀ j v, j < 3 → (snCells e)[j]? = some v → W.cell? ⟨g, i * 3 + j, none⟩ = some v := fun j v hj hv => by
      have := h.1.cells (g := g) rfl (i * 3 + j) v (by
        have := sn_mid (ns.take i) (ns.drop (i + 1)) e j hj
        rw [hlt, ← hsp] at this
        exact this.trans hv)
      rw [addr_addI, Nat.zero_add] at this
      exact this
    have hk := h.2 e (List.mem_of_getElem? he)
    refine ⟨g, 0, rfl, ⟨hb, cur, _, hc⟩, (Array.getElem?_eq_some_iff.1 hc).1, ?_, ?_, ?_, hk⟩
    · rw [Nat.zero_add]; exact hcell 0 _ (by omega) rfl
    · rw [Nat.zero_add]; exact hcell 1 _ (by omega) rfl
    · rw [Nat.zero_add]; exact hcell 2 _ (by omega) rfl
theorem SeOwn.at {W : World} {B : Nat} {cv : Value} {rs : List (Se × Value)} (h : SeOwn W B cv rs) : SeensAt W (fun b => B ≤ b ∧ Pl W b) cv (rs.map Prod.fst) := by
  rcases h.cells.2 with ⟨rfl, h0⟩ | ⟨g, cap, cur, rfl, hb, hc, hn, hcm, hs, ht⟩
  · obtain rfl : rs = [] := List.length_eq_zero_iff.1 h0
    exact ⟨none, 0, rfl, Nat.zero_le _, fun i t h => by simp at h⟩
  · refine ⟨some ⟨g, 0, none⟩, cap, by simp, by simp; omega, fun i e he => ?_⟩
    rw [List.getElem?_map] at he
    obtain ⟨r, hr, rfl⟩ := Option.map_eq_some_iff.1 he
    have hil := (List.getElem?_eq_some_iff.1 hr).1
    have hsp : rs = rs.take i ++ (r.1, r.2) :: rs.drop (i + 1) := by
      conv => lhs; rw [← List.take_append_drop i rs, List.drop_eq_getElem_cons hil, (List.getElem?_eq_some_iff.1 hr).2]
    have hlt : (rs.take i).length = i := by rw [List.length_take]; omega
    have hcell : ∀ j v, j < 2 → (seCells (r.1, r.2))[j]? = some v → W.cell? ⟨g, i * 2 + j, none⟩ = some v := fun j v hj hv => by
      have := h.cells.cells (g := g) rfl (i * 2 + j) v (by
        have := se_mid (rs.take i) (rs.drop (i + 1)) r.1 r.2 j hj
        rw [hlt, ← hsp] at this
        exact this.trans hv)
      rw [addr_addI, Nat.zero_add] at this
      exact this
    have hk := h.kids r (List.mem_of_getElem? hr)
    refine ⟨g, 0, r.2, rfl, ⟨hb, cur, _, hc⟩, (Array.getElem?_eq_some_iff.1 hc).1, ?_, ?_, hk.2.1, own_ints hk.1 hk.2.2⟩
    · rw [Nat.zero_add]; exact hcell 0 _ (by omega) rfl
    · rw [Nat.zero_add]; exact hcell 1 _ (by omega) rfl
theorem LkOwn.at {W : World} {B : Nat} {v : Value} {l : Lk} {ov sv : Value} {rs : List (Se × Value)} (h : LkOwn W B v l ov sv rs) : LkAt W (fun b => B ≤ b ∧ Pl W b) v l :=
  ⟨ov, sv, h.val, h.fits.1, h.fits.2, h.out.at, by have := h.seen.at; rw [h.is] at this; exact this⟩

theorem set_cell1 (xs : Array Value) (k : Nat) (u : Value) (L : List Value) (hs : k + 1 ≤ xs.size) (ht : xs.toList.take k = L) : (xs.setIfInBounds k u).toList.take (k + 1) = L ++ [u] := by
  obtain ⟨l⟩ := xs
  simp only [List.setIfInBounds_toArray] at *
  have hl : k + 1 ≤ l.length := by simpa using hs
  have hL : L.length = k := by rw [← ht]; simp; omega
  apply List.ext_getElem?
  intro j
  rcases Nat.lt_trichotomy j k with h | h | h
  · rw [List.getElem?_append_left (by omega), ← ht, List.getElem?_take_of_lt (by omega), List.getElem?_take_of_lt (by omega), List.getElem?_set_ne (by omega)]
  · subst h
    rw [List.getElem?_take_of_lt (by omega), List.getElem?_append_right (by omega), hL, Nat.sub_self, List.getElem?_set_self (by omega)]
    rfl
  · rw [List.getElem?_eq_none (by simp; omega), List.getElem?_eq_none (by simp; omega)]
/-- Three cells put behind a row with room. -/
theorem own_next3 {W : World} {B g n k : Nat} {e : TypeId} {xs : List Value} (h : W.ownsRow B e 3 (.slice (some ⟨g, 0, none⟩) k n) k xs) (hk : k < n) (a b c : Value) :
    (((W.setCell ⟨g, k * 3, none⟩ a).setCell ⟨g, k * 3 + 1, none⟩ b).setCell ⟨g, k * 3 + 2, none⟩ c).ownsRow B e 3 (.slice (some ⟨g, 0, none⟩) (k + 1) n) (k + 1) (xs ++ [a, b, c]) := by
  have hl := h.1
  rcases h.2 with ⟨h', _⟩ | ⟨g', cap', cur, h', hb', hc', hn', hm', hs', ht'⟩
  · simp at h'
  simp only [Value.slice.injEq, Option.some.injEq, Addr.mk.injEq, and_true, true_and] at h'
  obtain ⟨rfl, rfl⟩ := h'
  refine ⟨by simp; omega, .inr ⟨g, n, _, rfl, hb', block_setCell (block_setCell (block_setCell hc' _) _) _, by omega, hm', by simp [hs'], ?_⟩⟩
  have h0 := set_cell1 cur (k * 3) a xs (by omega) ht'
  have h1 := set_cell1 _ (k * 3 + 1) b _ (by simp; omega) h0
  have h2 := set_cell1 _ (k * 3 + 2) c _ (by simp; omega) h1
  rw [show (k + 1) * 3 = k * 3 + 2 + 1 by omega, h2]
  simp
theorem own_next2 {W : World} {B g n k : Nat} {e : TypeId} {xs : List Value} (h : W.ownsRow B e 2 (.slice (some ⟨g, 0, none⟩) k n) k xs) (hk : k < n) (a b : Value) :
    ((W.setCell ⟨g, k * 2, none⟩ a).setCell ⟨g, k * 2 + 1, none⟩ b).ownsRow B e 2 (.slice (some ⟨g, 0, none⟩) (k + 1) n) (k + 1) (xs ++ [a, b]) := by
  have hl := h.1
  rcases h.2 with ⟨h', _⟩ | ⟨g', cap', cur, h', hb', hc', hn', hm', hs', ht'⟩
  · simp at h'
  simp only [Value.slice.injEq, Option.some.injEq, Addr.mk.injEq, and_true, true_and] at h'
  obtain ⟨rfl, rfl⟩ := h'
  refine ⟨by simp; omega, .inr ⟨g, n, _, rfl, hb', block_setCell (block_setCell hc' _) _, by omega, hm', by simp [hs'], ?_⟩⟩
  have h0 := set_cell1 cur (k * 2) a xs (by omega) ht'
  have h1 := set_cell1 _ (k * 2 + 1) b _ (by simp; omega) h0
  rw [show (k + 1) * 2 = k * 2 + 1 + 1 by omega, h1]
  simp
/-- One more lies there. -/
theorem SeOwn.next {wr w1 : World} {B g n k : Nat} {rs : List (Se × Value)} {x : Se} {kv : Value} (h : SeOwn wr B (.slice (some ⟨g, 0, none⟩) k n) rs) (hk : rs.length = k) (hkn : k < n) (hb : Below wr.heap.size wr w1)
    (hx : w1.ownsRow wr.heap.size 3 1 kv x.ids.length (intVs x.ids)) (hok : SeOk x) (hB : B ≤ wr.heap.size) :
    SeOwn ((w1.setCell ⟨g, k * 2, none⟩ (.int .i64 x.low)).setCell ⟨g, k * 2 + 1, none⟩ kv) B (.slice (some ⟨g, 0, none⟩) (k + 1) n) (rs ++ [(x, kv)]) := by
  have h1 := h.below hb
  subst hk
  have hn2 := own_next2 h1.cells hkn (.int .i64 x.low) kv
  have keep : ∀ b, b ≠ g → ((w1.setCell ⟨g, rs.length * 2, none⟩ (.int .i64 x.low)).setCell ⟨g, rs.length * 2 + 1, none⟩ kv).heap[b]? = w1.heap[b]? := fun b hb => by
    rw [Below.heap_setCell _ _ _ b (by simpa using hb), Below.heap_setCell _ _ _ b (by simpa using hb)]
  refine ⟨?_, fun r hr => ?_, ?_⟩
  · rw [List.length_append, List.length_singleton, List.flatMap_append]
    simpa [seCells] using hn2
  · rw [List.mem_append, List.mem_singleton] at hr
    rcases hr with hr | rfl
    · have hk := h1.kids r hr
      exact ⟨own_moved hk.1 (fun b hb => keep b (fun e => own_ne hk.1 h1.cells (by decide) b hb (by rw [e]; rfl))), hk.2⟩
    · exact ⟨own_mono (own_moved hx (fun b hb => keep b (fun e => own_ne hx h1.cells (by decide) b hb (by rw [e]; rfl)))) hB, hok⟩
  · rw [List.map_append, List.pairwise_append]
    refine ⟨h.apart, by simp, fun u hu v hv => ?_⟩
    obtain ⟨r, hr, rfl⟩ := List.mem_map.1 hu
    simp at hv
    subst hv
    cases hb' : r.2.ownBlock with
    | none => exact .inl hb'
    | some q =>
      refine .inr fun e => ?_
      have h2 := own_lt (h.kids r hr).1 q hb'
      have h3 := (own_type hx q (e.symm.trans hb')).1
      omega
end Go.Proofs.Ytbaakhpmfljgnaa
