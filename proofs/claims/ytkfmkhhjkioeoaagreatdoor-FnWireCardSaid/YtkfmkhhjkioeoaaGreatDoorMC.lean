/-
  A heap's cells in plain words: which are right, and where one comes to from a place.
  Lists of which all fulfil something; the fields of a cell of no kind.
-/
import Derived.Test.YtkfmkhhjkioeoaaGreatDoorME
import Derived.Test.YtkfmkhhjkioeoaaGreatDoorMD
namespace Go.Proofs.YtkfmkhhjkioeoaaGreatDoor
open Go.RowKit Go.Joins

/-- Whether a cell's fields are right for its kind, with so many codes. -/
def Ce.fields (c : Ce) (codes : Int) : Bool :=
  if c.kind = 0 then (c.pos == 0) && ((c.kids.length : Int) == 0)
  else if c.kind = 1 ∨ c.kind = 5 then ((c.n == 0) && (c.pos == 0)) && ((c.kids.length : Int) == 0)
  else if c.kind = 2 then ((c.n == 0) && (c.pos == 0)) && ((c.kids.length : Int) == 2)
  else if c.kind = 3 then (inB c.n 1 6 && decide (0 ≤ c.pos)) && decide (c.pos < codes)
  else if c.kind = 4 then ((c.n == 0) && decide (0 ≤ c.pos)) && decide (c.pos < codes)
  else if c.kind = 6 then ((c.n == 0) && (c.pos == 0)) && ((c.kids.length : Int) == 1)
  else if c.kind = 7 then ((inB c.n (-1) 30 && decide (0 ≤ c.pos)) && ((c.kids.length : Int) == 0)) && (decide (0 ≤ c.n) || (c.pos == 0))
  else false
/-- Whether a cell is right, in a heap of so many. -/
def Ce.right (c : Ce) (cells codes : Int) : Bool := c.kids.all (fun k => inB k 0 (cells - 1)) && c.fields codes
/-- Whether a heap is. -/
def heapOk (es : List Ce) (codes : Int) : Bool := es.all (fun c => c.right es.length codes) && decide (es.length ≤ 3000)

/-- The cell at a place. -/
def cellAt (es : List Ce) (p : Int) : Option Ce := if 0 ≤ p then es[p.toNat]? else none
/-- Where one comes to from a place in fewer than so many steps. -/
def followN (es : List Ce) : Nat → Int → Int
  | 0, _ => -1
  | m + 1, p => match cellAt es p with
    | none => -1
    | some c => if c.kind = 6 then (match c.kids[0]? with | none => p | some q => followN es m q) else p
def follow (es : List Ce) (p : Int) : Int := followN es (es.length + 1) p

theorem cellAt_none {es : List Ce} {p : Int} (h : inB p 0 ((es.length : Int) - 1) = false) : cellAt es p = none := by
  unfold cellAt
  split
  · rename_i h0
    refine List.getElem?_eq_none ?_
    unfold inB at h
    rw [decide_eq_true h0, Bool.true_and] at h
    have := of_decide_eq_false h
    omega
  · rfl
theorem cellAt_some {es : List Ce} {p : Int} (h : inB p 0 ((es.length : Int) - 1) = true) : ∃ (k : Nat) (c : Ce), p = k ∧ k < es.length ∧ es[k]? = some c ∧ cellAt es p = some c := by
  unfold inB at h
  rw [Bool.and_eq_true, decide_eq_true_eq, decide_eq_true_eq] at h
  obtain ⟨k, rfl⟩ : ∃ k : Nat, p = k := ⟨p.toNat, by omega⟩
  have hk : k < es.length := by omega
  refine ⟨k, es[k], rfl, hk, List.getElem?_eq_getElem hk, ?_⟩
  unfold cellAt
  rw [if_pos h.1, Int.toNat_natCast]
  exact List.getElem?_eq_getElem hk
theorem followN_none {es : List Ce} {p : Int} (m : Nat) (h : cellAt es p = none) : followN es m p = -1 := by
  cases m with
  | zero => rfl
  | succ m => rw [followN, h]
theorem followN_here {es : List Ce} {p : Int} {c : Ce} (m : Nat) (h : cellAt es p = some c) (hc : c.kind ≠ 6 ∨ c.kids.length = 0) : followN es (m + 1) p = p := by
  rw [followN, h]
  simp only []
  by_cases hk : c.kind = 6
  · rw [if_pos hk, List.getElem?_eq_none (by rcases hc with hc | hc; exact absurd hk hc; omega)]
  · rw [if_neg hk]
theorem followN_on {es : List Ce} {p q : Int} {c : Ce} (m : Nat) (h : cellAt es p = some c) (hc : c.kind = 6) (hq : c.kids[0]? = some q) : followN es (m + 1) p = followN es m q := by
  rw [followN, h]
  simp only []
  rw [if_pos hc, hq]
end Go.Proofs.YtkfmkhhjkioeoaaGreatDoor

namespace Go.Proofs.YtkfmkhhjkioeoaaGreatDoor
open Go.RowKit Go.Joins

set_option maxRecDepth 100000

theorem all_take {α : Type} (p : α → Bool) (es : List α) (k : Nat) {x : α} (h : es[k]? = some x) (hp : (es.take k).all p = true) (hx : p x = true) : (es.take (k + 1)).all p = true := by
  have hk := (List.getElem?_eq_some_iff.1 h).1
  rw [List.take_succ_eq_append_getElem hk, List.all_append, hp, (List.getElem?_eq_some_iff.1 h).2]
  simp [hx]
theorem all_not {α : Type} (p : α → Bool) (es : List α) (k : Nat) {x : α} (h : es[k]? = some x) (hx : p x = false) : es.all p = false := by
  cases hh : es.all p with
  | false => rfl
  | true => rw [List.all_eq_true] at hh; rw [hh x (List.mem_of_getElem? h)] at hx; cases hx

/-- The loop over a cell's kids aside, its fields by its kind. -/
theorem fields_other (c : Ce) (codes : Int) (h : ¬ (0 ≤ c.kind ∧ c.kind ≤ 7)) : c.fields codes = false := by
  unfold Ce.fields
  rw [if_neg (by omega), if_neg (by omega), if_neg (by omega), if_neg (by omega), if_neg (by omega), if_neg (by omega), if_neg (by omega)]
end Go.Proofs.YtkfmkhhjkioeoaaGreatDoor
