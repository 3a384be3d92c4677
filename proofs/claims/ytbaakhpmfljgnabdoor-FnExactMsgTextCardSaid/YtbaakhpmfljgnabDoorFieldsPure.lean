/-
  Lists of which all fulfil something; the fields of a cell of no kind.
-/
import Derived.Test.YtbaakhpmfljgnabDoorCellsPure
namespace Go.Proofs.YtbaakhpmfljgnabDoor
open Go.RowKit Go.Joins

set_option maxRecDepth 100000

theorem all_take {α : Type} (p : α → Bool) (es : List α) (k : Nat) {x : α} (h : es[k]? = some x) (hp : (es.take k).all p = true) (hx : p x = true) : (es.take (k + 1)).all p = true := by
  have hk := (List.getElem?_eq_some_iff.1 h).1
  rw [List.take_succ_eq_append_getElem hk, List.all_append, hp, (List.getElem?_eq_some_iff.1 h).2]
  simp [hx]
theorem all_not {α : Type} (p : α → Bool) (es : List α) (k : Nat) {x : α} (h : es[k]? = some x) (hx : p x = false) : es.all p = false := by
  cases hh : es.all p with
  | false => rfl
  | true => rw [List.all_eq_true] at hh; rw [hh x (List.mem_of_getElem? h)] at hx; cases hx

/-- The loop over a cell's kids aside, its fields by its kind. -/
theorem fields_other (c : Ce) (codes : Int) (h : ¬ (0 ≤ c.kind ∧ c.kind ≤ 7)) : c.fields codes = false := by
  unfold Ce.fields
  rw [if_neg (by omega), if_neg (by omega), if_neg (by omega), if_neg (by omega), if_neg (by omega), if_neg (by omega), if_neg (by omega)]
end Go.Proofs.YtbaakhpmfljgnabDoor
