/-
  What one comes to in a heap, in plain words; how a worklist finds it.
-/
import Derived.Test.YtfhjkiimdkjhjaaGreatDoorCellsPure
namespace Go.Proofs.YtfhjkiimdkjhjaaGreatDoor
open Go.RowKit Go.Joins

/-- One comes to a place of the heap from some. -/
inductive Reach (es : List Ce) (rs : List Int) : Nat → Prop
  | root {i : Nat} : (i : Int) ∈ rs → i < es.length → Reach es rs i
  | kid {i j : Nat} {c : Ce} : Reach es rs i → es[i]? = some c → (j : Int) ∈ c.kids → j < es.length → Reach es rs j
theorem Reach.lt {es : List Ce} {rs : List Int} {i : Nat} (h : Reach es rs i) : i < es.length := by cases h <;> assumption
open Classical in
/-- Which places one comes to. -/
noncomputable def marksOf (es : List Ce) (rs : List Int) : List Bool := (List.range es.length).map (fun i => decide (Reach es rs i))
open Classical in
/-- The places that one comes to, in order. -/
noncomputable def aliveOf (es : List Ce) (rs : List Int) : List Int := ((List.range es.length).filter (fun i => decide (Reach es rs i))).map (fun i : Nat => (i : Int))
open Classical in
/-- Those of them ahead of a place. -/
noncomputable def aliveTo (es : List Ce) (rs : List Int) (k : Nat) : List Int := ((List.range k).filter (fun i => decide (Reach es rs i))).map (fun i : Nat => (i : Int))
theorem aliveTo_all (es : List Ce) (rs : List Int) : aliveTo es rs es.length = aliveOf es rs := rfl
theorem aliveTo_yes {es : List Ce} {rs : List Int} {k : Nat} (h : Reach es rs k) : aliveTo es rs (k + 1) = aliveTo es rs k ++ [(k : Int)] := by
  unfold aliveTo
  rw [List.range_succ, List.filter_append, List.map_append]
  simp [h]
theorem aliveTo_no {es : List Ce} {rs : List Int} {k : Nat} (h : ¬ Reach es rs k) : aliveTo es rs (k + 1) = aliveTo es rs k := by
  unfold aliveTo
  rw [List.range_succ, List.filter_append, List.map_append]
  simp [h]
theorem aliveTo_len (es : List Ce) (rs : List Int) (k : Nat) : (aliveTo es rs k).length ≤ k := by
  unfold aliveTo
  rw [List.length_map]
  exact Nat.le_trans (List.length_filter_le _ _) (by simp)
theorem aliveTo_in (es : List Ce) (rs : List Int) (k : Nat) : ∀ z ∈ aliveTo es rs k, 0 ≤ z ∧ z < k := by
  intro z hz
  unfold aliveTo at hz
  obtain ⟨i, hi, rfl⟩ := List.mem_map.1 hz
  have := List.mem_range.1 (List.mem_filter.1 hi).1
  omega
theorem marksOf_yes {es : List Ce} {rs : List Int} {k : Nat} (h : Reach es rs k) : (marksOf es rs)[k]? = some true := by
  unfold marksOf
  rw [List.getElem?_map, List.getElem?_range h.lt]
  simp [h]
theorem marksOf_no {es : List Ce} {rs : List Int} {k : Nat} (hk : k < es.length) (h : ¬ Reach es rs k) : (marksOf es rs)[k]? = some false := by
  unfold marksOf
  rw [List.getElem?_map, List.getElem?_range hk]
  simp [h]
theorem marksOf_len (es : List Ce) (rs : List Int) : (marksOf es rs).length = es.length := by simp [marksOf]

/-- How many kids the cells have that are not marked. -/
def leftOf : List Ce → List Bool → Nat
  | c :: es, b :: bs => (if b then 0 else c.kids.length) + leftOf es bs
  | _, _ => 0
theorem leftOf_set : ∀ (es : List Ce) (bs : List Bool) (i : Nat) (c : Ce), es[i]? = some c → bs[i]? = some false → leftOf es (bs.set i true) + c.kids.length = leftOf es bs
  | [], _, _, _, h, _ => by simp at h
  | _ :: _, [], _, _, _, h => by simp at h
  | e :: es, b :: bs, 0, c, h1, h2 => by
    simp at h1 h2; subst h1 h2; simp [leftOf]; omega
  | e :: es, b :: bs, i + 1, c, h1, h2 => by
    simp at h1 h2
    have := leftOf_set es bs i c h1 h2
    simp only [List.set_cons_succ, leftOf]; omega
theorem leftOf_none : ∀ (es : List Ce) (n : Nat), leftOf es (List.replicate n false) ≤ ((es.map Ce.bulk)).sum
  | [], n => by cases n <;> simp [leftOf]
  | e :: es, 0 => by simp [leftOf]
  | e :: es, n + 1 => by
    have := leftOf_none es n
    simp only [List.replicate_succ, leftOf, List.map_cons, List.sum_cons, Ce.bulk]
    simp; omega
theorem leftOf_bulk (es : List Ce) : es.length + leftOf es (List.replicate es.length false) ≤ bulkL es := by
  have := leftOf_none es es.length
  unfold bulkL preL
  rw [List.take_length]
  omega

/-- A worklist under way: what is marked, and what is still to be looked at. -/
structure MarkInv (es : List Ce) (rs : List Int) (bs : List Bool) (todo : List Int) : Prop where
  len : bs.length = es.length
  sound : ∀ i : Nat, bs[i]? = some true → Reach es rs i
  next : ∀ i : Nat, (i : Int) ∈ todo → i < es.length → Reach es rs i
  roots : ∀ i : Nat, (i : Int) ∈ rs → i < es.length → bs[i]? = some true ∨ (i : Int) ∈ todo
  kids : ∀ (i : Nat) (c : Ce), bs[i]? = some true → es[i]? = some c → ∀ j : Nat, (j : Int) ∈ c.kids → j < es.length → bs[j]? = some true ∨ (j : Int) ∈ todo
theorem MarkInv.start (es : List Ce) (rs : List Int) : MarkInv es rs (List.replicate es.length false) rs where
  len := by simp
  sound := fun i h => by simp [List.getElem?_replicate] at h
  next := fun i h hl => .root h hl
  roots := fun i h _ => .inr h
  kids := fun i c h => by simp [List.getElem?_replicate] at h
theorem MarkInv.done {es : List Ce} {rs : List Int} {bs : List Bool} (h : MarkInv es rs bs []) : bs = marksOf es rs := by
  have comp : ∀ i, Reach es rs i → bs[i]? = some true := by
    intro i hr
    induction hr with
    | root h1 h2 => exact (h.roots _ h1 h2).resolve_right (by simp)
    | kid h1 h2 h3 h4 ih => exact (h.kids _ _ ih h2 _ h3 h4).resolve_right (by simp)
  refine List.ext_getElem? fun i => ?_
  unfold marksOf
  by_cases hi : i < es.length
  · have hb : i < bs.length := by rw [h.len]; exact hi
    rw [List.getElem?_map, List.getElem?_range hi, Option.map_some, List.getElem?_eq_getElem hb]
    congr 1
    by_cases hr : Reach es rs i
    · have := comp i hr
      rw [List.getElem?_eq_getElem hb] at this
      rw [Option.some.inj this]
      simp [hr]
    · cases hx : bs[i] with
      | true => exact absurd (h.sound i (by rw [List.getElem?_eq_getElem hb, hx])) hr
      | false => simp [hr]
  · rw [List.getElem?_eq_none (by rw [h.len]; omega), List.getElem?_eq_none (by simp; omega)]
/-- What is looked at is no place, or marked. -/
theorem MarkInv.skip {es : List Ce} {rs : List Int} {bs : List Bool} {t : List Int} {z : Int} (h : MarkInv es rs bs (t ++ [z])) (hz : ∀ i : Nat, z = i → i < es.length → bs[i]? = some true) : MarkInv es rs bs t where
  len := h.len
  sound := h.sound
  next := fun i hi hl => h.next i (by simp [hi]) hl
  roots := fun i hi hl => by
    rcases h.roots i hi hl with h1 | h1
    · exact .inl h1
    · rw [List.mem_append, List.mem_singleton] at h1
      rcases h1 with h1 | h1
      · exact .inr h1
      · exact .inl (hz i h1.symm hl)
  kids := fun i c hb hc j hj hl => by
    rcases h.kids i c hb hc j hj hl with h1 | h1
    · exact .inl h1
    · rw [List.mem_append, List.mem_singleton] at h1
      rcases h1 with h1 | h1
      · exact .inr h1
      · exact .inl (hz j h1.symm hl)
/-- What is looked at is marked now, and its kids are to be looked at. -/
theorem MarkInv.mark {es : List Ce} {rs : List Int} {bs : List Bool} {t : List Int} {k : Nat} {c : Ce} (h : MarkInv es rs bs (t ++ [(k : Int)])) (hc : es[k]? = some c) : MarkInv es rs (bs.set k true) (t ++ c.kids) := by
  have hk : k < es.length := (List.getElem?_eq_some_iff.1 hc).1
  have hr : Reach es rs k := h.next k (by simp) hk
  have up : ∀ i : Nat, bs[i]? = some true ∨ (i : Int) ∈ t ++ [(k : Int)] → (bs.set k true)[i]? = some true ∨ (i : Int) ∈ t ++ c.kids := by
    intro i hi
    by_cases hik : k = i
    · subst hik; exact .inl (by rw [List.getElem?_set_self (by rw [h.len]; exact hk)])
    · rw [List.getElem?_set_ne hik]
      rcases hi with hi | hi
      · exact .inl hi
      · rw [List.mem_append, List.mem_singleton] at hi
        rcases hi with hi | hi
        · exact .inr (by simp [hi])
        · exact absurd (by omega) hik
  refine ⟨by rw [List.length_set]; exact h.len, fun i hi => ?_, fun i hi hl => ?_, fun i hi hl => up i (h.roots i hi hl), fun i d hb hd j hj hl => ?_⟩
  · by_cases hik : k = i
    · subst hik; exact hr
    · rw [List.getElem?_set_ne hik] at hi; exact h.sound i hi
  · rw [List.mem_append] at hi
    rcases hi with hi | hi
    · exact h.next i (by simp [hi]) hl
    · exact .kid hr hc hi hl
  · by_cases hik : k = i
    · subst hik
      obtain rfl : c = d := Option.some.inj (hc.symm.trans hd)
      exact .inr (by simp [hj])
    · rw [List.getElem?_set_ne hik] at hb
      exact up j (h.kids i d hb hd j hj hl)
end Go.Proofs.YtfhjkiimdkjhjaaGreatDoor
