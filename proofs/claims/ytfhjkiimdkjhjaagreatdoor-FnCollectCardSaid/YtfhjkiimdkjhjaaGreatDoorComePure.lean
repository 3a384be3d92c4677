/-
  Marking with what is marked when it is put among those that wait; numbers for the marked ones.
-/
import Derived.Test.YtfhjkiimdkjhjaaGreatDoorCollectPure
import Derived.Test.YtfhjkiimdkjhjaaGreatDoorIntMap
namespace Go.Proofs.YtfhjkiimdkjhjaaGreatDoor
open Go.RowKit Go.Joins

/-- A row of marks as a map from places to 0 and 1. -/
def fOf (bs : List Bool) : Int → Option Int := fun z => if 0 ≤ z then (bs[z.toNat]?).map (fun b => if b then 1 else 0) else none
theorem fOf_at (bs : List Bool) (k : Nat) : fOf bs (k : Int) = (bs[k]?).map (fun b => if b then 1 else 0) := by
  unfold fOf
  rw [if_pos (by omega), Int.toNat_natCast]
theorem fOf_neg {bs : List Bool} {z : Int} (h : z < 0) : fOf bs z = none := by
  unfold fOf
  rw [if_neg (by omega)]
theorem fOf_set (bs : List Bool) (k : Nat) (hk : k < bs.length) : setI (fOf bs) (k : Int) 1 = fOf (bs.set k true) := by
  funext z
  unfold setI
  by_cases h : z = k
  · subst h
    rw [if_pos rfl, fOf_at, List.getElem?_set_self hk]
    rfl
  · rw [if_neg h]
    unfold fOf
    by_cases h0 : 0 ≤ z
    · rw [if_pos h0, if_pos h0, List.getElem?_set_ne (by omega)]
    · rw [if_neg h0, if_neg h0]
theorem fOf_push (k : Nat) : setI (fOf (List.replicate k false)) (k : Int) 0 = fOf (List.replicate (k + 1) false) := by
  funext z
  unfold setI fOf
  by_cases h : z = k
  · subst h
    simp
  · rw [if_neg h]
    by_cases h0 : 0 ≤ z
    · rw [if_pos h0, if_pos h0, List.getElem?_replicate, List.getElem?_replicate]
      by_cases hz : z.toNat < k
      · rw [if_pos hz, if_pos (by omega)]
      · rw [if_neg hz, if_neg (by omega)]
    · rw [if_neg h0, if_neg h0]
/-- What the lookup tells of a place. -/
theorem fOf_zero {bs : List Bool} {z : Int} : ((fOf bs z).isSome && ((fOf bs z).getD 0 == 0)) = true → ∃ k : Nat, z = k ∧ bs[k]? = some false := by
  intro h
  unfold fOf at h
  by_cases h0 : 0 ≤ z
  · rw [if_pos h0] at h
    refine ⟨z.toNat, by omega, ?_⟩
    cases hb : bs[z.toNat]? with
    | none => rw [hb] at h; simp at h
    | some x =>
      rw [hb] at h
      cases x with
      | false => rfl
      | true => simp at h
  · rw [if_neg h0] at h; simp at h
theorem fOf_other {bs : List Bool} {z : Int} (h : ((fOf bs z).isSome && ((fOf bs z).getD 0 == 0)) = false) : ∀ k : Nat, z = k → k < bs.length → bs[k]? = some true := by
  rintro k rfl hk
  rw [fOf_at, List.getElem?_eq_getElem hk] at h
  rw [List.getElem?_eq_getElem hk]
  cases hb : bs[k] with
  | true => rfl
  | false => rw [hb] at h; simp at h

def countF : List Bool → Nat
  | [] => 0
  | true :: bs => countF bs
  | false :: bs => countF bs + 1
theorem countF_set : ∀ (bs : List Bool) (k : Nat), bs[k]? = some false → countF (bs.set k true) + 1 = countF bs
  | [], _, h => by simp at h
  | b :: bs, 0, h => by simp at h; subst h; rfl
  | b :: bs, k + 1, h => by
    simp at h
    have := countF_set bs k h
    cases b
    · simp only [List.set_cons_succ, countF]; omega
    · simp only [List.set_cons_succ, countF]; omega
theorem countF_le : ∀ bs : List Bool, countF bs ≤ bs.length
  | [] => Nat.le_refl _
  | b :: bs => by have := countF_le bs; cases b <;> simp [countF] <;> omega

/-- Coming to a row of places, one behind the other: the marks then, and the ones that are new. -/
inductive Come (bs0 : List Bool) : List Int → List Bool → List Int → Prop
  | none : Come bs0 [] bs0 []
  | skip {zs : List Int} {bs : List Bool} {new : List Int} {z : Int} : Come bs0 zs bs new → (∀ k : Nat, z = k → k < bs.length → bs[k]? = some true) → Come bs0 (zs ++ [z]) bs new
  | mark {zs : List Int} {bs : List Bool} {new : List Int} {k : Nat} : Come bs0 zs bs new → bs[k]? = some false → Come bs0 (zs ++ [(k : Int)]) (bs.set k true) (new ++ [(k : Int)])
theorem Come.len {bs0 bs : List Bool} {zs new : List Int} (h : Come bs0 zs bs new) : bs.length = bs0.length := by
  induction h with
  | none => rfl
  | skip _ _ ih => exact ih
  | mark _ _ ih => rw [List.length_set]; exact ih
theorem Come.count {bs0 bs : List Bool} {zs new : List Int} (h : Come bs0 zs bs new) : countF bs + new.length = countF bs0 := by
  induction h with
  | none => rfl
  | skip _ _ ih => exact ih
  | mark _ h ih => have := countF_set _ _ h; rw [List.length_append, List.length_singleton]; omega
theorem Come.mono {bs0 bs : List Bool} {zs new : List Int} (h : Come bs0 zs bs new) : ∀ i : Nat, bs0[i]? = some true → bs[i]? = some true := by
  induction h with
  | none => exact fun _ h => h
  | skip _ _ ih => exact ih
  | mark _ h ih =>
    rename_i k _
    intro i hi
    have := ih i hi
    rw [List.getElem?_set]
    split
    · rename_i e; subst e; rw [h] at this; cases this
    · exact this
theorem Come.all {bs0 bs : List Bool} {zs new : List Int} (h : Come bs0 zs bs new) : ∀ i : Nat, (i : Int) ∈ zs → i < bs0.length → bs[i]? = some true := by
  induction h with
  | none => intro i hi; simp at hi
  | skip h0 h ih =>
    intro i hi hl
    rw [List.mem_append, List.mem_singleton] at hi
    rcases hi with hi | hi
    · exact ih i hi hl
    · exact h i hi.symm (by rw [h0.len]; exact hl)
  | mark h0 h ih =>
    rename_i k _
    intro i hi hl
    rw [List.getElem?_set]
    split
    · rename_i e
      rw [if_pos (by rw [h0.len]; omega)]
    · rw [List.mem_append, List.mem_singleton] at hi
      rcases hi with hi | hi
      · exact ih i hi hl
      · omega
theorem Come.new {bs0 bs : List Bool} {zs new : List Int} (h : Come bs0 zs bs new) : ∀ i : Nat, bs[i]? = some true → bs0[i]? = some true ∨ (i : Int) ∈ new := by
  induction h with
  | none => exact fun _ h => .inl h
  | skip _ _ ih => exact ih
  | mark _ h ih =>
    intro i hi
    rw [List.getElem?_set] at hi
    split at hi
    · rename_i e; subst e; exact .inr (by simp)
    · rcases ih i hi with h1 | h1
      · exact .inl h1
      · exact .inr (by simp [h1])
theorem Come.from {bs0 bs : List Bool} {zs new : List Int} (h : Come bs0 zs bs new) : ∀ z ∈ new, z ∈ zs ∧ ∃ i : Nat, z = i ∧ bs[i]? = some true := by
  induction h with
  | none => intro z hz; simp at hz
  | skip _ _ ih => intro z hz; exact ⟨by simp [(ih z hz).1], (ih z hz).2⟩
  | mark h0 h ih =>
    rename_i k
    intro z hz
    rw [List.mem_append, List.mem_singleton] at hz
    rcases hz with hz | rfl
    · obtain ⟨h1, i, rfl, h2⟩ := ih z hz
      refine ⟨by simp [h1], i, rfl, ?_⟩
      rw [List.getElem?_set]
      split
      · rename_i e; subst e; rw [h] at h2; cases h2
      · exact h2
    · exact ⟨by simp, k, rfl, List.getElem?_set_self (List.getElem?_eq_some_iff.1 h).1⟩

/-- The marking under way. -/
structure Mi (es : List Ce) (rs : List Int) (bs : List Bool) (todo : List Int) : Prop where
  len : bs.length = es.length
  sound : ∀ i : Nat, bs[i]? = some true → Reach es rs i
  roots : ∀ i : Nat, (i : Int) ∈ rs → i < es.length → bs[i]? = some true
  wait : ∀ z ∈ todo, ∃ i : Nat, z = i ∧ bs[i]? = some true
  kids : ∀ (i : Nat) (c : Ce), bs[i]? = some true → (i : Int) ∉ todo → es[i]? = some c → ∀ j : Nat, (j : Int) ∈ c.kids → j < es.length → bs[j]? = some true
theorem Mi.perm {es : List Ce} {rs : List Int} {bs : List Bool} {t t' : List Int} (h : Mi es rs bs t) (hp : t'.Perm t) : Mi es rs bs t' :=
  ⟨h.len, h.sound, h.roots, fun z hz => h.wait z (hp.mem_iff.1 hz), fun i c h1 h2 => h.kids i c h1 (fun h3 => h2 (hp.mem_iff.2 h3))⟩
theorem Mi.start {es : List Ce} {rs : List Int} {bs : List Bool} {new : List Int} (h : Come (List.replicate es.length false) rs bs new) : Mi es rs bs new where
  len := by rw [h.len]; simp
  sound := fun i hi => by
    rcases h.new i hi with h1 | h1
    · simp [List.getElem?_replicate] at h1
    · have hl : i < es.length := by
        have := (List.getElem?_eq_some_iff.1 hi).1
        rw [h.len] at this
        simpa using this
      exact .root (h.from _ h1).1 hl
  roots := fun i hi hl => h.all i hi (by simpa using hl)
  wait := fun z hz => (h.from z hz).2
  kids := fun i c hi hn => by
    rcases h.new i hi with h1 | h1
    · simp [List.getElem?_replicate] at h1
    · exact absurd h1 hn
theorem Mi.step {es : List Ce} {rs : List Int} {bs bs' : List Bool} {t new : List Int} {k : Nat} {c : Ce} (h : Mi es rs bs (t ++ [(k : Int)])) (hc : es[k]? = some c) (hm : Come bs c.kids bs' new) : Mi es rs bs' (t ++ new) where
  len := hm.len.trans h.len
  sound := fun i hi => by
    rcases hm.new i hi with h1 | h1
    · exact h.sound i h1
    · obtain ⟨j, hj, hb⟩ := h.wait (k : Int) (by simp)
      have : k = j := by omega
      subst this
      exact .kid (h.sound k hb) hc (hm.from _ h1).1 (by
        have := (List.getElem?_eq_some_iff.1 hi).1
        rw [hm.len, h.len] at this
        exact this)
  roots := fun i hi hl => hm.mono i (h.roots i hi hl)
  wait := fun z hz => by
    rw [List.mem_append] at hz
    rcases hz with hz | hz
    · obtain ⟨i, rfl, hi⟩ := h.wait z (by simp [hz])
      exact ⟨i, rfl, hm.mono i hi⟩
    · exact (hm.from z hz).2
  kids := fun i d hi hn hd j hj hl => by
    rw [List.mem_append, not_or] at hn
    have hbi := (hm.new i hi).resolve_right hn.2
    by_cases hik : (i : Int) = k
    · have : i = k := by omega
      subst this
      obtain rfl : c = d := Option.some.inj (hc.symm.trans hd)
      exact hm.all j hj (by rw [h.len]; exact hl)
    · exact hm.mono j (h.kids i d hbi (by rw [List.mem_append, List.mem_singleton, not_or]; exact ⟨hn.1, hik⟩) hd j hj hl)
theorem Mi.done {es : List Ce} {rs : List Int} {bs : List Bool} (h : Mi es rs bs []) : bs = marksOf es rs := by
  have comp : ∀ i, Reach es rs i → bs[i]? = some true := by
    intro i hr
    induction hr with
    | root h1 h2 => exact h.roots _ h1 h2
    | kid h1 h2 h3 h4 ih => exact h.kids _ _ ih (by simp) h2 _ h3 h4
  refine List.ext_getElem? fun i => ?_
  by_cases hi : i < es.length
  · by_cases hr : Reach es rs i
    · rw [comp i hr, marksOf_yes hr]
    · rw [marksOf_no hi hr]
      have hb : i < bs.length := by rw [h.len]; exact hi
      rw [List.getElem?_eq_getElem hb]
      cases hx : bs[i] with
      | true => exact absurd (h.sound i (by rw [List.getElem?_eq_getElem hb, hx])) hr
      | false => rfl
  · rw [List.getElem?_eq_none (by rw [h.len]; omega), List.getElem?_eq_none (by rw [marksOf_len]; omega)]

/-- The numbers of the marked ones. -/
def fAlive (bs : List Bool) : Int → Option Int := fun z => if 0 ≤ z then (match bs[z.toNat]? with | some true => some (countT (bs.take z.toNat) : Int) | _ => none) else none
/-- .. when those ahead of a place have theirs. -/
def fPart (bs : List Bool) (k : Nat) : Int → Option Int := fun z => if z < k then fAlive bs z else fOf bs z
theorem fPart_zero (bs : List Bool) : fPart bs 0 = fOf bs := by
  funext z
  unfold fPart
  by_cases h : z < ((0 : Nat) : Int)
  · rw [if_pos h]
    unfold fAlive fOf
    rw [if_neg (by omega), if_neg (by omega)]
  · rw [if_neg h]
theorem fPart_all (bs : List Bool) : fPart bs bs.length = fAlive bs := by
  funext z
  unfold fPart
  by_cases h : z < (bs.length : Int)
  · rw [if_pos h]
  · rw [if_neg h]
    unfold fAlive fOf
    rw [if_pos (by omega), if_pos (by omega), List.getElem?_eq_none (by omega)]
    rfl
theorem fPart_yes (bs : List Bool) (k : Nat) (h : bs[k]? = some true) : setI (fPart bs k) (k : Int) (countT (bs.take k) : Int) = fPart bs (k + 1) := by
  funext z
  unfold setI fPart
  by_cases hz : z = k
  · subst hz
    rw [if_pos rfl, if_pos (by omega)]
    unfold fAlive
    rw [if_pos (by omega), Int.toNat_natCast, h]
  · rw [if_neg hz]
    by_cases h1 : z < (k : Int)
    · rw [if_pos h1, if_pos (by omega)]
    · rw [if_neg h1, if_neg (by omega)]
theorem fPart_no (bs : List Bool) (k : Nat) (h : bs[k]? = some false) : delI (fPart bs k) (k : Int) = fPart bs (k + 1) := by
  funext z
  unfold delI fPart
  by_cases hz : z = k
  · subst hz
    rw [if_pos rfl, if_pos (by omega)]
    unfold fAlive
    rw [if_pos (by omega), Int.toNat_natCast, h]
  · rw [if_neg hz]
    by_cases h1 : z < (k : Int)
    · rw [if_pos h1, if_pos (by omega)]
    · rw [if_neg h1, if_neg (by omega)]
theorem fPart_here (bs : List Bool) (k : Nat) : fPart bs k (k : Int) = (bs[k]?).map (fun b => if b then 1 else 0) := by
  unfold fPart
  rw [if_neg (by omega), fOf_at]
theorem countT_take (bs : List Bool) (k : Nat) (x : Bool) (h : bs[k]? = some x) : countT (bs.take (k + 1)) = countT (bs.take k) + (if x then 1 else 0) := by
  have hk := (List.getElem?_eq_some_iff.1 h).1
  have key : ∀ (a : List Bool) (y : Bool), countT (a ++ [y]) = countT a + (if y then 1 else 0) := by
    intro a y
    induction a with
    | nil => cases y <;> rfl
    | cons b a ih => cases b <;> simp [countT, ih] <;> omega
  rw [List.take_succ_eq_append_getElem hk, key, (List.getElem?_eq_some_iff.1 h).2]
theorem countT_take_le (bs : List Bool) (k : Nat) : countT (bs.take k) ≤ k := by
  have := countT_le (bs.take k)
  rw [List.length_take] at this
  omega
theorem toOf_at : ∀ (bs : List Bool) (n : Int) (k : Nat), (toOf n bs)[k]? = (bs[k]?).map (fun b => if b then n + countT (bs.take k) else -1)
  | [], n, k => by simp [toOf]
  | true :: bs, n, 0 => by simp [toOf, countT]
  | false :: bs, n, 0 => by simp [toOf]
  | true :: bs, n, k + 1 => by
    simp only [toOf, List.getElem?_cons_succ, List.take_succ_cons, countT]
    rw [toOf_at bs (n + 1) k]
    congr 1
    funext b
    cases b
    · rfl
    · simp; omega
  | false :: bs, n, k + 1 => by
    simp only [toOf, List.getElem?_cons_succ, List.take_succ_cons, countT]
    exact toOf_at bs n k
theorem fAlive_moved (bs : List Bool) (z : Int) : (fAlive bs z).getD (-1) = movedZ (toOf 0 bs) z := by
  unfold fAlive movedZ
  by_cases h : 0 ≤ z
  · rw [if_pos h, if_pos h, toOf_at]
    cases hb : bs[z.toNat]? with
    | none => rfl
    | some b => cases b <;> simp
  · rw [if_neg h, if_neg h]; rfl
end Go.Proofs.YtfhjkiimdkjhjaaGreatDoor
