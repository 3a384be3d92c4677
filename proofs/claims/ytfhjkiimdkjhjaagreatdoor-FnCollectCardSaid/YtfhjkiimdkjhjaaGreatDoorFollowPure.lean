/-
  Where one comes to over cells that stand for others: as many steps as there are cells are enough; a circle has no end.
-/
import Derived.Test.YtfhjkiimdkjhjaaGreatDoorCellsPure
namespace Go.Proofs.YtfhjkiimdkjhjaaGreatDoor
open Go.RowKit Go.Joins

theorem nodup_below : ∀ (n : Nat) (l : List Nat), l.Nodup → (∀ x ∈ l, x < n) → l.length ≤ n
  | 0, l, _, h => by
    cases l with
    | nil => exact Nat.le_refl _
    | cons x r => exact absurd (h x (by simp)) (by omega)
  | n + 1, l, hd, h => by
    by_cases hm : n ∈ l
    · have h1 := nodup_below n (l.erase n) (hd.erase n) (fun x hx => by
        have h2 := (hd.mem_erase_iff).1 hx
        have h3 := h x h2.2
        have h4 := h2.1
        omega)
      rw [List.length_erase_of_mem hm] at h1
      omega
    · exact Nat.le_succ_of_le (nodup_below n l hd (fun x hx => by
        have h3 := h x hx
        have : x ≠ n := fun e => hm (e ▸ hx)
        omega))
theorem cellAt_in {es : List Ce} {p : Int} {c : Ce} (h : cellAt es p = some c) : ∃ k : Nat, p = k ∧ k < es.length ∧ es[k]? = some c := by
  unfold cellAt at h
  split at h
  · have h2 := (List.getElem?_eq_some_iff.1 h).1
    exact ⟨p.toNat, by omega, h2, h⟩
  · cases h
theorem followN_mono (es : List Ce) : ∀ (m : Nat) (p : Int), followN es m p ≠ -1 → followN es (m + 1) p = followN es m p
  | 0, p, h => absurd rfl h
  | m + 1, p, h => by
    rw [followN, followN]
    rw [followN] at h
    cases hc : cellAt es p with
    | none => rfl
    | some c =>
      simp only [hc] at h ⊢
      by_cases hk : c.kind = 6
      · rw [if_pos hk] at h ⊢
        rw [if_pos hk]
        cases hq : c.kids[0]? with
        | none => rfl
        | some q => simp only [hq] at h ⊢; exact followN_mono es m q h
      · rw [if_neg hk, if_neg hk]
theorem followN_chain (es : List Ce) : ∀ (m : Nat) (p : Int), followN es (m + 1) p ≠ -1 → followN es m p = -1 → ∃ l : List Nat, l.length = m + 1 ∧ l.Nodup ∧ (∀ x ∈ l, x < es.length) ∧ ∀ x ∈ l, followN es (m + 1) (x : Nat) ≠ -1
  | 0, p, h, _ => by
    rw [followN] at h
    cases hc : cellAt es p with
    | none => rw [hc] at h; exact absurd rfl h
    | some c =>
      obtain ⟨k, rfl, hk, he⟩ := cellAt_in hc
      refine ⟨[k], rfl, by simp, fun x hx => ?_, fun x hx => ?_⟩
      · rw [List.mem_singleton] at hx; subst hx; exact hk
      · rw [List.mem_singleton] at hx; subst hx; rw [followN]; exact h
  | m + 1, p, h, h0 => by
    rw [followN] at h h0
    cases hc : cellAt es p with
    | none => rw [hc] at h; exact absurd rfl h
    | some c =>
      obtain ⟨k, rfl, hk, he⟩ := cellAt_in hc
      simp only [hc] at h h0
      by_cases hkd : c.kind = 6
      · rw [if_pos hkd] at h h0
        cases hq : c.kids[0]? with
        | none => simp only [hq] at h0; omega
        | some q =>
          simp only [hq] at h h0
          obtain ⟨l, h1, h2, h3, h4⟩ := followN_chain es m q h h0
          have hp : followN es (m + 1) (k : Int) = -1 := by rw [followN, hc]; simp only []; rw [if_pos hkd, hq]; exact h0
          refine ⟨k :: l, by simp [h1], ?_, ?_, ?_⟩
          · rw [List.nodup_cons]; exact ⟨fun hm => h4 k hm hp, h2⟩
          · intro x hx
            rcases List.mem_cons.1 hx with rfl | hx
            · exact hk
            · exact h3 x hx
          · intro x hx
            rcases List.mem_cons.1 hx with rfl | hx
            · rw [followN, hc]; simp only []; rw [if_pos hkd, hq]; exact h
            · rw [followN_mono es (m + 1) _ (h4 x hx)]; exact h4 x hx
      · rw [if_neg hkd] at h0; omega
theorem follow_len (es : List Ce) (p : Int) : follow es p = followN es es.length p := by
  unfold follow
  by_cases h : followN es es.length p = -1
  · by_cases h2 : followN es (es.length + 1) p = -1
    · rw [h, h2]
    · obtain ⟨l, h1, h3, h4, _⟩ := followN_chain es es.length p h2 h
      have := nodup_below es.length l h3 h4
      omega
  · exact followN_mono es es.length p h
theorem follow_none {es : List Ce} {p : Int} (h : cellAt es p = none) : follow es p = -1 := followN_none _ h
theorem follow_here {es : List Ce} {p : Int} {c : Ce} (h : cellAt es p = some c) (hc : c.kind ≠ 6 ∨ c.kids.length = 0) : follow es p = p := followN_here _ h hc
theorem follow_on {es : List Ce} {p q : Int} {c : Ce} (h : cellAt es p = some c) (hc : c.kind = 6) (hq : c.kids[0]? = some q) : follow es p = follow es q := by
  rw [follow_len es q]
  exact followN_on _ h hc hq

/-- So many steps over cells that stand for others, from a place to one. -/
inductive Steps (es : List Ce) : Nat → Int → Int → Prop
  | none (p : Int) : Steps es 0 p p
  | one {n : Nat} {p q r : Int} {c : Ce} : Steps es n p q → cellAt es q = some c → c.kind = 6 → c.kids[0]? = some r → Steps es (n + 1) p r
theorem Steps.follow {es : List Ce} {n : Nat} {p q : Int} (h : Steps es n p q) (m : Nat) : followN es (n + m) p = followN es m q := by
  induction h generalizing m with
  | none => rw [Nat.zero_add]
  | one _ h1 h2 h3 ih => rw [Nat.add_assoc, Nat.add_comm 1 m, ih (m + 1), followN_on m h1 h2 h3]
theorem Steps.short {es : List Ce} {n : Nat} {p q : Int} (h : Steps es n p q) : ∀ m, m ≤ n → followN es m p = -1 := by
  induction h with
  | none => intro m hm; obtain rfl : m = 0 := by omega
            rfl
  | one h0 h1 h2 h3 ih =>
    intro m hm
    rename_i n p q r c
    by_cases hmn : m ≤ n
    · exact ih m hmn
    · obtain rfl : m = n + 1 := by omega
      rw [h0.follow 1, followN_on 0 h1 h2 h3]
      rfl
theorem Steps.circle {es : List Ce} {n : Nat} {p : Int} (h : Steps es (n + 1) p p) : ∀ m, followN es m p = -1 := by
  intro m
  induction m using Nat.strongRecOn with
  | _ m ih =>
    by_cases hm : m ≤ n + 1
    · exact h.short m hm
    · have := h.follow (m - (n + 1))
      rw [show n + 1 + (m - (n + 1)) = m by omega] at this
      rw [this]
      exact ih _ (by omega)
end Go.Proofs.YtfhjkiimdkjhjaaGreatDoor
