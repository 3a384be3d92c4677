/-
  Where each place of a heap leads to: settling them one behind the other.
-/
import Derived.Test.YtfhjkiimdkjhjaaGreatDoorImplFollow
import Derived.Test.YtfhjkiimdkjhjaaGreatDoorCollectPure
namespace Go.Proofs.YtfhjkiimdkjhjaaGreatDoor
open Go.RowKit Go.Joins

theorem steps_same {es : List Ce} {n : Nat} {p q : Int} (h : Steps es n p q) : follow es p = follow es q := by
  induction h with
  | none => rfl
  | one _ h1 h2 h3 ih => exact ih.trans (follow_on h1 h2 h3)
theorem steps_none {es : List Ce} {n : Nat} {p : Int} (h : Steps es (n + 1) p p) : follow es p = -1 := h.circle _

/-- How many are not known. -/
def cntU : List Int → Nat
  | [] => 0
  | x :: l => (if x = -2 then 1 else 0) + cntU l
theorem cntU_set : ∀ (E : List Int) (k : Nat) (y : Int), E[k]? = some (-2) → y ≠ -2 → cntU (E.set k y) + 1 = cntU E
  | [], _, _, h, _ => by simp at h
  | x :: E, 0, y, h, hy => by
    simp at h
    subst h
    simp only [List.set_cons_zero, cntU, if_neg hy, if_true]
    omega
  | x :: E, k + 1, y, h, hy => by
    simp at h
    have := cntU_set E k y h hy
    simp only [List.set_cons_succ, cntU]
    omega
theorem cntU_le : ∀ E : List Int, cntU E ≤ E.length
  | [] => Nat.le_refl _
  | x :: E => by have := cntU_le E; simp only [cntU, List.length_cons]; split <;> omega

/-- The ends so far: what is known is right. -/
structure Known (es : List Ce) (E : List Int) : Prop where
  len : E.length = es.length
  val : ∀ (i : Nat) (x : Int), E[i]? = some x → x = -2 ∨ x = follow es i
  ends : ∀ (i : Nat) (c : Ce), es[i]? = some c → c.isEnd = true → E[i]? ≠ some (-2)
/-- .. while one goes on from a place, the passed ones marked. -/
structure Sett (es : List Ce) (E0 E : List Int) (ps : List Int) (k0 : Nat) (p : Int) : Prop where
  len : E.length = es.length
  val : ∀ (i : Nat) (x : Int), E[i]? = some x → x = -2 ∨ x = follow es i ∨ (x = -1 ∧ (i : Int) ∈ ps)
  ends : ∀ (i : Nat) (c : Ce), es[i]? = some c → c.isEnd = true → E[i]? ≠ some (-2)
  chain : ∀ x ∈ ps, (∃ n, Steps es (n + 1) x p) ∧ ∃ i : Nat, x = i ∧ i < es.length
  first : p = k0 ∨ E[k0]? ≠ some (-2)
  old : ∀ i : Nat, E0[i]? ≠ some (-2) → E[i]? ≠ some (-2)
theorem Sett.start {es : List Ce} {E : List Int} (h : Known es E) (k0 : Nat) : Sett es E E [] k0 (k0 : Int) where
  len := h.len
  val := fun i x hx => by
    rcases h.val i x hx with h | h
    · exact .inl h
    · exact .inr (.inl h)
  ends := h.ends
  chain := fun x hx => by simp at hx
  first := .inl rfl
  old := fun _ h => h
theorem Sett.next {es : List Ce} {E0 E ps : List Int} {k0 k : Nat} {c : Ce} {q : Int} (h : Sett es E0 E ps k0 (k : Int)) (hE : E[k]? = some (-2)) (hc : es[k]? = some c) (hk : c.kind = 6) (hq : c.kids[0]? = some q) : Sett es E0 (E.set k (-1)) (ps ++ [(k : Int)]) k0 q where
  len := by rw [List.length_set]; exact h.len
  val := fun i x hx => by
    rw [List.getElem?_set] at hx
    split at hx
    · rename_i e
      subst e
      rw [if_pos (by have := (List.getElem?_eq_some_iff.1 hE).1; omega)] at hx
      cases hx
      exact .inr (.inr ⟨rfl, by simp⟩)
    · rcases h.val i x hx with h1 | h1 | h1
      · exact .inl h1
      · exact .inr (.inl h1)
      · exact .inr (.inr ⟨h1.1, by simp [h1.2]⟩)
  ends := fun i d hd he hx => by
    rw [List.getElem?_set] at hx
    split at hx
    · split at hx <;> simp at hx
    · exact h.ends i d hd he hx
  chain := fun x hx => by
    have hca : cellAt es (k : Int) = some c := by unfold cellAt; rw [if_pos (by omega), Int.toNat_natCast]; exact hc
    rw [List.mem_append, List.mem_singleton] at hx
    rcases hx with hx | rfl
    · obtain ⟨⟨n, hn⟩, h2⟩ := h.chain x hx
      exact ⟨⟨n + 1, .one hn hca hk hq⟩, h2⟩
    · exact ⟨⟨0, .one (.none _) hca hk hq⟩, k, rfl, (List.getElem?_eq_some_iff.1 hc).1⟩
  first := .inr (fun hx => by
    rw [List.getElem?_set] at hx
    split at hx
    · split at hx <;> simp at hx
    · rename_i hne
      rcases h.first with h1 | h1
      · exact hne (by omega)
      · exact h1 hx)
  old := fun i hi hx => by
    rw [List.getElem?_set] at hx
    split at hx
    · split at hx <;> simp at hx
    · exact h.old i hi hx
/-- Where one stops, what stands there is where all lead to. -/
theorem Sett.stop {es : List Ce} {E0 E ps : List Int} {k0 k : Nat} {x : Int} (h : Sett es E0 E ps k0 (k : Int)) (hx : E[k]? = some x) (hne : x ≠ -2) : x = follow es (k : Int) := by
  rcases h.val k x hx with h1 | h1 | h1
  · exact absurd h1 hne
  · exact h1
  · obtain ⟨⟨n, hn⟩, _⟩ := h.chain _ h1.2
    rw [h1.1, steps_none hn]
/-- The passed ones get their end, one behind the other. -/
structure Fill (es : List Ce) (E0 E : List Int) (ps : List Int) (k0 : Nat) (y : Int) : Prop where
  len : E.length = es.length
  val : ∀ (i : Nat) (x : Int), E[i]? = some x → x = -2 ∨ x = follow es i ∨ (x = -1 ∧ (i : Int) ∈ ps)
  ends : ∀ (i : Nat) (c : Ce), es[i]? = some c → c.isEnd = true → E[i]? ≠ some (-2)
  chain : ∀ x ∈ ps, y = follow es x ∧ ∃ i : Nat, x = i ∧ i < es.length
  first : E[k0]? ≠ some (-2)
  old : ∀ i : Nat, E0[i]? ≠ some (-2) → E[i]? ≠ some (-2)
theorem follow_ge (es : List Ce) (p : Int) : -1 ≤ follow es p := by
  rcases followN_in es (es.length + 1) p with h | h
  · unfold follow; omega
  · unfold follow; omega
theorem Sett.fill {es : List Ce} {E0 E ps : List Int} {k0 : Nat} {p : Int} (h : Sett es E0 E ps k0 p) (hf : E[k0]? ≠ some (-2)) : Fill es E0 E ps k0 (follow es p) where
  len := h.len
  val := h.val
  ends := h.ends
  chain := fun x hx => by
    obtain ⟨⟨n, hn⟩, h2⟩ := h.chain x hx
    exact ⟨(steps_same hn).symm, h2⟩
  first := hf
  old := h.old
theorem Fill.step {es : List Ce} {E0 E ps : List Int} {k0 k : Nat} {y : Int} (h : Fill es E0 E ((k : Int) :: ps) k0 y) : Fill es E0 (E.set k y) ps k0 y where
  len := by rw [List.length_set]; exact h.len
  val := fun i x hx => by
    rw [List.getElem?_set] at hx
    split at hx
    · rename_i e
      subst e
      split at hx
      · cases hx
        exact .inr (.inl (h.chain _ (by simp)).1)
      · cases hx
    · rename_i hne
      rcases h.val i x hx with h1 | h1 | h1
      · exact .inl h1
      · exact .inr (.inl h1)
      · refine .inr (.inr ⟨h1.1, ?_⟩)
        rcases List.mem_cons.1 h1.2 with h2 | h2
        · omega
        · exact h2
  ends := fun i d hd he hx => by
    rw [List.getElem?_set] at hx
    split at hx
    · split at hx
      · cases hx
        have := (h.chain (k : Int) (by simp)).1
        have := follow_ge es k
        omega
      · cases hx
    · exact h.ends i d hd he hx
  chain := fun x hx => h.chain x (by simp [hx])
  first := fun hx => by
    rw [List.getElem?_set] at hx
    split at hx
    · split at hx
      · cases hx
        have := (h.chain (k : Int) (by simp)).1
        have := follow_ge es k
        omega
      · cases hx
    · exact h.first hx
  old := fun i hi hx => by
    rw [List.getElem?_set] at hx
    split at hx
    · split at hx
      · cases hx
        have := (h.chain (k : Int) (by simp)).1
        have := follow_ge es k
        omega
      · cases hx
    · exact h.old i hi hx
theorem Fill.done {es : List Ce} {E0 E : List Int} {k0 : Nat} {y : Int} (h : Fill es E0 E [] k0 y) : Known es E where
  len := h.len
  val := fun i x hx => by
    rcases h.val i x hx with h1 | h1 | h1
    · exact .inl h1
    · exact .inr h1
    · simp at h1
  ends := h.ends
/-- All ends. -/
def endsL (es : List Ce) : List Int := (List.range es.length).map (fun i : Nat => follow es (i : Int))
theorem endsL_at (es : List Ce) (i : Nat) (hi : i < es.length) : (endsL es)[i]? = some (follow es (i : Int)) := by
  unfold endsL
  rw [List.getElem?_map, List.getElem?_range hi]
  rfl
theorem Known.all {es : List Ce} {E : List Int} (h : Known es E) (hk : ∀ i, i < es.length → E[i]? ≠ some (-2)) : E = endsL es := by
  refine List.ext_getElem? fun i => ?_
  by_cases hi : i < es.length
  · rw [endsL_at es i hi]
    have hl : i < E.length := by rw [h.len]; exact hi
    have h1 := h.val i E[i] (List.getElem?_eq_getElem hl)
    have h2 := hk i hi
    rw [List.getElem?_eq_getElem hl] at h2 ⊢
    rcases h1 with h1 | h1
    · exact absurd (by rw [h1]) h2
    · rw [h1]
  · rw [List.getElem?_eq_none (by rw [h.len]; omega), List.getElem?_eq_none (by simp [endsL]; omega)]
/-- The ends at first. -/
def end0 (i : Nat) (c : Ce) : Int := if c.isEnd then (i : Int) else -2
theorem Known.first {es : List Ce} {E : List Int} (hl : E.length = es.length) (h : ∀ (i : Nat) (c : Ce), es[i]? = some c → E[i]? = some (end0 i c)) : Known es E where
  len := hl
  val := fun i x hx => by
    have hi : i < es.length := by have := (List.getElem?_eq_some_iff.1 hx).1; omega
    have hc := List.getElem?_eq_getElem hi
    have h1 := h i _ hc
    rw [hx] at h1
    have h2 := Option.some.inj h1
    unfold end0 at h2
    split at h2
    · rename_i he
      have hca : cellAt es (i : Int) = some es[i] := by unfold cellAt; rw [if_pos (by omega), Int.toNat_natCast]; exact hc
      exact .inr (h2.trans (follow_here hca (isEnd_yes he)).symm)
    · exact .inl h2
  ends := fun i c hc he hx => by
    have h1 := h i c hc
    rw [hx] at h1
    have h2 := Option.some.inj h1
    unfold end0 at h2
    rw [if_pos he] at h2
    omega
end Go.Proofs.YtfhjkiimdkjhjaaGreatDoor
