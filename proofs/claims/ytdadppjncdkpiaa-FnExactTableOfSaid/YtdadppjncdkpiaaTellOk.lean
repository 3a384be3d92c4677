/-
  The texts of what is told are no longer than all together.
-/
import Derived.Test.YtdadppjncdkpiaaTellPure
namespace Go.Proofs.Ytdadppjncdkpiaa
open Go.RowKit Go.Joins

set_option maxRecDepth 100000

mutual
theorem told_bulk : ∀ (e : Ex) (ab : Int) (a : Nat), ∀ x ∈ e.told ab a, x.2.text.size ≤ e.bulk
  | .mk k n t ks, ab, a, x, h => by
    rw [Ex.told, List.mem_cons] at h
    rw [Ex.bulk]
    rcases h with rfl | h
    · show t.size ≤ _
      omega
    · have := toldL_bulk ks a (a + 1) x h
      omega
theorem toldL_bulk : ∀ (es : List Ex) (ab : Int) (a : Nat), ∀ x ∈ Ex.toldL ab a es, x.2.text.size ≤ Ex.bulkL es
  | [], _, _, x, h => by rw [Ex.toldL] at h; simp at h
  | e :: r, ab, a, x, h => by
    rw [Ex.toldL, List.mem_append] at h
    rw [Ex.bulkL]
    rcases h with h | h
    · have := told_bulk e ab a x h
      omega
    · have := toldL_bulk r ab (a + e.count) x h
      omega
end
theorem tellAll_tops (xs : List (Int × Ex)) : (tellAll xs).2.length ≤ xs.length := by
  have : ∀ (xs : List (Int × Ex)) (s : List Cd × List Int), (xs.foldl tellStep s).2.length ≤ s.2.length + xs.length := by
    intro xs
    induction xs with
    | nil => intro s; simp
    | cons x r ih =>
      intro s
      have h := ih (tellStep s x)
      have h2 : (tellStep s x).2.length ≤ s.2.length + 1 := by
        unfold tellStep
        split <;> simp
      rw [List.foldl_cons, List.length_cons]
      omega
  simpa [tellAll] using this xs ([], [])
theorem mem_modify {f : Cd → Cd} : ∀ (l : List Cd) (p : Nat) (c : Cd), c ∈ l.modify p f → c ∈ l ∨ ∃ c' ∈ l, c = f c'
  | [], p, c, h => by cases p <;> simp at h
  | d :: l, 0, c, h => by
    simp at h
    rcases h with h | h
    · exact .inr ⟨d, by simp, h⟩
    · exact .inl (by simp [h])
  | d :: l, p + 1, c, h => by
    simp at h
    rcases h with h | h
    · exact .inl (by simp [h])
    · rcases mem_modify l p c h with h | ⟨c', hc', e⟩
      · exact .inl (by simp [h])
      · exact .inr ⟨c', by simp [hc'], e⟩
theorem tellAll_kids (xs : List (Int × Ex)) : ∀ c ∈ (tellAll xs).1, c.kids.length ≤ xs.length := by
  have : ∀ (xs : List (Int × Ex)) (s : List Cd × List Int) (N : Nat), (∀ c ∈ s.1, c.kids.length ≤ N) → ∀ c ∈ (xs.foldl tellStep s).1, c.kids.length ≤ N + xs.length := by
    intro xs
    induction xs with
    | nil => intro s N hs c hc; have := hs c (by simpa using hc); simp; omega
    | cons x r ih =>
      intro s N hs c hc
      rw [List.foldl_cons] at hc
      have h1 : ∀ c ∈ s.1 ++ [x.2.code], c.kids.length ≤ N := by
        intro c hc
        rw [List.mem_append] at hc
        rcases hc with hc | hc
        · exact hs c hc
        · simp at hc; subst hc; simp [Ex.code]
      have := ih (tellStep s x) (N + 1) (fun c hc => by
        unfold tellStep at hc
        split at hc
        · have := h1 c hc; omega
        · rcases mem_modify _ _ c hc with hc | ⟨c', hc', e⟩
          · have := h1 c hc; omega
          · have := h1 c' hc'
            rw [e]
            simp [addKids]
            omega) c hc
      rw [List.length_cons]
      omega
  intro c hc
  have := this xs ([], []) 0 (by simp) c hc
  omega
end Go.Proofs.Ytdadppjncdkpiaa
