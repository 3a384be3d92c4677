/-
  When an expression is right, in plain words.
-/
import Derived.Test.YtdadppjncdkpiaaNode
import Derived.Test.YtdadppjncdkpiaaPkMore
namespace Go.Proofs.Ytdadppjncdkpiaa
open Go.RowKit Go.Joins

set_option maxRecDepth 100000

def kidsOf (k : Int) : Int :=
  if k = 0 ∨ k = 1 ∨ k = 2 ∨ k = 7 then 0 else if k = 3 then 1 else if k = 4 ∨ k = 5 ∨ k = 8 ∨ k = 10 ∨ k = 11 then 2 else if k = 6 ∨ k = 9 then 3 else -1
def inR (n a b : Int) : Bool := decide (a ≤ n) && decide (n ≤ b)
def opTexts : List (List UInt8) := [[61, 61], [60], [43], [45], [42]]
def isOp (t : ByteArray) : Bool := opTexts.contains t.toList
def kind0 (ks : List Ex) : Int := (ks.head?.map Ex.kind).getD 0
def fieldsB (k n : Int) (t : ByteArray) (ks : List Ex) (scope tops : Int) : Bool :=
  if k = 10 then n == 0 && isOp t
  else if t.toList ≠ [] then false
  else if k = 0 then inR n 0 999999999
  else if k = 1 then inR n 0 (scope - 1)
  else if k = 2 then inR n 0 (tops - 1)
  else if k = 3 then inR n 1 6
  else if k = 11 then n == 0 && (kind0 ks == 1 || kind0 ks == 2)
  else n == 0
def moreN (k n : Int) (i : Nat) : Int := if k = 3 then n else if k = 5 then 1 else if k = 9 ∧ i = 2 then 2 else 0

mutual
def Ex.right : Ex → Int → Int → Int → Bool
  | .mk k n t ks, scope, tops, deep => decide (0 ≤ deep) && decide (scope ≤ 90) && decide ((ks.length : Int) = kidsOf k) && fieldsB k n t ks scope tops && Ex.rightL k n 0 ks scope tops (deep - 1)
def Ex.rightL : Int → Int → Nat → List Ex → Int → Int → Int → Bool
  | _, _, _, [], _, _, _ => true
  | k, n, i, e :: r, scope, tops, deep => e.right (scope + moreN k n i) tops deep && Ex.rightL k n (i + 1) r scope tops deep
end
theorem Ex.right_eq (e : Ex) (scope tops deep : Int) : e.right scope tops deep = (decide (0 ≤ deep) && decide (scope ≤ 90) && decide ((e.kids.length : Int) = kidsOf e.kind) && fieldsB e.kind e.n e.text e.kids scope tops && Ex.rightL e.kind e.n 0 e.kids scope tops (deep - 1)) := by
  cases e; rw [Ex.right]; rfl
theorem rightL_iff (k n : Int) (scope tops deep : Int) : ∀ (ks : List Ex) (j : Nat), Ex.rightL k n j ks scope tops deep = true ↔ ∀ (i : Nat) (e : Ex), ks[i]? = some e → e.right (scope + moreN k n (j + i)) tops deep = true
  | [], j => by simp [Ex.rightL]
  | x :: r, j => by
    rw [Ex.rightL, Bool.and_eq_true, rightL_iff k n scope tops deep r (j + 1)]
    constructor
    · rintro ⟨h1, h2⟩ i e he
      cases i with
      | zero => simp at he; subst he; exact h1
      | succ i => have := h2 i e (by simpa using he); rw [show j + (i + 1) = j + 1 + i by omega]; exact this
    · intro h
      exact ⟨h 0 x rfl, fun i e he => by have := h (i + 1) e (by simpa using he); rw [show j + 1 + i = j + (i + 1) by omega]; exact this⟩
theorem right_iff (e : Ex) (scope tops deep : Int) : e.right scope tops deep = true ↔ 0 ≤ deep ∧ scope ≤ 90 ∧ (e.kids.length : Int) = kidsOf e.kind ∧ fieldsB e.kind e.n e.text e.kids scope tops = true ∧ ∀ (i : Nat) (k : Ex), e.kids[i]? = some k → k.right (scope + moreN e.kind e.n i) tops (deep - 1) = true := by
  rw [Ex.right_eq]
  simp only [Bool.and_eq_true, decide_eq_true_eq, rightL_iff, Nat.zero_add]
  constructor
  · rintro ⟨⟨⟨⟨h1, h2⟩, h3⟩, h4⟩, h5⟩; exact ⟨h1, h2, h3, h4, h5⟩
  · rintro ⟨h1, h2, h3, h4, h5⟩; exact ⟨⟨⟨⟨h1, h2⟩, h3⟩, h4⟩, h5⟩

mutual
/-- What is right is right with more room below it. -/
theorem Ex.right_mono : ∀ (e : Ex) (scope tops deep deep' : Int), deep ≤ deep' → e.right scope tops deep = true → e.right scope tops deep' = true
  | .mk k n t ks, scope, tops, deep, deep', h, hr => by
    rw [Ex.right] at hr ⊢
    simp only [Bool.and_eq_true, decide_eq_true_eq] at hr ⊢
    obtain ⟨⟨⟨⟨h1, h2⟩, h3⟩, h4⟩, h5⟩ := hr
    exact ⟨⟨⟨⟨by omega, h2⟩, h3⟩, h4⟩, Ex.rightL_mono k n 0 ks scope tops _ _ (by omega) h5⟩
theorem Ex.rightL_mono : ∀ (k n : Int) (i : Nat) (ks : List Ex) (scope tops deep deep' : Int), deep ≤ deep' → Ex.rightL k n i ks scope tops deep = true → Ex.rightL k n i ks scope tops deep' = true
  | _, _, _, [], _, _, _, _, _, _ => by rw [Ex.rightL]
  | k, n, i, e :: r, scope, tops, deep, deep', h, hr => by
    rw [Ex.rightL, Bool.and_eq_true] at hr ⊢
    exact ⟨Ex.right_mono e _ tops _ _ h hr.1, Ex.rightL_mono k n (i + 1) r scope tops _ _ h hr.2⟩
end

/-- With fields that are right an expression brings few names. -/
theorem moreN_le {k n : Int} {t : ByteArray} {ks : List Ex} {scope tops : Int} (h : fieldsB k n t ks scope tops = true) (i : Nat) : 0 ≤ moreN k n i ∧ moreN k n i ≤ 6 := by
  unfold moreN
  by_cases h3 : k = 3
  · subst h3
    unfold fieldsB at h
    by_cases ht : t.toList ≠ []
    · rw [if_neg (by omega), if_pos ht] at h; cases h
    · rw [if_neg (by omega), if_neg ht, if_neg (by omega), if_neg (by omega), if_neg (by omega), if_pos rfl] at h
      unfold inR at h
      simp only [Bool.and_eq_true, decide_eq_true_eq] at h
      rw [if_pos rfl]; omega
  · rw [if_neg h3]
    split
    · omega
    · split <;> omega
end Go.Proofs.Ytdadppjncdkpiaa
