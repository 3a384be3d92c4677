/-
  When a program is right, in plain words: its names, each once, and its bodies.
-/
import Derived.Test.YtdadppjncdkpiaaRightPure
import Derived.Test.YtdadppjncdkpiaaProgAt
import Derived.Test.YtdadppjncdkpiaaName
namespace Go.Proofs.Ytdadppjncdkpiaa
open Go.RowKit Go.Joins Go.Maps

set_option maxRecDepth 100000

/-- The place of the last one of a text among the first k, or -1. -/
def lastN (ts : List ByteArray) (s : ByteArray) : Nat → Int
  | 0 => -1
  | k + 1 => if ((ts.getD k ByteArray.empty).toList == s.toList) = true then (k : Int) else lastN ts s k

theorem lastN_range (ts : List ByteArray) (s : ByteArray) : ∀ n : Nat, -1 ≤ lastN ts s n ∧ lastN ts s n < n
  | 0 => by simp [lastN]
  | k + 1 => by
    have := lastN_range ts s k
    rw [lastN]
    split <;> omega

theorem lastN_is (ts : List ByteArray) (s : ByteArray) (i : Nat) : ∀ n : Nat, i < n → (ts.getD i ByteArray.empty).toList = s.toList → (lastN ts s n = i ↔ ∀ j, i < j → j < n → (ts.getD j ByteArray.empty).toList ≠ s.toList)
  | 0, h, _ => by omega
  | n + 1, h, he => by
    rw [lastN]
    by_cases hn : ((ts.getD n ByteArray.empty).toList == s.toList) = true
    · rw [if_pos hn]
      constructor
      · intro h1 j hj hjn; omega
      · intro h1
        by_cases hi : i = n
        · omega
        · exact absurd (by simpa using hn) (h1 n (by omega) (by omega))
    · rw [if_neg hn]
      have hin : i ≠ n := by rintro rfl; exact hn (by simpa using he)
      rw [lastN_is ts s i n (by omega) he]
      constructor
      · intro h1 j hj hjn
        by_cases hjn' : j = n
        · subst hjn'; simpa using hn
        · exact h1 j hj (by omega)
      · intro h1 j hj hjn; exact h1 j hj (by omega)

def keysS (ts : List ByteArray) : List (List UInt8) := ts.map (fun t => t.data.toList)
theorem toList_eq (s : ByteArray) : s.toList = s.data.toList := ByteArray.toList_eq s

theorem keys_at {ts : List ByteArray} {i : Nat} (h : i < ts.length) : (keysS ts)[i]'(by simpa [keysS] using h) = (ts.getD i ByteArray.empty).toList := by
  simp [keysS, List.getD, List.getElem?_eq_getElem h, toList_eq]

theorem nodup_last (ts : List ByteArray) : (keysS ts).Nodup ↔ ∀ i, i < ts.length → lastN ts (ts.getD i ByteArray.empty) ts.length = i := by
  have hl : (keysS ts).length = ts.length := by simp [keysS]
  rw [List.Nodup, List.pairwise_iff_getElem]
  constructor
  · intro h i hi
    refine (lastN_is ts _ i ts.length hi rfl).2 fun j hij hj he => ?_
    refine h i j (by omega) (by omega) hij ?_
    rw [keys_at hi, keys_at hj, he]
  · intro h i j hi hj hij he
    refine (lastN_is ts _ i ts.length (by omega) rfl).1 (h i (by omega)) j hij (by omega) ?_
    rw [← keys_at (by omega : i < ts.length), ← keys_at (by omega : j < ts.length), he]

theorem addKey_str (L : List (List UInt8)) (x : List UInt8) : addKey (L.map Lit.string) (.string x) = if x ∈ L then L.map Lit.string else (L ++ [x]).map Lit.string := by
  unfold addKey
  have : ((L.map Lit.string).any fun y => y.sameKey (.string x)) = L.contains x := by
    rw [List.any_map]
    induction L with
    | nil => rfl
    | cons a r ih =>
      rw [List.any_cons, List.contains_cons, ih]
      have hc : ((fun y : Lit => y.sameKey (.string x)) ∘ Lit.string) a = (x == a) := by
        show (a == x) = (x == a)
        exact Bool.eq_iff_iff.2 (by simp only [beq_iff_eq]; exact ⟨fun h => h.symm, fun h => h.symm⟩)
      rw [hc]
  rw [this]
  by_cases h : x ∈ L
  · rw [if_pos h, if_pos (by simpa using h)]
  · rw [if_neg h, if_neg (by simpa using h)]; simp

theorem fold_le : ∀ (xs L : List (List UInt8)), ((xs.map Lit.string).foldl addKey (L.map Lit.string)).length ≤ L.length + xs.length
  | [], L => by simp
  | x :: r, L => by
    rw [List.map_cons, List.foldl_cons, addKey_str]
    split
    · have := fold_le r L; simp only [List.length_cons]; omega
    · have := fold_le r (L ++ [x]); simp only [List.length_append, List.length_cons, List.length_nil] at this; simp only [List.length_cons]; omega

theorem fold_nodup : ∀ (xs L : List (List UInt8)), L.Nodup → (((xs.map Lit.string).foldl addKey (L.map Lit.string)).length = L.length + xs.length ↔ (L ++ xs).Nodup)
  | [], L, h => by simp [h]
  | x :: r, L, h => by
    rw [List.map_cons, List.foldl_cons, addKey_str]
    by_cases hx : x ∈ L
    · rw [if_pos hx]
      constructor
      · intro he; have := fold_le r L; simp only [List.length_cons] at he; omega
      · intro hn
        rw [List.nodup_append] at hn
        exact absurd rfl (hn.2.2 x hx x (by simp))
    · rw [if_neg hx]
      have h1 : (L ++ [x]).Nodup := by
        rw [List.nodup_append]
        exact ⟨h, by simp, fun a ha b hb => by simp at hb; subst hb; exact fun e => hx (e ▸ ha)⟩
      have := fold_nodup r (L ++ [x]) h1
      rw [show L ++ [x] ++ r = L ++ x :: r by simp] at this
      rw [← this]
      simp only [List.length_append, List.length_cons, List.length_nil]
      omega

theorem size_names (u : DataW Unit) (ts : List ByteArray) : Maps.size (setOf u ((keysS ts).map Lit.string)) = ts.length ↔ (keysS ts).Nodup := by
  rw [size_setOf _ _ (fun y hy => by obtain ⟨_, _, rfl⟩ := List.mem_map.1 hy; trivial)]
  have := fold_nodup (keysS ts) [] List.nodup_nil
  simp only [List.map_nil, List.length_nil, Nat.zero_add, List.nil_append] at this
  rw [← this]
  simp [keysS]

/-- A program is right. -/
def Pr.ok (p : Pr) : Bool := decide (p.names.length = p.bodies.length) && decide (1 ≤ p.names.length) && decide (p.names.length ≤ 30) && p.names.all nameOk && decide (keysS p.names).Nodup && p.bodies.all (fun b => b.right 0 (p.names.length : Int) 60)
theorem Pr.ok_iff (p : Pr) : p.ok = true ↔ p.names.length = p.bodies.length ∧ 1 ≤ p.names.length ∧ p.names.length ≤ 30 ∧ (∀ t ∈ p.names, nameOk t = true) ∧ (keysS p.names).Nodup ∧ ∀ b ∈ p.bodies, b.right 0 (p.names.length : Int) 60 = true := by
  unfold Pr.ok
  simp only [Bool.and_eq_true, decide_eq_true_eq, List.all_eq_true]
  constructor
  · rintro ⟨⟨⟨⟨⟨h1, h2⟩, h3⟩, h4⟩, h5⟩, h6⟩; exact ⟨h1, h2, h3, h4, h5, h6⟩
  · rintro ⟨h1, h2, h3, h4, h5, h6⟩; exact ⟨⟨⟨⟨⟨h1, h2⟩, h3⟩, h4⟩, h5⟩, h6⟩
theorem Pr.ok_false {p : Pr} (h : ¬ (p.names.length = p.bodies.length ∧ 1 ≤ p.names.length ∧ p.names.length ≤ 30 ∧ (∀ t ∈ p.names, nameOk t = true) ∧ (keysS p.names).Nodup ∧ ∀ b ∈ p.bodies, b.right 0 (p.names.length : Int) 60 = true)) : p.ok = false := by
  cases hp : p.ok with
  | false => rfl
  | true => exact absurd (p.ok_iff.1 hp) h
end Go.Proofs.Ytdadppjncdkpiaa
