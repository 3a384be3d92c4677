/-
  The parts of a text between blanks, in plain words.
-/
import Derived.Test.YtfnnodaggjgkfaaGreatDoorRows
import Derived.Lib.SplitLaws
import Derived.Lib.CountLaws
import Derived.Lib.IndexBytes
import Derived.WideShapes
namespace Go.Proofs.YtfnnodaggjgkfaaGreatDoor

set_option maxRecDepth 100000

def sp : ByteArray := ⟨#[32]⟩
/-- The parts between blanks. -/
def wordsL (s : ByteArray) : List ByteArray := Lib.splitB sp 0 (Lib.countB s sp) s

theorem wordsL_length (s : ByteArray) : (wordsL s).length = Lib.countB s sp + 1 := Lib.splitB_all sp (by decide) 0 _ s rfl
theorem wordsL_le (s : ByteArray) : (wordsL s).length ≤ s.size + 1 := by
  rw [wordsL_length]
  have := Lib.countB_le sp (by decide) s.size s (Nat.le_refl _)
  omega

theorem occ_at (l : List UInt8) (j : Nat) : Lib.occAt l sp.data.toList j = (l[j]? == some 32) := by
  unfold Lib.occAt
  have e : sp.data.toList = [32] := rfl
  rw [e]
  cases h : l.drop j with
  | nil =>
    have : l.length ≤ j := List.drop_eq_nil_iff.1 h
    rw [List.getElem?_eq_none this]
    rfl
  | cons a r =>
    have : l[j]? = some a := by rw [← List.head?_drop, h]; rfl
    rw [this]
    simp only [List.isPrefixOf, Bool.and_true]
    exact Bool.eq_iff_iff.2 (by simp only [beq_iff_eq, Option.some.injEq]; exact ⟨fun h => h.symm, fun h => h.symm⟩)

theorem words_end (x : ByteArray) (h : ∀ j : Nat, x.data.toList[j]? ≠ some 32) : wordsL x = [x] := by
  have hi : Lib.indexB x sp = -1 := Lib.index_none (fun j _ => by rw [occ_at]; simpa using h j)
  unfold wordsL
  rw [Lib.countB_miss x sp hi]
  rfl

theorem words_cut (x : ByteArray) (j : Nat) (hj : x.data.toList[j]? = some 32) (h : ∀ i, i < j → x.data.toList[i]? ≠ some 32) : wordsL x = x.extract 0 j :: wordsL (x.extract (j + 1) x.size) := by
  have hlt : j < x.data.toList.length := (List.getElem?_eq_some_iff.1 hj).1
  have hi : Lib.indexB x sp = j := Lib.index_first (Nat.le_of_lt hlt) (by rw [occ_at, hj]; simp) (fun i hi => by rw [occ_at]; simpa using h i hi)
  unfold wordsL
  rw [Lib.countB_hit x sp j (by decide) hi, Nat.add_comm 1, Lib.splitB_hit sp 0 _ x j hi]
  rfl

theorem wext (s : ByteArray) (a j : Nat) : (s.extract a s.size).extract 0 j = s.extract a (a + j) := by
  apply Go.WideShapes.bytes_inj
  rw [Go.Lib.extract_data, Go.Lib.extract_to_end, Go.Lib.extract_data]
  simp
theorem wext2 (s : ByteArray) (a j : Nat) : (s.extract a s.size).extract j (s.extract a s.size).size = s.extract (a + j) s.size := by
  apply Go.WideShapes.bytes_inj
  rw [Go.Lib.extract_to_end, Go.Lib.extract_to_end, Go.Lib.extract_to_end, List.drop_drop]
theorem wat (s : ByteArray) (a j : Nat) : (s.extract a s.size).data.toList[j]? = s.data.toList[a + j]? := by
  rw [Go.Lib.extract_to_end, List.getElem?_drop]

/-- A blank at place k, none between 'fr' and it. -/
theorem words_hit (s : ByteArray) (fr k : Nat) (hfk : fr ≤ k) (hk : s.data.toList[k]? = some 32) (h : ∀ i, fr ≤ i → i < k → s.data.toList[i]? ≠ some 32) : wordsL (s.extract fr s.size) = s.extract fr k :: wordsL (s.extract (k + 1) s.size) := by
  have := words_cut (s.extract fr s.size) (k - fr) (by rw [wat, show fr + (k - fr) = k by omega]; exact hk) (fun i hi => by rw [wat]; exact h _ (by omega) (by omega))
  rw [wext, wext2, show fr + (k - fr) = k by omega, show fr + (k - fr + 1) = k + 1 by omega] at this
  exact this
theorem words_last (s : ByteArray) (fr : Nat) (h : ∀ i, fr ≤ i → s.data.toList[i]? ≠ some 32) : wordsL (s.extract fr s.size) = [s.extract fr s.size] :=
  words_end _ (fun j => by rw [wat]; exact h _ (by omega))
theorem words_whole (s : ByteArray) : s.extract 0 s.size = s := by
  apply Go.WideShapes.bytes_inj
  rw [Go.Lib.extract_to_end]
  rfl
end Go.Proofs.YtfnnodaggjgkfaaGreatDoor
