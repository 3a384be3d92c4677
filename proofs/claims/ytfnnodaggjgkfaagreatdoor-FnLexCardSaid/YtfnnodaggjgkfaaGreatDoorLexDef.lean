/-
  Lexing in plain words: the words of a text and the line of the first byte that begins none.
-/
import Derived.Test.YtfnnodaggjgkfaaGreatDoorTok
namespace Go.Proofs.YtfnnodaggjgkfaaGreatDoor

set_option maxRecDepth 100000

structure Tok where
  kind : Int
  text : ByteArray
  n : Int
  line : Int

def Tok.cells (t : Tok) : List Value := [.int .i64 t.kind, .string t.text, .int .i64 t.n, .int .i64 t.line]
def toksCells (ts : List Tok) : List Value := ts.flatMap Tok.cells
theorem toksCells_snoc (ts : List Tok) (t : Tok) : toksCells (ts ++ [t]) = toksCells ts ++ t.cells := by simp [toksCells]
theorem toksCells_length (ts : List Tok) : (toksCells ts).length = ts.length * 4 := by
  induction ts with
  | nil => rfl
  | cons a r ih => simp only [toksCells, List.flatMap_cons, List.length_append, List.length_cons] at ih ⊢; rw [ih]; simp [Tok.cells]; omega

def Nx.tok (q : Nx) (ln : Int) : Tok := ⟨q.kind, q.text, q.n, ln⟩

/-- From a place on, with some words behind: the words, and 0 or the bad line. -/
def lexS (s : ByteArray) : Nat → Nat → Int → List Tok → List Tok × Int
  | 0, _, _, acc => (acc, 0)
  | f + 1, i, ln, acc =>
    if i < s.size then
      if ((s.data.toList.getD i 0).toNat : Int) = 32 then lexS s f (i + 1) ln acc
      else if ((s.data.toList.getD i 0).toNat : Int) = 10 then lexS s f (i + 1) (ln + 1) acc
      else if (firstNx (s.extract i s.size)).len = 0 then ([], ln)
      else lexS s f (i + (firstNx (s.extract i s.size)).len) ln (acc ++ [(firstNx (s.extract i s.size)).tok ln])
    else (acc, 0)

def lexR (s : ByteArray) : List Tok × Int := if 2000 < s.size then ([], 1) else lexS s s.size 0 1 []

theorem lexS_end (s : ByteArray) (f i : Nat) (ln : Int) (acc : List Tok) (h : ¬ i < s.size) : lexS s f i ln acc = (acc, 0) := by
  cases f with
  | zero => rfl
  | succ f => rw [lexS, if_neg h]

theorem getD_at (s : ByteArray) (i : Nat) (h : i < s.size) : s.data.toList.getD i 0 = s[i] := by
  have : i < s.data.toList.length := by simpa using h
  rw [List.getD, List.getElem?_eq_getElem this]
  rfl

theorem lexS_blank (s : ByteArray) (f i : Nat) (ln : Int) (acc : List Tok) (h : i < s.size) (hf : s.size - i ≤ f) (hb : (s[i].toNat : Int) = 32) : ∃ g, lexS s f i ln acc = lexS s g (i + 1) ln acc ∧ s.size - (i + 1) ≤ g := by
  cases f with
  | zero => omega
  | succ f => exact ⟨f, by rw [lexS, if_pos h, getD_at s i h, if_pos hb], by omega⟩
theorem lexS_line (s : ByteArray) (f i : Nat) (ln : Int) (acc : List Tok) (h : i < s.size) (hf : s.size - i ≤ f) (hb : (s[i].toNat : Int) = 10) : ∃ g, lexS s f i ln acc = lexS s g (i + 1) (ln + 1) acc ∧ s.size - (i + 1) ≤ g := by
  cases f with
  | zero => omega
  | succ f => exact ⟨f, by rw [lexS, if_pos h, getD_at s i h, if_neg (by omega), if_pos hb], by omega⟩
theorem lexS_none (s : ByteArray) (f i : Nat) (ln : Int) (acc : List Tok) (h : i < s.size) (hf : s.size - i ≤ f) (h1 : ¬ (s[i].toNat : Int) = 32) (h2 : ¬ (s[i].toNat : Int) = 10) (hz : (firstNx (s.extract i s.size)).len = 0) : lexS s f i ln acc = ([], ln) := by
  cases f with
  | zero => omega
  | succ f => rw [lexS, if_pos h, getD_at s i h, if_neg h1, if_neg h2, if_pos hz]
theorem lexS_word (s : ByteArray) (f i : Nat) (ln : Int) (acc : List Tok) (h : i < s.size) (hf : s.size - i ≤ f) (h1 : ¬ (s[i].toNat : Int) = 32) (h2 : ¬ (s[i].toNat : Int) = 10) (hz : ¬ (firstNx (s.extract i s.size)).len = 0) :
    ∃ g, lexS s f i ln acc = lexS s g (i + (firstNx (s.extract i s.size)).len) ln (acc ++ [(firstNx (s.extract i s.size)).tok ln]) ∧ s.size - (i + (firstNx (s.extract i s.size)).len) ≤ g := by
  cases f with
  | zero => omega
  | succ f => exact ⟨f, by rw [lexS, if_pos h, getD_at s i h, if_neg h1, if_neg h2, if_neg hz], by omega⟩

theorem firstNx_len (x : ByteArray) (h : 1 ≤ x.size) : (firstNx x).len ≤ x.size := by
  have hn := nameLen_le x
  have hd := digsLen_le x
  unfold firstNx
  split
  · unfold letterNx; split
    · exact hn
    · split
      · exact hn
      · exact Nat.zero_le _
  · split
    · unfold numberNx; split
      · exact hd
      · exact Nat.zero_le _
    · unfold signNx; split
      · exact (‹2 ≤ x.size ∧ _›).1
      · split
        · exact h
        · exact Nat.zero_le _

end Go.Proofs.YtfnnodaggjgkfaaGreatDoor
