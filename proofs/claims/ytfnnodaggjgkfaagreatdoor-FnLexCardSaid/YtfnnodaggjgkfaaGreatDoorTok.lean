/-
  Words of a text, in plain words: what the next one is.
-/
import Derived.Test.YtfnnodaggjgkfaaGreatDoorDigits
import Derived.Test.YtfnnodaggjgkfaaGreatDoorSigns
import Derived.Test.YtfnnodaggjgkfaaGreatDoorName
namespace Go.Proofs.YtfnnodaggjgkfaaGreatDoor

set_option maxRecDepth 100000

/-- The next word: its kind, text and number, and how many bytes it takes (0: there is none). -/
structure Nx where
  kind : Int
  text : ByteArray
  n : Int
  len : Nat

def Nx.none : Nx := ⟨0, ⟨#[]⟩, 0, 0⟩

def letterNx (x : ByteArray) : Nx :=
  if isW (x.extract 0 (nameLen x.data.toList)) then ⟨2, x.extract 0 (nameLen x.data.toList), 0, nameLen x.data.toList⟩
  else if nameOk (x.extract 0 (nameLen x.data.toList)) then ⟨0, x.extract 0 (nameLen x.data.toList), 0, nameLen x.data.toList⟩ else Nx.none
def numberNx (x : ByteArray) : Nx :=
  if digsLen x.data.toList ≤ 9 then ⟨1, ⟨#[]⟩, digVal (x.data.toList.take (digsLen x.data.toList)), digsLen x.data.toList⟩ else Nx.none
def signNx (x : ByteArray) : Nx :=
  if 2 ≤ x.size ∧ isSg (x.extract 0 2) = true then ⟨2, x.extract 0 2, 0, 2⟩ else if isSg (x.extract 0 1) then ⟨2, x.extract 0 1, 0, 1⟩ else Nx.none
def firstNx (x : ByteArray) : Nx :=
  if ltb (x.data.toList.getD 0 0) then letterNx x else if dgb (x.data.toList.getD 0 0) then numberNx x else signNx x

def Nx.val (q : Nx) : Value := .tuple #[.agg #[.int .i64 q.kind, .string q.text, .int .i64 q.n, .int .i64 0], .int .i64 q.len]

theorem nameLen_le (x : ByteArray) : nameLen x.data.toList ≤ x.size := by
  have := takeWhile_len_le nmb x.data.toList
  unfold nameLen
  simpa using this
theorem digsLen_le (x : ByteArray) : digsLen x.data.toList ≤ x.size := by
  have := takeWhile_len_le dgb x.data.toList
  unfold digsLen
  simpa using this

end Go.Proofs.YtfnnodaggjgkfaaGreatDoor
