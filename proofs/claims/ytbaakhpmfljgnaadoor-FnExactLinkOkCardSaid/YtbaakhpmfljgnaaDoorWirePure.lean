/-
  Chapter 7 in plain words: the bytes of a number, the number of bytes, the sum of a text.
-/
import Derived.Test.YtbaakhpmfljgnaaDoorRows
import Derived.WalkKit
import Derived.Laws.BitsLemmas
namespace Go.Proofs.YtbaakhpmfljgnaaDoor
open Go.RowKit

set_option maxRecDepth 100000

/-- A number as 64 bits. -/
def numU (n : Int) : Nat := (n % 18446744073709551616).toNat
theorem numU_lt (n : Int) : numU n < 18446744073709551616 := by unfold numU; omega
/-- Its byte so many from the end. -/
def byteAt (u k : Nat) : UInt8 := UInt8.ofNat (u / 256 ^ k % 256)
/-- Its eight bytes, the highest first. -/
def numB (n : Int) : List UInt8 := (List.range 8).map (fun i => byteAt (numU n) (7 - i))
theorem numB_len (n : Int) : (numB n).length = 8 := by simp [numB]
/-- The number of bytes, the highest first. -/
def bytesU (l : List UInt8) : Nat := l.foldl (fun u b => (256 * u + b.toNat) % 18446744073709551616) 0
theorem bytesU_lt (l : List UInt8) : bytesU l < 18446744073709551616 := by
  unfold bytesU
  have : ∀ (l : List UInt8) (u : Nat), u < 18446744073709551616 → l.foldl (fun u b => (256 * u + b.toNat) % 18446744073709551616) u < 18446744073709551616 := by
    intro l
    induction l with
    | nil => intro u h; exact h
    | cons a l ih => intro u _; exact ih _ (Nat.mod_lt _ (by decide))
  exact this l 0 (by decide)
theorem bytesU_more (l : List UInt8) (b : UInt8) : bytesU (l ++ [b]) = (256 * bytesU l + b.toNat) % 18446744073709551616 := by simp [bytesU]
/-- The number at a place of a text, and the place behind it. -/
def getN (s : ByteArray) (i : Int) : Int × Int :=
  if 0 ≤ i ∧ i ≤ (s.size : Int) - 8 then (wrap64 (bytesU ((s.data.toList.drop i.toNat).take 8) : Nat), i + 8) else (0, -1)
/-- One halving of a sum. -/
def crcStep (x : Nat) : Nat := if x % 2 = 1 then (x / 2) ^^^ 3988292384 else x / 2
def crcSteps : Nat → Nat → Nat
  | 0, x => x
  | k + 1, x => crcStep (crcSteps k x)
def crcByte (x : Nat) (b : UInt8) : Nat := crcSteps 8 (x ^^^ b.toNat)
def crcOf (l : List UInt8) : Nat := l.foldl crcByte 4294967295
/-- The sum of a text. -/
def crcSum (l : List UInt8) : Nat := crcOf l ^^^ 4294967295

theorem xor_lt {a b : Nat} (ha : a < 4294967296) (hb : b < 4294967296) : a ^^^ b < 4294967296 := Nat.xor_lt_two_pow (n := 32) ha hb
theorem crcStep_lt {x : Nat} (h : x < 4294967296) : crcStep x < 4294967296 := by
  unfold crcStep
  split
  · exact xor_lt (by omega) (by decide)
  · omega
theorem crcSteps_lt {x : Nat} (h : x < 4294967296) : ∀ k, crcSteps k x < 4294967296
  | 0 => h
  | k + 1 => crcStep_lt (crcSteps_lt h k)
theorem byte_lt (b : UInt8) : b.toNat < 4294967296 := by have := b.toNat_lt; omega
theorem crcByte_lt {x : Nat} (h : x < 4294967296) (b : UInt8) : crcByte x b < 4294967296 := crcSteps_lt (xor_lt h (byte_lt b)) 8
theorem crcOf_lt (l : List UInt8) : crcOf l < 4294967296 := by
  unfold crcOf
  have : ∀ (l : List UInt8) (u : Nat), u < 4294967296 → l.foldl crcByte u < 4294967296 := by
    intro l
    induction l with
    | nil => intro u h; exact h
    | cons a l ih => intro u h; exact ih _ (crcByte_lt h a)
  exact this l _ (by decide)
theorem crcOf_more (l : List UInt8) (b : UInt8) : crcOf (l ++ [b]) = crcByte (crcOf l) b := by simp [crcOf]
theorem crcSum_lt (l : List UInt8) : crcSum l < 4294967296 := xor_lt (crcOf_lt l) (by decide)

theorem xor32 (a b : Nat) (ha : a < 4294967296) (hb : b < 4294967296) : bits .xor .u32 (a : Int) (b : Int) = ((a ^^^ b : Nat) : Int) := by
  have h1 : (BitVec.ofInt 32 (a : Int)).toNat = a := by rw [BitVec.toNat_ofInt]; omega
  have h2 : (BitVec.ofInt 32 (b : Int)).toNat = b := by rw [BitVec.toNat_ofInt]; omega
  show IntKind.u32.wrap ((BitVec.ofInt 32 (a : Int) ^^^ BitVec.ofInt 32 (b : Int)).toNat : Nat) = _
  rw [BitVec.toNat_xor, h1, h2]
  have := xor_lt ha hb
  rw [IntKind.wrap_u32]
  omega
theorem take_more {s : ByteArray} {k : Nat} (h : k < s.size) : s.data.toList.take (k + 1) = s.data.toList.take k ++ [s[k]] := by
  rw [List.take_succ_eq_append_getElem (by simpa using h)]
  rfl
end Go.Proofs.YtbaakhpmfljgnaaDoor
