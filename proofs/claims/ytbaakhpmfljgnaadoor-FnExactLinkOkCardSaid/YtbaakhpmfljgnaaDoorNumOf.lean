/-
  The program's number of a row of bytes.
-/
import Derived.Test.YtbaakhpmfljgnaaDoorWirePure
import Derived.Test.YtbaakhpmfljgnaaDoorOwnRow
import Derived.Below
namespace Go.Proofs.YtbaakhpmfljgnaaDoor
open Go.RowKit Go.Joins

set_option maxRecDepth 100000

/-- Bytes in memory, from a place on. -/
def BtAt (w : World) (b o : Nat) (l : List UInt8) : Prop := ∀ (j : Nat) (x : UInt8), l[j]? = some x → w.cell? ⟨b, o + j, none⟩ = some (.int .u8 ((x.toNat : Nat) : Int))
theorem or_byte (x y : Int) (hx : x % 256 = 0) (hx0 : -9223372036854775808 ≤ x) (hx1 : x ≤ 9223372036854775807) (hy0 : 0 ≤ y) (hy : y < 256) : bits .or .i64 x y = x + y := by
  obtain ⟨b, rfl⟩ := Int.eq_ofNat_of_zero_le hy0
  have hb : b < 256 := by omega
  show IntKind.i64.wrap (((BitVec.ofInt 64 x ||| BitVec.ofInt 64 (b : Int)).toNat : Nat) : Int) = _
  rw [BitVec.toNat_or]
  have h2 : (BitVec.ofInt 64 (b : Int)).toNat = b := by rw [BitVec.toNat_ofInt]; omega
  obtain ⟨X, hX⟩ : ∃ X, (BitVec.ofInt 64 x).toNat = X := ⟨_, rfl⟩
  have h1 : X = (x % 18446744073709551616).toNat := by rw [← hX, BitVec.toNat_ofInt]; rfl
  rw [hX, h2]
  have hm : X = 2 ^ 8 * (X / 256) := by omega
  rw [hm, ← Nat.two_pow_add_eq_or_of_lt (i := 8) (by omega) (X / 256), ← hm, IntKind.wrap_i64]
  omega
theorem num_more (u : Nat) (b : UInt8) (_hu : u < 18446744073709551616) : bits .or .i64 (wrap64 (wrap64 (u : Int) * 256)) ((b.toNat : Nat) : Int) = wrap64 (((256 * u + b.toNat) % 18446744073709551616 : Nat) : Int) := by
  have hb := b.toNat_lt
  have e : ∀ z : Int, wrap64 z = (z + 9223372036854775808) % 18446744073709551616 - 9223372036854775808 := fun z => by unfold wrap64; rfl
  rw [or_byte _ _ (by rw [e, e]; omega) (by rw [e, e]; omega) (by rw [e, e]; omega) (by omega) (by omega)]
  rw [e, e, e]
  omega

set_option maxHeartbeats 3200000 in
theorem numOf_any (b o cap : Nat) (l : List UInt8) (w : World) (h : BtAt w b o l) (hl : l.length ≤ 1048576) :
    Calls Tryd.prog 62 #[.slice (some ⟨b, o, none⟩) l.length cap] w fun e w' => e = .returned (.int .i64 (wrap64 (bytesU l : Nat))) ∧ w' = w := by
  have HC := (show Hid (_ ∧ True) from ⟨h, trivial⟩)
  clear h
  go_enter Tryd.func62, Tryd.ntmps62
  go_wp2
  go_loop [3, 8] (fun nv iv => ∃ k : Nat, k ≤ l.length ∧ iv = .int .i64 k ∧ nv = .int .i64 (wrap64 (bytesU (l.take k) : Nat))) (fun _ iv => l.length - (intOf iv).toNat)
  case atStart => exact ⟨0, Nat.zero_le _, rfl, congrArg (Value.int .i64) (by rw [List.take_zero, show bytesU [] = 0 from rfl]; unfold wrap64; omega)⟩
  case round =>
    obtain ⟨k, hk, rfl, rfl⟩ := hrel
    by_cases hkl : k < l.length
    · have he := List.getElem?_eq_getElem hkl
      have HM : Hid (bytesU (l.take (k + 1)) = (256 * bytesU (l.take k) + (l[k]).toNat) % 18446744073709551616) := by
        rw [List.take_succ_eq_append_getElem hkl, bytesU_more]; exact rfl
      have hu := bytesU_lt (l.take k)
      generalize l[k] = x at *
      have c0 := HC.out.1 k x he
      have hn := num_more (bytesU (l.take k)) x hu
      generalize bytesU (l.take k) = u at *
      have hlt' : ((k : Nat) : Int) < ((l.length : Nat) : Int) := by omega
      have HN := (show Hid (_ ∧ True) from ⟨hn, trivial⟩)
      clear hn he HC
      have hb := x.toNat_lt
      go_wp2
      exact ⟨⟨k + 1, by omega, by go_num, by rw [HM.out, HN.out.1]⟩, by simp [intOf]; omega⟩
    · obtain rfl : k = l.length := by omega
      rw [List.take_length]
      go_wp2
      go_ret
      exact ⟨rfl, rfl⟩
end Go.Proofs.YtbaakhpmfljgnaaDoor
