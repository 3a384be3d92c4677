/-
  The marks that the laws write into an answer: the text of a number.
-/
import Derived.Test.YtlgnklpaebgnlaaRows
import Derived.WalkKit
import Derived.Lib.Strings
namespace Go.Proofs.Ytlgnklpaebgnlaa
open Go.RowKit

set_option maxRecDepth 100000

def markD : Nat → Nat → List UInt8 → List UInt8
  | 0, _, acc => acc
  | f + 1, n, acc => if n = 0 then acc else markD f (n / 10) (UInt8.ofNat (48 + n % 10) :: acc)
/-- The mark of a number. -/
def markT (k : Int) : ByteArray := if k ≤ 0 then ⟨#[109, 48]⟩ else ⟨(109 :: markD k.toNat k.toNat []).toArray⟩

theorem cat_cons (c : UInt8) (l : List UInt8) : (⟨#[c]⟩ ++ ⟨l.toArray⟩ : ByteArray) = ⟨(c :: l).toArray⟩ := by
  apply ByteArray.ext
  simp [ByteArray.data_append]

theorem mark_conv (w : World) (n : Nat) : (convert 156 9 (.slice (some ⟨w.heap.size, 0, none⟩) 1 1)).run Try.prog (w.alloc (.cells #[.int .u8 (48 + (n : Int) % 10)] 5)) = .ok (.string ⟨[UInt8.ofNat (48 + n % 10)].toArray⟩) (w.alloc (.cells #[.int .u8 (48 + (n : Int) % 10)] 5)) := by
  refine run_convert_bytes_back (P := Try.prog) _ 156 9 5 ⟨w.heap.size, 0, none⟩ 1 [UInt8.ofNat (48 + n % 10)] Try.underlying156 Try.underlying5 Try.underlying9 ?_
  intro j hj
  obtain rfl : j = 0 := by simpa using hj
  have e : ((UInt8.ofNat (48 + n % 10)).toNat : Int) = 48 + (n : Int) % 10 := by
    simp [UInt8.toNat_ofNat']
    omega
  rw [show ([UInt8.ofNat (48 + n % 10)][0]'hj) = UInt8.ofNat (48 + n % 10) from rfl, e]
  simp [Addr.add]

set_option maxHeartbeats 1600000 in
theorem markText_any (k : Int) (w : World) (h : k ≤ 1000000000) :
    Calls Try.prog 80 #[.int .i64 k] w fun e w' => e = .returned (.string (markT k)) ∧ Below w.heap.size w w' := by
  by_cases hp : k ≤ 0
  · have HE : Hid (markT k = ⟨#[109, 48]⟩) := by unfold markT; rw [if_pos hp]; rfl
    go_enter Try.func80, Try.ntmps80
    go_wp2
    go_ret
    exact ⟨by rw [HE.out]; rfl, Below.refl _ _⟩
  obtain ⟨m, rfl⟩ := Int.eq_ofNat_of_zero_le (show 0 ≤ k by omega)
  have HE : Hid (markT (m : Int) = ⟨(109 :: markD m m []).toArray⟩) := by unfold markT; rw [if_neg hp]; rfl
  go_enter Try.func80, Try.ntmps80
  go_wp2
  go_loopw [0, 3] (fun v t wr => ∃ (n f : Nat) (acc : List UInt8), v = .int .i64 n ∧ n ≤ m ∧ n ≤ f ∧ t = .string ⟨acc.toArray⟩ ∧ acc.length + n ≤ m ∧ Hid (markD m m [] = markD f n acc) ∧ Below w.heap.size w wr) (fun v _ _ => (intOf v).toNat)
  case atStart => exact ⟨m, m, [], rfl, Nat.le_refl _, Nat.le_refl _, rfl, by simp, rfl, Below.refl _ _⟩
  case round =>
    obtain ⟨n, f, acc, rfl, hnm, hnf, rfl, hacc, hst, hbw⟩ := hrel
    have hsz := hbw.size
    by_cases hz : 0 < n
    · have hz' : (0 : Int) < (n : Int) := by omega
      have hcv := mark_conv wr n
      obtain ⟨g, rfl⟩ : ∃ g, f = g + 1 := ⟨f - 1, by omega⟩
      have hst2 : Hid (markD m m [] = markD g (n / 10) (UInt8.ofNat (48 + n % 10) :: acc)) := by
        have := hst.out
        rw [markD, if_neg (by omega)] at this
        exact this
      generalize UInt8.ofNat (48 + n % 10) = c at hcv hst2
      go_wp2
      refine ⟨⟨n / 10, g, c :: acc, by simp, by omega, by omega, by rw [cat_cons], by simp; omega, hst2, hbw.alloc hsz _⟩, by simp [intOf]; omega⟩
    · have hz' : ¬ (0 : Int) < (n : Int) := by omega
      have HF : Hid (markD m m [] = acc) := by
        obtain rfl : n = 0 := by omega
        rw [hst.out]
        cases f with
        | zero => rfl
        | succ f => rw [markD, if_pos rfl]; rfl
      go_wp2
      go_ret
      exact ⟨by rw [HE.out, HF.out, ← cat_cons]; rfl, hbw⟩
end Go.Proofs.Ytlgnklpaebgnlaa
