/-
  The specification's line of numbers, a blank ahead of each.
-/
import Derived.Test.YtbaakhpmfljgnabDoorIntsRow
import Derived.Test.YtbaakhpmfljgnabDoorDec
namespace Go.Proofs.YtbaakhpmfljgnabDoor
open Go.RowKit Go.Joins

set_option maxRecDepth 100000

/-- Numbers, a blank ahead of each. -/
def lineL (zs : List Int) : List UInt8 := zs.flatMap (fun z => 32 :: Lib.itoa z)
theorem lineL_snoc (zs : List Int) (k : Nat) {z : Int} (h : zs[k]? = some z) : lineL (zs.take (k + 1)) = lineL (zs.take k) ++ 32 :: Lib.itoa z := by
  have hk := (List.getElem?_eq_some_iff.1 h).1
  unfold lineL
  rw [List.take_succ_eq_append_getElem hk, List.flatMap_append, (List.getElem?_eq_some_iff.1 h).2]
  simp
theorem itoa_len (z : Int) (h : inI64 z) : (Lib.itoa z).length ≤ 21 := by
  unfold Lib.itoa
  obtain ⟨h0, h1⟩ := h
  split
  · have := dec_len20 z.natAbs (by omega)
    rw [List.length_cons]; omega
  · have := dec_len20 z.toNat (by omega)
    omega
theorem lineL_len : ∀ zs : List Int, (∀ z ∈ zs, inI64 z) → (lineL zs).length ≤ 22 * zs.length
  | [], _ => by simp [lineL]
  | z :: zs, h => by
    have h1 := itoa_len z (h z (by simp))
    have h2 := lineL_len zs (fun y hy => h y (by simp [hy]))
    have e : lineL (z :: zs) = (32 :: Lib.itoa z) ++ lineL zs := rfl
    rw [e, List.length_append, List.length_cons, List.length_cons]; omega
theorem cat_line (a b : List UInt8) : ((⟨a.toArray⟩ : ByteArray) ++ ⟨#[32]⟩ ++ ⟨b.toArray⟩) = ⟨(a ++ 32 :: b).toArray⟩ := by
  apply ByteArray.ext
  simp [ByteArray.data_append]

set_option maxHeartbeats 3200000 in
theorem l04Line_any (v : Value) (zs : List Int) (S : Nat → Prop) (w : World) (h : IntsAt w S v zs) (hl : zs.length ≤ 100000000) :
    Calls Tryd.prog 25 #[v] w fun e w' => e = .returned (.string ⟨(lineL zs).toArray⟩) ∧ w' = w := by
  obtain ⟨a, cap, rfl, -, hc⟩ := h
  have hin : ∀ z ∈ zs, inI64 z := fun z hz => by
    obtain ⟨i, hi⟩ := List.getElem?_of_mem hz
    obtain ⟨_, _, _, _, _, _, hin⟩ := hc i z hi
    exact hin
  have HC := (show Hid (_ ∧ _) from ⟨hc, hin⟩)
  clear hc hin
  go_enter Tryd.func25, Tryd.ntmps25
  go_wp2
  go_loopw [3, 4] (fun ov i wr => ∃ k : Nat, k ≤ zs.length ∧ i = .int .i64 k ∧ ov = .string ⟨(lineL (zs.take k)).toArray⟩ ∧ wr = w) (fun _ i _ => zs.length - (intOf i).toNat)
  case atStart => exact ⟨0, Nat.zero_le _, rfl, rfl, rfl⟩
  case round =>
    obtain ⟨k, hk, rfl, rfl, rfl⟩ := hrel
    by_cases hkl : k < zs.length
    · have he := List.getElem?_eq_getElem hkl
      generalize zs[k] = z at *
      obtain ⟨b, off, rfl, -, hlt2, c0, hzz⟩ := HC.out.1 k z he
      have hlt' : ((k : Nat) : Int) < ((zs.length : Nat) : Int) := by omega
      have hll := lineL_len (zs.take k) (fun y hy => HC.out.2 y (List.mem_of_mem_take hy))
      have hkt : (zs.take k).length = k := by rw [List.length_take]; omega
      rw [hkt] at hll
      have hil := itoa_len z hzz
      have HN := (show Hid (_ ∧ True) from ⟨lineL_snoc zs k he, trivial⟩)
      clear he HC hkt
      generalize lineL (zs.take k) = L at *
      have hzz' := hzz
      obtain ⟨hz0, hz1⟩ := hzz'
      have hcat := cat_line L (Lib.itoa z)
      go_wp2_with fail
      refine (specDec_any z _ hz0 hz1).mono ?_
      rintro e w1 ⟨rfl, rfl⟩
      generalize Lib.itoa z = T at *
      go_wp2
      refine ⟨⟨k + 1, by omega, by go_num, by rw [HN.out.1], trivial⟩, by simp [intOf]; omega⟩
    · obtain rfl : k = zs.length := by omega
      rw [List.take_length]
      go_wp2
      go_ret
      exact ⟨rfl, rfl⟩
end Go.Proofs.YtbaakhpmfljgnabDoor
