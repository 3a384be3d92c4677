/-
  The specification's bytes of a row of numbers.
-/
import Derived.Test.YtbaakhpmfljgnaaDoorSpecPutNum
namespace Go.Proofs.YtbaakhpmfljgnaaDoor
open Go.RowKit Go.Joins

set_option maxRecDepth 100000

/-- The bytes of numbers, one behind the other. -/
def numsB (zs : List Int) : List UInt8 := zs.flatMap numB
theorem numsB_snoc (zs : List Int) (k : Nat) {z : Int} (h : zs[k]? = some z) : numsB (zs.take (k + 1)) = numsB (zs.take k) ++ numB z := by
  have hk := (List.getElem?_eq_some_iff.1 h).1
  unfold numsB
  rw [List.take_succ_eq_append_getElem hk, List.flatMap_append, (List.getElem?_eq_some_iff.1 h).2]
  simp
theorem numsB_len : ∀ zs : List Int, (numsB zs).length = 8 * zs.length
  | [] => rfl
  | z :: zs => by
    have e : numsB (z :: zs) = numB z ++ numsB zs := rfl
    rw [e, List.length_append, numB_len, numsB_len zs, List.length_cons]; omega
theorem numsB_app (a b : List Int) : numsB (a ++ b) = numsB a ++ numsB b := by simp [numsB]
theorem cat_bytes (a b : List UInt8) : ((⟨a.toArray⟩ : ByteArray) ++ ⟨b.toArray⟩) = ⟨(a ++ b).toArray⟩ := by
  apply ByteArray.ext
  simp [ByteArray.data_append]

set_option maxHeartbeats 3200000 in
theorem l07Nums_any (v : Value) (zs : List Int) (S : Nat → Prop) (w : World) (h : IntsAt w S v zs) (hl : zs.length ≤ 100000000) :
    Calls Tryd.prog 36 #[v] w fun e w' => e = .returned (.string ⟨(numsB zs).toArray⟩) ∧ Below w.heap.size w w' := by
  obtain ⟨a, cap, rfl, -, hc⟩ := h
  have HC := (show Hid (_ ∧ True) from ⟨hc, trivial⟩)
  clear hc
  go_enter Tryd.func36, Tryd.ntmps36
  go_wp2
  go_loopw [3, 4] (fun ov i wr => ∃ k : Nat, k ≤ zs.length ∧ i = .int .i64 k ∧ ov = .string ⟨(numsB (zs.take k)).toArray⟩ ∧ Below w.heap.size w wr) (fun _ i _ => zs.length - (intOf i).toNat)
  case atStart => exact ⟨0, Nat.zero_le _, rfl, rfl, Below.refl _ _⟩
  case round =>
    obtain ⟨k, hk, rfl, rfl, hbw⟩ := hrel
    by_cases hkl : k < zs.length
    · have he := List.getElem?_eq_getElem hkl
      generalize zs[k] = z at *
      obtain ⟨b, off, rfl, -, hlt2, c0, hzz⟩ := HC.out.1 k z he
      rw [← hbw.cell (by exact hlt2)] at c0
      have hlt' : ((k : Nat) : Int) < ((zs.length : Nat) : Int) := by omega
      have hll := numsB_len (zs.take k)
      have hkt : (zs.take k).length = k := by rw [List.length_take]; omega
      rw [hkt] at hll
      have hil := numB_len z
      have HN := (show Hid (_ ∧ True) from ⟨numsB_snoc zs k he, trivial⟩)
      clear he HC hkt
      generalize numsB (zs.take k) = L at *
      obtain ⟨hz0, hz1⟩ := hzz
      have hcat := cat_bytes L (numB z)
      go_wp2_with fail
      refine (specPutNum_any z _ hz0 hz1).mono ?_
      rintro e w1 ⟨rfl, b1⟩
      have HB : Hid (Below w.heap.size w w1) := hbw.trans (b1.mono hbw.size)
      clear b1
      generalize numB z = T at *
      have hsz : ((⟨L.toArray⟩ : ByteArray)).size = 8 * k := by show L.toArray.size = _; simp [hll]
      have hsz2 : ((⟨T.toArray⟩ : ByteArray)).size = 8 := by show T.toArray.size = _; simp [hil]
      go_wp2
      refine ⟨⟨k + 1, by omega, by go_num, by rw [HN.out.1], HB.out⟩, by simp [intOf]; omega⟩
    · obtain rfl : k = zs.length := by omega
      rw [List.take_length]
      go_wp2
      go_ret
      exact ⟨rfl, hbw⟩
end Go.Proofs.YtbaakhpmfljgnaaDoor
