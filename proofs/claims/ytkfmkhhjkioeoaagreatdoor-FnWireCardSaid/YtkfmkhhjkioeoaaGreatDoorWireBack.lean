/-
  What is put comes back, and a pack that is cut is none: in plain words.
-/
import Derived.Test.YtkfmkhhjkioeoaaGreatDoorML
namespace Go.Proofs.YtkfmkhhjkioeoaaGreatDoor
open Go.RowKit Go.Joins

set_option maxRecDepth 100000

theorem bytesU_numB (z : Int) : bytesU (numB z) = numU z := by
  have := digits_back 8 (numU z) (by decide)
  rw [Nat.mod_eq_of_lt (show numU z < 256 ^ 8 from numU_lt z)] at this
  exact this
theorem num_back {z : Int} (h : inI64 z) : wrap64 (bytesU (numB z) : Nat) = z := by
  rw [bytesU_numB]
  unfold inI64 at h
  unfold wrap64 numU
  omega
theorem numL_of {l : List UInt8} {p : Nat} {z : Int} (h : (l.drop p).take 8 = numB z) (hz : inI64 z) : numL l p = z := by
  unfold numL
  rw [h]
  exact num_back hz
theorem numsB_drop : ∀ (zs : List Int) (b : List UInt8) (k : Nat) (z : Int), zs[k]? = some z → ((numsB zs ++ b).drop (8 * k)).take 8 = numB z
  | [], _, k, z, h => by simp at h
  | y :: ys, b, 0, z, h => by
    have e : numsB (y :: ys) = numB y ++ numsB ys := rfl
    cases h
    rw [e, List.append_assoc, Nat.mul_zero, List.drop_zero, List.take_append_of_le_length (by rw [numB_len]; exact Nat.le_refl 8), List.take_of_length_le (by rw [numB_len]; exact Nat.le_refl 8)]
  | y :: ys, b, k + 1, z, h => by
    have e : numsB (y :: ys) = numB y ++ numsB ys := rfl
    have h' : ys[k]? = some z := by simpa using h
    rw [e, List.append_assoc, show 8 * (k + 1) = (numB y).length + 8 * k by rw [numB_len]; omega, List.drop_append, ]
    simp only [Nat.add_sub_cancel_left]
    rw [List.drop_of_length_le (by rw [numB_len]; omega), List.nil_append]
    exact numsB_drop ys b k z h'
theorem numL_nums {zs : List Int} {b : List UInt8} {k p : Nat} {z : Int} (hp : p = 8 * k) (h : zs[k]? = some z) (hz : inI64 z) : numL (numsB zs ++ b) p = z := by
  subst hp
  exact numL_of (numsB_drop zs b k z h) hz
/-- A message whose numbers lie in range. -/
def Ms.fits (m : Ms) : Prop := inI64 m.kind ∧ inI64 m.frm ∧ inI64 m.dst ∧ inI64 m.id ∧ inI64 m.want ∧ inI64 m.cell.kind ∧ inI64 m.cell.n ∧ inI64 m.cell.pos ∧ ∀ z ∈ m.cell.kids, inI64 z
theorem msg_nums {m : Ms} (hok : m.ok = true) : m.bytes = numsB m.nums ++ numsB m.cell.kids := by unfold Ms.bytes; rw [hok]; rfl
theorem msg_at {m : Ms} (hok : m.ok = true) {k p : Nat} {z : Int} (hp : p = 8 * k) (h : m.nums[k]? = some z) (hz : inI64 z) : numL m.bytes p = z := by
  rw [msg_nums hok]
  exact numL_nums hp h hz
theorem msg_kids {m : Ms} (hok : m.ok = true) (f8 : ∀ z ∈ m.cell.kids, inI64 z) : numsL m.bytes 72 m.cell.kids.length = m.cell.kids := by
  have hb2 : m.bytes = numsB (m.nums ++ m.cell.kids) ++ [] := by rw [msg_nums hok, numsB_app, List.append_nil]
  have hnl : m.nums.length = 9 := rfl
  generalize m.nums = ns at *
  generalize m.bytes = l at *
  generalize m.cell.kids = ks at *
  apply List.ext_getElem?
  intro k
  rcases Nat.lt_or_ge k ks.length with hk | hk
  · have hz := List.getElem?_eq_getElem hk
    rw [hz]
    unfold numsL
    rw [List.getElem?_map, List.getElem?_range hk, Option.map_some]
    congr 1
    rw [hb2]
    refine numL_nums (k := 9 + k) (by omega) ?_ (f8 _ (List.mem_of_getElem? hz))
    rw [List.getElem?_append_right (by omega), show 9 + k - ns.length = k by omega]
    exact hz
  · rw [List.getElem?_eq_none (by rw [numsL_len]; exact hk), List.getElem?_eq_none hk]
theorem msg_back {m : Ms} (hok : m.ok = true) (hf : m.fits) : msgL m.bytes = m := by
  obtain ⟨f0, f1, f2, f3, f4, f5, f6, f7, f8⟩ := hf
  have h100 := ok_len hok
  have n0 := msg_at hok (k := 0) (p := 0) (by decide) rfl f0
  have n1 := msg_at hok (k := 1) (p := 8) (by decide) rfl f1
  have n2 := msg_at hok (k := 2) (p := 16) (by decide) rfl f2
  have n3 := msg_at hok (k := 3) (p := 24) (by decide) rfl f3
  have n4 := msg_at hok (k := 4) (p := 32) (by decide) rfl f4
  have n5 := msg_at hok (k := 5) (p := 40) (by decide) rfl f5
  have n6 := msg_at hok (k := 6) (p := 48) (by decide) rfl f6
  have n7 := msg_at hok (k := 7) (p := 56) (by decide) rfl f7
  have n8 := msg_at hok (k := 8) (p := 64) (z := (m.cell.kids.length : Int)) (by decide) rfl (by unfold inI64; omega)
  have nk := msg_kids hok f8
  unfold msgL
  generalize m.bytes = l at *
  simp only [n0, n1, n2, n3, n4, n5, n6, n7, n8, Int.toNat_natCast, nk]
theorem msg_back_fit {m : Ms} (hok : m.ok = true) (hf : m.fits) : msgFit m.bytes = true := by
  have h100 := ok_len hok
  have hm := msg_back hok hf
  have hlen : m.bytes.length = 72 + 8 * m.cell.kids.length := bytes_len m hok
  have n8 := msg_at hok (k := 8) (p := 64) (z := (m.cell.kids.length : Int)) (by decide) rfl (by unfold inI64; omega)
  unfold msgFit
  rw [hm, hok, n8]
  generalize m.bytes = l at *
  unfold inB
  simp only [Int.toNat_natCast]
  rw [decide_eq_true (show 72 ≤ l.length by omega), decide_eq_true hlen, decide_eq_true (show (0 : Int) ≤ (m.cell.kids.length : Int) by omega), decide_eq_true (show (m.cell.kids.length : Int) ≤ 100 by omega)]
  rfl
theorem pack_back {p : Pa} (hok : p.ok = true) (hf : p.fits) : packL p.bytes = p ∧ packFit p.bytes = true := by
  obtain ⟨f0, f1, f2, f3, f4⟩ := hf
  have hb : p.bytes = numsB p.nums ++ p.body.data.toList := by unfold Pa.bytes; rw [hok]; rfl
  have hcl := crcSum_lt p.body.data.toList
  have hnl : (numsB p.nums).length = 48 := by rw [numsB_len]; rfl
  have n0 : numL p.bytes 0 = p.kind := by rw [hb]; exact numL_nums (zs := p.nums) (k := 0) (by decide) rfl f0
  have n1 : numL p.bytes 8 = p.frm := by rw [hb]; exact numL_nums (zs := p.nums) (k := 1) (by decide) rfl f1
  have n2 : numL p.bytes 16 = p.dst := by rw [hb]; exact numL_nums (zs := p.nums) (k := 2) (by decide) rfl f2
  have n3 : numL p.bytes 24 = p.seq := by rw [hb]; exact numL_nums (zs := p.nums) (k := 3) (by decide) rfl f3
  have n4 : numL p.bytes 32 = p.low := by rw [hb]; exact numL_nums (zs := p.nums) (k := 4) (by decide) rfl f4
  have n5 : numL p.bytes 40 = ((crcSum p.body.data.toList : Nat) : Int) := by rw [hb]; exact numL_nums (zs := p.nums) (k := 5) (by decide) rfl (by unfold inI64; omega)
  have hd : p.bytes.drop 48 = p.body.data.toList := by rw [hb, ← hnl, List.drop_left]
  have hm : packL p.bytes = p := by
    unfold packL
    rw [n0, n1, n2, n3, n4, hd, str_eq rfl]
  refine ⟨hm, ?_⟩
  unfold packFit
  rw [hm, hok, n5, hd, decide_eq_true (show 48 ≤ p.bytes.length by rw [hb, List.length_append, hnl]; omega)]
  simp
theorem numL_take {l : List UInt8} {k p : Nat} (h : p + 8 ≤ k) : numL (l.take k) p = numL l p := by
  unfold numL
  rw [List.drop_take, List.take_take, Nat.min_eq_left (by omega)]
/-- A pack that is cut is none. -/
theorem pack_cut {p : Pa} (hok : p.ok = true) (hf : p.fits) {k : Nat} (hk : k < p.bytes.length) : packFit (p.bytes.take k) = false := by
  cases hfit : packFit (p.bytes.take k) with
  | false => rfl
  | true =>
    exfalso
    obtain ⟨hp, -⟩ := pack_back hok hf
    have hb : p.bytes = numsB p.nums ++ p.body.data.toList := by unfold Pa.bytes; rw [hok]; rfl
    have hnl : (numsB p.nums).length = 48 := by rw [numsB_len]; rfl
    have hbl : p.bytes.length = 48 + p.body.data.toList.length := by rw [hb, List.length_append, hnl]
    unfold packFit at hfit
    simp only [Bool.and_eq_true, decide_eq_true_eq] at hfit
    obtain ⟨⟨h48, hok2⟩, -⟩ := hfit
    rw [List.length_take, Nat.min_eq_left (by omega)] at h48
    have hkind : (packL (p.bytes.take k)).kind = p.kind := by
      show numL (p.bytes.take k) 0 = _
      rw [numL_take (by omega)]
      show (packL p.bytes).kind = _
      rw [hp]
    have hbody : (packL (p.bytes.take k)).body.data.toList = p.body.data.toList.take (k - 48) := by
      rw [packL_body, List.drop_take, hb, ← hnl, List.drop_left]
    unfold Pa.ok at hok hok2
    rw [Bool.and_eq_true] at hok hok2
    have h1 := hok.2
    have h2 := hok2.2
    rw [hkind] at h2
    by_cases k0 : p.kind = 0
    · rw [if_pos k0] at h1 h2
      unfold Pa.data at h1 h2
      rw [hbody] at h2
      simp only [Bool.and_eq_true] at h1 h2
      have m1 := h1.1.1.1
      have m2 := h2.1.1.1
      unfold msgFit at m1 m2
      simp only [Bool.and_eq_true, decide_eq_true_eq] at m1 m2
      have l1 := m1.1.2
      have l2 := m2.1.2
      have a1 := m2.1.1.1
      rw [List.length_take, Nat.min_eq_left (by omega)] at l2 a1
      rw [numL_take (by omega)] at l2
      omega
    · rw [if_neg k0] at h1
      by_cases k1 : p.kind = 1
      · rw [if_pos k1, Bool.and_eq_true] at h1
        have he := h1.2
        rw [ByteArray.toList_eq] at he
        have : p.body.data.toList = [] := by simpa using he
        rw [this] at hbl
        simp at hbl
        omega
      · rw [if_neg k1] at h1
        cases h1
end Go.Proofs.YtkfmkhhjkioeoaaGreatDoor
