/-
  A message that is put comes back: in plain words.
  What sending makes of a link, in plain words; when the link that comes out is right.
-/
import Derived.Test.YtlbinamlehapoaaGreatDoorMG
import Derived.Test.YtlbinamlehapoaaGreatDoorMK
namespace Go.Proofs.YtlbinamlehapoaaGreatDoor
open Go.RowKit Go.Joins

set_option maxRecDepth 100000

theorem digits_back (k : Nat) : ∀ (u : Nat), k ≤ 8 → bytesU ((List.range k).map (fun i => byteAt u (k - 1 - i))) = u % 256 ^ k := by
  induction k with
  | zero => intro u _; simp [bytesU, Nat.mod_one]
  | succ k ih =>
    intro u hk
    have e : (List.range (k + 1)).map (fun i => byteAt u (k + 1 - 1 - i)) = (List.range k).map (fun i => byteAt (u / 256) (k - 1 - i)) ++ [byteAt u 0] := by
      rw [List.range_succ, List.map_append, List.map_singleton]
      congr 1
      · refine List.map_congr_left fun i hi => ?_
        have hi' : i < k := by simpa using hi
        unfold byteAt
        rw [show k + 1 - 1 - i = (k - 1 - i) + 1 by omega, Nat.pow_succ, Nat.mul_comm (256 ^ (k - 1 - i)) 256, ← Nat.div_div_eq_div_mul]
      · rw [show k + 1 - 1 - k = 0 by omega]
    rw [e, bytesU_more, ih (u / 256) (by omega)]
    have hb : (byteAt u 0).toNat = u % 256 := by unfold byteAt; rw [UInt8.toNat_ofNat', Nat.pow_zero, Nat.div_one]; omega
    rw [hb, Nat.pow_succ, Nat.mul_comm (256 ^ k) 256, Nat.mod_mul]
    have hp := pow_small (k + 1) hk
    have hl : u / 256 % 256 ^ k < 256 ^ k := Nat.mod_lt _ (Nat.pow_pos (by decide))
    rw [Nat.pow_succ] at hp
    generalize 256 ^ k = P at *
    generalize u / 256 % P = q at *
    have : 256 * q + u % 256 < 18446744073709551616 := by omega
    rw [Nat.mod_eq_of_lt this]
    omega
theorem bytesU_numB (z : Int) : bytesU (numB z) = numU z := by
  have := digits_back 8 (numU z) (by decide)
  rw [Nat.mod_eq_of_lt (show numU z < 256 ^ 8 from numU_lt z)] at this
  exact this
theorem num_back {z : Int} (h : inI64 z) : wrap64 (bytesU (numB z) : Nat) = z := by
  rw [bytesU_numB]
  unfold inI64 at h
  unfold wrap64 numU
  omega
theorem numL_of {l : List UInt8} {p : Nat} {z : Int} (h : (l.drop p).take 8 = numB z) (hz : inI64 z) : numL l p = z := by
  unfold numL
  rw [h]
  exact num_back hz
theorem numsB_drop : ∀ (zs : List Int) (b : List UInt8) (k : Nat) (z : Int), zs[k]? = some z → ((numsB zs ++ b).drop (8 * k)).take 8 = numB z
  | [], _, k, z, h => by simp at h
  | y :: ys, b, 0, z, h => by
    have e : numsB (y :: ys) = numB y ++ numsB ys := rfl
    cases h
    rw [e, List.append_assoc, Nat.mul_zero, List.drop_zero, List.take_append_of_le_length (by rw [numB_len]; exact Nat.le_refl 8), List.take_of_length_le (by rw [numB_len]; exact Nat.le_refl 8)]
  | y :: ys, b, k + 1, z, h => by
    have e : numsB (y :: ys) = numB y ++ numsB ys := rfl
    have h' : ys[k]? = some z := by simpa using h
    rw [e, List.append_assoc, show 8 * (k + 1) = (numB y).length + 8 * k by rw [numB_len]; omega, List.drop_append, ]
    simp only [Nat.add_sub_cancel_left]
    rw [List.drop_of_length_le (by rw [numB_len]; omega), List.nil_append]
    exact numsB_drop ys b k z h'
theorem numL_nums {zs : List Int} {b : List UInt8} {k p : Nat} {z : Int} (hp : p = 8 * k) (h : zs[k]? = some z) (hz : inI64 z) : numL (numsB zs ++ b) p = z := by
  subst hp
  exact numL_of (numsB_drop zs b k z h) hz
/-- A message whose numbers lie in range. -/
def Ms.fits (m : Ms) : Prop := inI64 m.kind ∧ inI64 m.frm ∧ inI64 m.dst ∧ inI64 m.id ∧ inI64 m.want ∧ inI64 m.cell.kind ∧ inI64 m.cell.n ∧ inI64 m.cell.pos ∧ ∀ z ∈ m.cell.kids, inI64 z
theorem msg_nums {m : Ms} (hok : m.ok = true) : m.bytes = numsB m.nums ++ numsB m.cell.kids := by unfold Ms.bytes; rw [hok]; rfl
theorem msg_at {m : Ms} (hok : m.ok = true) {k p : Nat} {z : Int} (hp : p = 8 * k) (h : m.nums[k]? = some z) (hz : inI64 z) : numL m.bytes p = z := by
  rw [msg_nums hok]
  exact numL_nums hp h hz
theorem msg_kids {m : Ms} (hok : m.ok = true) (f8 : ∀ z ∈ m.cell.kids, inI64 z) : numsL m.bytes 72 m.cell.kids.length = m.cell.kids := by
  have hb2 : m.bytes = numsB (m.nums ++ m.cell.kids) ++ [] := by rw [msg_nums hok, numsB_app, List.append_nil]
  have hnl : m.nums.length = 9 := rfl
  generalize m.nums = ns at *
  generalize m.bytes = l at *
  generalize m.cell.kids = ks at *
  apply List.ext_getElem?
  intro k
  rcases Nat.lt_or_ge k ks.length with hk | hk
  · have hz := List.getElem?_eq_getElem hk
    rw [hz]
    unfold numsL
    rw [List.getElem?_map, List.getElem?_range hk, Option.map_some]
    congr 1
    rw [hb2]
    refine numL_nums (k := 9 + k) (by omega) ?_ (f8 _ (List.mem_of_getElem? hz))
    rw [List.getElem?_append_right (by omega), show 9 + k - ns.length = k by omega]
    exact hz
  · rw [List.getElem?_eq_none (by rw [numsL_len]; exact hk), List.getElem?_eq_none hk]
theorem msg_back {m : Ms} (hok : m.ok = true) (hf : m.fits) : msgL m.bytes = m := by
  obtain ⟨f0, f1, f2, f3, f4, f5, f6, f7, f8⟩ := hf
  have h100 := ok_len hok
  have n0 := msg_at hok (k := 0) (p := 0) (by decide) rfl f0
  have n1 := msg_at hok (k := 1) (p := 8) (by decide) rfl f1
  have n2 := msg_at hok (k := 2) (p := 16) (by decide) rfl f2
  have n3 := msg_at hok (k := 3) (p := 24) (by decide) rfl f3
  have n4 := msg_at hok (k := 4) (p := 32) (by decide) rfl f4
  have n5 := msg_at hok (k := 5) (p := 40) (by decide) rfl f5
  have n6 := msg_at hok (k := 6) (p := 48) (by decide) rfl f6
  have n7 := msg_at hok (k := 7) (p := 56) (by decide) rfl f7
  have n8 := msg_at hok (k := 8) (p := 64) (z := (m.cell.kids.length : Int)) (by decide) rfl (by unfold inI64; omega)
  have nk := msg_kids hok f8
  unfold msgL
  generalize m.bytes = l at *
  simp only [n0, n1, n2, n3, n4, n5, n6, n7, n8, Int.toNat_natCast, nk]
theorem msg_back_fit {m : Ms} (hok : m.ok = true) (hf : m.fits) : msgFit m.bytes = true := by
  have h100 := ok_len hok
  have hm := msg_back hok hf
  have hlen : m.bytes.length = 72 + 8 * m.cell.kids.length := bytes_len m hok
  have n8 := msg_at hok (k := 8) (p := 64) (z := (m.cell.kids.length : Int)) (by decide) rfl (by unfold inI64; omega)
  unfold msgFit
  rw [hm, hok, n8]
  generalize m.bytes = l at *
  unfold inB
  simp only [Int.toNat_natCast]
  rw [decide_eq_true (show 72 ≤ l.length by omega), decide_eq_true hlen, decide_eq_true (show (0 : Int) ≤ (m.cell.kids.length : Int) by omega), decide_eq_true (show (m.cell.kids.length : Int) ≤ 100 by omega)]
  rfl
end Go.Proofs.YtlbinamlehapoaaGreatDoor

namespace Go.Proofs.YtlbinamlehapoaaGreatDoor
open Go.RowKit Go.Joins

set_option maxRecDepth 100000

/-- What goes into Out. -/
def Lk.sentOf (l : Lk) (m : Ms) : Sn := ⟨l.next, m.dst, ⟨m.bytes.toArray⟩⟩
/-- The link with it. -/
def Lk.push (l : Lk) (m : Ms) : Lk := ⟨l.id, l.next + 1, l.out ++ [l.sentOf m], l.seen⟩
/-- There is room for one more. -/
def Lk.room (l : Lk) : Bool := !((l.out.length : Int) == 60) && !(l.next == 999999)
/-- Whether a message goes out. -/
def Lk.goes (l : Lk) (m : Ms) : Bool := ((l.ok && m.ok) && ownB l.id l.seen.length m) && l.room
/-- What LinkSend makes of a link. -/
def Lk.send (l : Lk) (m : Ms) : Lk := if l.goes m then l.push m else l

theorem asc_wide : ∀ (l : List Int) (a b c : Int), b ≤ c → ascB l a b = true → ascB l a c = true
  | [], _, _, _, _, _ => rfl
  | x :: l, a, b, c, hbc, h => by
    unfold ascB at h ⊢
    simp only [Bool.and_eq_true] at h ⊢
    refine ⟨?_, asc_wide l (x + 1) b c hbc h.2⟩
    have h1 := h.1
    unfold inB at h1 ⊢
    simp only [Bool.and_eq_true, decide_eq_true_eq] at h1 ⊢
    omega
theorem asc_top : ∀ (l : List Int) (a b : Int), ascB l a b = true → a ≤ b + 1 → lastI a l ≤ b + 1
  | [], _, _, _, h => h
  | x :: l, a, b, h, _ => by
    unfold ascB at h
    simp only [Bool.and_eq_true] at h
    have h1 := h.1
    unfold inB at h1
    simp only [Bool.and_eq_true, decide_eq_true_eq] at h1
    show lastI (x + 1) l ≤ b + 1
    exact asc_top l (x + 1) b h.2 (by omega)
theorem Lk.parts {l : Lk} (h : l.ok = true) : amongB l.id l.seen.length = true ∧ inB l.next 1 999999 = true ∧ decide ((l.out.length : Int) ≤ 60) = true ∧ l.out.all (Sn.fits l.id l.seen.length) = true ∧ ascB (l.out.map Sn.seq) 1 (l.next - 1) = true ∧ l.seen.all Se.ok = true := by
  unfold Lk.ok Lk.outOk at h
  simp only [Bool.and_eq_true] at h
  exact ⟨h.1.1.1, h.1.1.2, h.1.2.1, h.1.2.2.1, h.1.2.2.2, h.2⟩
/-- When the link with it is right. -/
theorem push_ok {l : Lk} {m : Ms} (hl : l.ok = true) (hm : m.ok = true) (hf : m.fits) (hfrm : m.frm = l.id) : (l.push m).ok = (amongB m.dst l.seen.length && l.room) := by
  obtain ⟨h1, h2, h3, h4, h5, h6⟩ := Lk.parts hl
  have hn : 1 ≤ l.next ∧ l.next ≤ 999999 := by
    unfold inB at h2
    simpa using h2
  have hlen : (l.out.length : Int) ≤ 60 := of_decide_eq_true h3
  have e1 : (l.sentOf m).fit = true := msg_back_fit hm hf
  have e2 : (l.sentOf m).msg = m := by
    show msgRes _ = m
    unfold msgRes
    rw [show msgFit (l.sentOf m).body.data.toList = true from e1, if_pos rfl]
    exact msg_back hm hf
  have e3 : (l.sentOf m).fits l.id l.seen.length = amongB m.dst l.seen.length := by
    unfold Sn.fits ownB
    rw [e1, e2, hfrm]
    show ((true && ((l.id == l.id) && amongB m.dst l.seen.length)) && (m.dst == m.dst)) = _
    simp
  have e4 : ascB ((l.out ++ [l.sentOf m]).map Sn.seq) 1 (l.next + 1 - 1) = true := by
    rw [List.map_append, ascB_app, asc_wide _ 1 (l.next - 1) (l.next + 1 - 1) (by omega) h5]
    have ht := asc_top _ 1 (l.next - 1) h5 (by omega)
    show (true && ((inB l.next (lastI 1 (l.out.map Sn.seq)) (l.next + 1 - 1)) && true)) = true
    unfold inB
    simp only [Bool.true_and, Bool.and_true, Bool.and_eq_true, decide_eq_true_eq]
    omega
  unfold Lk.ok Lk.outOk
  show (((amongB l.id l.seen.length && inB (l.next + 1) 1 999999) && (decide (((l.out ++ [l.sentOf m]).length : Int) ≤ 60) && ((l.out ++ [l.sentOf m]).all (Sn.fits l.id l.seen.length) && ascB ((l.out ++ [l.sentOf m]).map Sn.seq) 1 (l.next + 1 - 1)))) && l.seen.all Se.ok) = _
  rw [h1, h6, e4, List.all_append, h4]
  have e5 : [l.sentOf m].all (Sn.fits l.id l.seen.length) = amongB m.dst l.seen.length := by
    show ((l.sentOf m).fits l.id l.seen.length && true) = _
    rw [e3, Bool.and_true]
  rw [e5]
  have e6 : inB (l.next + 1) 1 999999 = !(l.next == 999999) := by
    unfold inB
    by_cases h : l.next = 999999
    · simp [h]
    · have a1 : (1 : Int) ≤ l.next + 1 := by omega
      have a2 : l.next + 1 ≤ 999999 := by omega
      simp [h, a1, a2]
  have e7 : decide (((l.out ++ [l.sentOf m]).length : Int) ≤ 60) = !((l.out.length : Int) == 60) := by
    rw [List.length_append, List.length_singleton]
    by_cases h : (l.out.length : Int) = 60
    · have a1 : ¬ (((l.out.length + 1 : Nat) : Int) ≤ 60) := by omega
      simp only [h, decide_eq_false a1]
      rfl
    · have a1 : (((l.out.length + 1 : Nat) : Int) ≤ 60) := by omega
      rw [decide_eq_true a1]
      simp [h]
  rw [e6, e7]
  unfold Lk.room
  cases amongB m.dst l.seen.length <;> cases ((l.out.length : Int) == 60) <;> cases (l.next == 999999) <;> rfl
end Go.Proofs.YtlbinamlehapoaaGreatDoor
