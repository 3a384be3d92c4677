/-
  What an expression shows, in plain words.
-/
import Derived.Test.YtfldnonifhedgaaDoorRightPure
import Derived.Test.YtfldnonifhedgaaDoorDec
namespace Go.Proofs.YtfldnonifhedgaaDoor
open Go.RowKit Go.Joins

set_option maxRecDepth 100000

/-- What stands ahead of the first kid, and behind each kid. -/
def partA (k n : Int) : List UInt8 :=
  if k = 0 then Lib.itoa n
  else if k = 1 then 118 :: Lib.itoa n
  else if k = 2 then 116 :: Lib.itoa n
  else if k = 3 then [40, 92] ++ Lib.itoa n ++ [32, 46, 32]
  else if k = 5 then [40, 108, 101, 116, 32]
  else if k = 6 then [40, 105, 102, 32]
  else if k = 7 then [91, 93]
  else if k = 9 then [40, 99, 97, 115, 101, 32]
  else if k = 11 then [40, 112, 97, 114, 32]
  else [40]
def partB (k : Int) (t : ByteArray) : List UInt8 :=
  if k = 3 then [41]
  else if k = 4 then [32]
  else if k = 5 ∨ k = 11 then [32, 105, 110, 32]
  else if k = 6 then [32, 116, 104, 101, 110, 32]
  else if k = 8 then [32, 58, 32]
  else if k = 9 then [32, 111, 102, 32]
  else if k = 10 then [32] ++ t.data.toList ++ [32]
  else []
def partC (k : Int) : List UInt8 :=
  if k = 4 ∨ k = 5 ∨ k = 8 ∨ k = 10 ∨ k = 11 then [41]
  else if k = 6 then [32, 101, 108, 115, 101, 32]
  else if k = 9 then [32, 124, 32]
  else []
def partD (k : Int) : List UInt8 := if k = 6 ∨ k = 9 then [41] else []
def partN (k n : Int) (t : ByteArray) : Nat → List UInt8
  | 0 => partA k n
  | 1 => partB k t
  | 2 => partC k
  | 3 => partD k
  | _ => []

mutual
def Ex.show : Ex → Int → List UInt8
  | .mk k n t ks, deep => if 0 ≤ deep ∧ (ks.length : Int) = kidsOf k then partN k n t 0 ++ Ex.showL k n t 0 ks (deep - 1) else []
def Ex.showL : Int → Int → ByteArray → Nat → List Ex → Int → List UInt8
  | _, _, _, _, [], _ => []
  | k, n, t, i, e :: r, deep => e.show deep ++ partN k n t (i + 1) ++ Ex.showL k n t (i + 1) r deep
end
theorem Ex.show_eq (e : Ex) (deep : Int) : e.show deep = if 0 ≤ deep ∧ (e.kids.length : Int) = kidsOf e.kind then partN e.kind e.n e.text 0 ++ Ex.showL e.kind e.n e.text 0 e.kids (deep - 1) else [] := by
  cases e; rw [Ex.show]; rfl
/-- What the first j kids show, each with what stands behind it. -/
def showTo (e : Ex) (deep : Int) : Nat → List UInt8
  | 0 => []
  | j + 1 => showTo e deep j ++ ((e.kids[j]?.map (fun y => y.show deep)).getD [] ++ partN e.kind e.n e.text (j + 1))
theorem showL_to (k n : Int) (t : ByteArray) (deep : Int) : ∀ (ks : List Ex) (i : Nat), Ex.showL k n t i ks deep = (List.range ks.length).flatMap (fun j => (ks[j]?.map (fun y => y.show deep)).getD [] ++ partN k n t (i + j + 1))
  | [], i => by rw [Ex.showL]; rfl
  | e :: r, i => by
    rw [Ex.showL, showL_to k n t deep r (i + 1), List.length_cons, List.range_succ_eq_map, List.flatMap_cons, List.flatMap_map]
    simp only [List.getElem?_cons_zero, Option.map_some, Option.getD_some, Nat.add_zero, List.append_assoc, List.append_cancel_left_eq]
    congr 1
    congr 1
    funext j
    simp only [List.getElem?_cons_succ]
    rw [show i + 1 + j + 1 = i + (j + 1) + 1 by omega]
theorem showTo_flat (e : Ex) (deep : Int) : ∀ j : Nat, showTo e deep j = (List.range j).flatMap (fun j => (e.kids[j]?.map (fun y => y.show deep)).getD [] ++ partN e.kind e.n e.text (0 + j + 1))
  | 0 => rfl
  | j + 1 => by
    rw [showTo, showTo_flat e deep j, List.range_succ, List.flatMap_append]
    simp
theorem show_to (e : Ex) (deep : Int) (h0 : 0 ≤ deep) (h1 : (e.kids.length : Int) = kidsOf e.kind) : e.show deep = partN e.kind e.n e.text 0 ++ showTo e (deep - 1) e.kids.length := by
  rw [Ex.show_eq, if_pos ⟨h0, h1⟩, showTo_flat, showL_to]
theorem show_none (e : Ex) (deep : Int) (h : ¬ (0 ≤ deep ∧ (e.kids.length : Int) = kidsOf e.kind)) : e.show deep = [] := by
  rw [Ex.show_eq, if_neg h]

theorem itoa_len (n : Int) (h : inI64 n) : (Lib.itoa n).length ≤ 21 := by
  unfold inI64 at h
  unfold Lib.itoa
  split
  · rw [List.length_cons]; have := dec_len20 n.natAbs (by omega); omega
  · have := dec_len20 n.toNat (by omega); omega
theorem partN_len (k n : Int) (t : ByteArray) (h : inI64 n) : (partN k n t 0).length ≤ 26 ∧ (partN k n t 1).length ≤ 6 + t.size ∧ (partN k n t 2).length ≤ 6 ∧ (partN k n t 3).length ≤ 6 ∧ ∀ j, (partN k n t (j + 4)).length ≤ 6 := by
  have h1 := itoa_len n h
  refine ⟨?_, ?_, ?_, ?_, fun j => by simp [partN]⟩
  · show (partA k n).length ≤ 26
    unfold partA
    repeat' split
    all_goals (first | omega | (simp; done) | (simp; omega))
  · show (partB k t).length ≤ 6 + t.size
    unfold partB
    repeat' split
    all_goals (first | omega | (simp; done) | (simp; omega))
  · show (partC k).length ≤ 6
    unfold partC
    repeat' split
    all_goals (first | omega | (simp; done) | (simp; omega))
  · show (partD k).length ≤ 6
    unfold partD
    split
    all_goals (first | omega | (simp; done) | (simp; omega))
theorem partN_le (k n : Int) (t : ByteArray) (h : inI64 n) (j : Nat) : (partN k n t (j + 1)).length ≤ 6 + t.size := by
  have hp := partN_len k n t h
  match j with
  | 0 => exact hp.2.1
  | 1 => exact Nat.le_trans hp.2.2.1 (by omega)
  | 2 => exact Nat.le_trans hp.2.2.2.1 (by omega)
  | j + 3 => exact Nat.le_trans (hp.2.2.2.2 j) (by omega)

mutual
/-- All numbers are of 64 bits. -/
def Ex.fits : Ex → Prop
  | .mk _ n _ ks => inI64 n ∧ Ex.fitsL ks
def Ex.fitsL : List Ex → Prop
  | [] => True
  | e :: r => e.fits ∧ Ex.fitsL r
end
theorem Ex.fits_eq (e : Ex) : e.fits ↔ inI64 e.n ∧ Ex.fitsL e.kids := by cases e; rw [Ex.fits]; rfl
theorem fitsL_of : ∀ (es : List Ex), (∀ (i : Nat) (e : Ex), es[i]? = some e → e.fits) → Ex.fitsL es
  | [], _ => by rw [Ex.fitsL]; trivial
  | e :: r, h => by rw [Ex.fitsL]; exact ⟨h 0 e rfl, fitsL_of r (fun i e he => h (i + 1) e (by simpa using he))⟩
theorem fitsL_at : ∀ {es : List Ex}, Ex.fitsL es → ∀ {i : Nat} {e : Ex}, es[i]? = some e → e.fits
  | [], _, i, e, h => by simp at h
  | x :: r, hf, i, e, h => by
    rw [Ex.fitsL] at hf
    cases i with
    | zero => simp at h; subst h; exact hf.1
    | succ i => exact fitsL_at hf.2 (by simpa using h)
theorem KidsAt.fits {w : World} {S : Nat → Prop} : ∀ {d : Nat} {v : Value} {es : List Ex}, KidsAt w S d v es → Ex.fitsL es
  | 0, _, _, h => h.elim
  | d + 1, _, es, h => by
    obtain ⟨a, cap, _, _, hc⟩ := h
    refine fitsL_of es fun i e he => ?_
    obtain ⟨b, off, kv, _, _, _, _, _, _, _, _, hn, _, kk⟩ := hc i e he
    exact (Ex.fits_eq e).2 ⟨hn, kk.fits⟩

mutual
theorem Ex.show_len : ∀ (e : Ex) (deep : Int), e.fits → (e.show deep).length ≤ 64 + 64 * e.bulk
  | .mk k n t ks, deep, hf => by
    rw [Ex.fits] at hf
    rw [Ex.show, Ex.bulk]
    split
    · rename_i hc
      have h1 := (partN_len k n t hf.1).1
      have hk : ks.length ≤ 3 := by
        have : kidsOf k ≤ 3 := by unfold kidsOf; split <;> (try split) <;> (try split) <;> (try split) <;> omega
        omega
      have h2 := Ex.showL_len k n t 0 ks (deep - 1) hf.1 hf.2
      rw [List.length_append]
      have h9 : ks.length * (6 + t.size) ≤ 3 * (6 + t.size) := Nat.mul_le_mul_right _ hk
      generalize ks.length * (6 + t.size) = q at *
      omega
    · simp
theorem Ex.showL_len : ∀ (k n : Int) (t : ByteArray) (i : Nat) (ks : List Ex) (deep : Int), inI64 n → Ex.fitsL ks → (Ex.showL k n t i ks deep).length ≤ 64 * Ex.bulkL ks + ks.length * (6 + t.size)
  | k, n, t, i, [], deep, _, _ => by rw [Ex.showL]; simp
  | k, n, t, i, e :: r, deep, hn, hf => by
    rw [Ex.fitsL] at hf
    rw [Ex.showL, Ex.bulkL, List.length_append, List.length_append, List.length_cons, Nat.add_mul, Nat.one_mul]
    have h1 := Ex.show_len e deep hf.1
    have h2 := Ex.showL_len k n t (i + 1) r deep hn hf.2
    have h3 := partN_le k n t hn i
    omega
end
end Go.Proofs.YtfldnonifhedgaaDoor
