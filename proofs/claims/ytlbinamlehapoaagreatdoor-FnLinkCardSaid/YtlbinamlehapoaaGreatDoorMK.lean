/-
  Numbers that ascend; what was taken of a node, right.
  Right links, in plain words.
-/
import Derived.Test.YtlbinamlehapoaaGreatDoorMB
import Derived.Test.YtlbinamlehapoaaGreatDoorMD
import Derived.Test.YtlbinamlehapoaaGreatDoorMG
namespace Go.Proofs.YtlbinamlehapoaaGreatDoor
open Go.RowKit Go.Joins

set_option maxRecDepth 100000

/-- Whether there may be so many nodes, and that is one of them. -/
def amongB (node nodes : Int) : Bool := (decide (nodes ≤ 31) && decide (0 ≤ node)) && decide (node < nodes)
/-- Each is greater than the one ahead of it, all from a up to b. -/
def ascB : List Int → Int → Int → Bool
  | [], _, _ => true
  | n :: l, a, b => inB n a b && ascB l (n + 1) b
/-- From where on the next one may be. -/
def lastI : Int → List Int → Int
  | a, [] => a
  | _, n :: l => lastI (n + 1) l
theorem ascB_app : ∀ (l m : List Int) (a b : Int), ascB (l ++ m) a b = (ascB l a b && ascB m (lastI a l) b)
  | [], m, a, b => by simp [ascB, lastI]
  | n :: l, m, a, b => by rw [List.cons_append, ascB, ascB, lastI, ascB_app l m, Bool.and_assoc]
theorem lastI_app : ∀ (l : List Int) (x a : Int), lastI a (l ++ [x]) = x + 1
  | [], x, a => rfl
  | n :: l, x, a => by rw [List.cons_append, lastI, lastI_app l x]
theorem lastI_ge : ∀ (l : List Int) (a b : Int), ascB l a b = true → a ≤ lastI a l
  | [], a, b, _ => Int.le_refl _
  | n :: l, a, b, h => by
    rw [ascB, Bool.and_eq_true] at h
    have h1 := lastI_ge l (n + 1) b h.2
    have h2 := h.1
    unfold inB at h2
    simp only [Bool.and_eq_true, decide_eq_true_eq] at h2
    rw [lastI]
    omega
theorem asc_next {l : List Int} {k : Nat} {x a b : Int} (h : ascB (l.take k) a b = true) (hx : l[k]? = some x) : ascB (l.take (k + 1)) a b = inB x (lastI a (l.take k)) b := by
  have hk := (List.getElem?_eq_some_iff.1 hx).1
  rw [List.take_succ_eq_append_getElem hk, ascB_app, h, (List.getElem?_eq_some_iff.1 hx).2]
  simp [ascB]
theorem asc_not {l : List Int} {k : Nat} {x a b : Int} (hx : l[k]? = some x) (h : inB x (lastI a (l.take k)) b = false) : ascB l a b = false := by
  have hk := (List.getElem?_eq_some_iff.1 hx).1
  conv => lhs; rw [← List.take_append_drop k l, List.drop_eq_getElem_cons hk, (List.getElem?_eq_some_iff.1 hx).2]
  rw [ascB_app, ascB, h]
  simp
theorem asc_last {l : List Int} {k : Nat} {y a b : Int} (h : ascB (l.take (k + 1)) a b = true) (hy : l[k]? = some y) : lastI a (l.take (k + 1)) = y + 1 ∧ a ≤ y := by
  have hk := (List.getElem?_eq_some_iff.1 hy).1
  have e : l.take (k + 1) = l.take k ++ [y] := by rw [List.take_succ_eq_append_getElem hk, (List.getElem?_eq_some_iff.1 hy).2]
  rw [e] at h ⊢
  rw [ascB_app, Bool.and_eq_true] at h
  have h1 := lastI_ge _ _ _ h.1
  have h2 := h.2
  rw [ascB, Bool.and_eq_true] at h2
  have h3 := h2.1
  unfold inB at h3
  simp only [Bool.and_eq_true, decide_eq_true_eq] at h3
  exact ⟨lastI_app _ _ _, by omega⟩
theorem inB_next {x y a b : Int} (h : a ≤ y) : inB x (y + 1) b = (inB x a b && !decide (x ≤ y)) := by
  unfold inB
  by_cases h1 : y + 1 ≤ x
  · have h2 : a ≤ x := by omega
    have h3 : ¬ x ≤ y := by omega
    simp [h1, h2, h3]
  · have h3 : x ≤ y := by omega
    simp [h1, h3]

/-- What was taken of a node, right. -/
def Se.ok (s : Se) : Bool := (inB s.low 1 1000000 && decide ((s.ids.length : Int) ≤ 60)) && ascB s.ids s.low 999999
theorem allT {α : Type} (p : α → Bool) (l : List α) (k : Nat) {x : α} (hx : l[k]? = some x) (h : (l.take k).all p = true) (hp : p x = true) : (l.take (k + 1)).all p = true := by
  have hk := (List.getElem?_eq_some_iff.1 hx).1
  rw [List.take_succ_eq_append_getElem hk, List.all_append, h, (List.getElem?_eq_some_iff.1 hx).2]
  simp [hp]
theorem allF {α : Type} (p : α → Bool) (l : List α) {k : Nat} {x : α} (hx : l[k]? = some x) (hp : p x = false) : l.all p = false := by
  cases h : l.all p with
  | false => rfl
  | true =>
    rw [List.all_eq_true] at h
    have := h x (List.mem_of_getElem? hx)
    rw [hp] at this
    cases this
end Go.Proofs.YtlbinamlehapoaaGreatDoor

namespace Go.Proofs.YtlbinamlehapoaaGreatDoor
open Go.RowKit Go.Joins

set_option maxRecDepth 100000

def Sn.msg (s : Sn) : Ms := msgRes s.body.data.toList
def Sn.fit (s : Sn) : Bool := msgFit s.body.data.toList
/-- A message is of this node, to one that there is. -/
def ownB (id nodes : Int) (m : Ms) : Bool := (m.frm == id) && amongB m.dst nodes
/-- What was sent, right but for its number. -/
def Sn.fits (id nodes : Int) (s : Sn) : Bool := (s.fit && ownB id nodes s.msg) && (s.msg.dst == s.dst)
def Lk.outOk (l : Lk) : Bool := decide ((l.out.length : Int) ≤ 60) && (l.out.all (Sn.fits l.id l.seen.length) && ascB (l.out.map Sn.seq) 1 (l.next - 1))
/-- A right link. -/
def Lk.ok (l : Lk) : Bool := ((amongB l.id l.seen.length && inB l.next 1 999999) && l.outOk) && l.seen.all Se.ok
theorem fit_ok {l : List UInt8} (h : msgFit l = true) : (msgRes l).ok = true ∧ 0 ≤ (msgRes l).dst := by
  have h1 : (msgRes l).ok = true := by
    unfold msgRes
    rw [if_pos h]
    unfold msgFit at h
    simp only [Bool.and_eq_true] at h
    exact h.2
  refine ⟨h1, ?_⟩
  unfold Ms.ok nodeOk inB at h1
  simp only [Bool.and_eq_true, decide_eq_true_eq] at h1
  omega
/-- The specification's look at what was sent. -/
theorem fits_is (id nodes : Int) (s : Sn) (h : nodes ≤ 31) : s.fits id nodes = (((s.fit && (s.msg.frm == id)) && (s.msg.dst == s.dst)) && decide (s.dst < nodes)) := by
  unfold Sn.fits ownB amongB
  cases hf : s.fit with
  | false => simp
  | true =>
    have h0 := (fit_ok hf).2
    have h0' : (0 : Int) ≤ s.msg.dst := h0
    cases he : (s.msg.dst == s.dst) with
    | false => simp
    | true =>
      have he' : s.msg.dst = s.dst := by simpa using he
      rw [← he']
      simp [h, h0']
theorem Lk.ok_no1 {l : Lk} (h : (amongB l.id l.seen.length && inB l.next 1 999999) = false) : l.ok = false := by unfold Lk.ok; rw [h]; rfl
end Go.Proofs.YtlbinamlehapoaaGreatDoor
