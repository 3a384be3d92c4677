/-
  A program's table, in plain words.
-/
import Derived.Test.YtdadppjncdkpiaaTbAt
import Derived.Test.YtdadppjncdkpiaaNamesPure
import Derived.Test.YtdadppjncdkpiaaNode
namespace Go.Proofs.Ytdadppjncdkpiaa
open Go.RowKit Go.Joins

set_option maxRecDepth 100000

/-- The numbers of expressions that stand one behind the other, from a number on. -/
def numsL : Nat → List Ex → List Int
  | _, [] => []
  | at', e :: r => (at' : Int) :: numsL (at' + e.count) r
theorem numsL_len : ∀ (es : List Ex) (a : Nat), (numsL a es).length = es.length
  | [], _ => rfl
  | e :: r, a => by rw [numsL, List.length_cons, numsL_len r, List.length_cons]

mutual
/-- The codes of an expression whose number is known. -/
def Ex.flat : Nat → Ex → List Cd
  | a, .mk k n t ks => ⟨k, n, t, numsL (a + 1) ks⟩ :: Ex.flatL (a + 1) ks
def Ex.flatL : Nat → List Ex → List Cd
  | _, [] => []
  | a, e :: r => e.flat a ++ Ex.flatL (a + e.count) r
end
theorem Ex.flat_eq (a : Nat) (e : Ex) : e.flat a = ⟨e.kind, e.n, e.text, numsL (a + 1) e.kids⟩ :: Ex.flatL (a + 1) e.kids := by cases e; rw [Ex.flat]; rfl
mutual
theorem Ex.flat_len : ∀ (e : Ex) (a : Nat), (e.flat a).length = e.count
  | .mk k n t ks, a => by
    rw [Ex.flat, List.length_cons, Ex.flatL_len ks (a + 1), Ex.count]
    omega
theorem Ex.flatL_len : ∀ (es : List Ex) (a : Nat), (Ex.flatL a es).length = Ex.countL es
  | [], _ => by rw [Ex.flatL, Ex.countL]; rfl
  | e :: r, a => by rw [Ex.flatL, List.length_append, Ex.flat_len e a, Ex.flatL_len r, Ex.countL]
end
theorem flatL_snoc : ∀ (es : List Ex) (a : Nat) (e : Ex), Ex.flatL a (es ++ [e]) = Ex.flatL a es ++ e.flat (a + Ex.countL es)
  | [], a, e => by rw [List.nil_append, Ex.flatL, Ex.flatL, Ex.flatL, Ex.countL]; simp
  | x :: r, a, e => by
    rw [List.cons_append, Ex.flatL, Ex.flatL, flatL_snoc r (a + x.count) e, Ex.countL, List.append_assoc]
    rw [show a + x.count + Ex.countL r = a + (x.count + Ex.countL r) by omega]
theorem numsL_snoc : ∀ (es : List Ex) (a : Nat) (e : Ex), numsL a (es ++ [e]) = numsL a es ++ [((a + Ex.countL es : Nat) : Int)]
  | [], a, e => by rw [List.nil_append, numsL, numsL, numsL, Ex.countL]; simp
  | x :: r, a, e => by
    rw [List.cons_append, numsL, numsL, numsL_snoc r (a + x.count) e, Ex.countL, List.cons_append]
    rw [show a + x.count + Ex.countL r = a + (x.count + Ex.countL r) by omega]

/-- A program's table. -/
def tableOf (p : Pr) : Tb := if p.ok = true then ⟨Ex.flatL 0 p.bodies, numsL 0 p.bodies⟩ else ⟨[], []⟩
end Go.Proofs.Ytdadppjncdkpiaa
