/-
  A map from numbers to numbers of a call's own, as a function.
-/
import Derived.Test.YtfhjkiimdkjhjaaGreatDoorOwnRow
import Derived.Maps.OwnSet
import Derived.Maps.OwnOps
import Derived.WalkArith
namespace Go.Proofs.YtfhjkiimdkjhjaaGreatDoor
open Go.RowKit Go.Joins Go.Maps

set_option maxRecDepth 100000

theorem lawI : Keyed Tryz.prog 3 := int_keyed Tryz.underlying3
theorem zeroI (w : World) : (zeroValue 3).run Tryz.prog w = .ok (.int .i64 0) w := by kernel_rfl
theorem wf_of_in {z : Int} (h : inI64 z) : (Lit.int .i64 z).wf = true := WalkArith.wf_i64 h
theorem keyI {z : Int} (h : inI64 z) : keyOf Tryz.prog 3 (.int .i64 z) = some (.int .i64 z) := keyOf_int_mk Tryz.underlying3 (wf_of_in h)

/-- A map that is this function, of at most so many entries. -/
def IMap (w : World) (M n : Nat) (f : Int → Option Int) : Prop :=
  ∃ D : DataW Unit, w.ownsMap Tryz.prog 3 (plainElem Tryz.prog 3) M n D ∧ ∀ z, has D (.int .i64 z) = (f z).isSome ∧ D.atKey (.int .i64 z) (.lit (.int .i64 0)) = .lit (.int .i64 ((f z).getD 0))
def setI (f : Int → Option Int) (z y : Int) : Int → Option Int := fun x => if x = z then some y else f x
def delI (f : Int → Option Int) (z : Int) : Int → Option Int := fun x => if x = z then none else f x
theorem IMap.made (w : World) : IMap (w.alloc (.map #[] 0)) w.heap.size 0 (fun _ => none) :=
  ⟨.map [], World.ownsMap_made _ _ _ _, fun _ => ⟨rfl, rfl⟩⟩
theorem IMap.kept {w w' : World} {M n : Nat} {f : Int → Option Int} {row : Option Nat} (h : IMap w M n f) (hg : w.grownBy w' row) (hne : some M ≠ row) : IMap w' M n f := by
  obtain ⟨D, h1, h2⟩ := h; exact ⟨D, h1.kept hg hne, h2⟩
theorem IMap.alloc {w : World} {M n : Nat} {f : Int → Option Int} (h : IMap w M n f) (o : Obj) : IMap (w.alloc o) M n f := by
  obtain ⟨D, h1, h2⟩ := h; exact ⟨D, h1.alloc o, h2⟩
theorem IMap.mono {w : World} {M n n' : Nat} {f : Int → Option Int} (h : IMap w M n f) (hn : n ≤ n') : IMap w M n' f := by
  obtain ⟨D, h1, h2⟩ := h; exact ⟨D, h1.mono hn, h2⟩
theorem IMap.lt {w : World} {M n : Nat} {f : Int → Option Int} (h : IMap w M n f) : M < w.heap.size := by
  obtain ⟨D, h1, h2⟩ := h; exact h1.lt
theorem IMap.block {w w' : World} {M n : Nat} {f : Int → Option Int} (h : IMap w M n f) (hb : w'.heap[M]? = w.heap[M]?) : IMap w' M n f := by
  obtain ⟨D, ⟨es, clock, h1, h3⟩, h2⟩ := h
  exact ⟨D, ⟨es, clock, hb.trans h1, h3⟩, h2⟩
theorem IMap.isMap {w : World} {M n : Nat} {f : Int → Option Int} (h : IMap w M n f) : ∃ es clock, w.heap[M]? = some (.map es clock) := by
  obtain ⟨D, ⟨es, clock, h1, h3⟩, h2⟩ := h
  exact ⟨es, clock, h1⟩
theorem IMap.look {w : World} {M n : Nat} {f : Int → Option Int} (h : IMap w M n f) {z : Int} (hz : inI64 z) :
    (Instr.lookup 48 (.map (some M)) (.int .i64 z) false).run Tryz.prog w = .ok (.int .i64 ((f z).getD 0)) w := by
  obtain ⟨D, h1, h2⟩ := h
  obtain ⟨c, hr, hat, _⟩ := h1.lookup_int lawI Tryz.underlying48 Tryz.underlying3 (zeroI w) (keyI hz)
  rw [(h2 z).2] at hat
  cases hat
  exact hr
theorem IMap.look_ok {w : World} {M n : Nat} {f : Int → Option Int} (h : IMap w M n f) {z : Int} (hz : inI64 z) :
    (Instr.lookup 48 (.map (some M)) (.int .i64 z) true).run Tryz.prog w = .ok (.tuple #[.int .i64 ((f z).getD 0), .bool (f z).isSome]) w := by
  obtain ⟨D, h1, h2⟩ := h
  obtain ⟨v, ps, hr, hat⟩ := h1.look_ok lawI Tryz.underlying48 (zeroI w) (plainElem_int Tryz.underlying3 (wf_of_in ⟨by omega, by omega⟩)) (keyI hz)
  obtain ⟨c, rfl, hc, _⟩ := plainElem_int_inv Tryz.underlying3 hat
  simp only [Prod.mk.injEq] at hc
  rw [(h2 z).2] at hc
  have h3 := hc.1
  cases h3
  rw [(h2 z).1] at hr
  exact hr
theorem IMap.store {w : World} {M n : Nat} {f : Int → Option Int} (h : IMap w M n f) (hn : n ≤ 1000000000) {z y : Int} (hz : inI64 z) (hy : inI64 y) :
    ∃ w', (Instr.mapUpdate 48 (.map (some M)) (.int .i64 z) (.int .i64 y)).run Tryz.prog w = .ok () w' ∧ IMap w' M (n + 1) (setI f z y) ∧ w.grownBy w' (some M) := by
  obtain ⟨D, h1, h2⟩ := h
  have hm := h1.isMap
  obtain ⟨w', hr, h3, h4⟩ := h1.update lawI Tryz.underlying48 (by unfold maxLen; omega) (keyI hz) (plainElem_int Tryz.underlying3 (wf_of_in hy))
  refine ⟨w', hr, ⟨_, h3, fun x => ?_⟩, h4⟩
  unfold setI
  by_cases hx : x = z
  · subst hx
    rw [if_pos rfl]
    exact ⟨has_put_same hm (show WideAt.IsKeyLit (.int .i64 x) from trivial) _, atKey_put_same hm (show WideAt.IsKeyLit (.int .i64 x) from trivial) _ _⟩
  · rw [if_neg hx]
    have hne : (Lit.int .i64 x) ≠ .int .i64 z := fun e => by cases e; exact hx rfl
    exact ⟨(has_put_other hne _).trans (h2 x).1, (atKey_put_other hne _ _).trans (h2 x).2⟩
theorem IMap.drop {w : World} {M n : Nat} {f : Int → Option Int} (h : IMap w M n f) {z : Int} (hz : inI64 z) (ty : TypeId) :
    ∃ w', (Builtin.delete_ #[48, 3] ty #[.map (some M), .int .i64 z]).run Tryz.prog w = .ok (.tuple #[]) w' ∧ IMap w' M n (delI f z) ∧ w.grownBy w' (some M) := by
  obtain ⟨D, h1, h2⟩ := h
  obtain ⟨w', hr, h3, h4⟩ := h1.drop lawI Tryz.underlying48 (keyI hz) ty
  refine ⟨w', hr, ⟨_, h3, fun x => ?_⟩, h4.grown⟩
  unfold delI
  by_cases hx : x = z
  · subst hx
    rw [if_pos rfl]
    exact ⟨has_del_same, atKey_del_same _⟩
  · rw [if_neg hx]
    have hne : (Lit.int .i64 x) ≠ .int .i64 z := fun e => by cases e; exact hx rfl
    exact ⟨(has_del_other hne).trans (h2 x).1, (atKey_del_other hne _).trans (h2 x).2⟩

section
variable (w : World) {ops : Array Oper} {rest : List Oper} {o : Oper} {a : Act} {Q : Exit → Act → World → Prop}
theorem wpList_update_im (hg : o.guard = none) (m x v : Operand) (hop : o.op = Op.mapUpdate 48 m x v) (M n : Nat) (f : Int → Option Int)
    (hm : a.eval m = .map (some M)) (hown : IMap w M n f) (hn : n ≤ 1000000000) (z y : Int) (hx : a.eval x = .int .i64 z) (hv : a.eval v = .int .i64 y) (hz : inI64 z) (hy : inI64 y)
    (hK : ∀ w', IMap w' M (n + 1) (setI f z y) → w.grownBy w' (some M) → wpList Tryz.prog ops Q rest (a.put o.dst undef) w') :
    wpList Tryz.prog ops Q (o :: rest) a w := by
  refine wpList_plain hg fun K' hK' => ?_
  obtain ⟨w', hrun, r1, r2⟩ := hown.store hn hz hy
  unfold Oper.wp
  simp [execOp, hop, hm, hx, hv, hrun, Result.andThen]
  exact hK' _ _ (hK w' r1 r2)
theorem wpList_delete_im (hg : o.guard = none) (m x : Operand) (hop : o.op = Op.call { callee := Callee.builtin Builtin.delete, args := #[m, x], argTypes := #[48, 3] }) (M n : Nat) (f : Int → Option Int)
    (hm : a.eval m = .map (some M)) (hown : IMap w M n f) (z : Int) (hx : a.eval x = .int .i64 z) (hz : inI64 z)
    (hK : ∀ w', IMap w' M n (delI f z) → w.grownBy w' (some M) → wpList Tryz.prog ops Q rest (a.put o.dst (.tuple #[])) w') :
    wpList Tryz.prog ops Q (o :: rest) a w := by
  refine wpList_plain hg fun K' hK' => ?_
  obtain ⟨w', hrun, r1, r2⟩ := hown.drop hz o.type
  unfold Oper.wp
  simp [execOp, hop, resolve, invoke, builtin, hm, hx, hrun, Result.andThen]
  exact hK' _ _ (hK w' r1 r2)
end
end Go.Proofs.YtfhjkiimdkjhjaaGreatDoor
