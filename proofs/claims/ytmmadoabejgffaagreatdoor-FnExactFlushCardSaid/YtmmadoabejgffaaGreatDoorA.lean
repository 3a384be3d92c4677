/-
  Cells.
  Proofs.
  Proofs.
  Proofs.
-/
import Derived.Test.YtmmadoabejgffaaGreatDoorRows
import Derived.Lib.SmallJoins
import Derived.LaidEql
import Derived.Maps.OwnSet
import Derived.WalkKit
import Derived.ProofKit
import Derived.OpenShut
import Derived.ShutString
import Derived.Deep.Slices
import Derived.Deep.RegionWith
import Derived.Laws.MakeOwn
import Derived.Lib.BufferOwn
import Derived.RegionTactic
import Derived.OwnWalk
namespace Go.Proofs.YtmmadoabejgffaaGreatDoor
open Go.RowKit Go.Joins
theorem cb {w : World} {g : Nat} {cs : Array Value} {t : TypeId} {fr : Nat × Nat} (h : w.heap[g]? = some (.cells cs t fr)) (i : Nat) (v : Value) (hv : cs[i]? = some v) : w.cell? ⟨g, i, none⟩ = some v := by rw [cell_of_block h]; exact hv
theorem ub {w : World} {g : Nat} {cs : Array Value} {t : TypeId} (h : w.heap[g]? = some (.cells cs t (0, 0))) (i : Nat) : w.frozen? ⟨g, i, none⟩ = false := unfrozen_of_block h i
theorem ls {α : Type} : (∀ (l : List α) (i : Nat) (a : α), l.toArray.setIfInBounds i a = (l.set i a).toArray) ∧ (∀ (a b : α) (l : List α), (a :: l).set 0 b = b :: l) ∧ (∀ (a b : α) (l : List α) (n : Nat), (a :: l).set (n + 1) b = a :: l.set n b) ∧ (∀ (l : List α) (i : Nat) (h : i < l.toArray.size), l.toArray[i] = l[i]'(by simpa using h)) ∧ (∀ (a : α) (l : List α) (h : 0 < (a :: l).length), (a :: l)[0] = a) ∧ (∀ (a : α) (l : List α) (i : Nat) (h : i + 1 < (a :: l).length), (a :: l)[i + 1] = l[i]'(by simpa using h)) := ⟨fun _ _ _ => by simp, fun _ _ _ => rfl, fun _ _ _ _ => rfl, fun _ _ _ => rfl, fun _ _ _ => rfl, fun _ _ _ _ => rfl⟩
end Go.Proofs.YtmmadoabejgffaaGreatDoor

namespace Go.Proofs.YtmmadoabejgffaaGreatDoor
open Go.RowKit Go.MapKept Go.ChangeMaps
set_option maxRecDepth 100000
def Pl (w:World) (b:Nat):Prop:=∃ cs t,w.heap[b]? = some (.cells cs t (0,0))
section
variable {P:Program} {k:TypeId} {Kd:World→Value→Prop}
end
section
variable {P:Program} {k:TypeId} {Kd:World→Value→Prop} (w:World) {ops:Array Oper} {rest:List Oper} {o:Oper} {a:Act} {Q:Exit→Act→World→Prop}
end
section
variable {P:Program}
end
end Go.Proofs.YtmmadoabejgffaaGreatDoor

namespace Go.Proofs.YtmmadoabejgffaaGreatDoor
open Go.RowKit Go.Joins
set_option maxRecDepth 100000
def inI64 (z:Int):Prop:=-9223372036854775808≤z∧z≤9223372036854775807
end Go.Proofs.YtmmadoabejgffaaGreatDoor

namespace Go.Proofs.YtmmadoabejgffaaGreatDoor
open Go.RowKit Go.Joins
set_option maxRecDepth 100000
def szR (left:Int) (b:Nat):Int:=if (b:Int)≤left then left - b else -1
theorem int_val {a b:Int} (h:a=b):Value.int .i64 a = .int .i64 b:=by rw [h]
theorem int_ret {a b:Int} (h:a=b):Ending.returned (.int .i64 a) = .returned (.int .i64 b):=by rw [h]
theorem ex_not (x:Bool) (w:World):(Op.unary .not (.bool x)).run Tryz.prog w = .ok (.bool (!x)) w:=rfl
theorem addr_add (b off k:Nat):(⟨b,off,none⟩:Addr).add k=⟨b,off+k,none⟩:=by
 unfold Addr.add
 split
 ·rename_i h; subst h; rfl
 ·rfl
end Go.Proofs.YtmmadoabejgffaaGreatDoor
