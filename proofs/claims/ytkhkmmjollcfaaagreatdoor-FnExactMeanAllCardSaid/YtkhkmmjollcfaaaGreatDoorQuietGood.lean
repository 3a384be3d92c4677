/-
  A region that draws its order, walked once in the order of the text, over the class of all worlds of which something is known (whatever its callees keep).
-/
import Derived.Deep.QuietTactic
import Derived.BigQuiet
import Derived.Test.YtkhkmmjollcfaaaGreatDoorRows
namespace Go.Proofs.YtkhkmmjollcfaaaGreatDoor
open Go Go.RowKit

/-- A world of which this is known. -/
structure WIn (Good : World → Prop) where
  w : World
  ok : Good w

theorem wp_region_good {Good : World → Prop} {P : Program} {id : Nat} {Q : Exit → Act → World → Prop} {a : Act} {w : World} {l : List Oper} (hm : P.follows .mixedOrders = true) (hB : Region.lexB .any l.toArray = true) (h0 : Good w.drew)
    (h : wpQuiet P l.toArray (fun w' => ∃ p : WIn Good, w' = p.w) (fun a' => ∀ w', (∃ p : WIn Good, w' = p.w) → Q .normal a' w') l a) : (Code.region id l.toArray true).wp P Q a w :=
  wp_region_quiet (C := fun w' => ∃ p : WIn Good, w' = p.w) hm hB ⟨⟨w.drew, h0⟩, rfl⟩ (by simpa using h)

theorem calls_good {Good : World → Prop} {P : Program} {f : FuncId} {args : Array Value} {p : WIn Good} {v : Value}
    (h : Calls P f args p.w fun e w' => e = .returned v ∧ Good w') : Calls P f args p.w fun e w'' => e = .returned v ∧ ∃ q : WIn Good, w'' = q.w :=
  h.mono fun _ w' ⟨he, hw⟩ => ⟨he, ⟨w', hw⟩, rfl⟩
theorem calls_good_same {Good : World → Prop} {P : Program} {f : FuncId} {args : Array Value} {p : WIn Good} {v : Value}
    (h : Calls P f args p.w fun e w' => e = .returned v ∧ w' = p.w) : Calls P f args p.w fun e w'' => e = .returned v ∧ ∃ q : WIn Good, w'' = q.w :=
  h.mono fun _ _ ⟨he, hw⟩ => ⟨he, p, hw⟩
end Go.Proofs.YtkhkmmjollcfaaaGreatDoor
