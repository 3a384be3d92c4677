/-
  A strings.Builder that holds these bytes, and what is written behind them.
-/
import Derived.Test.YtfcgpfjmabhmeabDoorBuild
import Derived.Test.YtfcgpfjmabhmeabDoorBs
namespace Go.Proofs.YtfcgpfjmabhmeabDoor
open Go.RowKit

set_option maxRecDepth 100000

/-- A builder that holds these bytes. -/
def BL (B b : Nat) (l : List UInt8) (w : World) : Prop := Lib.IsBuilderF 53 5 B b (Lib.byteCells l) w
theorem below_grown {w w' : World} (hb : Below w.heap.size w w') : w.grownBy w' none := ⟨hb.os, hb.tape, hb.output, hb.size, fun k hk _ => hb.block k hk⟩
theorem builderAt_below {B b : Nat} {p : Value} {bs : List Value} {w w' : World} (h : Lib.BuilderAtF 53 5 B b p bs w) (hb : Below w.heap.size w w') : Lib.BuilderAtF 53 5 B b p bs w' := by
  have hlt := h.lt
  obtain ⟨hB, v, hbk, hown, hne⟩ := h
  refine ⟨hB, v, (hb.block _ hlt).trans hbk, hown.kept (below_grown hb) ?_, hne⟩
  cases v.ownBlock with
  | none => exact .inl rfl
  | some k => exact .inr (by simp)
theorem BL.below {B b : Nat} {l : List UInt8} {w w' : World} (h : BL B b l w) (hb : Below w.heap.size w w') : BL B b l w' :=
  h.elim (fun h => .inl (builderAt_below h hb)) (fun h => .inr (builderAt_below h hb))
theorem BL.lt {B b : Nat} {l : List UInt8} {w : World} (h : BL B b l w) : b < w.heap.size := h.elim (fun h => h.lt) (fun h => h.lt)
theorem kept_below {e : TypeId} {b : Option Nat} {w w' : World} (hb : Below w.heap.size w w') : Lib.OthersKept e b w w' :=
  fun k _ h _ _ => (hb.block k (Array.getElem?_eq_some_iff.1 h).1).trans h

theorem write_any (B b : Nat) (l s : List UInt8) (w : World) (h : BL B b l w) (hlen : l.length + s.length ≤ 140737488355328) (hBw : B ≤ w.heap.size) :
    Calls Tryd.prog 24 #[.pointer (some ⟨b, 0, none⟩), .string (bsOf s)] w fun e w' => e = .returned (.tuple #[.int .i64 (bsOf s).size, .nilIface]) ∧ (BL B b (l ++ s) w' ∧ Below B w w' ∧ Lib.OthersKept 5 (some b) w w') := by
  refine (writeString_k B b (Lib.byteCells l) (bsOf s) w h (by rw [Lib.byteCells_length]; simpa [bsOf, ByteArray.size] using hlen) hBw).mono fun e w' ⟨he, h1, h2, h3⟩ => ⟨he, ?_, h2, h3⟩
  unfold BL
  rw [Lib.byteCells_append]
  exact .inr h1

end Go.Proofs.YtfcgpfjmabhmeabDoor
