/-
  A message in memory.
-/
import Derived.Test.YtbaakhpmfljgnabDoorCellsAt
namespace Go.Proofs.YtbaakhpmfljgnabDoor
open Go.RowKit Go.Joins

set_option maxRecDepth 100000

theorem CeAt.belowM {w w' : World} {S : Nat → Prop} {v : Value} {c : Ce} (h : CeAt w S v c) (hb : Below w.heap.size w w') : CeAt w' S v c := by
  obtain ⟨kv, hv, r1, r2, r3, hk⟩ := h
  exact ⟨kv, hv, r1, r2, r3, hk.below hb⟩
/-- A message. -/
structure Ms where
  kind : Int
  frm : Int
  dst : Int
  id : Int
  want : Int
  cell : Ce
/-- Its nine cells. -/
abbrev Ms.row (m : Ms) (kv : Value) : Array Value := #[.int .i64 m.kind, .int .i64 m.frm, .int .i64 m.dst, .int .i64 m.id, .int .i64 m.want, .int .i64 m.cell.kind, .int .i64 m.cell.n, .int .i64 m.cell.pos, kv]
/-- A message's value. -/
def MsAt (w : World) (S : Nat → Prop) (v : Value) (m : Ms) : Prop :=
  ∃ kv, v = .agg (m.row kv) ∧ (inI64 m.kind ∧ inI64 m.frm ∧ inI64 m.dst ∧ inI64 m.id ∧ inI64 m.want) ∧ inI64 m.cell.kind ∧ inI64 m.cell.n ∧ inI64 m.cell.pos ∧ IntsAt w S kv m.cell.kids
theorem MsAt.below {w w' : World} {S : Nat → Prop} {v : Value} {m : Ms} (h : MsAt w S v m) (hb : Below w.heap.size w w') : MsAt w' S v m := by
  obtain ⟨kv, hv, h1, h2, h3, h4, hk⟩ := h
  exact ⟨kv, hv, h1, h2, h3, h4, hk.below hb⟩
theorem MsAt.form {w : World} {S : Nat → Prop} {v : Value} {m : Ms} (h : MsAt w S v m) : ∃ a c, v = .agg (m.row (.slice a m.cell.kids.length c)) := by
  obtain ⟨kv, hv, _, _, _, _, hk⟩ := h
  obtain ⟨a, c, rfl⟩ := hk.form
  exact ⟨a, c, hv⟩
/-- Its cell's value. -/
theorem MsAt.cellAt {w : World} {S : Nat → Prop} {a : Option Addr} {n c : Nat} {m : Ms} (h : MsAt w S (.agg (m.row (.slice a n c))) m) : CeAt w S (.agg #[.int .i64 m.cell.kind, .int .i64 m.cell.n, .int .i64 m.cell.pos, .slice a n c]) m.cell := by
  obtain ⟨kv, hv, _, h2, h3, h4, hk⟩ := h
  have : kv = .slice a n c := by simp [Ms.row] at hv; exact hv.symm
  subst this
  exact ⟨_, rfl, h2, h3, h4, hk⟩
end Go.Proofs.YtbaakhpmfljgnabDoor
