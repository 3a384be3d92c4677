/-
  Cells in memory.
  A message in memory.
  The program's list of a message's numbers, by their places.
-/
import Derived.Test.YtlbinamlehapoaaGreatDoorMA
import Derived.Test.YtlbinamlehapoaaGreatDoorMB
import Derived.BigRegion
namespace Go.Proofs.YtlbinamlehapoaaGreatDoor
open Go.RowKit Go.Joins

set_option maxRecDepth 100000

/-- A cell: its kind, its number, its place among the codes, its kids. -/
structure Ce where
  kind : Int
  n : Int
  pos : Int
  kids : List Int
def Ce.bulk (c : Ce) : Nat := c.kids.length

/-- A row of cells in memory, in blocks of S. -/
def CellsAt (w : World) (S : Nat → Prop) (v : Value) (es : List Ce) : Prop :=
  ∃ a cap, v = .slice a es.length cap ∧ es.length ≤ maxLen ∧ ∀ i e, es[i]? = some e → ∃ b off kv, a = some ⟨b, off, none⟩ ∧ S b ∧ b < w.heap.size ∧
      w.cell? ⟨b, off + i * 4, none⟩ = some (.int .i64 e.kind) ∧ w.cell? ⟨b, off + i * 4 + 1, none⟩ = some (.int .i64 e.n) ∧ w.cell? ⟨b, off + i * 4 + 2, none⟩ = some (.int .i64 e.pos) ∧ w.cell? ⟨b, off + i * 4 + 3, none⟩ = some kv ∧
      inI64 e.kind ∧ inI64 e.n ∧ inI64 e.pos ∧ IntsAt w S kv e.kids
/-- A cell's value. -/
def CeAt (w : World) (S : Nat → Prop) (v : Value) (e : Ce) : Prop :=
  ∃ kv, v = .agg #[.int .i64 e.kind, .int .i64 e.n, .int .i64 e.pos, kv] ∧ inI64 e.kind ∧ inI64 e.n ∧ inI64 e.pos ∧ IntsAt w S kv e.kids
theorem CellsAt.kept {w w' : World} {S S' : Nat → Prop} (hw : ∀ b, S b → b < w.heap.size → w'.heap[b]? = w.heap[b]?) (hsz : w.heap.size ≤ w'.heap.size) (hS : ∀ b, S b → b < w.heap.size → S' b) {v : Value} {es : List Ce} (h : CellsAt w S v es) : CellsAt w' S' v es := by
  obtain ⟨a, cap, hv, hl, hc⟩ := h
  refine ⟨a, cap, hv, hl, fun i e he => ?_⟩
  obtain ⟨b, off, kv, ha, hb, hlt, c0, c1, c2, c3, r1, r2, r3, hk⟩ := hc i e he
  have hcell : ∀ o, w'.cell? ⟨b, o, none⟩ = w.cell? ⟨b, o, none⟩ := fun o => World.cell?_of_block (hw b hb hlt)
  exact ⟨b, off, kv, ha, hS b hb hlt, Nat.lt_of_lt_of_le hlt hsz, (hcell _).trans c0, (hcell _).trans c1, (hcell _).trans c2, (hcell _).trans c3, r1, r2, r3, hk.kept hw hsz hS⟩
theorem CellsAt.below {w w' : World} {S : Nat → Prop} {v : Value} {es : List Ce} (h : CellsAt w S v es) (hb : Below w.heap.size w w') : CellsAt w' S v es :=
  h.kept (fun b _ hlt => hb.block b hlt) hb.size (fun _ h _ => h)
theorem CellsAt.belowP {w w' : World} {n : Nat} {v : Value} {es : List Ce} (h : CellsAt w (fun b => n ≤ b ∧ Pl w b) v es) (hb : Below w.heap.size w w') : CellsAt w' (fun b => n ≤ b ∧ Pl w' b) v es :=
  h.kept (fun b _ hlt => hb.block b hlt) hb.size (fun _ h _ => ⟨h.1, h.2.below hb⟩)
theorem CellsAt.form {w : World} {S : Nat → Prop} {v : Value} {es : List Ce} (h : CellsAt w S v es) : ∃ a cap, v = .slice a es.length cap := by
  obtain ⟨a, cap, hv, _⟩ := h; exact ⟨a, cap, hv⟩

def preL (es : List Ce) (k : Nat) : Nat := ((es.take k).map Ce.bulk).sum
def bulkL (es : List Ce) : Nat := es.length + preL es es.length
theorem preL_succ {es : List Ce} {k : Nat} {e : Ce} (h : es[k]? = some e) : preL es (k + 1) = preL es k + e.bulk := by
  unfold preL
  have hk := (List.getElem?_eq_some_iff.1 h).1
  rw [List.take_succ_eq_append_getElem hk, List.map_append, List.sum_append]
  rw [(List.getElem?_eq_some_iff.1 h).2]
  simp
theorem preL_le (es : List Ce) (k : Nat) : preL es k ≤ preL es es.length := by
  unfold preL
  rw [List.take_length]
  conv => rhs; rw [← List.take_append_drop k es, List.map_append, List.sum_append]
  omega
theorem bulkL_at {es : List Ce} {i : Nat} {e : Ce} (h : es[i]? = some e) : es.length + e.bulk ≤ bulkL es := by
  have h1 := preL_succ h
  have h2 := preL_le es (i + 1)
  unfold bulkL
  omega

theorem infoCell : (Tryz.prog.info? 30).map (fun i => (i.zero, i.size, i.bytes)) = some (some (.agg #[.int .i64 0, .int .i64 0, .int .i64 0, .slice none 0 0]), 4, 48) := by kernel_rfl
end Go.Proofs.YtlbinamlehapoaaGreatDoor

namespace Go.Proofs.YtlbinamlehapoaaGreatDoor
open Go.RowKit Go.Joins

set_option maxRecDepth 100000

theorem CeAt.belowM {w w' : World} {S : Nat → Prop} {v : Value} {c : Ce} (h : CeAt w S v c) (hb : Below w.heap.size w w') : CeAt w' S v c := by
  obtain ⟨kv, hv, r1, r2, r3, hk⟩ := h
  exact ⟨kv, hv, r1, r2, r3, hk.below hb⟩
/-- A message. -/
structure Ms where
  kind : Int
  frm : Int
  dst : Int
  id : Int
  want : Int
  cell : Ce
/-- Its nine cells. -/
abbrev Ms.row (m : Ms) (kv : Value) : Array Value := #[.int .i64 m.kind, .int .i64 m.frm, .int .i64 m.dst, .int .i64 m.id, .int .i64 m.want, .int .i64 m.cell.kind, .int .i64 m.cell.n, .int .i64 m.cell.pos, kv]
/-- A message's value. -/
def MsAt (w : World) (S : Nat → Prop) (v : Value) (m : Ms) : Prop :=
  ∃ kv, v = .agg (m.row kv) ∧ (inI64 m.kind ∧ inI64 m.frm ∧ inI64 m.dst ∧ inI64 m.id ∧ inI64 m.want) ∧ inI64 m.cell.kind ∧ inI64 m.cell.n ∧ inI64 m.cell.pos ∧ IntsAt w S kv m.cell.kids
theorem MsAt.below {w w' : World} {S : Nat → Prop} {v : Value} {m : Ms} (h : MsAt w S v m) (hb : Below w.heap.size w w') : MsAt w' S v m := by
  obtain ⟨kv, hv, h1, h2, h3, h4, hk⟩ := h
  exact ⟨kv, hv, h1, h2, h3, h4, hk.below hb⟩
theorem MsAt.form {w : World} {S : Nat → Prop} {v : Value} {m : Ms} (h : MsAt w S v m) : ∃ a c, v = .agg (m.row (.slice a m.cell.kids.length c)) := by
  obtain ⟨kv, hv, _, _, _, _, hk⟩ := h
  obtain ⟨a, c, rfl⟩ := hk.form
  exact ⟨a, c, hv⟩
/-- Its cell's value. -/
theorem MsAt.cellAt {w : World} {S : Nat → Prop} {a : Option Addr} {n c : Nat} {m : Ms} (h : MsAt w S (.agg (m.row (.slice a n c))) m) : CeAt w S (.agg #[.int .i64 m.cell.kind, .int .i64 m.cell.n, .int .i64 m.cell.pos, .slice a n c]) m.cell := by
  obtain ⟨kv, hv, _, h2, h3, h4, hk⟩ := h
  have : kv = .slice a n c := by simp [Ms.row] at hv; exact hv.symm
  subst this
  exact ⟨_, rfl, h2, h3, h4, hk⟩
end Go.Proofs.YtlbinamlehapoaaGreatDoor

namespace Go.Proofs.YtlbinamlehapoaaGreatDoor
open Go.RowKit Go.Joins

set_option maxRecDepth 100000

/-- Pointers to the first places of a block. -/
abbrev ptr8 (p : Nat) : Array Value := #[.pointer (some ⟨p, 0, none⟩), .pointer (some ⟨p, 1, none⟩), .pointer (some ⟨p, 2, none⟩), .pointer (some ⟨p, 3, none⟩), .pointer (some ⟨p, 4, none⟩), .pointer (some ⟨p, 5, none⟩), .pointer (some ⟨p, 6, none⟩), .pointer (some ⟨p, 7, none⟩)]
set_option maxHeartbeats 3200000 in
theorem msgFields_any (p : Nat) (w : World) :
    Calls Tryz.prog 89 #[.pointer (some ⟨p, 0, none⟩)] w fun e w' => e = .returned (.slice (some ⟨w.heap.size, 0, none⟩) 8 8) ∧ w'.heap[w.heap.size]? = some (.cells (ptr8 p) 166) ∧ Below w.heap.size w w' := by
  go_enter Tryz.func89, Tryz.ntmps89
  go_wp2_with fail
  go_region
  go_wp2
  go_ret
  exact ⟨rfl, (MapKept.heap_alloc _ _).1, (Below.refl _ _).drew.alloc (Nat.le_refl _) _⟩
end Go.Proofs.YtlbinamlehapoaaGreatDoor
