/-
  Programs in memory.
-/
import Derived.Test.YtdadppjncdkpiaaStrsAt
namespace Go.Proofs.Ytdadppjncdkpiaa
open Go.RowKit Go.Joins

set_option maxRecDepth 100000

structure Pr where
  names : List ByteArray
  bodies : List Ex
def Pr.bulk (p : Pr) : Nat := bulkS p.names + Ex.bulkL p.bodies

def PrAt (w : World) (S : Nat → Prop) (d : Nat) (v : Value) (p : Pr) : Prop :=
  ∃ nv bv, v = .agg #[nv, bv] ∧ StrsAt w S nv p.names ∧ KidsAt w S d bv p.bodies
theorem PrAt.below {w w' : World} {S : Nat → Prop} {d : Nat} {v : Value} {p : Pr} (h : PrAt w S d v p) (hb : Below w.heap.size w w') : PrAt w' S d v p := by
  obtain ⟨nv, bv, hv, h1, h2⟩ := h
  exact ⟨nv, bv, hv, h1.below hb, h2.below hb⟩

theorem StrsAt.belowP {w w' : World} {n : Nat} {v : Value} {ts : List ByteArray} (h : StrsAt w (fun b => n ≤ b ∧ Pl w b) v ts) (hb : Below w.heap.size w w') : StrsAt w' (fun b => n ≤ b ∧ Pl w' b) v ts :=
  h.kept (fun b _ hlt => hb.block b hlt) hb.size (fun _ h _ => ⟨h.1, h.2.below hb⟩)
theorem PrAt.belowP {w w' : World} {n d : Nat} {v : Value} {p : Pr} (h : PrAt w (fun b => n ≤ b ∧ Pl w b) d v p) (hb : Below w.heap.size w w') : PrAt w' (fun b => n ≤ b ∧ Pl w' b) d v p := by
  obtain ⟨nv, bv, hv, h1, h2⟩ := h
  exact ⟨nv, bv, hv, h1.belowP hb, h2.belowP hb⟩
theorem PrAt.plain {w : World} {n d : Nat} {v : Value} {p : Pr} (h : PrAt w (fun b => n ≤ b ∧ Pl w b) d v p) : PrAt w (Pl w) d v p := by
  obtain ⟨nv, bv, hv, h1, h2⟩ := h
  exact ⟨nv, bv, hv, h1.kept (fun _ _ _ => rfl) (Nat.le_refl _) (fun _ h _ => h.2), h2.plain⟩
theorem bulkS_len (ts : List ByteArray) : ts.length ≤ bulkS ts := by unfold bulkS; omega

end Go.Proofs.Ytdadppjncdkpiaa
