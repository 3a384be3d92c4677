/-
  Rows of numbers in memory.
-/
import Derived.Test.YtlgnklpaebgnlaaRowBase
namespace Go.Proofs.Ytlgnklpaebgnlaa
open Go.RowKit Go.Joins

set_option maxRecDepth 100000

theorem addr_addI (b off k : Nat) : (⟨b, off, none⟩ : Addr).add k = ⟨b, off + k, none⟩ := by
  unfold Addr.add
  split
  · rename_i h; subst h; rfl
  · rfl

def IntsAt (w : World) (S : Nat → Prop) (v : Value) (ts : List Int) : Prop :=
  ∃ a cap, v = .slice a ts.length cap ∧ ts.length ≤ maxLen ∧ ∀ i t, ts[i]? = some t → ∃ b off, a = some ⟨b, off, none⟩ ∧ S b ∧ b < w.heap.size ∧ w.cell? ⟨b, off + i, none⟩ = some (.int .i64 t) ∧ inI64 t
theorem IntsAt.kept {w w' : World} {S S' : Nat → Prop} (hw : ∀ b, S b → b < w.heap.size → w'.heap[b]? = w.heap[b]?) (hsz : w.heap.size ≤ w'.heap.size) (hS : ∀ b, S b → b < w.heap.size → S' b) {v : Value} {ts : List Int} (h : IntsAt w S v ts) : IntsAt w' S' v ts := by
  obtain ⟨a, cap, hv, hl, hc⟩ := h
  refine ⟨a, cap, hv, hl, fun i t ht => ?_⟩
  obtain ⟨b, off, ha, hb, hlt, c0, r⟩ := hc i t ht
  exact ⟨b, off, ha, hS b hb hlt, Nat.lt_of_lt_of_le hlt hsz, (World.cell?_of_block (hw b hb hlt)).trans c0, r⟩
theorem IntsAt.below {w w' : World} {S : Nat → Prop} {v : Value} {ts : List Int} (h : IntsAt w S v ts) (hb : Below w.heap.size w w') : IntsAt w' S v ts :=
  h.kept (fun b _ hlt => hb.block b hlt) hb.size (fun _ h _ => h)
theorem IntsAt.form {w : World} {S : Nat → Prop} {v : Value} {ts : List Int} (h : IntsAt w S v ts) : ∃ a cap, v = .slice a ts.length cap := by
  obtain ⟨a, cap, hv, _⟩ := h; exact ⟨a, cap, hv⟩

theorem IntsAt.len {w : World} {S : Nat → Prop} {v : Value} {ts : List Int} (h : IntsAt w S v ts) : ts.length ≤ 9223372036854775807 := by
  obtain ⟨a, cap, _, hl, _⟩ := h
  unfold maxLen at hl
  omega
theorem IntsAt.wide {w : World} {S S' : Nat → Prop} {v : Value} {ts : List Int} (h : IntsAt w S v ts) (hS : ∀ b, S b → S' b) : IntsAt w S' v ts :=
  h.kept (fun _ _ _ => rfl) (Nat.le_refl _) (fun b hb _ => hS b hb)
theorem IntsAt.belowP {w w' : World} {n : Nat} {v : Value} {ts : List Int} (h : IntsAt w (fun b => n ≤ b ∧ Pl w b) v ts) (hb : Below w.heap.size w w') : IntsAt w' (fun b => n ≤ b ∧ Pl w' b) v ts :=
  h.kept (fun b _ hlt => hb.block b hlt) hb.size (fun _ h _ => ⟨h.1, h.2.below hb⟩)
end Go.Proofs.Ytlgnklpaebgnlaa
