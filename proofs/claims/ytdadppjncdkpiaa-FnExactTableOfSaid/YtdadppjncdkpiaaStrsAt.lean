/-
  Rows of texts in memory.
-/
import Derived.Test.YtdadppjncdkpiaaRowBase
namespace Go.Proofs.Ytdadppjncdkpiaa
open Go.RowKit Go.Joins

set_option maxRecDepth 100000

theorem addr_add' (b off k : Nat) : (⟨b, off, none⟩ : Addr).add k = ⟨b, off + k, none⟩ := by
  unfold Addr.add
  split
  · rename_i h; subst h; rfl
  · rfl

def StrsAt (w : World) (S : Nat → Prop) (v : Value) (ts : List ByteArray) : Prop :=
  ∃ a cap, v = .slice a ts.length cap ∧ ts.length ≤ maxLen ∧ ∀ i t, ts[i]? = some t → ∃ b off, a = some ⟨b, off, none⟩ ∧ S b ∧ b < w.heap.size ∧ w.cell? ⟨b, off + i, none⟩ = some (.string t) ∧ t.size ≤ maxLen
theorem StrsAt.kept {w w' : World} {S S' : Nat → Prop} (hw : ∀ b, S b → b < w.heap.size → w'.heap[b]? = w.heap[b]?) (hsz : w.heap.size ≤ w'.heap.size) (hS : ∀ b, S b → b < w.heap.size → S' b) {v : Value} {ts : List ByteArray} (h : StrsAt w S v ts) : StrsAt w' S' v ts := by
  obtain ⟨a, cap, hv, hl, hc⟩ := h
  refine ⟨a, cap, hv, hl, fun i t ht => ?_⟩
  obtain ⟨b, off, ha, hb, hlt, c0, r⟩ := hc i t ht
  exact ⟨b, off, ha, hS b hb hlt, Nat.lt_of_lt_of_le hlt hsz, (World.cell?_of_block (hw b hb hlt)).trans c0, r⟩
theorem StrsAt.below {w w' : World} {S : Nat → Prop} {v : Value} {ts : List ByteArray} (h : StrsAt w S v ts) (hb : Below w.heap.size w w') : StrsAt w' S v ts :=
  h.kept (fun b _ hlt => hb.block b hlt) hb.size (fun _ h _ => h)
theorem StrsAt.form {w : World} {S : Nat → Prop} {v : Value} {ts : List ByteArray} (h : StrsAt w S v ts) : ∃ a cap, v = .slice a ts.length cap := by
  obtain ⟨a, cap, hv, _⟩ := h; exact ⟨a, cap, hv⟩

def preS (ts : List ByteArray) (k : Nat) : Nat := ((ts.take k).map ByteArray.size).sum
def bulkS (ts : List ByteArray) : Nat := ts.length + preS ts ts.length
end Go.Proofs.Ytdadppjncdkpiaa
