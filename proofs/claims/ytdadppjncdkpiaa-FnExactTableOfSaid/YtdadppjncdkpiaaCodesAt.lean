/-
  Codes in memory.
-/
import Derived.Test.YtdadppjncdkpiaaIntsRow
import Derived.Test.YtdadppjncdkpiaaPkMore
namespace Go.Proofs.Ytdadppjncdkpiaa
open Go.RowKit Go.Joins

set_option maxRecDepth 100000

/-- A code: its kind, its number, its text, its kids' numbers. -/
structure Cd where
  kind : Int
  n : Int
  text : ByteArray
  kids : List Int
def Cd.bulk (c : Cd) : Nat := c.text.size + c.kids.length

/-- A row of codes in memory, in blocks of S. -/
def CodesAt (w : World) (S : Nat → Prop) (v : Value) (es : List Cd) : Prop :=
  ∃ a cap, v = .slice a es.length cap ∧ es.length ≤ maxLen ∧ ∀ i e, es[i]? = some e → ∃ b off kv, a = some ⟨b, off, none⟩ ∧ S b ∧ b < w.heap.size ∧
      w.cell? ⟨b, off + i * 4, none⟩ = some (.int .i64 e.kind) ∧ w.cell? ⟨b, off + i * 4 + 1, none⟩ = some (.int .i64 e.n) ∧ w.cell? ⟨b, off + i * 4 + 2, none⟩ = some (.string e.text) ∧ w.cell? ⟨b, off + i * 4 + 3, none⟩ = some kv ∧
      inI64 e.kind ∧ inI64 e.n ∧ e.text.size ≤ maxLen ∧ IntsAt w S kv e.kids
/-- A code's value. -/
def CdAt (w : World) (S : Nat → Prop) (v : Value) (e : Cd) : Prop :=
  ∃ kv, v = .agg #[.int .i64 e.kind, .int .i64 e.n, .string e.text, kv] ∧ inI64 e.kind ∧ inI64 e.n ∧ e.text.size ≤ maxLen ∧ IntsAt w S kv e.kids
theorem CodesAt.kept {w w' : World} {S S' : Nat → Prop} (hw : ∀ b, S b → b < w.heap.size → w'.heap[b]? = w.heap[b]?) (hsz : w.heap.size ≤ w'.heap.size) (hS : ∀ b, S b → b < w.heap.size → S' b) {v : Value} {es : List Cd} (h : CodesAt w S v es) : CodesAt w' S' v es := by
  obtain ⟨a, cap, hv, hl, hc⟩ := h
  refine ⟨a, cap, hv, hl, fun i e he => ?_⟩
  obtain ⟨b, off, kv, ha, hb, hlt, c0, c1, c2, c3, r1, r2, r3, hk⟩ := hc i e he
  have hcell : ∀ o, w'.cell? ⟨b, o, none⟩ = w.cell? ⟨b, o, none⟩ := fun o => World.cell?_of_block (hw b hb hlt)
  exact ⟨b, off, kv, ha, hS b hb hlt, Nat.lt_of_lt_of_le hlt hsz, (hcell _).trans c0, (hcell _).trans c1, (hcell _).trans c2, (hcell _).trans c3, r1, r2, r3, hk.kept hw hsz hS⟩
theorem CodesAt.below {w w' : World} {S : Nat → Prop} {v : Value} {es : List Cd} (h : CodesAt w S v es) (hb : Below w.heap.size w w') : CodesAt w' S v es :=
  h.kept (fun b _ hlt => hb.block b hlt) hb.size (fun _ h _ => h)
theorem CodesAt.belowP {w w' : World} {n : Nat} {v : Value} {es : List Cd} (h : CodesAt w (fun b => n ≤ b ∧ Pl w b) v es) (hb : Below w.heap.size w w') : CodesAt w' (fun b => n ≤ b ∧ Pl w' b) v es :=
  h.kept (fun b _ hlt => hb.block b hlt) hb.size (fun _ h _ => ⟨h.1, h.2.below hb⟩)
theorem CodesAt.form {w : World} {S : Nat → Prop} {v : Value} {es : List Cd} (h : CodesAt w S v es) : ∃ a cap, v = .slice a es.length cap := by
  obtain ⟨a, cap, hv, _⟩ := h; exact ⟨a, cap, hv⟩

def preC (es : List Cd) (k : Nat) : Nat := ((es.take k).map Cd.bulk).sum
def bulkC (es : List Cd) : Nat := es.length + preC es es.length
theorem preC_succ {es : List Cd} {k : Nat} {e : Cd} (h : es[k]? = some e) : preC es (k + 1) = preC es k + e.bulk := by
  unfold preC
  have hk := (List.getElem?_eq_some_iff.1 h).1
  rw [List.take_succ_eq_append_getElem hk, List.map_append, List.sum_append]
  rw [(List.getElem?_eq_some_iff.1 h).2]
  simp
theorem preC_le (es : List Cd) (k : Nat) : preC es k ≤ preC es es.length := by
  unfold preC
  rw [List.take_length]
  conv => rhs; rw [← List.take_append_drop k es, List.map_append, List.sum_append]
  omega
theorem bulkC_at {es : List Cd} {i : Nat} {e : Cd} (h : es[i]? = some e) : es.length + e.bulk ≤ bulkC es := by
  have h1 := preC_succ h
  have h2 := preC_le es (i + 1)
  unfold bulkC
  omega

theorem infoCode : (Try.prog.info? 173).map (fun i => (i.zero, i.size, i.bytes)) = some (some (.agg #[.int .i64 0, .int .i64 0, .string ⟨#[]⟩, .slice none 0 0]), 4, 56) := by kernel_rfl
end Go.Proofs.Ytdadppjncdkpiaa
