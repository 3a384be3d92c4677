/-
  Links in memory.
-/
import Derived.Test.YtbaakhpmfljgnaaIntsRow
import Derived.Test.YtbaakhpmfljgnaaPkMore
namespace Go.Proofs.Ytbaakhpmfljgnaa
open Go.RowKit Go.Joins

set_option maxRecDepth 100000

/-- What was sent: its number, to whom, its bytes. -/
structure Sn where
  seq : Int
  dst : Int
  body : ByteArray
/-- What was taken of a node. -/
structure Se where
  low : Int
  ids : List Int
/-- A link. -/
structure Lk where
  id : Int
  next : Int
  out : List Sn
  seen : List Se
def Sn.bulk (s : Sn) : Nat := s.body.size
def Se.bulk (s : Se) : Nat := s.ids.length

def SentsAt (w : World) (S : Nat → Prop) (v : Value) (es : List Sn) : Prop :=
  ∃ a cap, v = .slice a es.length cap ∧ es.length ≤ maxLen ∧ ∀ i e, es[i]? = some e → ∃ b off, a = some ⟨b, off, none⟩ ∧ S b ∧ b < w.heap.size ∧
      w.cell? ⟨b, off + i * 3, none⟩ = some (.int .i64 e.seq) ∧ w.cell? ⟨b, off + i * 3 + 1, none⟩ = some (.int .i64 e.dst) ∧ w.cell? ⟨b, off + i * 3 + 2, none⟩ = some (.string e.body) ∧
      inI64 e.seq ∧ inI64 e.dst ∧ e.body.size ≤ maxLen
def SeensAt (w : World) (S : Nat → Prop) (v : Value) (es : List Se) : Prop :=
  ∃ a cap, v = .slice a es.length cap ∧ es.length ≤ maxLen ∧ ∀ i e, es[i]? = some e → ∃ b off kv, a = some ⟨b, off, none⟩ ∧ S b ∧ b < w.heap.size ∧
      w.cell? ⟨b, off + i * 2, none⟩ = some (.int .i64 e.low) ∧ w.cell? ⟨b, off + i * 2 + 1, none⟩ = some kv ∧ inI64 e.low ∧ IntsAt w S kv e.ids
/-- A link's value. -/
def LkAt (w : World) (S : Nat → Prop) (v : Value) (l : Lk) : Prop :=
  ∃ ov sv, v = .agg #[.int .i64 l.id, .int .i64 l.next, ov, sv] ∧ inI64 l.id ∧ inI64 l.next ∧ SentsAt w S ov l.out ∧ SeensAt w S sv l.seen

theorem SentsAt.kept {w w' : World} {S S' : Nat → Prop} (hw : ∀ b, S b → b < w.heap.size → w'.heap[b]? = w.heap[b]?) (hsz : w.heap.size ≤ w'.heap.size) (hS : ∀ b, S b → b < w.heap.size → S' b) {v : Value} {es : List Sn} (h : SentsAt w S v es) : SentsAt w' S' v es := by
  obtain ⟨a, cap, hv, hl, hc⟩ := h
  refine ⟨a, cap, hv, hl, fun i e he => ?_⟩
  obtain ⟨b, off, ha, hb, hlt, c0, c1, c2, r⟩ := hc i e he
  have hcell : ∀ o, w'.cell? ⟨b, o, none⟩ = w.cell? ⟨b, o, none⟩ := fun o => World.cell?_of_block (hw b hb hlt)
  exact ⟨b, off, ha, hS b hb hlt, Nat.lt_of_lt_of_le hlt hsz, (hcell _).trans c0, (hcell _).trans c1, (hcell _).trans c2, r⟩
theorem SeensAt.kept {w w' : World} {S S' : Nat → Prop} (hw : ∀ b, S b → b < w.heap.size → w'.heap[b]? = w.heap[b]?) (hsz : w.heap.size ≤ w'.heap.size) (hS : ∀ b, S b → b < w.heap.size → S' b) {v : Value} {es : List Se} (h : SeensAt w S v es) : SeensAt w' S' v es := by
  obtain ⟨a, cap, hv, hl, hc⟩ := h
  refine ⟨a, cap, hv, hl, fun i e he => ?_⟩
  obtain ⟨b, off, kv, ha, hb, hlt, c0, c1, r, hk⟩ := hc i e he
  have hcell : ∀ o, w'.cell? ⟨b, o, none⟩ = w.cell? ⟨b, o, none⟩ := fun o => World.cell?_of_block (hw b hb hlt)
  exact ⟨b, off, kv, ha, hS b hb hlt, Nat.lt_of_lt_of_le hlt hsz, (hcell _).trans c0, (hcell _).trans c1, r, hk.kept hw hsz hS⟩
theorem LkAt.kept {w w' : World} {S S' : Nat → Prop} (hw : ∀ b, S b → b < w.heap.size → w'.heap[b]? = w.heap[b]?) (hsz : w.heap.size ≤ w'.heap.size) (hS : ∀ b, S b → b < w.heap.size → S' b) {v : Value} {l : Lk} (h : LkAt w S v l) : LkAt w' S' v l := by
  obtain ⟨ov, sv, hv, h1, h2, h3, h4⟩ := h
  exact ⟨ov, sv, hv, h1, h2, h3.kept hw hsz hS, h4.kept hw hsz hS⟩
theorem SentsAt.below {w w' : World} {S : Nat → Prop} {v : Value} {es : List Sn} (h : SentsAt w S v es) (hb : Below w.heap.size w w') : SentsAt w' S v es :=
  h.kept (fun b _ hlt => hb.block b hlt) hb.size (fun _ h _ => h)
theorem SeensAt.below {w w' : World} {S : Nat → Prop} {v : Value} {es : List Se} (h : SeensAt w S v es) (hb : Below w.heap.size w w') : SeensAt w' S v es :=
  h.kept (fun b _ hlt => hb.block b hlt) hb.size (fun _ h _ => h)
theorem LkAt.below {w w' : World} {S : Nat → Prop} {v : Value} {l : Lk} (h : LkAt w S v l) (hb : Below w.heap.size w w') : LkAt w' S v l :=
  h.kept (fun b _ hlt => hb.block b hlt) hb.size (fun _ h _ => h)
theorem SentsAt.form {w : World} {S : Nat → Prop} {v : Value} {es : List Sn} (h : SentsAt w S v es) : ∃ a cap, v = .slice a es.length cap := by
  obtain ⟨a, cap, hv, _⟩ := h; exact ⟨a, cap, hv⟩
theorem SeensAt.form {w : World} {S : Nat → Prop} {v : Value} {es : List Se} (h : SeensAt w S v es) : ∃ a cap, v = .slice a es.length cap := by
  obtain ⟨a, cap, hv, _⟩ := h; exact ⟨a, cap, hv⟩
theorem LkAt.form {w : World} {S : Nat → Prop} {v : Value} {l : Lk} (h : LkAt w S v l) : ∃ oa oc sa sc, v = .agg #[.int .i64 l.id, .int .i64 l.next, .slice oa l.out.length oc, .slice sa l.seen.length sc] ∧ SentsAt w S (.slice oa l.out.length oc) l.out ∧ SeensAt w S (.slice sa l.seen.length sc) l.seen := by
  obtain ⟨ov, sv, rfl, _, _, h3, h4⟩ := h
  obtain ⟨oa, oc, rfl⟩ := h3.form
  obtain ⟨sa, sc, rfl⟩ := h4.form
  exact ⟨oa, oc, sa, sc, rfl, h3, h4⟩
theorem SentsAt.len {w : World} {S : Nat → Prop} {v : Value} {es : List Sn} (h : SentsAt w S v es) : es.length ≤ maxLen := by
  obtain ⟨a, cap, _, hl, _⟩ := h; exact hl
theorem SeensAt.len {w : World} {S : Nat → Prop} {v : Value} {es : List Se} (h : SeensAt w S v es) : es.length ≤ maxLen := by
  obtain ⟨a, cap, _, hl, _⟩ := h; exact hl

def preO (es : List Sn) (k : Nat) : Nat := ((es.take k).map Sn.bulk).sum
def bulkO (es : List Sn) : Nat := es.length + preO es es.length
theorem preO_succ {es : List Sn} {k : Nat} {e : Sn} (h : es[k]? = some e) : preO es (k + 1) = preO es k + e.bulk := by
  unfold preO
  have hk := (List.getElem?_eq_some_iff.1 h).1
  rw [List.take_succ_eq_append_getElem hk, List.map_append, List.sum_append]
  rw [(List.getElem?_eq_some_iff.1 h).2]
  simp
theorem preO_le (es : List Sn) (k : Nat) : preO es k ≤ preO es es.length := by
  unfold preO
  rw [List.take_length]
  conv => rhs; rw [← List.take_append_drop k es, List.map_append, List.sum_append]
  omega
theorem bulkO_at {es : List Sn} {i : Nat} {e : Sn} (h : es[i]? = some e) : es.length + e.bulk ≤ bulkO es := by
  have h1 := preO_succ h
  have h2 := preO_le es (i + 1)
  unfold bulkO
  omega
def preN (es : List Se) (k : Nat) : Nat := ((es.take k).map Se.bulk).sum
def bulkN (es : List Se) : Nat := es.length + preN es es.length
theorem preN_succ {es : List Se} {k : Nat} {e : Se} (h : es[k]? = some e) : preN es (k + 1) = preN es k + e.bulk := by
  unfold preN
  have hk := (List.getElem?_eq_some_iff.1 h).1
  rw [List.take_succ_eq_append_getElem hk, List.map_append, List.sum_append]
  rw [(List.getElem?_eq_some_iff.1 h).2]
  simp
theorem preN_le (es : List Se) (k : Nat) : preN es k ≤ preN es es.length := by
  unfold preN
  rw [List.take_length]
  conv => rhs; rw [← List.take_append_drop k es, List.map_append, List.sum_append]
  omega
theorem bulkN_at {es : List Se} {i : Nat} {e : Se} (h : es[i]? = some e) : es.length + e.bulk ≤ bulkN es := by
  have h1 := preN_succ h
  have h2 := preN_le es (i + 1)
  unfold bulkN
  omega
def Lk.bulk (l : Lk) : Nat := bulkO l.out + bulkN l.seen

theorem infoSent : (Try.prog.info? 42).map (fun i => (i.zero, i.size, i.bytes)) = some (some (.agg #[.int .i64 0, .int .i64 0, .string ByteArray.empty]), 3, 32) := by kernel_rfl
theorem infoSeen : (Try.prog.info? 33).map (fun i => (i.zero, i.size, i.bytes)) = some (some (.agg #[.int .i64 0, .slice none 0 0]), 2, 32) := by kernel_rfl
end Go.Proofs.Ytbaakhpmfljgnaa
