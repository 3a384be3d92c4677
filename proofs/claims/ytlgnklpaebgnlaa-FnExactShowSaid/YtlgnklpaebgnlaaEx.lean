/-
  Expressions in plain words, and how they lie in memory.
-/
import Derived.Test.YtlgnklpaebgnlaaRows
import Derived.Test.YtlgnklpaebgnlaaPk
import Derived.WalkKit
import Derived.ProofKit
import Derived.OpenShut
import Derived.ShutString
import Derived.Deep.Slices
import Derived.Deep.RegionWith
import Derived.Laws.MakeOwn
import Derived.Lib.SmallJoins
import Derived.Lib.BufferOwn
namespace Go.Proofs.Ytlgnklpaebgnlaa
open Go.RowKit Go.Joins

set_option maxRecDepth 100000

/-- An expression: its kind, its number, its text, its kids. -/
inductive Ex where
  | mk : Int → Int → ByteArray → List Ex → Ex
def Ex.kind : Ex → Int | .mk k _ _ _ => k
def Ex.n : Ex → Int | .mk _ n _ _ => n
def Ex.text : Ex → ByteArray | .mk _ _ t _ => t
def Ex.kids : Ex → List Ex | .mk _ _ _ ks => ks

mutual
def Ex.bulk : Ex → Nat
  | .mk _ _ t ks => t.size + Ex.bulkL ks
def Ex.bulkL : List Ex → Nat
  | [] => 0
  | e :: r => 1 + e.bulk + Ex.bulkL r
end
theorem Ex.bulk_eq (e : Ex) : e.bulk = e.text.size + Ex.bulkL e.kids := by cases e; rw [Ex.bulk]; rfl

mutual
def Ex.same : Ex → Ex → Bool
  | .mk k n t ks, .mk k' n' t' ks' => k == k' && n == n' && t.toList == t'.toList && Ex.sameL ks ks'
def Ex.sameL : List Ex → List Ex → Bool
  | [], [] => true
  | a :: r, b :: r' => a.same b && Ex.sameL r r'
  | _, _ => false
end
theorem Ex.same_eq (a b : Ex) : a.same b = (a.kind == b.kind && a.n == b.n && a.text.toList == b.text.toList && Ex.sameL a.kids b.kids) := by cases a; cases b; rw [Ex.same]; rfl

def inI64 (z : Int) : Prop := -9223372036854775808 ≤ z ∧ z ≤ 9223372036854775807

/-- A row of expressions in memory, at most d deep, in blocks of S. -/
def KidsAt (w : World) (S : Nat → Prop) : Nat → Value → List Ex → Prop
  | 0, _, _ => False
  | d + 1, v, es => ∃ a cap, v = .slice a es.length cap ∧ es.length ≤ maxLen ∧ ∀ i e, es[i]? = some e → ∃ b off kv, a = some ⟨b, off, none⟩ ∧ S b ∧ b < w.heap.size ∧
      w.cell? ⟨b, off + i * 4, none⟩ = some (.int .i64 e.kind) ∧ w.cell? ⟨b, off + i * 4 + 1, none⟩ = some (.int .i64 e.n) ∧ w.cell? ⟨b, off + i * 4 + 2, none⟩ = some (.string e.text) ∧ w.cell? ⟨b, off + i * 4 + 3, none⟩ = some kv ∧
      inI64 e.kind ∧ inI64 e.n ∧ e.text.size ≤ maxLen ∧ KidsAt w S d kv e.kids
/-- An expression's value. -/
def ExAt (w : World) (S : Nat → Prop) (d : Nat) (v : Value) (e : Ex) : Prop :=
  ∃ kv, v = .agg #[.int .i64 e.kind, .int .i64 e.n, .string e.text, kv] ∧ inI64 e.kind ∧ inI64 e.n ∧ e.text.size ≤ maxLen ∧ KidsAt w S d kv e.kids

theorem KidsAt.kept {w w' : World} {S S' : Nat → Prop} (hw : ∀ b, S b → b < w.heap.size → w'.heap[b]? = w.heap[b]?) (hsz : w.heap.size ≤ w'.heap.size) (hS : ∀ b, S b → b < w.heap.size → S' b) : ∀ {d : Nat} {v : Value} {es : List Ex}, KidsAt w S d v es → KidsAt w' S' d v es
  | 0, _, _, h => h.elim
  | d + 1, v, es, ⟨a, cap, hv, hl, hc⟩ => by
    refine ⟨a, cap, hv, hl, fun i e he => ?_⟩
    obtain ⟨b, off, kv, ha, hb, hlt, c0, c1, c2, c3, r1, r2, r3, hk⟩ := hc i e he
    have hblk := hw b hb hlt
    exact ⟨b, off, kv, ha, hS b hb hlt, Nat.lt_of_lt_of_le hlt hsz, (World.cell?_of_block hblk).trans c0, (World.cell?_of_block hblk).trans c1, (World.cell?_of_block hblk).trans c2, (World.cell?_of_block hblk).trans c3, r1, r2, r3, KidsAt.kept hw hsz hS hk⟩
theorem KidsAt.below {w w' : World} {S : Nat → Prop} {d : Nat} {v : Value} {es : List Ex} (h : KidsAt w S d v es) (hb : Below w.heap.size w w') : KidsAt w' S d v es :=
  h.kept (fun b _ hlt => hb.block b hlt) hb.size (fun _ h _ => h)
theorem KidsAt.wide {w : World} {S S' : Nat → Prop} {d : Nat} {v : Value} {es : List Ex} (h : KidsAt w S d v es) (hS : ∀ b, S b → S' b) : KidsAt w S' d v es :=
  h.kept (fun _ _ _ => rfl) (Nat.le_refl _) (fun b h _ => hS b h)
theorem ExAt.below {w w' : World} {S : Nat → Prop} {d : Nat} {v : Value} {e : Ex} (h : ExAt w S d v e) (hb : Below w.heap.size w w') : ExAt w' S d v e := by
  obtain ⟨kv, hv, h1, h2, h3, h4⟩ := h
  exact ⟨kv, hv, h1, h2, h3, h4.below hb⟩
theorem KidsAt.deeper {w : World} {S : Nat → Prop} : ∀ {d : Nat} {v : Value} {es : List Ex}, KidsAt w S d v es → KidsAt w S (d + 1) v es
  | 0, _, _, h => h.elim
  | d + 1, v, es, ⟨a, cap, hv, hl, hc⟩ => ⟨a, cap, hv, hl, fun i e he => by
    obtain ⟨b, off, kv, ha, hb, hlt, c0, c1, c2, c3, r1, r2, r3, hk⟩ := hc i e he
    exact ⟨b, off, kv, ha, hb, hlt, c0, c1, c2, c3, r1, r2, r3, KidsAt.deeper hk⟩⟩
theorem KidsAt.deep {w : World} {S : Nat → Prop} {d d' : Nat} {v : Value} {es : List Ex} (h : KidsAt w S d v es) (hd : d ≤ d') : KidsAt w S d' v es := by
  induction hd with
  | refl => exact h
  | step _ ih => exact ih.deeper
theorem KidsAt.form {w : World} {S : Nat → Prop} {d : Nat} {v : Value} {es : List Ex} (h : KidsAt w S d v es) : ∃ a cap, v = .slice a es.length cap := by
  cases d with
  | zero => exact h.elim
  | succ d => obtain ⟨a, cap, hv, _⟩ := h; exact ⟨a, cap, hv⟩

theorem Pl.of {w w' : World} {b : Nat} (h : Pl w b) (he : w'.heap[b]? = w.heap[b]?) : Pl w' b := by
  obtain ⟨cs, t, hc⟩ := h
  exact ⟨cs, t, he.trans hc⟩
theorem Pl.below {w w' : World} {b : Nat} (h : Pl w b) (hb : Below w.heap.size w w') : Pl w' b := by
  obtain ⟨cs, t, hc⟩ := h
  exact ⟨cs, t, (hb.block b (Array.getElem?_eq_some_iff.1 hc).1).trans hc⟩
/-- A row in plain blocks from n on. -/
theorem KidsAt.belowP {w w' : World} {n d : Nat} {v : Value} {es : List Ex} (h : KidsAt w (fun b => n ≤ b ∧ Pl w b) d v es) (hb : Below w.heap.size w w') : KidsAt w' (fun b => n ≤ b ∧ Pl w' b) d v es :=
  h.kept (fun b _ hlt => hb.block b hlt) hb.size (fun _ h _ => ⟨h.1, h.2.below hb⟩)
theorem KidsAt.plain {w : World} {n d : Nat} {v : Value} {es : List Ex} (h : KidsAt w (fun b => n ≤ b ∧ Pl w b) d v es) : KidsAt w (Pl w) d v es := h.wide (fun _ h => h.2)
theorem KidsAt.belowPl {w w' : World} {d : Nat} {v : Value} {es : List Ex} (h : KidsAt w (Pl w) d v es) (hb : Below w.heap.size w w') : KidsAt w' (Pl w') d v es :=
  h.kept (fun b _ hlt => hb.block b hlt) hb.size (fun _ h _ => h.below hb)

theorem bulk_len : ∀ es : List Ex, es.length ≤ Ex.bulkL es
  | [] => Nat.zero_le _
  | e :: r => by have := bulk_len r; rw [Ex.bulkL, List.length_cons]; omega
theorem bulk_at : ∀ {es : List Ex} {i : Nat} {e : Ex}, es[i]? = some e → es.length + e.bulk ≤ Ex.bulkL es
  | [], _, _, h => by simp at h
  | a :: r, 0, e, h => by
    obtain rfl : a = e := by simpa using h
    have := bulk_len r
    rw [Ex.bulkL, List.length_cons]; omega
  | a :: r, i + 1, e, h => by
    have := bulk_at (es := r) (i := i) (by simpa using h)
    rw [Ex.bulkL, List.length_cons]; omega

end Go.Proofs.Ytlgnklpaebgnlaa
