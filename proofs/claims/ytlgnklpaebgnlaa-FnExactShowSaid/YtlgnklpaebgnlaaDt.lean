/-
  Data of any shape in plain words (numbers, texts, rows of structs), and how it lies in memory.
-/
import Derived.Test.YtlgnklpaebgnlaaRowBase
namespace Go.Proofs.Ytlgnklpaebgnlaa
open Go.RowKit Go.Joins

set_option maxRecDepth 100000

/-- A number, a text, or a row whose elements are structs, each the list of its cells. -/
inductive Dt where
  | int (z : Int)
  | str (b : ByteArray)
  | row (xs : List (List Dt))

mutual
def Dt.bulk : Dt → Nat
  | .int _ => 0
  | .str b => b.size
  | .row xs => Dt.bulkS xs
/-- What a row weighs: its elements and what they hold. -/
def Dt.bulkS : List (List Dt) → Nat
  | [] => 0
  | r :: t => 1 + Dt.bulkR r + Dt.bulkS t
def Dt.bulkR : List Dt → Nat
  | [] => 0
  | d :: t => d.bulk + Dt.bulkR t
end
theorem Dt.bulk_int (z : Int) : (Dt.int z).bulk = 0 := by rw [Dt.bulk]
theorem Dt.bulk_str (b : ByteArray) : (Dt.str b).bulk = b.size := by rw [Dt.bulk]
theorem Dt.bulk_row (xs : List (List Dt)) : (Dt.row xs).bulk = Dt.bulkS xs := by rw [Dt.bulk]
theorem Dt.bulkR_nil : Dt.bulkR [] = 0 := by rw [Dt.bulkR]
theorem Dt.bulkR_cons (d : Dt) (t : List Dt) : Dt.bulkR (d :: t) = d.bulk + Dt.bulkR t := by rw [Dt.bulkR]
/-- What the first k elements hold. -/
def preD (xs : List (List Dt)) (k : Nat) : Nat := ((xs.take k).map Dt.bulkR).sum
theorem preD_zero (xs : List (List Dt)) : preD xs 0 = 0 := by simp [preD]
theorem preD_succ {xs : List (List Dt)} {k : Nat} {r : List Dt} (h : xs[k]? = some r) : preD xs (k + 1) = preD xs k + Dt.bulkR r := by
  unfold preD
  have hk := (List.getElem?_eq_some_iff.1 h).1
  rw [List.take_succ_eq_append_getElem hk, List.map_append, List.sum_append, (List.getElem?_eq_some_iff.1 h).2]
  simp
theorem preD_le (xs : List (List Dt)) (k : Nat) : preD xs k ≤ preD xs xs.length := by
  unfold preD
  rw [List.take_length]
  conv => rhs; rw [← List.take_append_drop k xs, List.map_append, List.sum_append]
  omega
theorem bulkS_eq : ∀ xs : List (List Dt), Dt.bulkS xs = xs.length + preD xs xs.length
  | [] => by rw [Dt.bulkS]; simp [preD]
  | r :: t => by
    have := bulkS_eq t
    unfold preD at *
    rw [Dt.bulkS, this, List.take_length, List.take_length]
    simp
    omega
theorem bulkS_len (xs : List (List Dt)) : xs.length ≤ Dt.bulkS xs := by rw [bulkS_eq]; omega
theorem bulkS_at {xs : List (List Dt)} {i : Nat} {r : List Dt} (h : xs[i]? = some r) : xs.length + Dt.bulkR r ≤ Dt.bulkS xs := by
  have h1 := preD_succ h
  have h2 := preD_le xs (i + 1)
  rw [bulkS_eq]
  omega

/-- A value that is these data, its rows in blocks of S. -/
inductive FAt (w : World) (S : Nat → Prop) : Value → Dt → Prop
  | int (z : Int) (h : inI64 z) : FAt w S (.int .i64 z) (.int z)
  | str (b : ByteArray) (h : b.size ≤ maxLen) : FAt w S (.string b) (.str b)
  | nil (a : Option Addr) (cap : Nat) : FAt w S (.slice a 0 cap) (.row [])
  | row (b off cap n : Nat) (xs : List (List Dt)) (vs : Nat → Nat → Value) (hl : xs.length ≤ maxLen) (hS : S b) (hb : b < w.heap.size)
      (hn : ∀ (i : Nat) (r : List Dt), xs[i]? = some r → r.length = n)
      (hc : ∀ (i j : Nat) (r : List Dt) (d : Dt), xs[i]? = some r → r[j]? = some d → w.cell? ⟨b, off + i * n + j, none⟩ = some (vs i j))
      (hd : ∀ (i j : Nat) (r : List Dt) (d : Dt), xs[i]? = some r → r[j]? = some d → FAt w S (vs i j) d) :
      FAt w S (.slice (some ⟨b, off, none⟩) xs.length cap) (.row xs)

theorem FAt.kept {w w' : World} {S S' : Nat → Prop} (hw : ∀ b, S b → b < w.heap.size → w'.heap[b]? = w.heap[b]?) (hsz : w.heap.size ≤ w'.heap.size) (hS' : ∀ b, S b → b < w.heap.size → S' b) {v : Value} {d : Dt} (h : FAt w S v d) : FAt w' S' v d := by
  induction h with
  | int z h => exact .int z h
  | str b h => exact .str b h
  | nil a cap => exact .nil a cap
  | row b off cap n xs vs hl hS hb hn hc hd ih =>
    exact .row b off cap n xs vs hl (hS' b hS hb) (Nat.lt_of_lt_of_le hb hsz) hn (fun i j r d hr hj => (World.cell?_of_block (hw b hS hb)).trans (hc i j r d hr hj)) ih
theorem FAt.up {w w' : World} {S : Nat → Prop} {v : Value} {d : Dt} (h : FAt w S v d) (hb : Below w.heap.size w w') : FAt w' S v d :=
  h.kept (fun b _ hlt => hb.block b hlt) hb.size (fun _ h _ => h)
theorem FAt.wide {w : World} {S S' : Nat → Prop} {v : Value} {d : Dt} (h : FAt w S v d) (hS : ∀ b, S b → S' b) : FAt w S' v d :=
  h.kept (fun _ _ _ => rfl) (Nat.le_refl _) (fun b hb _ => hS b hb)
theorem FAt.form {w : World} {S : Nat → Prop} {v : Value} {xs : List (List Dt)} (h : FAt w S v (.row xs)) : ∃ a cap, v = .slice a xs.length cap := by
  cases h with
  | nil a cap => exact ⟨a, cap, rfl⟩
  | row b off cap n xs vs => exact ⟨_, cap, rfl⟩
theorem FAt.len {w : World} {S : Nat → Prop} {v : Value} {xs : List (List Dt)} (h : FAt w S v (.row xs)) : xs.length ≤ maxLen := by
  cases h with
  | nil a cap => exact Nat.zero_le _
  | row b off cap n xs vs hl => exact hl
theorem FAt.ofInt {w : World} {S : Nat → Prop} {v : Value} {z : Int} (h : FAt w S v (.int z)) : v = .int .i64 z ∧ inI64 z := by
  cases h with
  | int z h => exact ⟨rfl, h⟩
theorem FAt.ofStr {w : World} {S : Nat → Prop} {v : Value} {b : ByteArray} (h : FAt w S v (.str b)) : v = .string b ∧ b.size ≤ maxLen := by
  cases h with
  | str b h => exact ⟨rfl, h⟩
/-- An element of a row: where it lies. -/
theorem FAt.at {w : World} {S : Nat → Prop} {a : Option Addr} {n cap : Nat} {xs : List (List Dt)} (h : FAt w S (.slice a n cap) (.row xs)) {k : Nat} {r : List Dt} (hr : xs[k]? = some r) :
    ∃ b off, a = some ⟨b, off, none⟩ ∧ S b ∧ b < w.heap.size ∧ ∃ vs : Nat → Value, ∀ (j : Nat) (d : Dt), r[j]? = some d → w.cell? ⟨b, off + k * r.length + j, none⟩ = some (vs j) ∧ FAt w S (vs j) d := by
  cases h with
  | nil a cap => simp at hr
  | row b off cap n xs vs hl hS hb hn hc hd =>
    refine ⟨b, off, rfl, hS, hb, vs k, fun j d hj => ⟨?_, hd k j r d hr hj⟩⟩
    rw [hn k r hr]
    exact hc k j r d hr hj

/-- The cells of a struct. -/
def FsAt (w : World) (S : Nat → Prop) : List Value → List Dt → Prop
  | [], [] => True
  | v :: vs, d :: ds => FAt w S v d ∧ FsAt w S vs ds
  | _, _ => False
theorem FsAt.kept {w w' : World} {S S' : Nat → Prop} (hw : ∀ b, S b → b < w.heap.size → w'.heap[b]? = w.heap[b]?) (hsz : w.heap.size ≤ w'.heap.size) (hS' : ∀ b, S b → b < w.heap.size → S' b) : ∀ {vs : List Value} {ds : List Dt}, FsAt w S vs ds → FsAt w' S' vs ds
  | [], [], _ => trivial
  | _ :: _, _ :: _, h => ⟨h.1.kept hw hsz hS', FsAt.kept hw hsz hS' h.2⟩
  | [], _ :: _, h => h.elim
  | _ :: _, [], h => h.elim
theorem FsAt.up {w w' : World} {S : Nat → Prop} {vs : List Value} {ds : List Dt} (h : FsAt w S vs ds) (hb : Below w.heap.size w w') : FsAt w' S vs ds :=
  h.kept (fun b _ hlt => hb.block b hlt) hb.size (fun _ h _ => h)
theorem FsAt.append {w : World} {S : Nat → Prop} : ∀ {vs us : List Value} {ds es : List Dt}, FsAt w S vs ds → FsAt w S us es → FsAt w S (vs ++ us) (ds ++ es)
  | [], _, [], _, _, h => h
  | _ :: _, _, _ :: _, _, h, k => ⟨h.1, FsAt.append h.2 k⟩
  | [], _, _ :: _, _, h, _ => h.elim
  | _ :: _, _, [], _, h, _ => h.elim

/-- A row whose elements are all of a kind. -/
def RowsOf (P : List Dt → Prop) (d : Dt) : Prop := ∃ xs : List (List Dt), d = .row xs ∧ ∀ (i : Nat) (r : List Dt), xs[i]? = some r → P r
theorem RowsOf.at {P : List Dt → Prop} {xs : List (List Dt)} (h : RowsOf P (.row xs)) {i : Nat} {r : List Dt} (hr : xs[i]? = some r) : P r := by
  obtain ⟨ys, e, hy⟩ := h
  cases e
  exact hy i r hr
def IsInt (d : Dt) : Prop := ∃ z, d = .int z
def IsStr (d : Dt) : Prop := ∃ b, d = .str b
end Go.Proofs.Ytlgnklpaebgnlaa
