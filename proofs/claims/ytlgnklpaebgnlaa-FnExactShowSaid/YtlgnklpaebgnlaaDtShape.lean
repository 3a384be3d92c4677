/-
  The shapes of the laws' types over data of any shape, and what the laws' sz, to and eq do at them.
-/
import Derived.Test.YtlgnklpaebgnlaaDtOwn
namespace Go.Proofs.Ytlgnklpaebgnlaa
open Go.RowKit Go.Joins

set_option maxRecDepth 100000

def AllR (P : List Dt → Prop) (xs : List (List Dt)) : Prop := ∀ (i : Nat) (r : List Dt), xs[i]? = some r → P r
theorem AllR.len {P : List Dt → Prop} {n : Nat} {xs : List (List Dt)} (h : AllR P xs) (hP : ∀ r, P r → r.length = n) : ∀ (i : Nat) (r : List Dt), xs[i]? = some r → r.length = n := fun i r hr => hP r (h i r hr)
def IntR (r : List Dt) : Prop := ∃ z : Int, r = [.int z]
def StringR (r : List Dt) : Prop := ∃ b : ByteArray, r = [.str b]
theorem IntR.len (r : List Dt) (h : IntR r) : r.length = 1 := by obtain ⟨z, rfl⟩ := h; rfl
theorem StringR.len (r : List Dt) (h : StringR r) : r.length = 1 := by obtain ⟨z, rfl⟩ := h; rfl
def CodeR (r : List Dt) : Prop := ∃ (z0 : Int) (z1 : Int) (b2 : ByteArray) (x3 : List (List Dt)), r = [.int z0, .int z1, .str b2, .row x3] ∧ AllR IntR x3
theorem CodeR.len (r : List Dt) (h : CodeR r) : r.length = 4 := by obtain ⟨z0, z1, b2, x3, rfl, _q3⟩ := h; rfl
def TableR (r : List Dt) : Prop := ∃ (x0 : List (List Dt)) (x1 : List (List Dt)), r = [.row x0, .row x1] ∧ AllR CodeR x0 ∧ AllR IntR x1
theorem TableR.len (r : List Dt) (h : TableR r) : r.length = 2 := by obtain ⟨x0, x1, rfl, _q0, _q1⟩ := h; rfl
def CellR (r : List Dt) : Prop := ∃ (z0 : Int) (z1 : Int) (z2 : Int) (x3 : List (List Dt)), r = [.int z0, .int z1, .int z2, .row x3] ∧ AllR IntR x3
theorem CellR.len (r : List Dt) (h : CellR r) : r.length = 4 := by obtain ⟨z0, z1, z2, x3, rfl, _q3⟩ := h; rfl
def FrameR (r : List Dt) : Prop := ∃ (z0 : Int) (z1 : Int) (z2 : Int) (x3 : List (List Dt)), r = [.int z0, .int z1, .int z2, .row x3] ∧ AllR IntR x3
theorem FrameR.len (r : List Dt) (h : FrameR r) : r.length = 4 := by obtain ⟨z0, z1, z2, x3, rfl, _q3⟩ := h; rfl
def ThreadR (r : List Dt) : Prop := ∃ (z0 : Int) (z1 : Int) (x2 : List (List Dt)) (x3 : List (List Dt)) (b4 : ByteArray), r = [.int z0, .int z1, .row x2, .row x3, .str b4] ∧ AllR IntR x2 ∧ AllR FrameR x3
theorem ThreadR.len (r : List Dt) (h : ThreadR r) : r.length = 5 := by obtain ⟨z0, z1, x2, x3, b4, rfl, _q2, _q3⟩ := h; rfl
def MsgR (r : List Dt) : Prop := ∃ (z0 : Int) (z1 : Int) (z2 : Int) (z3 : Int) (z4 : Int) (z5 : Int) (z6 : Int) (z7 : Int) (x8 : List (List Dt)), r = [.int z0, .int z1, .int z2, .int z3, .int z4, .int z5, .int z6, .int z7, .row x8] ∧ AllR IntR x8
theorem MsgR.len (r : List Dt) (h : MsgR r) : r.length = 9 := by obtain ⟨z0, z1, z2, z3, z4, z5, z6, z7, x8, rfl, _q8⟩ := h; rfl
def MachineR (r : List Dt) : Prop := ∃ (x0 : List (List Dt)) (x1 : List (List Dt)) (x2 : List (List Dt)) (x3 : List (List Dt)) (x4 : List (List Dt)) (x5 : List (List Dt)) (x6 : List (List Dt)), r = [.row x0, .row x1, .row x2, .row x3, .row x4, .row x5, .row x6] ∧ AllR CodeR x0 ∧ AllR IntR x1 ∧ AllR CellR x2 ∧ AllR ThreadR x3 ∧ AllR IntR x4 ∧ AllR IntR x5 ∧ AllR MsgR x6
theorem MachineR.len (r : List Dt) (h : MachineR r) : r.length = 7 := by obtain ⟨x0, x1, x2, x3, x4, x5, x6, rfl, _q0, _q1, _q2, _q3, _q4, _q5, _q6⟩ := h; rfl
def SentR (r : List Dt) : Prop := ∃ (z0 : Int) (z1 : Int) (b2 : ByteArray), r = [.int z0, .int z1, .str b2]
theorem SentR.len (r : List Dt) (h : SentR r) : r.length = 3 := by obtain ⟨z0, z1, b2, rfl⟩ := h; rfl
def SeenR (r : List Dt) : Prop := ∃ (z0 : Int) (x1 : List (List Dt)), r = [.int z0, .row x1] ∧ AllR IntR x1
theorem SeenR.len (r : List Dt) (h : SeenR r) : r.length = 2 := by obtain ⟨z0, x1, rfl, _q1⟩ := h; rfl
def LinkR (r : List Dt) : Prop := ∃ (z0 : Int) (z1 : Int) (x2 : List (List Dt)) (x3 : List (List Dt)), r = [.int z0, .int z1, .row x2, .row x3] ∧ AllR SentR x2 ∧ AllR SeenR x3
theorem LinkR.len (r : List Dt) (h : LinkR r) : r.length = 4 := by obtain ⟨z0, z1, x2, x3, rfl, _q2, _q3⟩ := h; rfl
def PeerR (r : List Dt) : Prop := ∃ (x0 : List (List Dt)) (x1 : List (List Dt)) (x2 : List (List Dt)) (x3 : List (List Dt)) (x4 : List (List Dt)) (x5 : List (List Dt)) (x6 : List (List Dt)) (z7 : Int) (z8 : Int) (x9 : List (List Dt)) (x10 : List (List Dt)), r = [.row x0, .row x1, .row x2, .row x3, .row x4, .row x5, .row x6, .int z7, .int z8, .row x9, .row x10] ∧ AllR CodeR x0 ∧ AllR IntR x1 ∧ AllR CellR x2 ∧ AllR ThreadR x3 ∧ AllR IntR x4 ∧ AllR IntR x5 ∧ AllR MsgR x6 ∧ AllR SentR x9 ∧ AllR SeenR x10
theorem PeerR.len (r : List Dt) (h : PeerR r) : r.length = 11 := by obtain ⟨x0, x1, x2, x3, x4, x5, x6, z7, z8, x9, x10, rfl, _q0, _q1, _q2, _q3, _q4, _q5, _q6, _q9, _q10⟩ := h; rfl
def ClusterR (r : List Dt) : Prop := ∃ (x0 : List (List Dt)) (x1 : List (List Dt)), r = [.row x0, .row x1] ∧ AllR PeerR x0 ∧ AllR StringR x1
theorem ClusterR.len (r : List Dt) (h : ClusterR r) : r.length = 2 := by obtain ⟨x0, x1, rfl, _q0, _q1⟩ := h; rfl
theorem fs1 {w : World} {S : Nat → Prop} {vs : List Value} {d0 : Dt} (h : FsAt w S vs [d0]) : ∃ v0, vs = [v0] ∧ FAt w S v0 d0 := by
  match vs, h with
  | [v0], ⟨h0, _⟩ => exact ⟨v0, rfl, h0⟩
theorem fs2 {w : World} {S : Nat → Prop} {vs : List Value} {d0 d1 : Dt} (h : FsAt w S vs [d0, d1]) : ∃ v0 v1, vs = [v0, v1] ∧ FAt w S v0 d0 ∧ FAt w S v1 d1 := by
  match vs, h with
  | [v0, v1], ⟨h0, h1, _⟩ => exact ⟨v0, v1, rfl, h0, h1⟩
theorem fs3 {w : World} {S : Nat → Prop} {vs : List Value} {d0 d1 d2 : Dt} (h : FsAt w S vs [d0, d1, d2]) : ∃ v0 v1 v2, vs = [v0, v1, v2] ∧ FAt w S v0 d0 ∧ FAt w S v1 d1 ∧ FAt w S v2 d2 := by
  match vs, h with
  | [v0, v1, v2], ⟨h0, h1, h2, _⟩ => exact ⟨v0, v1, v2, rfl, h0, h1, h2⟩
theorem fs4 {w : World} {S : Nat → Prop} {vs : List Value} {d0 d1 d2 d3 : Dt} (h : FsAt w S vs [d0, d1, d2, d3]) : ∃ v0 v1 v2 v3, vs = [v0, v1, v2, v3] ∧ FAt w S v0 d0 ∧ FAt w S v1 d1 ∧ FAt w S v2 d2 ∧ FAt w S v3 d3 := by
  match vs, h with
  | [v0, v1, v2, v3], ⟨h0, h1, h2, h3, _⟩ => exact ⟨v0, v1, v2, v3, rfl, h0, h1, h2, h3⟩
theorem fs5 {w : World} {S : Nat → Prop} {vs : List Value} {d0 d1 d2 d3 d4 : Dt} (h : FsAt w S vs [d0, d1, d2, d3, d4]) : ∃ v0 v1 v2 v3 v4, vs = [v0, v1, v2, v3, v4] ∧ FAt w S v0 d0 ∧ FAt w S v1 d1 ∧ FAt w S v2 d2 ∧ FAt w S v3 d3 ∧ FAt w S v4 d4 := by
  match vs, h with
  | [v0, v1, v2, v3, v4], ⟨h0, h1, h2, h3, h4, _⟩ => exact ⟨v0, v1, v2, v3, v4, rfl, h0, h1, h2, h3, h4⟩
theorem fs7 {w : World} {S : Nat → Prop} {vs : List Value} {d0 d1 d2 d3 d4 d5 d6 : Dt} (h : FsAt w S vs [d0, d1, d2, d3, d4, d5, d6]) : ∃ v0 v1 v2 v3 v4 v5 v6, vs = [v0, v1, v2, v3, v4, v5, v6] ∧ FAt w S v0 d0 ∧ FAt w S v1 d1 ∧ FAt w S v2 d2 ∧ FAt w S v3 d3 ∧ FAt w S v4 d4 ∧ FAt w S v5 d5 ∧ FAt w S v6 d6 := by
  match vs, h with
  | [v0, v1, v2, v3, v4, v5, v6], ⟨h0, h1, h2, h3, h4, h5, h6, _⟩ => exact ⟨v0, v1, v2, v3, v4, v5, v6, rfl, h0, h1, h2, h3, h4, h5, h6⟩
theorem fs9 {w : World} {S : Nat → Prop} {vs : List Value} {d0 d1 d2 d3 d4 d5 d6 d7 d8 : Dt} (h : FsAt w S vs [d0, d1, d2, d3, d4, d5, d6, d7, d8]) : ∃ v0 v1 v2 v3 v4 v5 v6 v7 v8, vs = [v0, v1, v2, v3, v4, v5, v6, v7, v8] ∧ FAt w S v0 d0 ∧ FAt w S v1 d1 ∧ FAt w S v2 d2 ∧ FAt w S v3 d3 ∧ FAt w S v4 d4 ∧ FAt w S v5 d5 ∧ FAt w S v6 d6 ∧ FAt w S v7 d7 ∧ FAt w S v8 d8 := by
  match vs, h with
  | [v0, v1, v2, v3, v4, v5, v6, v7, v8], ⟨h0, h1, h2, h3, h4, h5, h6, h7, h8, _⟩ => exact ⟨v0, v1, v2, v3, v4, v5, v6, v7, v8, rfl, h0, h1, h2, h3, h4, h5, h6, h7, h8⟩
theorem fs11 {w : World} {S : Nat → Prop} {vs : List Value} {d0 d1 d2 d3 d4 d5 d6 d7 d8 d9 d10 : Dt} (h : FsAt w S vs [d0, d1, d2, d3, d4, d5, d6, d7, d8, d9, d10]) : ∃ v0 v1 v2 v3 v4 v5 v6 v7 v8 v9 v10, vs = [v0, v1, v2, v3, v4, v5, v6, v7, v8, v9, v10] ∧ FAt w S v0 d0 ∧ FAt w S v1 d1 ∧ FAt w S v2 d2 ∧ FAt w S v3 d3 ∧ FAt w S v4 d4 ∧ FAt w S v5 d5 ∧ FAt w S v6 d6 ∧ FAt w S v7 d7 ∧ FAt w S v8 d8 ∧ FAt w S v9 d9 ∧ FAt w S v10 d10 := by
  match vs, h with
  | [v0, v1, v2, v3, v4, v5, v6, v7, v8, v9, v10], ⟨h0, h1, h2, h3, h4, h5, h6, h7, h8, h9, h10, _⟩ => exact ⟨v0, v1, v2, v3, v4, v5, v6, v7, v8, v9, v10, rfl, h0, h1, h2, h3, h4, h5, h6, h7, h8, h9, h10⟩

/-- What sz does at a struct. -/
def SzC (f : FuncId) (P : List Dt → Prop) : Prop := ∀ (vs : List Value) (r : List Dt) (S : Nat → Prop) (w : World) (left : Int), P r → FsAt w S vs r → 0 ≤ left → left ≤ 1048576 →
  Calls Try.prog f #[.agg vs.toArray, .int .i64 left] w fun e w' => e = .returned (.int .i64 (szR left (Dt.bulkR r))) ∧ Below w.heap.size w w'
def SzS (f : FuncId) (P : List Dt → Prop) : Prop := ∀ (v : Value) (xs : List (List Dt)) (S : Nat → Prop) (w : World) (left : Int), AllR P xs → FAt w S v (.row xs) → 0 ≤ left → left ≤ 1048576 →
  Calls Try.prog f #[v, .int .i64 left] w fun e w' => e = .returned (.int .i64 (szR left (Dt.bulkS xs))) ∧ Below w.heap.size w w'
def ToC (f : FuncId) (P : List Dt → Prop) : Prop := ∀ (vs : List Value) (r : List Dt) (S : Nat → Prop) (w : World), P r → FsAt w S vs r → Dt.bulkR r ≤ 1048576 →
  Calls Try.prog f #[.agg vs.toArray] w fun e w' => ∃ us : List Value, e = .returned (.agg us.toArray) ∧ OFs w' us r (Btw w.heap.size w'.heap.size) ∧ Below w.heap.size w w'
def ToS (f : FuncId) (P : List Dt → Prop) : Prop := ∀ (v : Value) (xs : List (List Dt)) (S : Nat → Prop) (w : World), AllR P xs → FAt w S v (.row xs) → Dt.bulkS xs ≤ 1048576 →
  Calls Try.prog f #[v] w fun e w' => ∃ u : Value, e = .returned u ∧ Own w' u (.row xs) (Btw w.heap.size w'.heap.size) ∧ Below w.heap.size w w'
def EqC (f : FuncId) (P : List Dt → Prop) : Prop := ∀ (vs us : List Value) (r : List Dt) (S1 S2 : Nat → Prop) (w : World), P r → FsAt w S1 vs r → FsAt w S2 us r → Dt.bulkR r ≤ 4194304 →
  Calls Try.prog f #[.agg vs.toArray, .agg us.toArray] w fun e w' => e = .returned (.bool true) ∧ Below w.heap.size w w'
def EqS (f : FuncId) (P : List Dt → Prop) : Prop := ∀ (v u : Value) (xs : List (List Dt)) (S1 S2 : Nat → Prop) (w : World), AllR P xs → FAt w S1 v (.row xs) → FAt w S2 u (.row xs) → Dt.bulkS xs ≤ 4194304 →
  Calls Try.prog f #[v, u] w fun e w' => e = .returned (.bool true) ∧ Below w.heap.size w w'
end Go.Proofs.Ytlgnklpaebgnlaa
