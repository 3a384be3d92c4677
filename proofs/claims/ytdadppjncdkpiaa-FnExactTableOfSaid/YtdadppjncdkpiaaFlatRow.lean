/-
  A row of codes that a call makes: how it grows, and how a code gets its kids.
-/
import Derived.Test.YtdadppjncdkpiaaTablePure
import Derived.Maps.AppendAt
import Derived.Laws.OwnMore
namespace Go.Proofs.Ytdadppjncdkpiaa
open Go.RowKit Go.Joins

set_option maxRecDepth 100000

/-- A block that is a row of numbers. -/
def PI (w : World) (b : Nat) : Prop := ∃ cs, w.heap[b]? = some (.cells cs 3 (0, 0))
/-- Kids of a code, in rows of numbers from B on, in blocks of Q. -/
def KAt (w : World) (B : Nat) (Q : Nat → Prop) (kv : Value) (zs : List Int) : Prop := IntsAt w (fun b => B ≤ b ∧ PI w b ∧ Q b) kv zs
def CdOk (c : Cd) : Prop := inI64 c.kind ∧ inI64 c.n ∧ c.text.size ≤ maxLen
def cdCells (r : Cd × Value) : List Value := [.int .i64 r.1.kind, .int .i64 r.1.n, .string r.1.text, r.2]
/-- A row of codes of the call's own. -/
def CRow (w : World) (B : Nat) (Q : Nat → Prop) (v : Value) (rs : List (Cd × Value)) : Prop :=
  w.ownsRow B 173 4 v rs.length (rs.flatMap cdCells) ∧ ∀ r ∈ rs, KAt w B Q r.2 r.1.kids ∧ CdOk r.1

/-- A block that is a row of codes. -/
def PC (w : World) (b : Nat) : Prop := ∃ cs, w.heap[b]? = some (.cells cs 173 (0, 0))
theorem PI.ne {w : World} {b g : Nat} (h : PI w b) (hg : PC w g) : b ≠ g := by
  rintro rfl
  obtain ⟨cs, h1⟩ := h
  obtain ⟨cs', h2⟩ := hg
  rw [h1] at h2
  simp at h2
theorem own_PC {w : World} {B n : Nat} {v : Value} {xs : List Value} (h : w.ownsRow B 173 4 v n xs) : ∀ g, v.ownBlock = some g → PC w g := by
  intro g hg
  rcases h.2 with ⟨rfl, _⟩ | ⟨g', cap, cur, rfl, _, hc, _⟩
  · simp [Value.ownBlock] at hg
  · simp [Value.ownBlock] at hg; subst hg; exact ⟨cur, hc⟩
theorem own_PI {w : World} {B n : Nat} {v : Value} {xs : List Value} (h : w.ownsRow B 3 1 v n xs) : ∀ g, v.ownBlock = some g → PI w g := by
  intro g hg
  rcases h.2 with ⟨rfl, _⟩ | ⟨g', cap, cur, rfl, _, hc, _⟩
  · simp [Value.ownBlock] at hg
  · simp [Value.ownBlock] at hg; subst hg; exact ⟨cur, hc⟩

theorem KAt.keptQ {w w' : World} {B : Nat} {Q Q' : Nat → Prop} {kv : Value} {zs : List Int} {row : Option Nat} (h : KAt w B Q kv zs) (hg : w.grownBy w' row) (hr : ∀ b, PI w b → Q b → some b ≠ row) (hQ : ∀ b, Q b → b < w.heap.size → Q' b) : KAt w' B Q' kv zs := by
  refine IntsAt.kept (fun b hb hlt => hg.block b hlt (hr b hb.2.1 hb.2.2)) hg.size (fun b hb hlt => ⟨hb.1, ?_, hQ b hb.2.2 hlt⟩) h
  obtain ⟨cs, hc⟩ := hb.2.1
  exact ⟨cs, (hg.block b hlt (hr b hb.2.1 hb.2.2)).trans hc⟩
theorem KAt.kept {w w' : World} {B : Nat} {Q Q' : Nat → Prop} {kv : Value} {zs : List Int} {row : Option Nat} (h : KAt w B Q kv zs) (hg : w.grownBy w' row) (hr : ∀ g, row = some g → PC w g) (hQ : ∀ b, Q b → b < w.heap.size → Q' b) : KAt w' B Q' kv zs :=
  h.keptQ hg (fun b hb _ e => hb.ne (hr b e.symm) rfl) hQ
theorem KAt.nil (w : World) (B : Nat) (Q : Nat → Prop) : KAt w B Q (.slice none 0 0) [] := ⟨none, 0, rfl, Nat.zero_le _, fun i t h => by simp at h⟩
theorem KAt.of_row {w : World} {B : Nat} {Q : Nat → Prop} {kv : Value} {zs : List Int} (h : w.ownsRow B 3 1 kv zs.length (zs.map (fun z => Value.int .i64 z))) (hz : ∀ z ∈ zs, inI64 z) (hQ : ∀ g, kv.ownBlock = some g → Q g) : KAt w B Q kv zs := by
  rcases h.2 with ⟨rfl, h0⟩ | ⟨g, cap, cur, rfl, hb, hc, hn, hcm, hs, ht⟩
  · obtain rfl : zs = [] := List.length_eq_zero_iff.1 h0
    exact KAt.nil w B Q
  · refine ⟨_, _, rfl, Nat.le_trans hn hcm, fun i z hi => ⟨g, 0, rfl, ⟨hb, ⟨cur, hc⟩, hQ g rfl⟩, (Array.getElem?_eq_some_iff.1 hc).1, ?_, hz z (List.mem_of_getElem? hi)⟩⟩
    have := h.cells (g := g) rfl i (.int .i64 z) (by rw [List.getElem?_map, hi]; rfl)
    rw [addr_addI] at this
    simpa using this

theorem cells_len (rs : List (Cd × Value)) : (rs.flatMap cdCells).length = rs.length * 4 := by
  induction rs with
  | nil => rfl
  | cons a r ih => rw [List.flatMap_cons, List.length_append, ih, List.length_cons]; simp [cdCells]; omega

/-- The row stays where a row of numbers grows that none of it stands in. -/
theorem CRow.keptQ {w w' : World} {B : Nat} {Q Q' : Nat → Prop} {v : Value} {rs : List (Cd × Value)} {row : Option Nat} (h : CRow w B Q v rs) (hg : w.grownBy w' row) (hv : v.ownBlock = none ∨ v.ownBlock ≠ row) (hr : ∀ b, PI w b → Q b → some b ≠ row) (hQ : ∀ b, Q b → b < w.heap.size → Q' b) : CRow w' B Q' v rs :=
  ⟨h.1.kept hg hv, fun r hr' => ⟨(h.2 r hr').1.keptQ hg hr hQ, (h.2 r hr').2⟩⟩
theorem own_none (v : Value) : v.ownBlock = none ∨ v.ownBlock ≠ (none : Option Nat) := by
  cases v.ownBlock with
  | none => exact .inl rfl
  | some k => exact .inr (by simp)
theorem CRow.keptN {w w' : World} {B : Nat} {Q Q' : Nat → Prop} {v : Value} {rs : List (Cd × Value)} (h : CRow w B Q v rs) (hg : w.grownBy w' none) (hQ : ∀ b, Q b → b < w.heap.size → Q' b) : CRow w' B Q' v rs :=
  h.keptQ hg (own_none v) (fun b _ _ => by simp) hQ

/-- A code more. -/
theorem CRow.push {w w' : World} {B : Nat} {Q Q' : Nat → Prop} {v v' : Value} {rs : List (Cd × Value)} {c : Cd} (h : CRow w B Q v rs) (hown : w'.ownsRow B 173 4 v' (rs.length + 1) (rs.flatMap cdCells ++ cdCells (c, .slice none 0 0))) (hg : w.grownBy w' v.ownBlock) (hc : CdOk c) (hk : c.kids = []) (hQ : ∀ b, Q b → b < w.heap.size → Q' b) : CRow w' B Q' v' (rs ++ [(c, .slice none 0 0)]) := by
  refine ⟨?_, fun r hr => ?_⟩
  · rw [List.length_append, List.flatMap_append]
    simpa using hown
  · rw [List.mem_append] at hr
    rcases hr with hr | hr
    · exact ⟨(h.2 r hr).1.kept hg (own_PC h.1) hQ, (h.2 r hr).2⟩
    · simp at hr
      subst hr
      exact ⟨by show KAt w' B Q' (.slice none 0 0) c.kids; rw [hk]; exact KAt.nil w' B Q', hc⟩

theorem set_mid (pre post : List (Cd × Value)) (c c' : Cd) (kv : Value) (hk : c'.kind = c.kind) (hn : c'.n = c.n) (ht : c'.text = c.text) (u : Value) : ((pre ++ (c, u) :: post).flatMap cdCells).set (pre.length * 4 + 3) kv = (pre ++ (c', kv) :: post).flatMap cdCells := by
  rw [List.flatMap_append, List.flatMap_append, List.flatMap_cons, List.flatMap_cons, List.set_append_right _ _ (by rw [cells_len]; omega), cells_len]
  rw [show pre.length * 4 + 3 - pre.length * 4 = 3 by omega]
  simp [cdCells, hk, hn, ht]

/-- A code gets its kids. -/
theorem CRow.put {w : World} {B g cap n : Nat} {Q : Nat → Prop} {pre post : List (Cd × Value)} {c c' : Cd} {u kv : Value} (h : CRow w B Q (.slice (some ⟨g, 0, none⟩) n cap) (pre ++ (c, u) :: post)) (hlen : n = (pre ++ (c, u) :: post).length) (hk : c'.kind = c.kind) (hn : c'.n = c.n) (ht : c'.text = c.text) (hkv : KAt w B Q kv c'.kids) :
    CRow (w.setCell ⟨g, pre.length * 4 + 3, none⟩ kv) B Q (.slice (some ⟨g, 0, none⟩) n cap) (pre ++ (c', kv) :: post) ∧ w.grownBy (w.setCell ⟨g, pre.length * 4 + 3, none⟩ kv) (some g) := by
  have h1 := h.1
  rw [← hlen] at h1
  have hs := h1.stored (pre.length * 4 + 3) kv
  have hpc : PC w g := own_PC h1 g rfl
  have hq : ∀ b, Q b → b < w.heap.size → Q b := fun _ h _ => h
  refine ⟨⟨?_, fun r hr => ?_⟩, hs.2⟩
  · have := hs.1
    rw [set_mid pre post c c' kv hk hn ht u] at this
    rw [show (pre ++ (c', kv) :: post).length = n by rw [hlen]; simp]
    exact this
  · have hpc' : ∀ g', some g = some g' → PC w g' := fun g' e => by cases e; exact hpc
    rw [List.mem_append, List.mem_cons] at hr
    rcases hr with hr | rfl | hr
    · have := h.2 r (by simp [hr])
      exact ⟨this.1.kept hs.2 hpc' hq, this.2⟩
    · have := (h.2 (c, u) (by simp)).2
      exact ⟨hkv.kept hs.2 hpc' hq, by unfold CdOk at *; rw [hk, hn, ht]; exact this⟩
    · have := h.2 r (by simp [hr])
      exact ⟨this.1.kept hs.2 hpc' hq, this.2⟩
end Go.Proofs.Ytdadppjncdkpiaa
