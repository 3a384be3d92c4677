/-
  The program's Size, what its loop holds: what was reckoned is right, what is under way waits below what is within it.
-/
import Derived.Test.YtnhjfehkllaonabSamePure
namespace Go.Proofs.Ytnhjfehkllaonab
open Go.RowKit Go.Joins

set_option maxRecDepth 100000

structure Stp where
  p : Addr
  e : Ex
  done : Bool
def stpCells (L : List Stp) : List Value := L.flatMap fun t => [.pointer (some t.p), .bool t.done]
def stpSum : List Stp → Nat
  | [] => 0
  | t :: r => (if t.done then 1 else 2 * t.e.count) + stpSum r
theorem stpSum_app (a b : List Stp) : stpSum (a ++ b) = stpSum a + stpSum b := by
  induction a with
  | nil => simp [stpSum]
  | cons t r ih => rw [List.cons_append, stpSum, stpSum, ih]; omega
theorem stpSum_len : ∀ L : List Stp, L.length ≤ stpSum L
  | [] => Nat.zero_le _
  | t :: r => by
    have := stpSum_len r
    have := Ex.count_eq t.e
    rw [stpSum, List.length_cons]
    split <;> omega
theorem stpCells_app (a b : List Stp) : stpCells (a ++ b) = stpCells a ++ stpCells b := by simp [stpCells]
theorem stpCells_len (L : List Stp) : (stpCells L).length = L.length * 2 := by
  induction L with
  | nil => rfl
  | cons t r ih =>
    have e : stpCells (t :: r) = [.pointer (some t.p), .bool t.done] ++ stpCells r := by simp [stpCells]
    rw [e, List.length_append, ih, List.length_cons]; simp; omega
theorem stpCells_last {w : World} {base : Nat} {e : TypeId} {v : Value} {L : List Stp} {t : Stp} (h : w.ownsRow base e 2 v (L ++ [t]).length (stpCells (L ++ [t]))) : ∃ g cap, v = .slice (some ⟨g, 0, none⟩) (L.length + 1) cap ∧ L.length + 1 ≤ cap ∧ cap ≤ maxLen ∧ base ≤ g ∧
    w.cell? ⟨g, L.length * 2, none⟩ = some (.pointer (some t.p)) ∧ w.cell? ⟨g, L.length * 2 + 1, none⟩ = some (.bool t.done) ∧ w.ownsRow base e 2 (.slice (some ⟨g, 0, none⟩) L.length cap) L.length (stpCells L) := by
  have h0 := h
  obtain ⟨hl, h | ⟨g, cap, cur, hv, hb, hc, h1, h2, h3, h4⟩⟩ := h
  · have := h.2; simp at this
  · have hlen : (L ++ [t]).length = L.length + 1 := by simp
    rw [hlen] at hv h1 h4
    have hcell : ∀ j u, (stpCells (L ++ [t]))[j]? = some u → w.cell? ⟨g, j, none⟩ = some u := by
      intro j u hj
      rw [cell_of_block hc, ← Array.getElem?_toList]
      rw [← h4, List.getElem?_take] at hj
      split at hj
      · exact hj
      · cases hj
    refine ⟨g, cap, hv, h1, h2, hb, hcell _ _ ?_, hcell _ _ ?_, ?_⟩
    · rw [stpCells_app, List.getElem?_append_right (by rw [stpCells_len]; omega), stpCells_len]; simp [stpCells]
    · rw [stpCells_app, List.getElem?_append_right (by rw [stpCells_len]; omega), stpCells_len]; simp [stpCells]
    · rw [hv, hlen, stpCells_app] at h0
      exact ownsRow_cut h0 (stpCells_len L) (by decide)
theorem stpCells_none {w : World} {base : Nat} {e : TypeId} {v : Value} (h : w.ownsRow base e 2 v 0 (stpCells [])) : ∃ a cap, v = .slice a 0 cap := by
  obtain ⟨hl, h | ⟨g, cap, cur, hv, hb, hc, h1, h2, h3, h4⟩⟩ := h
  · exact ⟨none, 0, h.1⟩
  · exact ⟨_, _, hv⟩

def cnt (e : Ex) : Value := .int .i64 e.count
def ptr (p : Addr) : Value := .pointer (some p)
theorem ptr_inj {p q : Addr} (h : ptr p = ptr q) : p = q := by simpa [ptr] using h
def Got (f : Value → Option Value) (L : List Stp) (q : Addr) (k : Ex) : Prop := f (ptr q) = some (cnt k) ∨ ∃ t ∈ L, t.p = q
/-- All that the map holds is right. -/
def Fin (w : World) (f : Value → Option Value) : Prop := ∀ k u, f k = some u → ∃ p d e, k = ptr p ∧ NodeAt w d p e ∧ u = cnt e

structure Sz (w : World) (root : Addr) (er : Ex) (L : List Stp) (f : Value → Option Value) : Prop where
  nodes : ∀ t ∈ L, ∃ d, NodeAt w d t.p t.e
  vals : ∀ k u, f k = some u → ∃ p d e, k = ptr p ∧ NodeAt w d p e ∧ (u = cnt e ∨ (u = .int .i64 0 ∧ ∃ t ∈ L, t.done = true ∧ t.p = p))
  order : L.Pairwise (fun s t => s.done = true → t.e.count < s.e.count)
  kids : ∀ (j : Nat) (s : Stp), L[j]? = some s → s.done = true → ∀ (i : Nat) (k : Ex) (b o : Nat), s.e.kids[i]? = some k → RowOf w s.p b o → Got f (L.drop (j + 1)) ⟨b, o + i * 4, none⟩ k
  rootN : ∃ d, NodeAt w d root er
  root : Got f L root er

theorem Sz.start {w : World} {root : Addr} {er : Ex} {d : Nat} {f : Value → Option Value} (hn : NodeAt w d root er) (hf : Fin w f) : Sz w root er [⟨root, er, false⟩] f := by
  refine ⟨fun t ht => by obtain rfl := List.mem_singleton.1 ht; exact ⟨d, hn⟩, fun k u hk => ?_, by simp, fun j s hs hd => ?_, ⟨d, hn⟩, Or.inr ⟨⟨root, er, false⟩, by simp, rfl⟩⟩
  · obtain ⟨p, d', e, h1, h2, h3⟩ := hf k u hk
    exact ⟨p, d', e, h1, h2, Or.inl h3⟩
  · cases j with
    | zero => simp at hs; subst hs; cases hd
    | succ j => simp at hs
theorem Sz.fin {w : World} {root : Addr} {er : Ex} {f : Value → Option Value} (h : Sz w root er [] f) : Fin w f ∧ f (ptr root) = some (cnt er) := by
  refine ⟨fun k u hk => ?_, ?_⟩
  · obtain ⟨p, d, e, h1, h2, h3 | ⟨_, t, ht, _⟩⟩ := h.vals k u hk
    · exact ⟨p, d, e, h1, h2, h3⟩
    · simp at ht
  · rcases h.root with h1 | ⟨t, ht, _⟩
    · exact h1
    · simp at ht

/-- What lies on top is under way: all its kids are reckoned. -/
theorem Sz.top {w : World} {root : Addr} {er : Ex} {A : List Stp} {s : Stp} {f : Value → Option Value} (h : Sz w root er (A ++ [s]) f) (hd : s.done = true) {i : Nat} {k : Ex} {b o : Nat} (hk : s.e.kids[i]? = some k) (hr : RowOf w s.p b o) : f (ptr ⟨b, o + i * 4, none⟩) = some (cnt k) := by
  rcases h.kids A.length s (by simp) hd i k b o hk hr with h1 | ⟨t, ht, _⟩
  · exact h1
  · simp at ht

/-- Whoever waited for s and finds its number gets it. -/
theorem Sz.less {w : World} {root : Addr} {er : Ex} {A : List Stp} {s : Stp} {f f' : Value → Option Value} (h : Sz w root er (A ++ [s]) f) (hs : f' (ptr s.p) = some (cnt s.e)) (ho : ∀ k, k ≠ ptr s.p → f' k = f k) : Sz w root er A f' := by
  obtain ⟨ds, hns⟩ := h.nodes s (by simp)
  have got : ∀ (B : List Stp) (q : Addr) (k : Ex), (∃ d, NodeAt w d q k) → Got f (B ++ [s]) q k → Got f' B q k := by
    rintro B q k ⟨d, hq⟩ hg
    by_cases hqs : q = s.p
    · subst hqs
      obtain rfl := hq.count hns
      exact Or.inl hs
    · rcases hg with hg | ⟨t, ht, rfl⟩
      · exact Or.inl (by rw [ho _ (fun e => hqs (ptr_inj e))]; exact hg)
      · rcases List.mem_append.1 ht with ht | ht
        · exact Or.inr ⟨t, ht, rfl⟩
        · obtain rfl := List.mem_singleton.1 ht; exact absurd rfl hqs
  refine ⟨fun t ht => h.nodes t (List.mem_append_left _ ht), fun k u hk => ?_, (List.pairwise_append.1 h.order).1, fun j t ht hd i k b o hk hr => ?_, h.rootN, got _ _ _ h.rootN h.root⟩
  · by_cases hks : k = ptr s.p
    · subst hks
      rw [hs] at hk
      cases hk
      exact ⟨s.p, ds, s.e, rfl, hns, Or.inl rfl⟩
    · rw [ho _ hks] at hk
      obtain ⟨p, d, e, h1, h2, h3⟩ := h.vals k u hk
      refine ⟨p, d, e, h1, h2, h3.imp id fun ⟨h4, t, ht, h5, h6⟩ => ⟨h4, t, ?_, h5, h6⟩⟩
      rcases List.mem_append.1 ht with ht | ht
      · exact ht
      · obtain rfl := List.mem_singleton.1 ht
        exact absurd (by rw [h1, h6]) hks
  · have hj : j < A.length := (List.getElem?_eq_some_iff.1 ht).1
    have h1 := h.kids j t (by rw [List.getElem?_append_left hj]; exact ht) hd i k b o hk hr
    rw [List.drop_append_of_le_length (by omega)] at h1
    obtain ⟨d, hn⟩ := h.nodes t (List.mem_append_left _ (List.mem_of_getElem? ht))
    obtain ⟨d', b', o', _, hr', hn'⟩ := hn.kid hk
    obtain ⟨rfl, rfl⟩ := hr.one hr'
    exact got _ _ _ ⟨d', hn'⟩ h1

/-- What was begun, and is met again, is reckoned already: nothing stands within itself. -/
theorem Sz.begun {w : World} {root : Addr} {er : Ex} {A : List Stp} {s : Stp} {f : Value → Option Value} (h : Sz w root er (A ++ [s]) f) (hd : s.done = false) {u : Value} (hu : f (ptr s.p) = some u) : u = cnt s.e := by
  obtain ⟨ds, hns⟩ := h.nodes s (by simp)
  obtain ⟨p, d, e, h1, h2, h3 | ⟨_, t, ht, h5, h6⟩⟩ := h.vals _ u hu
  · obtain rfl := ptr_inj h1
    obtain rfl := h2.count hns
    exact h3
  · obtain rfl := ptr_inj h1
    rcases List.mem_append.1 ht with ht | ht
    · have := (List.pairwise_append.1 h.order).2.2 t ht s (by simp) h5
      obtain ⟨dt, hnt⟩ := h.nodes t (List.mem_append_left _ ht)
      rw [h6] at hnt
      rw [hnt.count hns] at this
      omega
    · obtain rfl := List.mem_singleton.1 ht
      rw [hd] at h5
      cases h5

def kidStp (b o : Nat) (e : Ex) (i : Nat) : Stp := ⟨⟨b, o + i * 4, none⟩, (e.kids[i]?).getD noEx, false⟩
def kidStps (b o : Nat) (e : Ex) (n : Nat) : List Stp := (List.range n).map (kidStp b o e)
theorem kidStps_succ (b o : Nat) (e : Ex) (n : Nat) : kidStps b o e (n + 1) = kidStps b o e n ++ [kidStp b o e n] := by simp [kidStps, List.range_succ]
theorem kidStps_len (b o : Nat) (e : Ex) (n : Nat) : (kidStps b o e n).length = n := by simp [kidStps]
theorem kidStps_sum (b o : Nat) (e : Ex) : ∀ n, n ≤ e.kids.length → stpSum (kidStps b o e n) = 2 * Ex.countL (e.kids.take n)
  | 0, _ => by simp [kidStps, stpSum, Ex.countL]
  | n + 1, h => by
    have hn : n < e.kids.length := h
    rw [kidStps_succ, stpSum_app, kidStps_sum b o e n (by omega), Ex.countL_take e.kids n _ (List.getElem?_eq_getElem hn)]
    simp [stpSum, kidStp, List.getElem?_eq_getElem hn]
    omega
theorem Ex.countL_mem : ∀ {ks : List Ex} {k : Ex} {i : Nat}, ks[i]? = some k → k.count ≤ Ex.countL ks
  | [], _, _, h => by simp at h
  | a :: r, k, 0, h => by
    obtain rfl : a = k := by simpa using h
    rw [Ex.countL]; omega
  | a :: r, k, i + 1, h => by
    have := Ex.countL_mem (ks := r) (i := i) (by simpa using h)
    rw [Ex.countL]; omega

/-- A new one is under way, its kids wait above it. -/
theorem Sz.push {w : World} {root : Addr} {er : Ex} {A : List Stp} {s : Stp} {f : Value → Option Value} (h : Sz w root er (A ++ [s]) f) (hd : s.done = false) (hn : f (ptr s.p) = none) {b o : Nat} (hr : 0 < s.e.kids.length → RowOf w s.p b o) :
    Sz w root er (A ++ (⟨s.p, s.e, true⟩ :: kidStps b o s.e s.e.kids.length)) (setAt f (ptr s.p) (.int .i64 0)) := by
  obtain ⟨ds, hns⟩ := h.nodes s (by simp)
  have hk : ∀ t ∈ kidStps b o s.e s.e.kids.length, t.done = false ∧ t.e.count < s.e.count ∧ ∃ d, NodeAt w d t.p t.e := by
    intro t ht
    obtain ⟨i, hi, rfl⟩ := List.mem_map.1 ht
    have hi := List.mem_range.1 hi
    have ge := List.getElem?_eq_getElem hi
    obtain ⟨d1, b1, o1, _, hr1, hn1⟩ := hns.kid ge
    obtain ⟨rfl, rfl⟩ := (hr (by omega)).one hr1
    have h1 := Ex.countL_mem ge
    have h2 := Ex.count_eq s.e
    refine ⟨rfl, ?_, d1, ?_⟩
    · simp only [kidStp, ge, Option.getD_some]; omega
    · simpa [kidStp, ge] using hn1
  have got : ∀ (B : List Stp) (q : Addr) (k : Ex), Got f (B ++ [s]) q k → Got (setAt f (ptr s.p) (.int .i64 0)) (B ++ (⟨s.p, s.e, true⟩ :: kidStps b o s.e s.e.kids.length)) q k := by
    rintro B q k (hg | ⟨t, ht, rfl⟩)
    · have hne : ptr q ≠ ptr s.p := by intro e; rw [e, hn] at hg; cases hg
      exact Or.inl (by rw [setAt_other _ _ _ hne]; exact hg)
    · rcases List.mem_append.1 ht with ht | ht
      · exact Or.inr ⟨t, List.mem_append_left _ ht, rfl⟩
      · obtain rfl := List.mem_singleton.1 ht
        exact Or.inr ⟨⟨t.p, t.e, true⟩, by simp, rfl⟩
  have ord := List.pairwise_append.1 h.order
  refine ⟨fun t ht => ?_, fun k u hku => ?_, ?_, fun j t ht htd i k b' o' hkk hrr => ?_, h.rootN, got _ _ _ h.root⟩
  · rcases List.mem_append.1 ht with ht | ht
    · exact h.nodes t (List.mem_append_left _ ht)
    · rcases List.mem_cons.1 ht with rfl | ht
      · exact ⟨ds, hns⟩
      · exact (hk t ht).2.2
  · by_cases hks : k = ptr s.p
    · subst hks
      rw [setAt_same] at hku
      cases hku
      exact ⟨s.p, ds, s.e, rfl, hns, Or.inr ⟨rfl, ⟨s.p, s.e, true⟩, by simp, rfl, rfl⟩⟩
    · rw [setAt_other _ _ _ hks] at hku
      obtain ⟨p, d, e, h1, h2, h3⟩ := h.vals k u hku
      refine ⟨p, d, e, h1, h2, h3.imp id fun ⟨h4, t, ht, h5, h6⟩ => ⟨h4, t, ?_, h5, h6⟩⟩
      rcases List.mem_append.1 ht with ht | ht
      · exact List.mem_append_left _ ht
      · obtain rfl := List.mem_singleton.1 ht
        rw [hd] at h5
        cases h5
  · refine List.pairwise_append.2 ⟨ord.1, List.pairwise_cons.2 ⟨fun t ht _ => (hk t ht).2.1, ?_⟩, fun a ha t ht hda => ?_⟩
    · refine List.Pairwise.imp_of_mem (R := fun _ _ => True) ?_ (List.pairwise_of_forall (fun _ _ => trivial))
      intro a t ha _ _ hda
      rw [(hk a ha).1] at hda
      cases hda
    · have h1 := ord.2.2 a ha s (by simp) hda
      rcases List.mem_cons.1 ht with rfl | ht
      · exact h1
      · have := (hk t ht).2.1; omega
  · by_cases hj : j < A.length
    · rw [List.getElem?_append_left hj] at ht
      have h1 := h.kids j t (by rw [List.getElem?_append_left hj]; exact ht) htd i k b' o' hkk hrr
      rw [List.drop_append_of_le_length (by omega)] at h1 ⊢
      exact got _ _ _ h1
    · rw [List.getElem?_append_right (by omega)] at ht
      by_cases hj0 : j = A.length
      · subst hj0
        simp at ht
        subst ht
        have hi : i < s.e.kids.length := (List.getElem?_eq_some_iff.1 hkk).1
        obtain ⟨rfl, rfl⟩ := (hr (by omega)).one hrr
        refine Or.inr ⟨kidStp b o s.e i, ?_, rfl⟩
        rw [List.drop_append, List.drop_eq_nil_of_le (by omega)]
        simp only [List.nil_append]
        rw [show A.length + 1 - A.length = 1 by omega, List.drop_succ_cons, List.drop_zero]
        exact List.mem_map.2 ⟨i, List.mem_range.2 hi, rfl⟩
      · obtain ⟨m, hm⟩ : ∃ m, j - A.length = m + 1 := ⟨j - A.length - 1, by omega⟩
        rw [hm, List.getElem?_cons_succ] at ht
        rw [(hk t (List.mem_of_getElem? ht)).1] at htd
        cases htd

/-- A pointer into a plain block below N. -/
def PtrN (N : Nat) (w : World) (v : Value) : Prop := ∃ a : Addr, v = .pointer (some a) ∧ a.block < N ∧ Pl w a.block
theorem PtrN.keys {P : Program} {k : TypeId} (K : KeysGo P k PtrK) (N : Nat) : KeysGo P k (PtrN N) :=
  K.sub (fun _ _ ⟨a, hv, _, ha⟩ => ⟨a, hv, ha⟩) (fun _ _ _ hg ⟨a, hv, h1, ha⟩ => ⟨a, hv, h1, hg _ ha⟩)
theorem PtrN.kept {N : Nat} {w w' : World} {v : Value} (h : PtrN N w v) (hb : ∀ b, b < N → w'.heap[b]? = w.heap[b]?) : PtrN N w' v := by
  obtain ⟨a, hv, h1, ha⟩ := h
  exact ⟨a, hv, h1, ha.of (hb _ h1)⟩
end Go.Proofs.Ytnhjfehkllaonab
