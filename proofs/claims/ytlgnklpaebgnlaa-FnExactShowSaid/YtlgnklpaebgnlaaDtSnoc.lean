/-
  A row that a call owns with one element more behind it; a family as a struct's cells.
-/
import Derived.Test.YtlgnklpaebgnlaaDtCopy
namespace Go.Proofs.Ytlgnklpaebgnlaa
open Go.RowKit Go.Joins

set_option maxRecDepth 100000

theorem OFs.mk {w : World} : ∀ {vs : List Value} {ds : List Dt} {X : Nat → Prop} (Y : Nat → Nat → Prop), vs.length = ds.length → (∀ j b, Y j b → X b) → (∀ j j' b, Y j b → Y j' b → j = j') → (∀ (j : Nat) (v : Value) (d : Dt), vs[j]? = some v → ds[j]? = some d → Own w v d (Y j)) → OFs w vs ds X
  | [], [], _, _, _, _, _, _ => trivial
  | v :: vs, d :: ds, X, Y, hl, hX, hd, ho => by
    refine ⟨Y 0, fun b => ∃ j, Y (j + 1) b, fun b hb => hX 0 b hb, fun b ⟨j, hb⟩ => hX _ b hb, fun b hb ⟨j, hb'⟩ => by have := hd 0 (j + 1) b hb hb'; omega, ho 0 v d rfl rfl, ?_⟩
    exact OFs.mk (fun j => Y (j + 1)) (by simpa using hl) (fun j b hb => ⟨j, hb⟩) (fun j j' b hb hb' => by have := hd _ _ b hb hb'; omega) (fun j v' d' hv hd' => ho (j + 1) v' d' (by simpa using hv) (by simpa using hd'))
  | [], _ :: _, _, _, hl, _, _, _ => by simp at hl
  | _ :: _, [], _, _, hl, _, _, _ => by simp at hl

theorem Own.blk {w : World} {v : Value} {d : Dt} {X : Nat → Prop} (h : Own w v d X) {b : Nat} (hb : v.ownBlock = some b) : X b := by
  cases h with
  | int z h => simp [Value.ownBlock] at hb
  | str b h => simp [Value.ownBlock] at hb
  | nil => simp [Value.ownBlock] at hb
  | row g cap m e' cur xs vs' Y' X hl' hcap' hs' hgX' => simp [Value.ownBlock] at hb; subst hb; exact hgX'
/-- One element more. -/
theorem Own.snoc {w w1 w2 : World} {v v' : Value} {xs : List (List Dt)} {X : Nat → Prop} {B n : Nat} {e : TypeId} {flat us : List Value} {r : List Dt} (h : Own w v (.row xs) X) (hf : w.ownsRow B e n v xs.length flat) (hN : ∀ (i : Nat) (r : List Dt), xs[i]? = some r → r.length = n)
    (hb : Below w.heap.size w w1) (ho : OFs w1 us r (Btw w.heap.size w1.heap.size)) (hr : r.length = n) (hown : w2.ownsRow B e n v' (xs.length + 1) (flat ++ us)) (hg : w1.grownBy w2 v.ownBlock) (hat : v'.ownBlock = v.ownBlock ∨ v'.ownBlock = some w1.heap.size) :
    Own w2 v' (.row (xs ++ [r])) (fun b => X b ∨ (w.heap.size ≤ b ∧ b < w2.heap.size)) := by
  -- the elements that were there
  obtain ⟨vs, Y, hc, hY, hdis⟩ : ∃ (vs : Nat → Nat → Value) (Y : Nat → Nat → Nat → Prop), (∀ (i j : Nat) (r : List Dt) (d : Dt), xs[i]? = some r → r[j]? = some d → flat[i * n + j]? = some (vs i j) ∧ Own w (vs i j) d (Y i j)) ∧ (∀ i j b, Y i j b → X b ∧ v.ownBlock ≠ some b ∧ b < w.heap.size) ∧ (∀ i j i' j' b, Y i j b → Y i' j' b → i = i' ∧ j = j') := by
    cases h with
    | nil => exact ⟨fun _ _ => .nilFunc, fun _ _ _ => False, fun i j r d h => by simp at h, fun _ _ _ h => h.elim, fun _ _ _ _ _ h => h.elim⟩
    | row g cap m e' cur xs vs Y X hl hcap hs hgX hblk hm hc hk hY hdis =>
      refine ⟨vs, fun i j b => Y i j b ∧ b < w.heap.size, fun i j rr d hrr hj => ⟨?_, (hk i j rr d hrr hj).dom⟩, fun i j b hb => ⟨(hY i j b hb.1).1, fun e => (hY i j b hb.1).2 (Option.some.inj e).symm, hb.2⟩, fun i j i' j' b h h' => hdis i j i' j' b h.1 h'.1⟩
      have hmn : m = n := (hm i rr hrr).symm.trans (hN i rr hrr)
      subst hmn
      have hcell := hc i j rr d hrr hj
      rcases hf.2 with ⟨h', _⟩ | ⟨g', cap', cur', h', _, hg2, _, _, _, ht⟩
      · cases h'
      · simp only [Value.slice.injEq, Option.some.injEq, Addr.mk.injEq, and_true, true_and] at h'
        obtain ⟨rfl, rfl⟩ := h'
        rw [hblk] at hg2
        cases hg2
        have hil := (List.getElem?_eq_some_iff.1 hrr).1
        have hjl : j < m := by have := (List.getElem?_eq_some_iff.1 hj).1; rw [hm i rr hrr] at this; exact this
        have := idx_le (n := m) hil
        rw [← ht, List.getElem?_take_of_lt (by omega)]
        simpa using hcell
  obtain ⟨hul, Z, z1, z2, z3⟩ := ho.fam
  have hfl := hf.1
  have stay : ∀ b, b < w1.heap.size → v.ownBlock ≠ some b → w2.heap[b]? = w1.heap[b]? := fun b hb' hne => hg.block b hb' (fun e => hne e.symm)
  have ownlt : ∀ b, v.ownBlock = some b → b < w.heap.size := fun b hb' => own_lt hf b hb'
  have hbs := hb.size
  have hgs := hg.size
  have hcase : ∀ (i : Nat) (r' : List Dt), (xs ++ [r])[i]? = some r' → (i < xs.length ∧ xs[i]? = some r') ∨ (i = xs.length ∧ r' = r) := by
    intro i r' h'
    by_cases hi : i < xs.length
    · rw [List.getElem?_append_left hi] at h'
      exact .inl ⟨hi, h'⟩
    · rw [List.getElem?_append_right (by omega)] at h'
      have h0 : i - xs.length = 0 := by
        have := (List.getElem?_eq_some_iff.1 h').1
        simp at this
        omega
      rw [h0] at h'
      exact .inr ⟨by omega, by simpa using h'.symm⟩
  rcases hown.2 with ⟨_, h0⟩ | ⟨g, cap, cur, rfl, hB, hblk, hl, hm, hs, ht⟩
  · omega
  have hll : xs.length + 1 = (xs ++ [r]).length := by simp
  rw [hll] at hl ht ⊢
  -- the row's own block
  have hgX : X g ∨ (w.heap.size ≤ g ∧ g < w2.heap.size) := by
    rcases hat with hat | hat
    · have hvg : v.ownBlock = some g := hat.symm
      cases h with
      | nil => simp [Value.ownBlock] at hvg
      | row g' cap' m e' cur' xs vs' Y' X hl' hcap' hs' hgX' => simp [Value.ownBlock] at hvg; subst hvg; exact .inl hgX'
    · have hvg : g = w1.heap.size := by simpa [Value.ownBlock] using hat
      exact .inr ⟨by omega, lt_heap hblk⟩
  refine .row g cap n e cur (xs ++ [r]) (fun i j => if i = xs.length then (us[j]?).getD .nilFunc else vs i j) (fun i j b => if i = xs.length then Z j b else Y i j b) _ hl hm hs hgX hblk (fun i r' h' => ?_) (fun i j r' d h' hj => ?_) (fun i j r' d h' hj => ?_) (fun i j b hb' => ?_) (fun i j i' j' b h1 h2 => ?_)
  · rcases hcase i r' h' with ⟨_, h2⟩ | ⟨_, rfl⟩
    · exact hN i r' h2
    · exact hr
  · rcases hcase i r' h' with ⟨hi, h2⟩ | ⟨rfl, rfl⟩
    · simp only [show ¬ i = xs.length by omega, if_false]
      have hjl : j < n := by have := (List.getElem?_eq_some_iff.1 hj).1; rw [hN i r' h2] at this; exact this
      have := idx_le (n := n) hi
      refine own_get ht ?_
      rw [List.getElem?_append_left (by omega)]
      exact (hc i j r' d h2 hj).1
    · simp only [if_true]
      have hjl : j < us.length := by have := (List.getElem?_eq_some_iff.1 hj).1; omega
      have hu := List.getElem?_eq_getElem hjl
      rw [hu]
      refine own_get ht ?_
      rw [List.getElem?_append_right (by omega), hfl, Nat.add_sub_cancel_left]
      exact hu
  · rcases hcase i r' h' with ⟨hi, h2⟩ | ⟨rfl, rfl⟩
    · simp only [show ¬ i = xs.length by omega, if_false]
      refine (hc i j r' d h2 hj).2.moved (fun b hb' hlt => ?_)
      rw [stay b (by omega) (hY i j b hb').2.1]
      exact hb.block b hlt
    · simp only [if_true]
      have hjl : j < us.length := by have := (List.getElem?_eq_some_iff.1 hj).1; omega
      have hu := List.getElem?_eq_getElem hjl
      rw [hu]
      refine (z3 j _ d hu hj).moved (fun b hb' hlt => stay b hlt (fun e => ?_))
      have := (z1 j b hb').1
      have := ownlt b e
      omega
  · by_cases hi : i = xs.length
    · simp only [hi, if_true] at hb'
      have hz := z1 j b hb'
      refine ⟨.inr ⟨hz.1, by have := hz.2; omega⟩, fun e => ?_⟩
      subst e
      rcases hat with hat | hat
      · have := ownlt b hat.symm
        have := hz.1
        omega
      · have : b = w1.heap.size := by simpa [Value.ownBlock] using hat
        have := hz.2
        omega
    · simp only [hi, if_false] at hb'
      have hy := hY i j b hb'
      refine ⟨.inl hy.1, fun e => ?_⟩
      subst e
      rcases hat with hat | hat
      · exact hy.2.1 hat.symm
      · have : b = w1.heap.size := by simpa [Value.ownBlock] using hat
        have := hy.2.2
        omega
  · by_cases hi : i = xs.length
    · simp only [hi, if_true] at h1
      by_cases hi' : i' = xs.length
      · simp only [hi', if_true] at h2
        exact ⟨by omega, z2 j j' b h1 h2⟩
      · simp only [hi', if_false] at h2
        have := (z1 j b h1).1
        have := (hY i' j' b h2).2.2
        omega
    · simp only [hi, if_false] at h1
      by_cases hi' : i' = xs.length
      · simp only [hi', if_true] at h2
        have := (z1 j' b h2).1
        have := (hY i j b h1).2.2
        omega
      · simp only [hi', if_false] at h2
        exact hdis i j i' j' b h1 h2
end Go.Proofs.Ytlgnklpaebgnlaa
