/-
  Pointers at expressions; the least measure of a relation.
-/
import Derived.Test.YtfhjkiimdkjhjaaGreatDoorEx
import Derived.OwnWalk
namespace Go.Proofs.YtfhjkiimdkjhjaaGreatDoor
open Go.RowKit Go.Joins

set_option maxRecDepth 100000

theorem least_is {p : Nat → Prop} (h : ∃ m, p m) : ∃ m, p m ∧ ∀ k, p k → m ≤ k := by
  obtain ⟨n, hn⟩ := h
  induction n using Nat.strongRecOn with
  | ind n ih =>
    by_cases hk : ∃ k, k < n ∧ p k
    · obtain ⟨k, hk, hp⟩ := hk
      exact ih k hk hp
    · refine ⟨n, hn, fun k hp => ?_⟩
      by_cases hkn : k < n
      · exact absurd ⟨k, hkn, hp⟩ hk
      · omega
open Classical in
noncomputable def leastM (p : Nat → Prop) : Nat := if h : ∃ m, p m then Classical.choose (least_is h) else 0
theorem leastM_spec {p : Nat → Prop} (h : ∃ m, p m) : p (leastM p) := by
  unfold leastM; rw [dif_pos h]; exact (Classical.choose_spec (least_is h)).1
theorem leastM_le {p : Nat → Prop} {m : Nat} (h : p m) : leastM p ≤ m := by
  unfold leastM; rw [dif_pos ⟨m, h⟩]; exact (Classical.choose_spec (least_is ⟨m, h⟩)).2 m h

mutual
/-- How many expressions there are in one. -/
def Ex.count : Ex → Nat
  | .mk _ _ _ ks => 1 + Ex.countL ks
def Ex.countL : List Ex → Nat
  | [] => 0
  | e :: r => e.count + Ex.countL r
end
theorem Ex.count_eq (e : Ex) : e.count = 1 + Ex.countL e.kids := by cases e; rw [Ex.count]; rfl
theorem Ex.countL_take : ∀ (ks : List Ex) (i : Nat) (k : Ex), ks[i]? = some k → Ex.countL (ks.take (i + 1)) = Ex.countL (ks.take i) + k.count
  | [], _, _, h => by simp at h
  | a :: r, 0, k, h => by
    obtain rfl : a = k := by simpa using h
    simp [Ex.countL]
  | a :: r, i + 1, k, h => by
    have := Ex.countL_take r i k (by simpa using h)
    rw [List.take_succ_cons, List.take_succ_cons, Ex.countL, Ex.countL, this]; omega
mutual
theorem Ex.count_bulk : ∀ e : Ex, e.count ≤ 1 + e.bulk
  | .mk _ _ t ks => by have := Ex.countL_bulk ks; rw [Ex.count, Ex.bulk]; omega
theorem Ex.countL_bulk : ∀ es : List Ex, Ex.countL es ≤ Ex.bulkL es
  | [] => by simp [Ex.countL]
  | e :: r => by have := Ex.count_bulk e; have := Ex.countL_bulk r; rw [Ex.countL, Ex.bulkL]; omega
end

/-- A pointer at an expression. -/
def NodeAt (w : World) (d : Nat) (p : Addr) (e : Ex) : Prop :=
  ∃ b o kv, p = ⟨b, o, none⟩ ∧ Pl w b ∧ w.cell? ⟨b, o, none⟩ = some (.int .i64 e.kind) ∧ w.cell? ⟨b, o + 1, none⟩ = some (.int .i64 e.n) ∧ w.cell? ⟨b, o + 2, none⟩ = some (.string e.text) ∧ w.cell? ⟨b, o + 3, none⟩ = some kv ∧
    inI64 e.kind ∧ inI64 e.n ∧ e.text.size ≤ maxLen ∧ KidsAt w (Pl w) d kv e.kids
theorem Pl.lt {w : World} {b : Nat} (h : Pl w b) : b < w.heap.size := by
  obtain ⟨cs, t, hc⟩ := h
  exact (Array.getElem?_eq_some_iff.1 hc).1
/-- Where an expression's kids lie. -/
def RowOf (w : World) (p : Addr) (b o : Nat) : Prop := ∃ l c, w.cell? ⟨p.block, p.off + 3, none⟩ = some (.slice (some ⟨b, o, none⟩) l c)
theorem RowOf.one {w : World} {p : Addr} {b o b' o' : Nat} (h : RowOf w p b o) (h' : RowOf w p b' o') : b = b' ∧ o = o' := by
  obtain ⟨l, c, h⟩ := h
  obtain ⟨l', c', h'⟩ := h'
  rw [h] at h'
  simp at h'
  exact h'.1
theorem NodeAt.kid {w : World} {d : Nat} {p : Addr} {e k : Ex} {i : Nat} (h : NodeAt w d p e) (hk : e.kids[i]? = some k) : ∃ d' b o, d = d' + 1 ∧ RowOf w p b o ∧ NodeAt w d' ⟨b, o + i * 4, none⟩ k := by
  obtain ⟨b, o, kv, rfl, hp, c0, c1, c2, c3, r1, r2, r3, hks⟩ := h
  cases d with
  | zero => exact hks.elim
  | succ d =>
    obtain ⟨a, cap, rfl, hl, hc⟩ := hks
    obtain ⟨b', o', kv', rfl, hb', _, k0, k1, k2, k3, s1, s2, s3, hkk⟩ := hc i k hk
    exact ⟨d, b', o', rfl, ⟨_, _, c3⟩, b', o' + i * 4, kv', rfl, hb', k0, k1, k2, k3, s1, s2, s3, hkk⟩
/-- The head of one: all but the kids. -/
def headSame (e f : Ex) : Prop := e.kind = f.kind ∧ e.n = f.n ∧ e.text = f.text ∧ e.kids.length = f.kids.length
theorem NodeAt.kidsVal {w : World} {d : Nat} {p : Addr} {e : Ex} (h : NodeAt w d p e) : ∃ a c, w.cell? ⟨p.block, p.off + 3, none⟩ = some (.slice a e.kids.length c) ∧ (0 < e.kids.length → ∃ b o, a = some ⟨b, o, none⟩) := by
  obtain ⟨b, o, kv, rfl, hp, c0, c1, c2, c3, r1, r2, r3, hks⟩ := h
  cases d with
  | zero => exact hks.elim
  | succ d =>
    obtain ⟨a, cap, rfl, hl, hc⟩ := hks
    refine ⟨a, cap, c3, fun h0 => ?_⟩
    obtain ⟨b', o', _, ha, _⟩ := hc 0 _ (List.getElem?_eq_getElem h0)
    exact ⟨b', o', ha⟩
/-- What a pointer points at is one thing. -/
theorem NodeAt.head {w : World} {d d' : Nat} {p : Addr} {e e' : Ex} (h : NodeAt w d p e) (h' : NodeAt w d' p e') : headSame e e' := by
  obtain ⟨a, c, hv, _⟩ := h.kidsVal
  obtain ⟨a', c', hv', _⟩ := h'.kidsVal
  rw [hv] at hv'
  obtain ⟨b, o, kv, rfl, hp, c0, c1, c2, c3, r1, r2, r3, hks⟩ := h
  obtain ⟨b', o', kv', hpp, hp', k0, k1, k2, k3, s1, s2, s3, hks'⟩ := h'
  cases hpp
  rw [c0] at k0
  rw [c1] at k1
  rw [c2] at k2
  simp at k0 k1 k2 hv'
  exact ⟨k0, k1, k2, hv'.2.1⟩
theorem NodeAt.below {w w' : World} {d : Nat} {p : Addr} {e : Ex} (h : NodeAt w d p e) (hb : Below w.heap.size w w') : NodeAt w' d p e := by
  obtain ⟨b, o, kv, rfl, hp, c0, c1, c2, c3, r1, r2, r3, hks⟩ := h
  have hblk := hb.block b hp.lt
  exact ⟨b, o, kv, rfl, hp.below hb, (World.cell?_of_block hblk).trans c0, (World.cell?_of_block hblk).trans c1, (World.cell?_of_block hblk).trans c2, (World.cell?_of_block hblk).trans c3, r1, r2, r3, hks.belowPl hb⟩
/-- The same expression has one count (and so has what a pointer points at). -/
theorem NodeAt.count {w : World} : ∀ {d d' : Nat} {p : Addr} {e e' : Ex}, NodeAt w d p e → NodeAt w d' p e' → e = e' := by
  intro d
  induction d with
  | zero => intro d' p e e' h _; obtain ⟨b, o, kv, rfl, hp, c0, c1, c2, c3, r1, r2, r3, hks⟩ := h; exact hks.elim
  | succ d ih =>
    intro d' p e e' h h'
    obtain ⟨h1, h2, h3, h4⟩ := h.head h'
    have hks : e.kids = e'.kids := by
      apply List.ext_getElem h4
      intro i hi hi'
      obtain ⟨d1, b, o, hd, hr, hn⟩ := h.kid (List.getElem?_eq_getElem hi)
      obtain ⟨d2, b', o', hd', hr', hn'⟩ := h'.kid (List.getElem?_eq_getElem hi')
      obtain ⟨rfl, rfl⟩ := hr.one hr'
      obtain rfl : d = d1 := by omega
      exact ih hn hn'
    cases e
    cases e'
    simp only [Ex.kind, Ex.n, Ex.text, Ex.kids] at h1 h2 h3 hks
    rw [h1, h2, h3, hks]

theorem exSameL_iff : ∀ (a b : List Ex), Ex.sameL a b = true ↔ a.length = b.length ∧ ∀ (i : Nat) (e f : Ex), a[i]? = some e → b[i]? = some f → e.same f = true
  | [], [] => by simp [Ex.sameL]
  | [], _ :: _ => by simp [Ex.sameL]
  | _ :: _, [] => by simp [Ex.sameL]
  | x :: r, y :: s => by
    rw [Ex.sameL, Bool.and_eq_true, exSameL_iff r s]
    constructor
    · rintro ⟨h1, h2, h3⟩
      refine ⟨by simp [h2], fun i e f he hf => ?_⟩
      cases i with
      | zero => simp at he hf; subst he hf; exact h1
      | succ i => exact h3 i e f (by simpa using he) (by simpa using hf)
    · rintro ⟨h1, h2⟩
      exact ⟨h2 0 x y rfl rfl, by simpa using h1, fun i e f he hf => h2 (i + 1) e f (by simpa using he) (by simpa using hf)⟩
theorem bytes_toList {s t : ByteArray} (h : s.toList = t.toList) : s = t := by
  rw [ByteArray.toList_eq, ByteArray.toList_eq] at h
  cases s
  cases t
  congr 1
  exact Array.ext' h
theorem same_iff (e f : Ex) : e.same f = true ↔ headSame e f ∧ ∀ (i : Nat) (k l : Ex), e.kids[i]? = some k → f.kids[i]? = some l → k.same l = true := by
  rw [Ex.same_eq]
  simp only [Bool.and_eq_true, beq_iff_eq, exSameL_iff]
  constructor
  · rintro ⟨⟨⟨h1, h2⟩, h3⟩, h4, h5⟩
    exact ⟨⟨h1, h2, bytes_toList h3, h4⟩, h5⟩
  · rintro ⟨⟨h1, h2, h3, h4⟩, h5⟩
    exact ⟨⟨⟨h1, h2⟩, by rw [h3]⟩, h4, h5⟩
end Go.Proofs.YtfhjkiimdkjhjaaGreatDoor
