/-
  Pointers at expressions; the least measure of a relation.
  When an expression is right, in plain words.
  Rows of texts in memory.
  Programs in memory.
  Plain definitions and lemmas on bytes and lists: letters, digits, names.
  The program's look whether a byte is a digit.
  The program's looks at one byte, and how many letters and digits a text begins with.
-/
import Derived.Test.YtnjfccagkeonpaaMA
import Derived.OwnWalk
import Derived.Test.YtnjfccagkeonpaaRows
import Derived.WalkKit
namespace Go.Proofs.Ytnjfccagkeonpaa
open Go.RowKit Go.Joins

set_option maxRecDepth 100000

theorem least_is {p : Nat → Prop} (h : ∃ m, p m) : ∃ m, p m ∧ ∀ k, p k → m ≤ k := by
  obtain ⟨n, hn⟩ := h
  induction n using Nat.strongRecOn with
  | ind n ih =>
    by_cases hk : ∃ k, k < n ∧ p k
    · obtain ⟨k, hk, hp⟩ := hk
      exact ih k hk hp
    · refine ⟨n, hn, fun k hp => ?_⟩
      by_cases hkn : k < n
      · exact absurd ⟨k, hkn, hp⟩ hk
      · omega
open Classical in
noncomputable def leastM (p : Nat → Prop) : Nat := if h : ∃ m, p m then Classical.choose (least_is h) else 0
theorem leastM_spec {p : Nat → Prop} (h : ∃ m, p m) : p (leastM p) := by
  unfold leastM; rw [dif_pos h]; exact (Classical.choose_spec (least_is h)).1
theorem leastM_le {p : Nat → Prop} {m : Nat} (h : p m) : leastM p ≤ m := by
  unfold leastM; rw [dif_pos ⟨m, h⟩]; exact (Classical.choose_spec (least_is ⟨m, h⟩)).2 m h

mutual
/-- How many expressions there are in one. -/
def Ex.count : Ex → Nat
  | .mk _ _ _ ks => 1 + Ex.countL ks
def Ex.countL : List Ex → Nat
  | [] => 0
  | e :: r => e.count + Ex.countL r
end
theorem Ex.count_eq (e : Ex) : e.count = 1 + Ex.countL e.kids := by cases e; rw [Ex.count]; rfl
theorem Ex.countL_take : ∀ (ks : List Ex) (i : Nat) (k : Ex), ks[i]? = some k → Ex.countL (ks.take (i + 1)) = Ex.countL (ks.take i) + k.count
  | [], _, _, h => by simp at h
  | a :: r, 0, k, h => by
    obtain rfl : a = k := by simpa using h
    simp [Ex.countL]
  | a :: r, i + 1, k, h => by
    have := Ex.countL_take r i k (by simpa using h)
    rw [List.take_succ_cons, List.take_succ_cons, Ex.countL, Ex.countL, this]; omega
mutual
theorem Ex.count_bulk : ∀ e : Ex, e.count ≤ 1 + e.bulk
  | .mk _ _ t ks => by have := Ex.countL_bulk ks; rw [Ex.count, Ex.bulk]; omega
theorem Ex.countL_bulk : ∀ es : List Ex, Ex.countL es ≤ Ex.bulkL es
  | [] => by simp [Ex.countL]
  | e :: r => by have := Ex.count_bulk e; have := Ex.countL_bulk r; rw [Ex.countL, Ex.bulkL]; omega
end

/-- A pointer at an expression. -/
def NodeAt (w : World) (d : Nat) (p : Addr) (e : Ex) : Prop :=
  ∃ b o kv, p = ⟨b, o, none⟩ ∧ Pl w b ∧ w.cell? ⟨b, o, none⟩ = some (.int .i64 e.kind) ∧ w.cell? ⟨b, o + 1, none⟩ = some (.int .i64 e.n) ∧ w.cell? ⟨b, o + 2, none⟩ = some (.string e.text) ∧ w.cell? ⟨b, o + 3, none⟩ = some kv ∧
    inI64 e.kind ∧ inI64 e.n ∧ e.text.size ≤ maxLen ∧ KidsAt w (Pl w) d kv e.kids
theorem Pl.lt {w : World} {b : Nat} (h : Pl w b) : b < w.heap.size := by
  obtain ⟨cs, t, hc⟩ := h
  exact (Array.getElem?_eq_some_iff.1 hc).1
/-- Where an expression's kids lie. -/
def RowOf (w : World) (p : Addr) (b o : Nat) : Prop := ∃ l c, w.cell? ⟨p.block, p.off + 3, none⟩ = some (.slice (some ⟨b, o, none⟩) l c)
theorem RowOf.one {w : World} {p : Addr} {b o b' o' : Nat} (h : RowOf w p b o) (h' : RowOf w p b' o') : b = b' ∧ o = o' := by
  obtain ⟨l, c, h⟩ := h
  obtain ⟨l', c', h'⟩ := h'
  rw [h] at h'
  simp at h'
  exact h'.1
theorem NodeAt.kid {w : World} {d : Nat} {p : Addr} {e k : Ex} {i : Nat} (h : NodeAt w d p e) (hk : e.kids[i]? = some k) : ∃ d' b o, d = d' + 1 ∧ RowOf w p b o ∧ NodeAt w d' ⟨b, o + i * 4, none⟩ k := by
  obtain ⟨b, o, kv, rfl, hp, c0, c1, c2, c3, r1, r2, r3, hks⟩ := h
  cases d with
  | zero => exact hks.elim
  | succ d =>
    obtain ⟨a, cap, rfl, hl, hc⟩ := hks
    obtain ⟨b', o', kv', rfl, hb', _, k0, k1, k2, k3, s1, s2, s3, hkk⟩ := hc i k hk
    exact ⟨d, b', o', rfl, ⟨_, _, c3⟩, b', o' + i * 4, kv', rfl, hb', k0, k1, k2, k3, s1, s2, s3, hkk⟩
/-- The head of one: all but the kids. -/
def headSame (e f : Ex) : Prop := e.kind = f.kind ∧ e.n = f.n ∧ e.text = f.text ∧ e.kids.length = f.kids.length
theorem NodeAt.kidsVal {w : World} {d : Nat} {p : Addr} {e : Ex} (h : NodeAt w d p e) : ∃ a c, w.cell? ⟨p.block, p.off + 3, none⟩ = some (.slice a e.kids.length c) ∧ (0 < e.kids.length → ∃ b o, a = some ⟨b, o, none⟩) := by
  obtain ⟨b, o, kv, rfl, hp, c0, c1, c2, c3, r1, r2, r3, hks⟩ := h
  cases d with
  | zero => exact hks.elim
  | succ d =>
    obtain ⟨a, cap, rfl, hl, hc⟩ := hks
    refine ⟨a, cap, c3, fun h0 => ?_⟩
    obtain ⟨b', o', _, ha, _⟩ := hc 0 _ (List.getElem?_eq_getElem h0)
    exact ⟨b', o', ha⟩
/-- What a pointer points at is one thing. -/
theorem NodeAt.head {w : World} {d d' : Nat} {p : Addr} {e e' : Ex} (h : NodeAt w d p e) (h' : NodeAt w d' p e') : headSame e e' := by
  obtain ⟨a, c, hv, _⟩ := h.kidsVal
  obtain ⟨a', c', hv', _⟩ := h'.kidsVal
  rw [hv] at hv'
  obtain ⟨b, o, kv, rfl, hp, c0, c1, c2, c3, r1, r2, r3, hks⟩ := h
  obtain ⟨b', o', kv', hpp, hp', k0, k1, k2, k3, s1, s2, s3, hks'⟩ := h'
  cases hpp
  rw [c0] at k0
  rw [c1] at k1
  rw [c2] at k2
  simp at k0 k1 k2 hv'
  exact ⟨k0, k1, k2, hv'.2.1⟩
theorem NodeAt.below {w w' : World} {d : Nat} {p : Addr} {e : Ex} (h : NodeAt w d p e) (hb : Below w.heap.size w w') : NodeAt w' d p e := by
  obtain ⟨b, o, kv, rfl, hp, c0, c1, c2, c3, r1, r2, r3, hks⟩ := h
  have hblk := hb.block b hp.lt
  exact ⟨b, o, kv, rfl, hp.below hb, (World.cell?_of_block hblk).trans c0, (World.cell?_of_block hblk).trans c1, (World.cell?_of_block hblk).trans c2, (World.cell?_of_block hblk).trans c3, r1, r2, r3, hks.belowPl hb⟩
/-- The same expression has one count (and so has what a pointer points at). -/
theorem NodeAt.count {w : World} : ∀ {d d' : Nat} {p : Addr} {e e' : Ex}, NodeAt w d p e → NodeAt w d' p e' → e = e' := by
  intro d
  induction d with
  | zero => intro d' p e e' h _; obtain ⟨b, o, kv, rfl, hp, c0, c1, c2, c3, r1, r2, r3, hks⟩ := h; exact hks.elim
  | succ d ih =>
    intro d' p e e' h h'
    obtain ⟨h1, h2, h3, h4⟩ := h.head h'
    have hks : e.kids = e'.kids := by
      apply List.ext_getElem h4
      intro i hi hi'
      obtain ⟨d1, b, o, hd, hr, hn⟩ := h.kid (List.getElem?_eq_getElem hi)
      obtain ⟨d2, b', o', hd', hr', hn'⟩ := h'.kid (List.getElem?_eq_getElem hi')
      obtain ⟨rfl, rfl⟩ := hr.one hr'
      obtain rfl : d = d1 := by omega
      exact ih hn hn'
    cases e
    cases e'
    simp only [Ex.kind, Ex.n, Ex.text, Ex.kids] at h1 h2 h3 hks
    rw [h1, h2, h3, hks]

theorem exSameL_iff : ∀ (a b : List Ex), Ex.sameL a b = true ↔ a.length = b.length ∧ ∀ (i : Nat) (e f : Ex), a[i]? = some e → b[i]? = some f → e.same f = true
  | [], [] => by simp [Ex.sameL]
  | [], _ :: _ => by simp [Ex.sameL]
  | _ :: _, [] => by simp [Ex.sameL]
  | x :: r, y :: s => by
    rw [Ex.sameL, Bool.and_eq_true, exSameL_iff r s]
    constructor
    · rintro ⟨h1, h2, h3⟩
      refine ⟨by simp [h2], fun i e f he hf => ?_⟩
      cases i with
      | zero => simp at he hf; subst he hf; exact h1
      | succ i => exact h3 i e f (by simpa using he) (by simpa using hf)
    · rintro ⟨h1, h2⟩
      exact ⟨h2 0 x y rfl rfl, by simpa using h1, fun i e f he hf => h2 (i + 1) e f (by simpa using he) (by simpa using hf)⟩
theorem bytes_toList {s t : ByteArray} (h : s.toList = t.toList) : s = t := by
  rw [ByteArray.toList_eq, ByteArray.toList_eq] at h
  cases s
  cases t
  congr 1
  exact Array.ext' h
theorem same_iff (e f : Ex) : e.same f = true ↔ headSame e f ∧ ∀ (i : Nat) (k l : Ex), e.kids[i]? = some k → f.kids[i]? = some l → k.same l = true := by
  rw [Ex.same_eq]
  simp only [Bool.and_eq_true, beq_iff_eq, exSameL_iff]
  constructor
  · rintro ⟨⟨⟨h1, h2⟩, h3⟩, h4, h5⟩
    exact ⟨⟨h1, h2, bytes_toList h3, h4⟩, h5⟩
  · rintro ⟨⟨h1, h2, h3, h4⟩, h5⟩
    exact ⟨⟨⟨h1, h2⟩, by rw [h3]⟩, h4, h5⟩
end Go.Proofs.Ytnjfccagkeonpaa

namespace Go.Proofs.Ytnjfccagkeonpaa
open Go.RowKit Go.Joins

set_option maxRecDepth 100000

def kidsOf (k : Int) : Int :=
  if k = 0 ∨ k = 1 ∨ k = 2 ∨ k = 7 then 0 else if k = 3 then 1 else if k = 4 ∨ k = 5 ∨ k = 8 ∨ k = 10 ∨ k = 11 then 2 else if k = 6 ∨ k = 9 then 3 else -1
def inR (n a b : Int) : Bool := decide (a ≤ n) && decide (n ≤ b)
def opTexts : List (List UInt8) := [[61, 61], [60], [43], [45], [42]]
def isOp (t : ByteArray) : Bool := opTexts.contains t.toList
def kind0 (ks : List Ex) : Int := (ks.head?.map Ex.kind).getD 0
def fieldsB (k n : Int) (t : ByteArray) (ks : List Ex) (scope tops : Int) : Bool :=
  if k = 10 then n == 0 && isOp t
  else if t.toList ≠ [] then false
  else if k = 0 then inR n 0 999999999
  else if k = 1 then inR n 0 (scope - 1)
  else if k = 2 then inR n 0 (tops - 1)
  else if k = 3 then inR n 1 6
  else if k = 11 then n == 0 && (kind0 ks == 1 || kind0 ks == 2)
  else n == 0
def moreN (k n : Int) (i : Nat) : Int := if k = 3 then n else if k = 5 then 1 else if k = 9 ∧ i = 2 then 2 else 0

mutual
def Ex.right : Ex → Int → Int → Int → Bool
  | .mk k n t ks, scope, tops, deep => decide (0 ≤ deep) && decide (scope ≤ 90) && decide ((ks.length : Int) = kidsOf k) && fieldsB k n t ks scope tops && Ex.rightL k n 0 ks scope tops (deep - 1)
def Ex.rightL : Int → Int → Nat → List Ex → Int → Int → Int → Bool
  | _, _, _, [], _, _, _ => true
  | k, n, i, e :: r, scope, tops, deep => e.right (scope + moreN k n i) tops deep && Ex.rightL k n (i + 1) r scope tops deep
end
theorem Ex.right_eq (e : Ex) (scope tops deep : Int) : e.right scope tops deep = (decide (0 ≤ deep) && decide (scope ≤ 90) && decide ((e.kids.length : Int) = kidsOf e.kind) && fieldsB e.kind e.n e.text e.kids scope tops && Ex.rightL e.kind e.n 0 e.kids scope tops (deep - 1)) := by
  cases e; rw [Ex.right]; rfl
theorem rightL_iff (k n : Int) (scope tops deep : Int) : ∀ (ks : List Ex) (j : Nat), Ex.rightL k n j ks scope tops deep = true ↔ ∀ (i : Nat) (e : Ex), ks[i]? = some e → e.right (scope + moreN k n (j + i)) tops deep = true
  | [], j => by simp [Ex.rightL]
  | x :: r, j => by
    rw [Ex.rightL, Bool.and_eq_true, rightL_iff k n scope tops deep r (j + 1)]
    constructor
    · rintro ⟨h1, h2⟩ i e he
      cases i with
      | zero => simp at he; subst he; exact h1
      | succ i => have := h2 i e (by simpa using he); rw [show j + (i + 1) = j + 1 + i by omega]; exact this
    · intro h
      exact ⟨h 0 x rfl, fun i e he => by have := h (i + 1) e (by simpa using he); rw [show j + 1 + i = j + (i + 1) by omega]; exact this⟩
theorem right_iff (e : Ex) (scope tops deep : Int) : e.right scope tops deep = true ↔ 0 ≤ deep ∧ scope ≤ 90 ∧ (e.kids.length : Int) = kidsOf e.kind ∧ fieldsB e.kind e.n e.text e.kids scope tops = true ∧ ∀ (i : Nat) (k : Ex), e.kids[i]? = some k → k.right (scope + moreN e.kind e.n i) tops (deep - 1) = true := by
  rw [Ex.right_eq]
  simp only [Bool.and_eq_true, decide_eq_true_eq, rightL_iff, Nat.zero_add]
  constructor
  · rintro ⟨⟨⟨⟨h1, h2⟩, h3⟩, h4⟩, h5⟩; exact ⟨h1, h2, h3, h4, h5⟩
  · rintro ⟨h1, h2, h3, h4, h5⟩; exact ⟨⟨⟨⟨h1, h2⟩, h3⟩, h4⟩, h5⟩

mutual
/-- What is right is right with more room below it. -/
theorem Ex.right_mono : ∀ (e : Ex) (scope tops deep deep' : Int), deep ≤ deep' → e.right scope tops deep = true → e.right scope tops deep' = true
  | .mk k n t ks, scope, tops, deep, deep', h, hr => by
    rw [Ex.right] at hr ⊢
    simp only [Bool.and_eq_true, decide_eq_true_eq] at hr ⊢
    obtain ⟨⟨⟨⟨h1, h2⟩, h3⟩, h4⟩, h5⟩ := hr
    exact ⟨⟨⟨⟨by omega, h2⟩, h3⟩, h4⟩, Ex.rightL_mono k n 0 ks scope tops _ _ (by omega) h5⟩
theorem Ex.rightL_mono : ∀ (k n : Int) (i : Nat) (ks : List Ex) (scope tops deep deep' : Int), deep ≤ deep' → Ex.rightL k n i ks scope tops deep = true → Ex.rightL k n i ks scope tops deep' = true
  | _, _, _, [], _, _, _, _, _, _ => by rw [Ex.rightL]
  | k, n, i, e :: r, scope, tops, deep, deep', h, hr => by
    rw [Ex.rightL, Bool.and_eq_true] at hr ⊢
    exact ⟨Ex.right_mono e _ tops _ _ h hr.1, Ex.rightL_mono k n (i + 1) r scope tops _ _ h hr.2⟩
end

/-- With fields that are right an expression brings few names. -/
theorem moreN_le {k n : Int} {t : ByteArray} {ks : List Ex} {scope tops : Int} (h : fieldsB k n t ks scope tops = true) (i : Nat) : 0 ≤ moreN k n i ∧ moreN k n i ≤ 6 := by
  unfold moreN
  by_cases h3 : k = 3
  · subst h3
    unfold fieldsB at h
    by_cases ht : t.toList ≠ []
    · rw [if_neg (by omega), if_pos ht] at h; cases h
    · rw [if_neg (by omega), if_neg ht, if_neg (by omega), if_neg (by omega), if_neg (by omega), if_pos rfl] at h
      unfold inR at h
      simp only [Bool.and_eq_true, decide_eq_true_eq] at h
      rw [if_pos rfl]; omega
  · rw [if_neg h3]
    split
    · omega
    · split <;> omega
end Go.Proofs.Ytnjfccagkeonpaa

namespace Go.Proofs.Ytnjfccagkeonpaa
open Go.RowKit Go.Joins

set_option maxRecDepth 100000

theorem addr_add' (b off k : Nat) : (⟨b, off, none⟩ : Addr).add k = ⟨b, off + k, none⟩ := by
  unfold Addr.add
  split
  · rename_i h; subst h; rfl
  · rfl

def StrsAt (w : World) (S : Nat → Prop) (v : Value) (ts : List ByteArray) : Prop :=
  ∃ a cap, v = .slice a ts.length cap ∧ ts.length ≤ maxLen ∧ ∀ i t, ts[i]? = some t → ∃ b off, a = some ⟨b, off, none⟩ ∧ S b ∧ b < w.heap.size ∧ w.cell? ⟨b, off + i, none⟩ = some (.string t) ∧ t.size ≤ maxLen
theorem StrsAt.kept {w w' : World} {S S' : Nat → Prop} (hw : ∀ b, S b → b < w.heap.size → w'.heap[b]? = w.heap[b]?) (hsz : w.heap.size ≤ w'.heap.size) (hS : ∀ b, S b → b < w.heap.size → S' b) {v : Value} {ts : List ByteArray} (h : StrsAt w S v ts) : StrsAt w' S' v ts := by
  obtain ⟨a, cap, hv, hl, hc⟩ := h
  refine ⟨a, cap, hv, hl, fun i t ht => ?_⟩
  obtain ⟨b, off, ha, hb, hlt, c0, r⟩ := hc i t ht
  exact ⟨b, off, ha, hS b hb hlt, Nat.lt_of_lt_of_le hlt hsz, (World.cell?_of_block (hw b hb hlt)).trans c0, r⟩
theorem StrsAt.below {w w' : World} {S : Nat → Prop} {v : Value} {ts : List ByteArray} (h : StrsAt w S v ts) (hb : Below w.heap.size w w') : StrsAt w' S v ts :=
  h.kept (fun b _ hlt => hb.block b hlt) hb.size (fun _ h _ => h)
theorem StrsAt.form {w : World} {S : Nat → Prop} {v : Value} {ts : List ByteArray} (h : StrsAt w S v ts) : ∃ a cap, v = .slice a ts.length cap := by
  obtain ⟨a, cap, hv, _⟩ := h; exact ⟨a, cap, hv⟩

def preS (ts : List ByteArray) (k : Nat) : Nat := ((ts.take k).map ByteArray.size).sum
def bulkS (ts : List ByteArray) : Nat := ts.length + preS ts ts.length
end Go.Proofs.Ytnjfccagkeonpaa

namespace Go.Proofs.Ytnjfccagkeonpaa
open Go.RowKit Go.Joins

set_option maxRecDepth 100000

structure Pr where
  names : List ByteArray
  bodies : List Ex
def Pr.bulk (p : Pr) : Nat := bulkS p.names + Ex.bulkL p.bodies

def PrAt (w : World) (S : Nat → Prop) (d : Nat) (v : Value) (p : Pr) : Prop :=
  ∃ nv bv, v = .agg #[nv, bv] ∧ StrsAt w S nv p.names ∧ KidsAt w S d bv p.bodies
theorem PrAt.below {w w' : World} {S : Nat → Prop} {d : Nat} {v : Value} {p : Pr} (h : PrAt w S d v p) (hb : Below w.heap.size w w') : PrAt w' S d v p := by
  obtain ⟨nv, bv, hv, h1, h2⟩ := h
  exact ⟨nv, bv, hv, h1.below hb, h2.below hb⟩

theorem StrsAt.belowP {w w' : World} {n : Nat} {v : Value} {ts : List ByteArray} (h : StrsAt w (fun b => n ≤ b ∧ Pl w b) v ts) (hb : Below w.heap.size w w') : StrsAt w' (fun b => n ≤ b ∧ Pl w' b) v ts :=
  h.kept (fun b _ hlt => hb.block b hlt) hb.size (fun _ h _ => ⟨h.1, h.2.below hb⟩)
theorem PrAt.belowP {w w' : World} {n d : Nat} {v : Value} {p : Pr} (h : PrAt w (fun b => n ≤ b ∧ Pl w b) d v p) (hb : Below w.heap.size w w') : PrAt w' (fun b => n ≤ b ∧ Pl w' b) d v p := by
  obtain ⟨nv, bv, hv, h1, h2⟩ := h
  exact ⟨nv, bv, hv, h1.belowP hb, h2.belowP hb⟩
theorem PrAt.plain {w : World} {n d : Nat} {v : Value} {p : Pr} (h : PrAt w (fun b => n ≤ b ∧ Pl w b) d v p) : PrAt w (Pl w) d v p := by
  obtain ⟨nv, bv, hv, h1, h2⟩ := h
  exact ⟨nv, bv, hv, h1.kept (fun _ _ _ => rfl) (Nat.le_refl _) (fun _ h _ => h.2), h2.plain⟩
theorem bulkS_len (ts : List ByteArray) : ts.length ≤ bulkS ts := by unfold bulkS; omega

end Go.Proofs.Ytnjfccagkeonpaa

namespace Go.Proofs.Ytnjfccagkeonpaa

set_option maxRecDepth 100000

/-- A small letter, a digit, by number. -/
def lti (n : Int) : Bool := decide (97 ≤ n) && decide (n ≤ 122)
def dgi (n : Int) : Bool := decide (48 ≤ n) && decide (n ≤ 57)
/-- .. by byte. -/
def ltb (c : UInt8) : Bool := lti c.toNat
def dgb (c : UInt8) : Bool := dgi c.toNat
def nmb (c : UInt8) : Bool := ltb c || dgb c

theorem takeWhile_len {α : Type} (p : α → Bool) : ∀ (l : List α) (k : Nat), k ≤ l.length → (∀ x ∈ l.take k, p x = true) → (∀ h : k < l.length, p l[k] = false) → (l.takeWhile p).length = k
  | [], k, hk, _, _ => by simp at hk; simp [hk]
  | a :: r, 0, _, _, he => by
    have := he (by simp)
    simp at this
    simp [this]
  | a :: r, k + 1, hk, h, he => by
    have ha : p a = true := h a (by simp)
    rw [List.takeWhile_cons, if_pos ha, List.length_cons, takeWhile_len p r k (by simpa using hk) (fun x hx => h x (by simp [hx])) (fun hh => he (Nat.succ_lt_succ hh))]

theorem takeWhile_len_le {α : Type} (p : α → Bool) (l : List α) : (l.takeWhile p).length ≤ l.length := (List.takeWhile_sublist p).length_le

theorem takeWhile_full {α : Type} (p : α → Bool) : ∀ l : List α, ((l.takeWhile p).length = l.length) ↔ l.all p = true
  | [] => by simp
  | a :: r => by
    by_cases h : p a = true
    · rw [List.takeWhile_cons, if_pos h, List.length_cons, List.length_cons, List.all_cons, h, Bool.true_and, ← takeWhile_full p r]; omega
    · rw [List.takeWhile_cons, if_neg h]; simp [h]

theorem mem_take_succ {α : Type} {l : List α} {k : Nat} (h : k < l.length) {P : α → Prop} (h1 : ∀ x ∈ l.take k, P x) (h2 : P l[k]) : ∀ x ∈ l.take (k + 1), P x := by
  intro x hx
  rw [List.take_succ_eq_append_getElem h] at hx
  rcases List.mem_append.1 hx with hx | hx
  · exact h1 x hx
  · rw [List.mem_singleton.1 hx]; exact h2

/-- How many letters and digits a text begins with. -/
def nameLen (l : List UInt8) : Nat := (l.takeWhile nmb).length
def digsLen (l : List UInt8) : Nat := (l.takeWhile dgb).length

theorem at_data (s : ByteArray) (k : Nat) (h : k < s.size) : s.data.toList[k]'(by simpa using h) = s[k] := rfl

end Go.Proofs.Ytnjfccagkeonpaa

namespace Go.Proofs.Ytnjfccagkeonpaa
open Go.RowKit

set_option maxRecDepth 100000

theorem lti_t {n : Int} (h : lti n = true) : 97 ≤ n ∧ n ≤ 122 := by simpa [lti] using h
theorem dgi_t {n : Int} (h : dgi n = true) : 48 ≤ n ∧ n ≤ 57 := by simpa [dgi] using h

theorem isDigit_any (n : Int) (w : World) : Calls Try.prog 62 #[.int .u8 n] w fun e w' => e = .returned (.bool (dgi n)) ∧ w' = w := by
  unfold dgi
  by_cases h1 : 48 ≤ n
  · have d1 : decide (48 ≤ n) = true := by simpa using h1
    go_enter Try.func62, Try.ntmps62
    go_wp2
    go_ret
    exact ⟨by simp [h1], rfl⟩
  · have d1 : decide (48 ≤ n) = false := by simpa using h1
    go_enter Try.func62, Try.ntmps62
    go_wp2
    go_ret
    exact ⟨by simp, rfl⟩

theorem isDigit_is (n : Int) (b : Bool) (h : dgi n = b) (w : World) : Calls Try.prog 62 #[.int .u8 n] w fun e w' => e = .returned (.bool b) ∧ w' = w := by
  rw [← h]; exact isDigit_any n w

theorem ret_int {k : IntKind} {a b : Int} (h : a = b) : Ending.returned (.int k a) = .returned (.int k b) := by rw [h]

end Go.Proofs.Ytnjfccagkeonpaa

namespace Go.Proofs.Ytnjfccagkeonpaa
open Go.RowKit

set_option maxRecDepth 100000

theorem isLetter_any (n : Int) (w : World) : Calls Try.prog 57 #[.int .u8 n] w fun e w' => e = .returned (.bool (lti n)) ∧ w' = w := by
  unfold lti
  by_cases h1 : 97 ≤ n
  · have d1 : decide (97 ≤ n) = true := by simpa using h1
    go_enter Try.func57, Try.ntmps57
    go_wp2
    go_ret
    exact ⟨by simp [h1], rfl⟩
  · have d1 : decide (97 ≤ n) = false := by simpa using h1
    go_enter Try.func57, Try.ntmps57
    go_wp2
    go_ret
    exact ⟨by simp, rfl⟩

theorem isLetter_is (n : Int) (b : Bool) (h : lti n = b) (w : World) : Calls Try.prog 57 #[.int .u8 n] w fun e w' => e = .returned (.bool b) ∧ w' = w := by
  rw [← h]; exact isLetter_any n w
set_option maxHeartbeats 800000 in
theorem nameLength_any (s : ByteArray) (w : World) (hs : s.size ≤ maxLen) :
    Calls Try.prog 58 #[.string s] w fun e w' => e = .returned (.int .i64 (nameLen s.data.toList)) ∧ w' = w := by
  unfold maxLen at hs
  go_enter Try.func58, Try.ntmps58
  go_wp2
  go_loop [3] (fun i => ∃ k : Nat, k ≤ s.size ∧ i = .int .i64 k ∧ Hid (∀ x ∈ s.data.toList.take k, nmb x = true)) (fun i => s.size - (intOf i).toNat)
  case atStart => exact ⟨0, Nat.zero_le _, rfl, fun x hx => by simp at hx⟩
  case round =>
    obtain ⟨k, hk, rfl, hall⟩ := hrel
    have HL : s.data.toList.length = s.size := by simp
    by_cases hlt : k < s.size
    · have hat := at_data s k hlt
      have HA : Hid (s.data.toList[k]'(by simpa using hlt) = s[k]) := hat
      have HLL : Hid (s.data.toList.length = s.size) := HL
      clear hat HL
      have stay : nmb s[k] = false → nameLen s.data.toList = k := fun hn => takeWhile_len nmb _ k (by rw [HLL.out]; exact hk) hall.out (fun _ => by rw [HA.out]; exact hn)
      have goes : nmb s[k] = true → Hid (∀ x ∈ s.data.toList.take (k + 1), nmb x = true) := fun hn => mem_take_succ (by rw [HLL.out]; exact hlt) hall.out (by rw [HA.out]; exact hn)
      have hnm : nmb s[k] = (lti (s[k].toNat : Int) || dgi (s[k].toNat : Int)) := rfl
      cases hl : lti (s[k].toNat : Int)
      · cases hd : dgi (s[k].toNat : Int)
        · have HF : Hid (nameLen s.data.toList = k) := stay (by rw [hnm, hl, hd]; rfl)
          clear stay goes hnm
          go_wp2_with (first
            | (go_at_call 57; refine (isLetter_is _ false hl _).mono ?_; rintro e w' ⟨rfl, rfl⟩)
            | (go_at_call 62; refine (isDigit_is _ false hd _).mono ?_; rintro e w' ⟨rfl, rfl⟩))
          go_ret
          exact ⟨ret_int (by rw [HF.out]), rfl⟩
        · have HG := goes (by rw [hnm, hl, hd]; rfl)
          clear stay goes hnm
          go_wp2_with (first
            | (go_at_call 57; refine (isLetter_is _ false hl _).mono ?_; rintro e w' ⟨rfl, rfl⟩)
            | (go_at_call 62; refine (isDigit_is _ true hd _).mono ?_; rintro e w' ⟨rfl, rfl⟩))
          go_round
          case rel => exact ⟨k + 1, by omega, by go_num, HG⟩
          case measure => simp [intOf]; omega
      · have HG := goes (by rw [hnm, hl]; rfl)
        clear stay goes hnm
        go_wp2_with (go_at_call 57; refine (isLetter_is _ true hl _).mono ?_; rintro e w' ⟨rfl, rfl⟩)
        go_round
        case rel => exact ⟨k + 1, by omega, by go_num, HG⟩
        case measure => simp [intOf]; omega
    · have HF : Hid (nameLen s.data.toList = k) := takeWhile_len nmb _ k (by rw [HL]; exact hk) hall.out (fun h => absurd h (by rw [HL]; exact hlt))
      clear HL
      go_wp2
      go_ret
      exact ⟨ret_int (by rw [HF.out]), rfl⟩
end Go.Proofs.Ytnjfccagkeonpaa
