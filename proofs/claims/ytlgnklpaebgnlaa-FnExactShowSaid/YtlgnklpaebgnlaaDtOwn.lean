/-
  Data that a call owns: its rows in blocks of their own, no two in one.
-/
import Derived.Test.YtlgnklpaebgnlaaDt
import Derived.Test.YtlgnklpaebgnlaaKeptBut
namespace Go.Proofs.Ytlgnklpaebgnlaa
open Go.RowKit Go.Joins

set_option maxRecDepth 100000

/-- A value that is these data, each row in a block of its own, all of them in X. -/
inductive Own (w : World) : Value → Dt → (Nat → Prop) → Prop
  | int (z : Int) (h : inI64 z) (X : Nat → Prop) : Own w (.int .i64 z) (.int z) X
  | str (b : ByteArray) (h : b.size ≤ maxLen) (X : Nat → Prop) : Own w (.string b) (.str b) X
  | nil (X : Nat → Prop) : Own w (.slice none 0 0) (.row []) X
  | row (g cap n : Nat) (e : TypeId) (cur : Array Value) (xs : List (List Dt)) (vs : Nat → Nat → Value) (Y : Nat → Nat → Nat → Prop) (X : Nat → Prop)
      (hl : xs.length ≤ cap) (hcap : cap ≤ maxLen) (hs : cur.size = cap * n) (hg : X g) (hblk : w.heap[g]? = some (.cells cur e (0, 0)))
      (hn : ∀ (i : Nat) (r : List Dt), xs[i]? = some r → r.length = n)
      (hc : ∀ (i j : Nat) (r : List Dt) (d : Dt), xs[i]? = some r → r[j]? = some d → cur[i * n + j]? = some (vs i j))
      (hk : ∀ (i j : Nat) (r : List Dt) (d : Dt), xs[i]? = some r → r[j]? = some d → Own w (vs i j) d (Y i j))
      (hX : ∀ i j b, Y i j b → X b ∧ b ≠ g)
      (hdis : ∀ i j i' j' b, Y i j b → Y i' j' b → i = i' ∧ j = j') :
      Own w (.slice (some ⟨g, 0, none⟩) xs.length cap) (.row xs) X

theorem Own.mono {w : World} {v : Value} {d : Dt} {X X' : Nat → Prop} (h : Own w v d X) (hX : ∀ b, X b → X' b) : Own w v d X' := by
  cases h with
  | int z h => exact .int z h _
  | str b h => exact .str b h _
  | nil => exact .nil _
  | row g cap n e cur xs vs Y X hl hcap hs hg hblk hn hc hk hY hdis =>
    exact .row g cap n e cur xs vs Y X' hl hcap hs (hX g hg) hblk hn hc hk (fun i j b hb => ⟨hX b (hY i j b hb).1, (hY i j b hb).2⟩) hdis
/-- It stays where its blocks do. -/
theorem Own.moved {w w' : World} {v : Value} {d : Dt} {X : Nat → Prop} (h : Own w v d X) (hw : ∀ b, X b → b < w.heap.size → w'.heap[b]? = w.heap[b]?) : Own w' v d X := by
  induction h with
  | int z h => exact .int z h _
  | str b h => exact .str b h _
  | nil => exact .nil _
  | row g cap n e cur xs vs Y X hl hcap hs hg hblk hn hc hk hY hdis ih =>
    exact .row g cap n e cur xs vs Y X hl hcap hs hg ((hw g hg (lt_heap hblk)).trans hblk) hn hc (fun i j r d hr hj => ih i j r d hr hj (fun b hb hlt => hw b (hY i j b hb).1 hlt)) hY hdis
theorem Own.up {w w' : World} {v : Value} {d : Dt} {X : Nat → Prop} (h : Own w v d X) (hb : Below w.heap.size w w') : Own w' v d X :=
  h.moved (fun b _ hlt => hb.block b hlt)
theorem Own.set {w : World} {v : Value} {d : Dt} {X : Nat → Prop} (h : Own w v d X) {p : Addr} (hp : ¬ X p.block) (u : Value) : Own (w.setCell p u) v d X :=
  h.moved (fun b hb _ => Below.heap_setCell w p u b (fun e => hp (e ▸ hb)))
/-- Its blocks are there. -/
theorem Own.dom {w : World} {v : Value} {d : Dt} {X : Nat → Prop} (h : Own w v d X) : Own w v d (fun b => X b ∧ b < w.heap.size) := by
  induction h with
  | int z h => exact .int z h _
  | str b h => exact .str b h _
  | nil => exact .nil _
  | row g cap n e cur xs vs Y X hl hcap hs hg hblk hn hc hk hY hdis ih =>
    exact .row g cap n e cur xs vs (fun i j b => Y i j b ∧ b < w.heap.size) _ hl hcap hs ⟨hg, lt_heap hblk⟩ hblk hn hc ih (fun i j b hb => ⟨⟨(hY i j b hb.1).1, hb.2⟩, (hY i j b hb.1).2⟩) (fun i j i' j' b h h' => hdis i j i' j' b h.1 h'.1)
theorem Own.at {w : World} {v : Value} {d : Dt} {X : Nat → Prop} (h : Own w v d X) : FAt w (fun b => X b ∧ Pl w b) v d := by
  induction h with
  | int z h => exact .int z h
  | str b h => exact .str b h
  | nil => exact .nil none 0
  | row g cap n e cur xs vs Y X hl hcap hs hg hblk hn hc hk hY hdis ih =>
    refine .row g 0 cap n xs vs (Nat.le_trans hl hcap) ⟨hg, cur, e, hblk⟩ (lt_heap hblk) hn (fun i j r d hr hj => ?_) (fun i j r d hr hj => (ih i j r d hr hj).wide (fun b hb => ⟨(hY i j b hb.1).1, hb.2⟩))
    rw [cell_of_block hblk, Nat.zero_add]
    exact hc i j r d hr hj
theorem Own.form {w : World} {v : Value} {xs : List (List Dt)} {X : Nat → Prop} (h : Own w v (.row xs) X) : ∃ a cap, v = .slice a xs.length cap := by
  cases h with
  | nil => exact ⟨none, 0, rfl⟩
  | row g cap n e cur xs vs Y X => exact ⟨_, cap, rfl⟩

/-- The cells of a struct that a call owns. -/
def OFs (w : World) : List Value → List Dt → (Nat → Prop) → Prop
  | [], [], _ => True
  | v :: vs, d :: ds, X => ∃ X1 X2 : Nat → Prop, (∀ b, X1 b → X b) ∧ (∀ b, X2 b → X b) ∧ (∀ b, X1 b → X2 b → False) ∧ Own w v d X1 ∧ OFs w vs ds X2
  | _, _, _ => False
theorem OFs.mono {w : World} : ∀ {vs : List Value} {ds : List Dt} {X X' : Nat → Prop}, OFs w vs ds X → (∀ b, X b → X' b) → OFs w vs ds X'
  | [], [], _, _, _, _ => trivial
  | _ :: _, _ :: _, _, _, ⟨X1, X2, h1, h2, h3, h4, h5⟩, hX => ⟨X1, X2, fun b hb => hX b (h1 b hb), fun b hb => hX b (h2 b hb), h3, h4, h5⟩
  | [], _ :: _, _, _, h, _ => h.elim
  | _ :: _, [], _, _, h, _ => h.elim
theorem OFs.moved {w w' : World} : ∀ {vs : List Value} {ds : List Dt} {X : Nat → Prop}, OFs w vs ds X → (∀ b, X b → b < w.heap.size → w'.heap[b]? = w.heap[b]?) → OFs w' vs ds X
  | [], [], _, _, _ => trivial
  | _ :: _, _ :: _, _, ⟨X1, X2, h1, h2, h3, h4, h5⟩, hw => ⟨X1, X2, h1, h2, h3, h4.moved (fun b hb => hw b (h1 b hb)), h5.moved (fun b hb => hw b (h2 b hb))⟩
  | [], _ :: _, _, h, _ => h.elim
  | _ :: _, [], _, h, _ => h.elim
theorem OFs.up {w w' : World} {vs : List Value} {ds : List Dt} {X : Nat → Prop} (h : OFs w vs ds X) (hb : Below w.heap.size w w') : OFs w' vs ds X :=
  h.moved (fun b _ hlt => hb.block b hlt)
theorem OFs.at {w : World} : ∀ {vs : List Value} {ds : List Dt} {X : Nat → Prop}, OFs w vs ds X → FsAt w (fun b => X b ∧ Pl w b) vs ds
  | [], [], _, _ => trivial
  | _ :: _, _ :: _, _, ⟨_, _, h1, h2, _, h4, h5⟩ => ⟨h4.at.wide (fun b hb => ⟨h1 b hb.1, hb.2⟩), h5.at.kept (fun _ _ _ => rfl) (Nat.le_refl _) (fun b hb _ => ⟨h2 b hb.1, hb.2⟩)⟩
  | [], _ :: _, _, h => h.elim
  | _ :: _, [], _, h => h.elim
/-- Blocks between two numbers. -/
abbrev Btw (lo hi : Nat) : Nat → Prop := fun b => lo ≤ b ∧ b < hi
theorem OFs.cons {w : World} {v : Value} {vs : List Value} {d : Dt} {ds : List Dt} {lo mid hi : Nat} (h : Own w v d (Btw lo mid)) (hs : OFs w vs ds (Btw mid hi)) (h1 : lo ≤ mid) (h2 : mid ≤ hi) : OFs w (v :: vs) (d :: ds) (Btw lo hi) :=
  ⟨_, _, fun _ hb => ⟨hb.1, Nat.lt_of_lt_of_le hb.2 h2⟩, fun _ hb => ⟨Nat.le_trans h1 hb.1, hb.2⟩, fun _ hb hb' => by have := hb.2; have := hb'.1; omega, h, hs⟩
theorem OFs.int {w : World} {vs : List Value} {ds : List Dt} {X : Nat → Prop} {z : Int} (hz : inI64 z) (hs : OFs w vs ds X) : OFs w (.int .i64 z :: vs) (.int z :: ds) X :=
  ⟨fun _ => False, X, fun _ h => h.elim, fun _ h => h, fun _ h _ => h, .int z hz _, hs⟩
theorem OFs.str {w : World} {vs : List Value} {ds : List Dt} {X : Nat → Prop} {b : ByteArray} (hb : b.size ≤ maxLen) (hs : OFs w vs ds X) : OFs w (.string b :: vs) (.str b :: ds) X :=
  ⟨fun _ => False, X, fun _ h => h.elim, fun _ h => h, fun _ h _ => h, .str b hb _, hs⟩
theorem OFs.append {w : World} {lo mid hi : Nat} (h1 : lo ≤ mid) (h2 : mid ≤ hi) : ∀ {vs us : List Value} {ds es : List Dt} {X : Nat → Prop}, OFs w vs ds X → (∀ b, X b → Btw lo mid b) → OFs w us es (Btw mid hi) → OFs w (vs ++ us) (ds ++ es) (fun b => X b ∨ Btw mid hi b)
  | [], _, [], _, _, _, _, k => k.mono (fun _ hb => .inr hb)
  | _ :: _, _, _ :: _, _, _, ⟨X1, X2, g1, g2, g3, g4, g5⟩, hX, k => ⟨X1, _, fun b hb => .inl (g1 b hb), fun b hb => hb.elim (fun hb => .inl (g2 b hb)) .inr, fun b hb hb' => by
      rcases hb' with hb' | hb'
      · exact g3 b hb hb'
      · have := (hX b (g1 b hb)).2; have := hb'.1; omega, g4, OFs.append h1 h2 g5 (fun b hb => hX b (g2 b hb)) k⟩
  | [], _, _ :: _, _, _, h, _, _ => h.elim
  | _ :: _, _, [], _, _, h, _, _ => h.elim
theorem OFs.app {w : World} {lo mid hi : Nat} {vs us : List Value} {ds es : List Dt} (h : OFs w vs ds (Btw lo mid)) (k : OFs w us es (Btw mid hi)) (h1 : lo ≤ mid) (h2 : mid ≤ hi) : OFs w (vs ++ us) (ds ++ es) (Btw lo hi) :=
  (OFs.append h1 h2 h (fun _ hb => hb) k).mono (fun _ hb => hb.elim (fun hb => ⟨hb.1, Nat.lt_of_lt_of_le hb.2 h2⟩) (fun hb => ⟨Nat.le_trans h1 hb.1, hb.2⟩))
/-- As a family. -/
theorem OFs.fam {w : World} : ∀ {vs : List Value} {ds : List Dt} {X : Nat → Prop}, OFs w vs ds X → vs.length = ds.length ∧ ∃ Y : Nat → Nat → Prop, (∀ j b, Y j b → X b) ∧ (∀ j j' b, Y j b → Y j' b → j = j') ∧ ∀ (j : Nat) (v : Value) (d : Dt), vs[j]? = some v → ds[j]? = some d → Own w v d (Y j)
  | [], [], _, _ => ⟨rfl, fun _ _ => False, fun _ _ h => h.elim, fun _ _ _ h => h.elim, fun j v d h => by simp at h⟩
  | v :: vs, d :: ds, X, ⟨X1, X2, h1, h2, h3, h4, h5⟩ => by
    obtain ⟨hl, Y, k1, k2, k3⟩ := OFs.fam h5
    refine ⟨by simp [hl], fun j => match j with | 0 => X1 | j + 1 => Y j, fun j b hb => ?_, fun j j' b hb hb' => ?_, fun j v' d' hv hd => ?_⟩
    · cases j with
      | zero => exact h1 b hb
      | succ j => exact h2 b (k1 j b hb)
    · cases j with
      | zero =>
        cases j' with
        | zero => rfl
        | succ j' => exact (h3 b hb (k1 j' b hb')).elim
      | succ j =>
        cases j' with
        | zero => exact (h3 b hb' (k1 j b hb)).elim
        | succ j' => rw [k2 j j' b hb hb']
    · cases j with
      | zero => simp at hv hd; subst hv hd; exact h4
      | succ j => exact k3 j v' d' (by simpa using hv) (by simpa using hd)
  | [], _ :: _, _, h => h.elim
  | _ :: _, [], _, h => h.elim

/-- Cells set one behind the other. -/
def setN (w : World) (g p : Nat) : Nat → List Value → World
  | _, [] => w
  | j, v :: vs => setN (w.setCell ⟨g, p + j, none⟩ v) g p (j + 1) vs
theorem setN_size : ∀ (vs : List Value) (w : World) (g p j : Nat), (setN w g p j vs).heap.size = w.heap.size
  | [], _, _, _, _ => rfl
  | v :: vs, w, g, p, j => by rw [setN, setN_size vs]; simp
theorem setN_other (g p : Nat) : ∀ (vs : List Value) (w : World) (j : Nat) (b : Nat), b ≠ g → (setN w g p j vs).heap[b]? = w.heap[b]?
  | [], _, _, _, _ => rfl
  | v :: vs, w, j, b, hb => by rw [setN, setN_other g p vs _ _ b hb, Below.heap_setCell _ _ _ _ (by simpa using hb)]
theorem setN_below {a : World} {B g p : Nat} (hg : B ≤ g) : ∀ (vs : List Value) (w : World) (j : Nat), Below B a w → Below B a (setN w g p j vs)
  | [], _, _, h => h
  | v :: vs, w, j, h => by rw [setN]; exact setN_below hg vs _ _ (h.setCell (p := ⟨g, p + j, none⟩) hg v)
theorem setN_block {e : TypeId} (g p : Nat) : ∀ (vs : List Value) (w : World) (j : Nat) (cur : Array Value), w.heap[g]? = some (.cells cur e (0, 0)) → p + j + vs.length ≤ cur.size →
    ∃ cur', (setN w g p j vs).heap[g]? = some (.cells cur' e (0, 0)) ∧ cur'.size = cur.size ∧ (∀ i v, vs[i]? = some v → cur'[p + j + i]? = some v) ∧ ∀ q, q < p + j ∨ p + j + vs.length ≤ q → cur'[q]? = cur[q]?
  | [], w, j, cur, h, _ => ⟨cur, h, rfl, fun i v hv => by simp at hv, fun _ _ => rfl⟩
  | v :: vs, w, j, cur, h, hb => by
    rw [List.length_cons] at hb
    obtain ⟨cur', h1, h2, h3, h4⟩ := setN_block g p vs (w.setCell ⟨g, p + j, none⟩ v) (j + 1) (cur.setIfInBounds (p + j) v) (block_setCell h v) (by simp; omega)
    refine ⟨cur', by rw [setN]; exact h1, by rw [h2]; simp, fun i u hu => ?_, fun q hq => ?_⟩
    · cases i with
      | zero =>
        simp at hu; subst hu
        rw [h4 _ (by omega)]
        exact Array.getElem?_setIfInBounds_self_of_lt (by omega)
      | succ i =>
        have := h3 i u (by simpa using hu)
        rw [show p + j + (i + 1) = p + (j + 1) + i by omega]
        exact this
    · rw [List.length_cons] at hq
      rw [h4 q (by omega), Array.getElem?_setIfInBounds_ne (by omega)]

/-- A row under way: its first k elements lie there. -/
def RowTo (w : World) (e : TypeId) (g n k : Nat) (xs : List (List Dt)) : Prop :=
  ∃ (cur : Array Value) (vs : Nat → Nat → Value) (Y : Nat → Nat → Nat → Prop), w.heap[g]? = some (.cells cur e (0, 0)) ∧ cur.size = xs.length * n ∧
    (∀ (i j : Nat) (r : List Dt) (d : Dt), i < k → xs[i]? = some r → r[j]? = some d → cur[i * n + j]? = some (vs i j) ∧ Own w (vs i j) d (Y i j)) ∧
    (∀ i j b, Y i j b → g < b ∧ b < w.heap.size) ∧ (∀ i j i' j' b, Y i j b → Y i' j' b → i = i' ∧ j = j')
theorem RowTo.start {w : World} {e : TypeId} {g n : Nat} {xs : List (List Dt)} {cur : Array Value} (h : w.heap[g]? = some (.cells cur e (0, 0))) (hs : cur.size = xs.length * n) : RowTo w e g n 0 xs :=
  ⟨cur, fun _ _ => .nilFunc, fun _ _ _ => False, h, hs, fun i j r d hi => by omega, fun _ _ _ h => h.elim, fun _ _ _ _ _ h => h.elim⟩
theorem idx_le {i k n : Nat} (h : i < k) : i * n + n ≤ k * n := by
  have := Nat.mul_le_mul_right n (show i + 1 ≤ k from h)
  rw [Nat.add_mul, Nat.one_mul] at this
  exact this
/-- One element more: what a call made, stored. -/
theorem RowTo.next {wr w1 : World} {e : TypeId} {g n k : Nat} {xs : List (List Dt)} {r : List Dt} {us : List Value} (h : RowTo wr e g n k xs) (hb : Below wr.heap.size wr w1) (hr : xs[k]? = some r) (hN : ∀ (i : Nat) (r : List Dt), xs[i]? = some r → r.length = n)
    (ho : OFs w1 us r (Btw wr.heap.size w1.heap.size)) : RowTo (setN w1 g (k * n) 0 us) e g n (k + 1) xs := by
  obtain ⟨cur, vs, Y, hg, hs, hc, hY, hd⟩ := h
  have hn := hN k r hr
  have hgl := lt_heap hg
  have hkl : k < xs.length := (List.getElem?_eq_some_iff.1 hr).1
  obtain ⟨hul, Z, z1, z2, z3⟩ := ho.fam
  have hg1 : w1.heap[g]? = some (.cells cur e (0, 0)) := (hb.block g hgl).trans hg
  have hkn := idx_le (n := n) hkl
  obtain ⟨cur', b1, b2, b3, b4⟩ := setN_block (e := e) g (k * n) us w1 0 cur hg1 (by rw [hul, hn, hs]; omega)
  have hoth : ∀ b, b ≠ g → (setN w1 g (k * n) 0 us).heap[b]? = w1.heap[b]? := fun b hb => setN_other g (k * n) us w1 0 b hb
  refine ⟨cur', fun i j => if i = k then (us[j]?).getD .nilFunc else vs i j, fun i j b => if i = k then Z j b else (Y i j b ∧ b < wr.heap.size), b1, by rw [b2, hs], fun i j r' d hi hr' hj => ?_, fun i j b hb' => ?_, fun i j i' j' b h1 h2 => ?_⟩
  · by_cases hik : i = k
    · subst hik
      obtain rfl : r = r' := Option.some.inj (hr.symm.trans hr')
      have hjl : j < us.length := by have := (List.getElem?_eq_some_iff.1 hj).1; omega
      have hu := List.getElem?_eq_getElem hjl
      simp only [if_true, hu, Option.getD_some]
      refine ⟨by have := b3 j _ hu; simpa using this, ?_⟩
      refine (z3 j _ d hu hj).moved (fun b hb' hlt => hoth b ?_)
      have := (z1 j b hb').1
      omega
    · simp only [if_neg hik]
      have hi' : i < k := by omega
      obtain ⟨q1, q2⟩ := hc i j r' d hi' hr' hj
      have hin := idx_le (n := n) hi'
      have hjn : j < n := by have h1 := (List.getElem?_eq_some_iff.1 hj).1; have h2 := hN i r' hr'; omega
      refine ⟨by rw [b4 _ (by omega)]; exact q1, ?_⟩
      have := q2.dom
      refine this.moved (fun b hb' hlt => ?_)
      rw [hoth b (by have := (hY i j b hb'.1).1; omega)]
      exact hb.block b hlt
  · by_cases hik : i = k
    · simp only [if_pos hik] at hb'
      have := z1 j b hb'
      rw [setN_size]
      exact ⟨by have := this.1; omega, this.2⟩
    · simp only [if_neg hik] at hb'
      rw [setN_size]
      exact ⟨(hY i j b hb'.1).1, Nat.lt_of_lt_of_le hb'.2 hb.size⟩
  · by_cases hik : i = k
    · simp only [if_pos hik] at h1
      by_cases hik' : i' = k
      · simp only [if_pos hik'] at h2
        exact ⟨by omega, z2 j j' b h1 h2⟩
      · simp only [if_neg hik'] at h2
        have := (z1 j b h1).1
        have := h2.2
        omega
    · simp only [if_neg hik] at h1
      by_cases hik' : i' = k
      · simp only [if_pos hik'] at h2
        have := (z1 j' b h2).1
        have := h1.2
        omega
      · simp only [if_neg hik'] at h2
        exact hd i j i' j' b h1.1 h2.1
theorem RowTo.done {w : World} {e : TypeId} {g n : Nat} {xs : List (List Dt)} {cap : Nat} (h : RowTo w e g n xs.length xs) (hn : ∀ (i : Nat) (r : List Dt), xs[i]? = some r → r.length = n) (hl : xs.length ≤ maxLen) (hcap : cap = xs.length) :
    Own w (.slice (some ⟨g, 0, none⟩) xs.length cap) (.row xs) (Btw g w.heap.size) := by
  subst hcap
  obtain ⟨cur, vs, Y, hg, hs, hc, hY, hd⟩ := h
  exact .row g xs.length n e cur xs vs Y _ (Nat.le_refl _) hl hs ⟨Nat.le_refl _, lt_heap hg⟩ hg hn (fun i j r d hr hj => (hc i j r d (List.getElem?_eq_some_iff.1 hr).1 hr hj).1) (fun i j r d hr hj => (hc i j r d (List.getElem?_eq_some_iff.1 hr).1 hr hj).2)
    (fun i j b hb => ⟨⟨Nat.le_of_lt (hY i j b hb).1, (hY i j b hb).2⟩, by have := (hY i j b hb).1; omega⟩) hd
end Go.Proofs.Ytlgnklpaebgnlaa
