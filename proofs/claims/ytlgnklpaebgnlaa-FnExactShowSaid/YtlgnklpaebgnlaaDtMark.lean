/-
  The laws' marks over data of any shape: in plain words, and how one cell of a row that a call owns is changed.
-/
import Derived.Test.YtlgnklpaebgnlaaDtShape
import Derived.Test.YtlgnklpaebgnlaaMark
namespace Go.Proofs.Ytlgnklpaebgnlaa
open Go.RowKit Go.Joins

set_option maxRecDepth 100000

mutual
/-- How many marks. -/
def Dt.cnt : Dt → Nat
  | .int _ => 1
  | .str _ => 1
  | .row xs => Dt.cntS xs
def Dt.cntS : List (List Dt) → Nat
  | [] => 0
  | r :: t => Dt.cntR r + Dt.cntS t
def Dt.cntR : List Dt → Nat
  | [] => 0
  | d :: t => d.cnt + Dt.cntR t
end
mutual
/-- Marked from k on. -/
def Dt.mk : Dt → Int → Dt
  | .int _, k => .int k
  | .str _, k => .str (markT k)
  | .row xs, k => .row (Dt.mkS xs k)
def Dt.mkS : List (List Dt) → Int → List (List Dt)
  | [], _ => []
  | r :: t, k => Dt.mkR r k :: Dt.mkS t (k + (Dt.cntR r : Int))
def Dt.mkR : List Dt → Int → List Dt
  | [], _ => []
  | d :: t, k => d.mk k :: Dt.mkR t (k + (d.cnt : Int))
end
/-- A struct's own rows. -/
def tcnt : List Dt → Nat
  | [] => 0
  | .row xs :: t => Dt.cntS xs + tcnt t
  | _ :: t => tcnt t
def tmk : List Dt → Int → List Dt
  | [], _ => []
  | .row xs :: t, k => .row (Dt.mkS xs k) :: tmk t (k + (Dt.cntS xs : Int))
  | d :: t, k => d :: tmk t k

/-- How many marks the first k elements take. -/
def preC (xs : List (List Dt)) (k : Nat) : Nat := ((xs.take k).map Dt.cntR).sum
theorem preC_zero (xs : List (List Dt)) : preC xs 0 = 0 := by simp [preC]
theorem preC_succ {xs : List (List Dt)} {k : Nat} {r : List Dt} (h : xs[k]? = some r) : preC xs (k + 1) = preC xs k + Dt.cntR r := by
  unfold preC
  have hk := (List.getElem?_eq_some_iff.1 h).1
  rw [List.take_succ_eq_append_getElem hk, List.map_append, List.sum_append, (List.getElem?_eq_some_iff.1 h).2]
  simp
theorem preC_le (xs : List (List Dt)) (k : Nat) : preC xs k ≤ preC xs xs.length := by
  unfold preC
  rw [List.take_length]
  conv => rhs; rw [← List.take_append_drop k xs, List.map_append, List.sum_append]
  omega
theorem cntS_eq : ∀ xs : List (List Dt), Dt.cntS xs = preC xs xs.length
  | [] => by rw [Dt.cntS]; simp [preC]
  | r :: t => by
    have := cntS_eq t
    unfold preC at *
    rw [Dt.cntS, this, List.take_length, List.take_length]
    simp
/-- The k-th element, marked. -/
theorem mkS_at : ∀ {xs : List (List Dt)} {k : Nat} {r : List Dt} (k0 : Int), xs[k]? = some r → (Dt.mkS xs k0)[k]? = some (Dt.mkR r (k0 + (preC xs k : Int)))
  | [], _, _, _, h => by simp at h
  | r :: t, 0, r', k0, h => by
    obtain rfl : r = r' := by simpa using h
    rw [Dt.mkS, preC_zero]
    simp
  | r :: t, k + 1, r', k0, h => by
    have := mkS_at (xs := t) (k := k) (r := r') (k0 + (Dt.cntR r : Int)) (by simpa using h)
    rw [Dt.mkS, List.getElem?_cons_succ, this]
    have e : preC (r :: t) (k + 1) = Dt.cntR r + preC t k := by simp [preC]
    rw [e]
    congr 2
    omega
theorem mkS_len : ∀ (xs : List (List Dt)) (k0 : Int), (Dt.mkS xs k0).length = xs.length
  | [], _ => by rw [Dt.mkS]
  | r :: t, k0 => by rw [Dt.mkS, List.length_cons, mkS_len, List.length_cons]
/-- Under way: the first k elements are marked. -/
def mids (xs : List (List Dt)) (k0 : Int) : Nat → List (List Dt)
  | 0 => xs
  | k + 1 => (mids xs k0 k).set k (Dt.mkR (xs[k]?.getD []) (k0 + (preC xs k : Int)))
theorem mids_len (xs : List (List Dt)) (k0 : Int) : ∀ k, (mids xs k0 k).length = xs.length
  | 0 => rfl
  | k + 1 => by rw [mids, List.length_set, mids_len]
theorem mids_later (xs : List (List Dt)) (k0 : Int) : ∀ (k i : Nat), k ≤ i → (mids xs k0 k)[i]? = xs[i]?
  | 0, _, _ => rfl
  | k + 1, i, h => by rw [mids, List.getElem?_set_ne (by omega), mids_later xs k0 k i (by omega)]
theorem mids_done (xs : List (List Dt)) (k0 : Int) : ∀ (k i : Nat) (r : List Dt), i < k → xs[i]? = some r → (mids xs k0 k)[i]? = some (Dt.mkR r (k0 + (preC xs i : Int)))
  | 0, i, _, h, _ => by omega
  | k + 1, i, r, h, hr => by
    rw [mids]
    by_cases hi : i = k
    · subst hi
      rw [List.getElem?_set_self (by rw [mids_len]; exact (List.getElem?_eq_some_iff.1 hr).1), hr]
      rfl
    · rw [List.getElem?_set_ne (by omega)]
      exact mids_done xs k0 k i r (by omega) hr
theorem mids_all (xs : List (List Dt)) (k0 : Int) : mids xs k0 xs.length = Dt.mkS xs k0 := by
  refine List.ext_getElem? fun i => ?_
  by_cases hi : i < xs.length
  · have hr := List.getElem?_eq_getElem hi
    rw [mids_done xs k0 _ i _ hi hr, mkS_at k0 hr]
  · rw [List.getElem?_eq_none (by rw [mids_len]; omega), List.getElem?_eq_none (by rw [mkS_len]; omega)]
theorem mids_succ {xs : List (List Dt)} {k : Nat} {r : List Dt} (k0 : Int) (h : xs[k]? = some r) : mids xs k0 (k + 1) = (mids xs k0 k).set k (Dt.mkR r (k0 + (preC xs k : Int))) := by
  rw [mids, h]; rfl

/-- One cell of a row: where it lies, and what the row is when it is changed. -/
theorem Own.slot {w : World} {v : Value} {xs : List (List Dt)} {X : Nat → Prop} (h : Own w v (.row xs) X) {i j : Nat} {r : List Dt} {d : Dt} (hr : xs[i]? = some r) (hj : r[j]? = some d) :
    ∃ (g cap : Nat) (u : Value) (Y : Nat → Prop), v = .slice (some ⟨g, 0, none⟩) xs.length cap ∧ g < w.heap.size ∧ X g ∧ w.cell? ⟨g, i * r.length + j, none⟩ = some u ∧ w.frozen? ⟨g, i * r.length + j, none⟩ = false ∧ Own w u d Y ∧ (∀ b, Y b → X b ∧ b ≠ g) ∧
      (∀ (u' : Value) (d' : Dt), (∀ W : World, Own W u' d' Y) → Own (w.setCell ⟨g, i * r.length + j, none⟩ u') v (.row (xs.set i (r.set j d'))) X) ∧
      (∀ (w' : World) (d' : Dt), KB Y w w' → Own w' u d' Y → Own w' v (.row (xs.set i (r.set j d'))) X) := by
  cases h with
  | nil => simp at hr
  | row g cap n e cur xs vs Y X hl hcap hs hg hblk hn hc hk hY hdis =>
    have hrn := hn i r hr
    have hgl := lt_heap hblk
    have hil : i < xs.length := (List.getElem?_eq_some_iff.1 hr).1
    have hjl : j < r.length := (List.getElem?_eq_some_iff.1 hj).1
    have hq : i * n + j < cur.size := by
      rw [hs]
      have h1 := idx_le (n := n) hil
      have h2 := Nat.mul_le_mul_right n hl
      omega
    have inj : ∀ (i' j' : Nat), j' < n → i' * n + j' = i * n + j → i' = i ∧ j' = j := by
      intro i' j' hj' he
      have hjn : j < n := by omega
      have e1 : (i' * n + j') / n = i' := by rw [Nat.mul_comm, Nat.mul_add_div (by omega), Nat.div_eq_of_lt hj', Nat.add_zero]
      have e2 : (i * n + j) / n = i := by rw [Nat.mul_comm, Nat.mul_add_div (by omega), Nat.div_eq_of_lt hjn, Nat.add_zero]
      have : i' = i := by rw [← e1, ← e2, he]
      subst this
      exact ⟨rfl, by omega⟩
    -- the new rows, one by one
    have rows : ∀ (d' : Dt) (i' : Nat) (r' : List Dt), (xs.set i (r.set j d'))[i']? = some r' → (i' = i ∧ r' = r.set j d') ∨ (i' ≠ i ∧ xs[i']? = some r') := by
      intro d' i' r' h'
      by_cases hi : i' = i
      · subst hi
        rw [List.getElem?_set_self hil] at h'
        exact .inl ⟨rfl, (Option.some.inj h').symm⟩
      · rw [List.getElem?_set_ne (Ne.symm hi)] at h'
        exact .inr ⟨hi, h'⟩
    have flds : ∀ (d' : Dt) (j' : Nat) (q : Dt), (r.set j d')[j']? = some q → (j' = j ∧ q = d') ∨ (j' ≠ j ∧ r[j']? = some q) := by
      intro d' j' q h'
      by_cases hj' : j' = j
      · subst hj'
        rw [List.getElem?_set_self hjl] at h'
        exact .inl ⟨rfl, (Option.some.inj h').symm⟩
      · rw [List.getElem?_set_ne (Ne.symm hj')] at h'
        exact .inr ⟨hj', h'⟩
    have hlen : ∀ d' : Dt, xs.length = (xs.set i (r.set j d')).length := fun d' => by rw [List.length_set]
    refine ⟨g, cap, vs i j, Y i j, rfl, hgl, hg, ?_, unfrozen_of_block hblk _, hk i j r d hr hj, hY i j, fun u' d' ho => ?_, fun w' d' kb ho => ?_⟩
    · rw [cell_of_block hblk, hrn]
      exact hc i j r d hr hj
    · rw [hrn, hlen d']
      refine .row g cap n e (cur.setIfInBounds (i * n + j) u') _ (fun i' j' => if i' = i ∧ j' = j then u' else vs i' j') Y X (by rw [← hlen d']; exact hl) hcap (by simp [hs]) hg (block_setCell hblk u') (fun i' r' h' => ?_) (fun i' j' r' q h' hq' => ?_) (fun i' j' r' q h' hq' => ?_) hY hdis
      · rcases rows d' i' r' h' with ⟨rfl, rfl⟩ | ⟨_, h2⟩
        · rw [List.length_set]; exact hrn
        · exact hn i' r' h2
      · rcases rows d' i' r' h' with ⟨rfl, rfl⟩ | ⟨hne, h2⟩
        · rcases flds d' j' q hq' with ⟨rfl, rfl⟩ | ⟨hne, h3⟩
          · simp only [and_self, if_true]
            exact Array.getElem?_setIfInBounds_self_of_lt hq
          · simp only [hne, and_false, if_false]
            rw [Array.getElem?_setIfInBounds_ne (by omega)]
            exact hc _ j' r q hr h3
        · simp only [hne, false_and, if_false]
          have hj'n : j' < n := by have h4 := (List.getElem?_eq_some_iff.1 hq').1; rw [hn i' r' h2] at h4; exact h4
          rw [Array.getElem?_setIfInBounds_ne (fun e => hne (inj i' j' hj'n e.symm).1)]
          exact hc i' j' r' q h2 hq'
      · rcases rows d' i' r' h' with ⟨rfl, rfl⟩ | ⟨hne, h2⟩
        · rcases flds d' j' q hq' with ⟨rfl, rfl⟩ | ⟨hne, h3⟩
          · simp only [and_self, if_true]
            exact ho _
          · simp only [hne, and_false, if_false]
            exact (hk _ j' r q hr h3).set (p := ⟨g, _, none⟩) (fun hy => (hY _ j' g hy).2 rfl) u'
        · simp only [hne, false_and, if_false]
          exact (hk i' j' r' q h2 hq').set (p := ⟨g, _, none⟩) (fun hy => (hY i' j' g hy).2 rfl) u'
    · rw [hlen d']
      have hblk' : w'.heap[g]? = some (.cells cur e (0, 0)) := kb.heap hblk (fun hy => (hY i j g hy).2 rfl)
      refine .row g cap n e cur _ vs Y X (by rw [← hlen d']; exact hl) hcap hs hg hblk' (fun i' r' h' => ?_) (fun i' j' r' q h' hq' => ?_) (fun i' j' r' q h' hq' => ?_) hY hdis
      · rcases rows d' i' r' h' with ⟨rfl, rfl⟩ | ⟨_, h2⟩
        · rw [List.length_set]; exact hrn
        · exact hn i' r' h2
      · rcases rows d' i' r' h' with ⟨rfl, rfl⟩ | ⟨hne, h2⟩
        · rcases flds d' j' q hq' with ⟨rfl, rfl⟩ | ⟨hne, h3⟩
          · exact hc _ _ r d hr hj
          · exact hc _ j' r q hr h3
        · exact hc i' j' r' q h2 hq'
      · rcases rows d' i' r' h' with ⟨rfl, rfl⟩ | ⟨hne, h2⟩
        · rcases flds d' j' q hq' with ⟨rfl, rfl⟩ | ⟨hne, h3⟩
          · exact ho
          · exact (hk _ j' r q hr h3).moved (fun b hb hlt => kb.block b hlt (fun hy => hne (hdis _ j' _ j b hb hy).2))
        · exact (hk i' j' r' q h2 hq').moved (fun b hb hlt => kb.block b hlt (fun hy => hne (hdis i' j' i j b hb hy).1))

theorem Own.head {w : World} {a : Option Addr} {n cap : Nat} {xs : List (List Dt)} {X : Nat → Prop} (h : Own w (.slice a n cap) (.row xs) X) {i : Nat} {r : List Dt} (hr : xs[i]? = some r) :
    ∃ g, a = some ⟨g, 0, none⟩ ∧ X g ∧ ∃ cur e, w.heap[g]? = some (.cells cur e (0, 0)) := by
  cases h with
  | nil => simp at hr
  | row g cap n e cur xs vs Y X hl hcap hs hg hblk => exact ⟨g, rfl, hg, cur, e, hblk⟩
theorem Own.slotAt {w : World} {g n cap : Nat} {xs : List (List Dt)} {X : Nat → Prop} (h : Own w (.slice (some ⟨g, 0, none⟩) n cap) (.row xs) X) {i j : Nat} {r : List Dt} {d : Dt} (hr : xs[i]? = some r) (hj : r[j]? = some d) :
    ∃ (u : Value) (Y : Nat → Prop), w.cell? ⟨g, i * r.length + j, none⟩ = some u ∧ w.frozen? ⟨g, i * r.length + j, none⟩ = false ∧ Own w u d Y ∧ (∀ b, Y b → X b ∧ b ≠ g) ∧
      (∀ (u' : Value) (d' : Dt), (∀ W : World, Own W u' d' Y) → Own (w.setCell ⟨g, i * r.length + j, none⟩ u') (.slice (some ⟨g, 0, none⟩) n cap) (.row (xs.set i (r.set j d'))) X) ∧
      (∀ (w' : World) (d' : Dt), KB Y w w' → Own w' u d' Y → Own w' (.slice (some ⟨g, 0, none⟩) n cap) (.row (xs.set i (r.set j d'))) X) := by
  obtain ⟨g', cap', u, Y, hv, -, -, h1, h2, h3, h4, h5, h6⟩ := h.slot hr hj
  obtain ⟨rfl, -⟩ : g = g' ∧ _ := by simpa using hv
  exact ⟨u, Y, h1, h2, h3, h4, h5, h6⟩
theorem OFs.dom {w : World} : ∀ {vs : List Value} {ds : List Dt} {X : Nat → Prop}, OFs w vs ds X → OFs w vs ds (fun b => X b ∧ b < w.heap.size)
  | [], [], _, _ => trivial
  | _ :: _, _ :: _, _, ⟨_, _, h1, h2, h3, h4, h5⟩ => ⟨_, _, fun b hb => ⟨h1 b hb.1, hb.2⟩, fun b hb => ⟨h2 b hb.1, hb.2⟩, fun b hb hb' => h3 b hb.1 hb'.1, h4.dom, h5.dom⟩
  | [], _ :: _, _, h => h.elim
  | _ :: _, [], _, h => h.elim
theorem OFs.split {w : World} : ∀ {vs us : List Value} {ds es : List Dt} {X : Nat → Prop}, vs.length = ds.length → OFs w (vs ++ us) (ds ++ es) X → ∃ X1 X2 : Nat → Prop, (∀ b, X1 b → X b) ∧ (∀ b, X2 b → X b) ∧ (∀ b, X1 b → X2 b → False) ∧ OFs w vs ds X1 ∧ OFs w us es X2
  | [], _, [], _, X, _, h => ⟨fun _ => False, X, fun _ h => h.elim, fun _ h => h, fun _ h _ => h, trivial, h⟩
  | v :: vs, us, d :: ds, es, X, hl, ⟨X1, X2, h1, h2, h3, h4, h5⟩ => by
    obtain ⟨Z1, Z2, k1, k2, k3, k4, k5⟩ := OFs.split (vs := vs) (us := us) (ds := ds) (es := es) (by simpa using hl) h5
    exact ⟨fun b => X1 b ∨ Z1 b, Z2, fun b hb => hb.elim (h1 b) (fun hz => h2 b (k1 b hz)), fun b hb => h2 b (k2 b hb), fun b hb hz => hb.elim (fun hx => h3 b hx (k2 b hz)) (fun hx => k3 b hx hz),
      ⟨X1, Z1, fun b hb => .inl hb, fun b hb => .inr hb, fun b hb hz => h3 b hb (k1 b hz), h4, k4⟩, k5⟩
  | [], _, _ :: _, _, _, hl, _ => by simp at hl
  | _ :: _, _, [], _, _, hl, _ => by simp at hl
theorem OFs.join {w : World} : ∀ {vs us : List Value} {ds es : List Dt} {X X1 X2 : Nat → Prop}, (∀ b, X1 b → X b) → (∀ b, X2 b → X b) → (∀ b, X1 b → X2 b → False) → OFs w vs ds X1 → OFs w us es X2 → OFs w (vs ++ us) (ds ++ es) X
  | [], _, [], _, _, _, _, _, h2, _, _, k => k.mono h2
  | _ :: _, _, _ :: _, _, _, _, X2, h1, h2, h3, ⟨Z1, Z2, k1, k2, k3, k4, k5⟩, k =>
    ⟨Z1, fun b => Z2 b ∨ X2 b, fun b hb => h1 b (k1 b hb), fun b hb => hb.elim (fun hz => h1 b (k2 b hz)) (h2 b), fun b hb hz => hz.elim (k3 b hb) (h3 b (k1 b hb)), k4, OFs.join (fun _ hb => .inl hb) (fun _ hb => .inr hb) (fun b hb hz => h3 b (k2 b hb) hz) k5 k⟩
  | [], _, _ :: _, _, _, _, _, _, _, _, h, _ => h.elim
  | _ :: _, _, [], _, _, _, _, _, _, _, h, _ => h.elim

/-- What mark does at a struct, and at a row. -/
def MkC (f : FuncId) (P : List Dt → Prop) : Prop := ∀ (vs : List Value) (r : List Dt) (X : Nat → Prop) (w : World) (k : Int), P r → OFs w vs r X → 0 ≤ k → k + (tcnt r : Int) ≤ 100000000 →
  Calls Try.prog f #[.agg vs.toArray, .int .i64 k] w fun e w' => e = .returned (.int .i64 (k + (tcnt r : Int))) ∧ OFs w' vs (tmk r k) X ∧ KB X w w'
def MkSl (f : FuncId) (P : List Dt → Prop) : Prop := ∀ (v : Value) (xs : List (List Dt)) (X : Nat → Prop) (w : World) (k : Int), AllR P xs → Own w v (.row xs) X → 0 ≤ k → k + (Dt.cntS xs : Int) ≤ 100000000 →
  Calls Try.prog f #[v, .int .i64 k] w fun e w' => e = .returned (.int .i64 (k + (Dt.cntS xs : Int))) ∧ Own w' v (.row (Dt.mkS xs k)) X ∧ KB X w w'
def HlC (f : FuncId) (P : List Dt → Prop) : Prop := ∀ (vs : List Value) (r : List Dt) (S : Nat → Prop) (w : World) (k : Int), P r → FsAt w S vs (tmk r k) → 0 ≤ k → k + (tcnt r : Int) ≤ 100000000 →
  Calls Try.prog f #[.agg vs.toArray, .int .i64 k] w fun e w' => e = .returned (.int .i64 (k + (tcnt r : Int))) ∧ Below w.heap.size w w'
def HlSl (f : FuncId) (P : List Dt → Prop) : Prop := ∀ (v : Value) (xs : List (List Dt)) (S : Nat → Prop) (w : World) (k : Int), AllR P xs → FAt w S v (.row (Dt.mkS xs k)) → 0 ≤ k → k + (Dt.cntS xs : Int) ≤ 100000000 →
  Calls Try.prog f #[v, .int .i64 k] w fun e w' => e = .returned (.int .i64 (k + (Dt.cntS xs : Int))) ∧ Below w.heap.size w w'
theorem markT_len (k : Int) (h : k ≤ 1000000000) : (markT k).size ≤ maxLen := by
  unfold markT maxLen
  split
  · decide
  · have : ∀ (f n : Nat) (acc : List UInt8), (markD f n acc).length ≤ f + acc.length := by
      intro f
      induction f with
      | zero => intro n acc; simp [markD]
      | succ f ih =>
        intro n acc
        rw [markD]
        split
        · omega
        · have := ih (n / 10) (UInt8.ofNat (48 + n % 10) :: acc)
          simp only [List.length_cons] at this
          omega
    have h1 := this k.toNat k.toNat []
    simp only [ByteArray.size, List.size_toArray, List.length_cons]
    simp at h1
    omega
end Go.Proofs.Ytlgnklpaebgnlaa
