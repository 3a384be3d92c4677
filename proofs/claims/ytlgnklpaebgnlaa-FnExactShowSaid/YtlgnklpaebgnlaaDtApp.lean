/-
  append onto a row of a call's own, what is put behind it told as data.
-/
import Derived.Test.YtlgnklpaebgnlaaDtCopy
namespace Go.Proofs.Ytlgnklpaebgnlaa
open Go.RowKit Go.Joins

set_option maxRecDepth 100000

theorem run_append_none {w : World} (base : Nat) (t ty e : TypeId) (i : TypeInfo) (size : Nat) (ht : Try.prog.underlying t = some (.slice e)) (hi : Try.prog.info? e = some i)
    (v : Value) (n c : Nat) (xs : List Value) (hown : w.ownsRow base e size v n xs) : (Builtin.append_ #[t, t] ty #[v, .slice none 0 c]).run Try.prog w = .ok v w := by
  rcases hown.2 with ⟨rfl, rfl⟩ | ⟨g, cap, cur, rfl, _, _, hnc, _⟩
  · simp [Builtin.append_, run_underlying ht, sizeOf, typeInfo, hi, Builtin.lenOf, Builtin.firstCells]
  · simp [Builtin.append_, run_underlying ht, sizeOf, typeInfo, hi, Builtin.lenOf, Builtin.firstCells, hnc, storeCells]
theorem grown_self (w : World) (row : Option Nat) : w.grownBy w row := ⟨rfl, rfl, rfl, Nat.le_refl _, fun _ _ _ => rfl⟩
/-- The run of such an append. -/
theorem run_append_fat {w : World} (base : Nat) (t ty e : TypeId) (i : TypeInfo) (z : Value) (size bytes : Nat) (ht : Try.prog.underlying t = some (.slice e)) (hi : Try.prog.info? e = some i) (hz : i.zero = some z)
    (hsize : i.size = size) (hby : i.bytes = bytes) (hzs : z.cells.size = size) (hsz : 0 < size) (v : Value) (n : Nat) (ys : List Value) (hown : w.ownsRow base e size v n ys)
    (sv : Value) (xs : List (List Dt)) (S : Nat → Prop) (hF : FAt w S sv (.row xs)) (hN : ∀ (i : Nat) (r : List Dt), xs[i]? = some r → r.length = size) (h63 : n + xs.length ≤ maxLen) (hbytes : (n + xs.length) * bytes ≤ 140737488355328) (hbase : base ≤ w.heap.size) :
    ∃ (v' : Value) (w' : World) (flat : List Value), (Builtin.append_ #[t, t] ty #[v, sv]).run Try.prog w = .ok v' w' ∧ w'.ownsRow base e size v' (n + xs.length) (ys ++ flat) ∧ w.grownBy w' v.ownBlock ∧ (v'.ownBlock = v.ownBlock ∨ v'.ownBlock = some w.heap.size) ∧
      ∀ (i j : Nat) (r : List Dt) (d : Dt), xs[i]? = some r → r[j]? = some d → ∃ u, flat[i * size + j]? = some u ∧ FAt w S u d := by
  obtain ⟨a, cap, rfl⟩ := hF.form
  cases a with
  | none =>
    obtain rfl : xs = [] := by
      cases xs with
      | nil => rfl
      | cons x xs => obtain ⟨b, off, he, _⟩ := hF.at (k := 0) rfl; cases he
    exact ⟨v, w, [], run_append_none base t ty e i size ht hi v n cap ys hown, by simpa using hown, grown_self w _, .inl rfl, fun i j r d h => by simp at h⟩
  | some ad =>
    obtain ⟨flat, hfl, hsrc, hone, hcell⟩ := hF.flat hN hsz
    obtain ⟨v', w', hr, h2, h3, _, h5⟩ := run_append_own_at (P := Try.prog) w base t ty e i z size bytes ht hi hz hsize hby hzs hsz v n ys hown ad xs.length cap flat hfl (fun j u hj => (hsrc j u hj).1) hone h63 hbytes hbase
    exact ⟨v', w', flat, hr, h2, h3, h5, hcell⟩
theorem wpList_append_fat {w : World} {ops : Array Oper} {rest : List Oper} {o : Oper} {a : Act} {Q : Exit → Act → World → Prop} (hgd : o.guard = none) (s x : Operand) (t : TypeId)
    (ho : o.op = .call { callee := .builtin .append, args := #[s, x], argTypes := #[t, t] })
    (base : Nat) (e : TypeId) (i : TypeInfo) (z : Value) (size bytes : Nat) (ht : Try.prog.underlying t = some (.slice e)) (hi : Try.prog.info? e = some i) (hz : i.zero = some z)
    (hsize : i.size = size) (hby : i.bytes = bytes) (hzs : z.cells.size = size) (hsz : 0 < size) (v : Value) (n : Nat) (ys : List Value) (hs : a.eval s = v) (hown : w.ownsRow base e size v n ys)
    (sv : Value) (hx : a.eval x = sv) (xs : List (List Dt)) (S : Nat → Prop) (hF : FAt w S sv (.row xs)) (hN : ∀ (i : Nat) (r : List Dt), xs[i]? = some r → r.length = size) (h63 : n + xs.length ≤ maxLen) (hbytes : (n + xs.length) * bytes ≤ 140737488355328) (hbase : base ≤ w.heap.size)
    (h : ∀ v' w' flat, w'.ownsRow base e size v' (n + xs.length) (ys ++ flat) → w.grownBy w' v.ownBlock → (v'.ownBlock = v.ownBlock ∨ v'.ownBlock = some w.heap.size) →
      (∀ (i j : Nat) (r : List Dt) (d : Dt), xs[i]? = some r → r[j]? = some d → ∃ u, flat[i * size + j]? = some u ∧ FAt w S u d) → wpList Try.prog ops Q rest (a.put o.dst v') w') :
    wpList Try.prog ops Q (o :: rest) a w := by
  refine wpList_plain hgd fun K hK => ?_
  obtain ⟨v', w', flat, hr, h2, h3, h4, h5⟩ := run_append_fat (w := w) base t o.type e i z size bytes ht hi hz hsize hby hzs hsz v n ys hown sv xs S hF hN h63 hbytes hbase
  unfold Oper.wp execOp
  simp only [ho, resolve, invoke, builtin, Sem.run_bind, Sem.run_pure, Result.andThen_ok, List.map_toArray, List.map_cons, List.map_nil, hs, hx, hr]
  exact hK _ _ (h v' w' flat h2 h3 h4 h5)
/-- A row of atoms that a call owns. -/
theorem own_atoms {w w0 : World} {S : Nat → Prop} {B n : Nat} {e : TypeId} {v : Value} {xs : List (List Dt)} {flat : List Value} (h : w.ownsRow B e n v xs.length flat) (hN : ∀ (i : Nat) (r : List Dt), xs[i]? = some r → r.length = n)
    (hf : ∀ (i j : Nat) (r : List Dt) (d : Dt), xs[i]? = some r → r[j]? = some d → ∃ z, flat[i * n + j]? = some z ∧ FAt w0 S z d) (ha : ∀ (i j : Nat) (r : List Dt) (d : Dt), xs[i]? = some r → r[j]? = some d → Atom d) : Own w v (.row xs) (fun b => B ≤ b ∧ v.ownBlock = some b) := by
  rcases h.2 with ⟨rfl, h0⟩ | ⟨g, cap, cur, rfl, hb, hg, hl, hm, hs, ht⟩
  · obtain rfl : xs = [] := List.length_eq_zero_iff.1 h0
    exact .nil _
  · refine .row g cap n e cur xs (fun i j => (cur[i * n + j]?).getD .nilFunc) (fun _ _ _ => False) _ hl hm hs ⟨hb, rfl⟩ hg hN (fun i j r d hr hj => ?_) (fun i j r d hr hj => ?_) (fun _ _ _ h => h.elim) (fun _ _ _ _ _ h => h.elim)
    · obtain ⟨z, hz, _⟩ := hf i j r d hr hj
      rw [own_get ht hz]; rfl
    · obtain ⟨z, hz, hF⟩ := hf i j r d hr hj
      rw [own_get ht hz]
      exact hF.atom (ha i j r d hr hj)
theorem infoAI : (Try.prog.info? 3).map (fun i => (i.zero, i.size, i.bytes)) = some (some (.int .i64 0), 1, 8) := by kernel_rfl
end Go.Proofs.Ytlgnklpaebgnlaa
