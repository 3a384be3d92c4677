/-
  A struct's cells that are filled one by one, in whatever order.
-/
import Derived.Test.YtlgnklpaebgnlaaDtSnoc
import Derived.Test.YtlgnklpaebgnlaaDtMark
import Derived.Test.YtlgnklpaebgnlaaDtApp
import Derived.Test.YtlgnklpaebgnlaaStepCall1
import Derived.OrdersHeld
namespace Go.Proofs.Ytlgnklpaebgnlaa
open Go.RowKit Go.Joins

set_option maxRecDepth 100000

/-- A slot gets what a call made. -/
theorem OFs.put {w w1 : World} {vs : List Value} {ds : List Dt} {X : Nat → Prop} {v : Value} {d : Dt} (j : Nat) (h : OFs w vs ds X) (hX : ∀ b, X b → b < w.heap.size) (hb : Below w.heap.size w w1) (ho : Own w1 v d (Btw w.heap.size w1.heap.size)) :
    OFs w1 (vs.set j v) (ds.set j d) (fun b => X b ∨ Btw w.heap.size w1.heap.size b) := by
  obtain ⟨hl, Y, y1, y2, y3⟩ := h.fam
  refine OFs.mk (fun i b => if i = j then Btw w.heap.size w1.heap.size b else Y i b) (by simp [hl]) (fun i b hb' => ?_) (fun i i' b hb1 hb2 => ?_) (fun i v' d' hv hd => ?_)
  · by_cases hi : i = j
    · simp only [hi, if_true] at hb'; exact .inr hb'
    · simp only [hi, if_false] at hb'; exact .inl (y1 i b hb')
  · by_cases hi : i = j <;> by_cases hi' : i' = j
    · omega
    · simp only [hi, hi', if_true, if_false] at hb1 hb2
      have h1 := hX b (y1 i' b hb2)
      have h2 := hb1.1
      omega
    · simp only [hi, hi', if_true, if_false] at hb1 hb2
      have h1 := hX b (y1 i b hb1)
      have h2 := hb2.1
      omega
    · simp only [hi, hi', if_false] at hb1 hb2
      exact y2 i i' b hb1 hb2
  · by_cases hi : i = j
    · subst hi
      have hjl : i < vs.length := by have := (List.getElem?_eq_some_iff.1 hv).1; simpa using this
      rw [List.getElem?_set_self hjl] at hv
      rw [List.getElem?_set_self (by omega)] at hd
      simp only [if_true]
      rw [← Option.some.inj hv, ← Option.some.inj hd]
      exact ho
    · rw [List.getElem?_set_ne (Ne.symm hi)] at hv hd
      simp only [hi, if_false]
      exact (y3 i v' d' hv hd).up hb
/-- A slot's row has grown. -/
theorem OFs.rep {w w1 : World} {vs : List Value} {ds : List Dt} {X : Nat → Prop} {v v0 : Value} {d d0 : Dt} (j : Nat) (h : OFs w vs ds X) (hX : ∀ b, X b → b < w.heap.size) (hv0 : vs[j]? = some v0) (hd0 : ds[j]? = some d0) (hg : w.grownBy w1 v0.ownBlock)
    (ho : Own w1 v d (fun b => v.ownBlock = some b)) (hat : v.ownBlock = v0.ownBlock ∨ v.ownBlock = some w.heap.size) : OFs w1 (vs.set j v) (ds.set j d) (fun b => X b ∨ b = w.heap.size) := by
  obtain ⟨hl, Y, y1, y2, y3⟩ := h.fam
  have hj := y3 j v0 d0 hv0 hd0
  have inY : ∀ b, v.ownBlock = some b → Y j b ∨ b = w.heap.size := fun b hb => by
    rcases hat with hat | hat
    · exact .inl (hj.blk (hat.symm.trans hb))
    · rw [hat] at hb; exact .inr (Option.some.inj hb).symm
  refine OFs.mk (fun i b => if i = j then v.ownBlock = some b else Y i b) (by simp [hl]) (fun i b hb' => ?_) (fun i i' b hb1 hb2 => ?_) (fun i v' d' hv hd => ?_)
  · by_cases hi : i = j
    · simp only [hi, if_true] at hb'
      exact (inY b hb').imp (y1 j b) id
    · simp only [hi, if_false] at hb'; exact .inl (y1 i b hb')
  · by_cases hi : i = j <;> by_cases hi' : i' = j
    · omega
    · simp only [hi, hi', if_true, if_false] at hb1 hb2
      rcases inY b hb1 with hy | hy
      · rw [hi]; exact y2 j i' b hy hb2
      · have h1 := hX b (y1 i' b hb2)
        omega
    · simp only [hi, hi', if_true, if_false] at hb1 hb2
      rcases inY b hb2 with hy | hy
      · rw [hi']; exact y2 i j b hb1 hy
      · have h1 := hX b (y1 i b hb1)
        omega
    · simp only [hi, hi', if_false] at hb1 hb2
      exact y2 i i' b hb1 hb2
  · by_cases hi : i = j
    · subst hi
      have hjl : i < vs.length := by have := (List.getElem?_eq_some_iff.1 hv).1; simpa using this
      rw [List.getElem?_set_self hjl] at hv
      rw [List.getElem?_set_self (by omega)] at hd
      simp only [if_true]
      rw [← Option.some.inj hv, ← Option.some.inj hd]
      exact ho
    · rw [List.getElem?_set_ne (Ne.symm hi)] at hv hd
      simp only [hi, if_false]
      exact (y3 i v' d' hv hd).moved (fun b hb hlt => hg.block b hlt (fun e => hi (y2 i j b hb (hj.blk e.symm))))
/-- append of data within a region that draws. -/
theorem step_append_fat {ops : Array Oper} {o : Oper} {a : Act} {w : World} {K : Act → World → Prop} {Q : Exit → Act → World → Prop} {E : Prop}
    (hgd : o.guard = none) (s x : Operand) (t : TypeId) (ho : o.op = .call { callee := .builtin .append, args := #[s, x], argTypes := #[t, t] })
    (base : Nat) (e : TypeId) (i : TypeInfo) (z : Value) (size bytes : Nat) (ht : Try.prog.underlying t = some (.slice e)) (hi : Try.prog.info? e = some i) (hz : i.zero = some z)
    (hsize : i.size = size) (hby : i.bytes = bytes) (hzs : z.cells.size = size) (hsz : 0 < size) (v : Value) (n : Nat) (ys : List Value) (hs : a.eval s = v) (hown : w.ownsRow base e size v n ys)
    (sv : Value) (hx : a.eval x = sv) (xs : List (List Dt)) (S : Nat → Prop) (hF : FAt w S sv (.row xs)) (hN : ∀ (i : Nat) (r : List Dt), xs[i]? = some r → r.length = size) (h63 : n + xs.length ≤ maxLen) (hbytes : (n + xs.length) * bytes ≤ 140737488355328) (hbase : base ≤ w.heap.size)
    (h : ∀ v' w' flat, w'.ownsRow base e size v' (n + xs.length) (ys ++ flat) → w.grownBy w' v.ownBlock → (v'.ownBlock = v.ownBlock ∨ v'.ownBlock = some w.heap.size) →
      (∀ (i j : Nat) (r : List Dt) (d : Dt), xs[i]? = some r → r[j]? = some d → ∃ u, flat[i * size + j]? = some u ∧ FAt w S u d) → K (a.put o.dst v') w') :
    if Region.wanted o (yielded ops a.tmps) = true then Oper.wp Try.prog o a w K Q else E := by
  have hw : Region.wanted o (yielded ops a.tmps) = true := by simp [Region.wanted, hgd]
  rw [if_pos hw]
  obtain ⟨v', w', flat, hr, h2, h3, h4, h5⟩ := run_append_fat (w := w) base t o.type e i z size bytes ht hi hz hsize hby hzs hsz v n ys hown sv xs S hF hN h63 hbytes hbase
  unfold Oper.wp execOp
  simp only [ho, resolve, invoke, builtin, Sem.run_bind, Sem.run_pure, Result.andThen_ok, List.map_toArray, List.map_cons, List.map_nil, hs, hx, hr]
  exact h v' w' flat h2 h3 h4 h5
theorem own_empty (w : World) (e : TypeId) : Own (w.alloc (.cells #[] e)) (.slice (some ⟨w.heap.size, 0, none⟩) 0 0) (.row []) (Btw w.heap.size (w.alloc (.cells #[] e)).heap.size) :=
  .row w.heap.size 0 1 e #[] [] (fun _ _ => .nilFunc) (fun _ _ _ => False) _ (Nat.le_refl _) (Nat.zero_le _) rfl ⟨Nat.le_refl _, by simp⟩ (MapKept.heap_alloc w _).1 (fun i r h => by simp at h) (fun i j r d h => by simp at h) (fun i j r d h => by simp at h) (fun _ _ _ h => h.elim) (fun _ _ _ _ _ h => h.elim)
theorem row_empty {w : World} {g B : Nat} {e : TypeId} (h : w.heap[g]? = some (.cells #[] e)) (hB : B ≤ g) : w.ownsRow B e 1 (.slice (some ⟨g, 0, none⟩) 0 0) 0 [] :=
  ⟨rfl, .inr ⟨g, 0, #[], rfl, hB, h, Nat.le_refl _, Nat.zero_le _, rfl, rfl⟩⟩
/-- The goal of a drawn region, told by a name, so that states can be proved one by one. -/
theorem via_G {P : Program} {md : Region.Mode} {ops : Array Oper} {Q : Exit → Act → World → Prop} {S : World → Prop} {n : Nat} {l : Array Bool} {t : Array Value} {w : World}
    (h : ∀ G : Nat → Array Bool → Array Value → World → Prop, (∀ n l t w, wpAnyH P md ops Q S n l ⟨t, []⟩ w → G n l t w) → (∀ n l t w, G n l t w → wpAnyH P md ops Q S n l ⟨t, []⟩ w) → G n l t w) : wpAnyH P md ops Q S n l ⟨t, []⟩ w :=
  h (fun n l t w => wpAnyH P md ops Q S n l ⟨t, []⟩ w) (fun _ _ _ _ h => h) (fun _ _ _ _ h => h)
end Go.Proofs.Ytlgnklpaebgnlaa
