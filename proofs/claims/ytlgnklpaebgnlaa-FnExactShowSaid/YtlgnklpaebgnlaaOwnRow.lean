/-
  Rows of a call's own, of whatever type: their form, their blocks, what keeps them.
-/
import Derived.Test.YtlgnklpaebgnlaaIntsRow
import Derived.Maps.AppendAt
import Derived.Laws.OwnMore
namespace Go.Proofs.Ytlgnklpaebgnlaa
open Go.RowKit Go.Joins

set_option maxRecDepth 100000

theorem infoCdI : (Try.prog.info? 3).map (fun i => (i.zero, i.size, i.bytes)) = some (some (.int .i64 0), 1, 8) := by kernel_rfl
theorem own_form {w : World} {B n size : Nat} {e : TypeId} {v : Value} {xs : List Value} (h : w.ownsRow B e size v n xs) : ∃ a cap, v = .slice a n cap := by
  rcases h.2 with ⟨rfl, rfl⟩ | ⟨g, cap, cur, rfl, _⟩
  · exact ⟨none, 0, rfl⟩
  · exact ⟨_, _, rfl⟩
theorem own_formN {w : World} {B n size : Nat} {e : TypeId} {v : Value} {xs : List Value} (h : w.ownsRow B e size v n xs) : ∃ n' a cap, n' = n ∧ v = .slice a n' cap := by
  obtain ⟨a, cap, rfl⟩ := own_form h
  exact ⟨n, a, cap, rfl, rfl⟩
theorem own_some {w : World} {B n size : Nat} {e : TypeId} {v : Value} {xs : List Value} (h : w.ownsRow B e size v n xs) (hn : 0 < n) : ∃ g cap, v = .slice (some ⟨g, 0, none⟩) n cap := by
  rcases h.2 with ⟨_, h0⟩ | ⟨g, cap, cur, hv, _⟩
  · omega
  · exact ⟨g, cap, hv⟩
/-- Two growths one behind the other, the second of a row that is the first's or new. -/
theorem grown_two {w w1 w2 : World} {row row' : Option Nat} (h1 : w.grownBy w1 row) (h2 : w1.grownBy w2 row') (hr : ∀ g, row' = some g → row = some g ∨ w.heap.size ≤ g) : w.grownBy w2 row := by
  refine ⟨h2.os.trans h1.os, h2.tape.trans h1.tape, h2.output.trans h1.output, Nat.le_trans h1.size h2.size, fun k hk hn => ?_⟩
  have hk1 : k < w1.heap.size := Nat.lt_of_lt_of_le hk h1.size
  refine (h2.block k hk1 (fun e => ?_)).trans (h1.block k hk hn)
  rcases hr k e.symm with h | h
  · exact hn h.symm
  · omega
theorem int_one (z : Int) : ∀ u ∈ [Value.int .i64 z], u.oneCell' = true := by
  intro u hu
  rw [List.mem_singleton.1 hu]
  rfl
theorem irow_empty (w : World) (base : Nat) (h : base ≤ w.heap.size) : (w.alloc (.cells #[] 3)).ownsRow base 3 1 (.slice (some ⟨w.heap.size, 0, none⟩) 0 0) 0 [] :=
  World.ownsRow_made (size := 1) (e := 3) w #[] 0 h (Nat.zero_le _) (by simp)
def AptV (u v : Value) : Prop := u.ownBlock = none ∨ u.ownBlock ≠ v.ownBlock
theorem AptV.symm {u v : Value} (h : AptV u v) : AptV v u := by
  rcases h with h | h
  · unfold AptV
    cases hv : v.ownBlock with
    | none => exact .inl rfl
    | some k => exact .inr (by rw [h]; simp)
  · exact .inr (Ne.symm h)
abbrev intVs (zs : List Int) : List Value := zs.map (fun z => Value.int .i64 z)
theorem own_moved {W W' : World} {B n size : Nat} {e : TypeId} {v : Value} {xs : List Value} (h : W.ownsRow B e size v n xs) (hb : ∀ g, v.ownBlock = some g → W'.heap[g]? = W.heap[g]?) : W'.ownsRow B e size v n xs := by
  refine ⟨h.1, ?_⟩
  rcases h.2 with h | ⟨g, cap, cur, rfl, h1, h2, h3⟩
  · exact .inl h
  · exact .inr ⟨g, cap, cur, rfl, h1, (hb g rfl).trans h2, h3⟩
theorem own_type {W : World} {B n size : Nat} {e : TypeId} {v : Value} {xs : List Value} (h : W.ownsRow B e size v n xs) : ∀ g, v.ownBlock = some g → B ≤ g ∧ ∃ cs, W.heap[g]? = some (.cells cs e (0, 0)) := by
  intro g hg
  rcases h.2 with ⟨rfl, _⟩ | ⟨g', cap, cur, rfl, h1, h2, _⟩
  · simp [Value.ownBlock] at hg
  · simp [Value.ownBlock] at hg; subst hg; exact ⟨h1, cur, h2⟩
theorem own_ne {W : World} {B B' n n' size size' : Nat} {e e' : TypeId} {v v' : Value} {xs xs' : List Value} (h : W.ownsRow B e size v n xs) (h' : W.ownsRow B' e' size' v' n' xs') (he : e ≠ e') : ∀ g, v.ownBlock = some g → some g ≠ v'.ownBlock := by
  intro g hg hc
  obtain ⟨_, cs, h1⟩ := own_type h g hg
  obtain ⟨_, cs', h2⟩ := own_type h' g hc.symm
  rw [h1] at h2
  cases h2
  exact he rfl
theorem own_lt {W : World} {B n size : Nat} {e : TypeId} {v : Value} {xs : List Value} (h : W.ownsRow B e size v n xs) : ∀ g, v.ownBlock = some g → g < W.heap.size :=
  fun g hg => (own_type h g hg).2.elim (fun _ hc => (Array.getElem?_eq_some_iff.1 hc).1)
/-- What was apart from a row is apart from it when it has grown. -/
theorem AptV.grown {W : World} {B n size : Nat} {e : TypeId} {u v v' : Value} {xs : List Value} (h : AptV u v) (hu : W.ownsRow B e size u n xs) (hat : v'.ownBlock = v.ownBlock ∨ v'.ownBlock = some W.heap.size) : AptV u v' := by
  rcases hat with hat | hat
  · unfold AptV at *; rw [hat]; exact h
  · cases hb : u.ownBlock with
    | none => exact .inl hb
    | some g =>
      refine .inr ?_
      rw [hat, hb]
      have := own_lt hu g hb
      simp
      omega
theorem own_kept {W W' : World} {B n size : Nat} {e : TypeId} {u v : Value} {xs : List Value} (hu : W.ownsRow B e size u n xs) (hg : W.grownBy W' v.ownBlock) (h : AptV u v) : W'.ownsRow B e size u n xs :=
  own_moved hu (fun g hgo => hg.block g (own_lt hu g hgo) (fun e => by
    rcases h with h | h
    · rw [h] at hgo; cases hgo
    · exact h (hgo.trans e)))
theorem int_eqv {a b : Int} (h : a = b) : Value.int .i64 a = .int .i64 b := by rw [h]
theorem inI64_small {k : Int} (h0 : 0 ≤ k) (h1 : k ≤ 1000000000) : inI64 k := ⟨by omega, by omega⟩
theorem own_mono {W : World} {B B' n size : Nat} {e : TypeId} {v : Value} {xs : List Value} (h : W.ownsRow B e size v n xs) (hB : B' ≤ B) : W.ownsRow B' e size v n xs := by
  refine ⟨h.1, ?_⟩
  rcases h.2 with h | ⟨g, cap, cur, hv, h1, h2⟩
  · exact .inl h
  · exact .inr ⟨g, cap, cur, hv, Nat.le_trans hB h1, h2⟩
end Go.Proofs.Ytlgnklpaebgnlaa
