/-
  The program's iterator over the codes of bodies: it tells them one behind the other.
-/
import Derived.Test.YtdadppjncdkpiaaTellPure
import Derived.Test.YtdadppjncdkpiaaRangeTell
import Derived.Shelf.Abstract
import Derived.Shelf.RegionOpen
import Derived.WalkKit
import Derived.OwnWalkIn
import Derived.TacticsInMore
import Derived.LoopNIn
import Derived.LoopIn
import Derived.Sort.CutIn
namespace Go.Proofs.Ytdadppjncdkpiaa
open Go.RowKit Go.Joins Go.Shelf

set_option maxRecDepth 100000
attribute [local go_sem] Oper.semAt_some

/-- The types of the iterator's own blocks. -/
def OT (t : TypeId) : Prop := t = 197 ∨ t = 51
/-- What is handed to a round. -/
def encT (x : Int × Ex) : Array Value := #[.int .i64 x.1, .agg #[.int .i64 x.2.kind, .int .i64 x.2.n, .string x.2.text, .slice none 0 0]]
def TellerAt (W : World) (T l : Nat) (n : Nat) : Prop := W.heap[T]? = some (.cells #[.int .i64 (n : Int), .func (.yield l) #[] #[]] 197 (0, 0))

/-- The boxes of bodies lie. -/
def BoxKept (W W' : World) : Prop := ∀ (k : Nat) (cs : Array Value) (rng : Nat × Nat), W.heap[k]? = some (.cells cs 51 rng) → W'.heap[k]? = some (.cells cs 51 rng)
theorem BoxKept.trans {X Y Z : World} (h : BoxKept X Y) (k : BoxKept Y Z) : BoxKept X Z := fun i cs rng hi => k i cs rng (h i cs rng hi)
theorem BoxKept.refl (W : World) : BoxKept W W := fun _ _ _ h => h
/-- What tell does. -/
def TellS (w0 : World) (n₀ l T : Nat) (J : List (Int × Ex) → World → Prop) (xs : List (Int × Ex)) (d : Nat) : Prop :=
  ∀ (n b off : Nat) (kv : Value) (e : Ex) (ab : Int) (pre : List (Int × Ex)) (W : World), b < n₀ → w0.cell? ⟨b, off, none⟩ = some (.int .i64 e.kind) → w0.cell? ⟨b, off + 1, none⟩ = some (.int .i64 e.n) → w0.cell? ⟨b, off + 2, none⟩ = some (.string e.text) → w0.cell? ⟨b, off + 3, none⟩ = some kv →
    KidsAt w0 (fun b => b < n₀) d kv e.kids → Below n₀ w0 W → TellerAt W T l pre.length → J pre W → pre ++ e.told ab pre.length <+: xs →
    CallsIn Fence.wide n Try.prog 130 #[.pointer (some ⟨T, 0, none⟩), .pointer (some ⟨b, off, none⟩), .int .i64 ab] W fun r W' =>
      r = .returned (.bool true) ∧ J (pre ++ e.told ab pre.length) W' ∧ TellerAt W' T l (pre.length + e.count) ∧ Below n₀ w0 W' ∧ BoxKept W W'

set_option maxHeartbeats 1600000 in
theorem tell_of (w0 : World) (n₀ l T : Nat) (J : List (Int × Ex) → World → Prop) (xs : List (Int × Ex)) (hT : n₀ ≤ T) (hxs : xs.length ≤ 2000000) (hJ : StableI OT n₀ J)
    (hY : ∀ m pre x W1, pre ++ [x] <+: xs → J pre W1 → YieldAt Fence.wide m Try.prog l (encT x) W1 fun e W' => e = .returned (.bool true) ∧ J (pre ++ [x]) W' ∧ KeepT OT n₀ W1 W') (d : Nat)
    (hE : TellS w0 n₀ l T J xs d) : TellS w0 n₀ l T J xs (d + 1) := by
  intro n b off kv e ab pre W hb c0 c1 c2 c3 hk hB hTl hj hpx
  rw [← hB.cell (by exact hb)] at c0 c1 c2 c3
  have t0 : W.cell? ⟨T, 0, none⟩ = some (.int .i64 (pre.length : Int)) := by rw [cell_of_block hTl]; rfl
  have t1 : W.cell? ⟨T, 1, none⟩ = some (.func (.yield l) #[] #[]) := by rw [cell_of_block hTl]; rfl
  have tf : W.frozen? ⟨T, 0, none⟩ = false := unfrozen_of_block hTl 0
  have hne : ¬ b = T := by omega
  have hlen : pre.length + e.count ≤ 2000000 := by
    have := hpx.length_le
    rw [List.length_append, Ex.told_len] at this
    omega
  have hcnt := Ex.count_eq e
  refine callsIn_of_wp Try.func130 rfl trivial ?_ rfl
  simp only [Try.ntmps130, List.size_toArray, List.length_cons, List.length_nil, Nat.reduceAdd, Nat.reduceSub, Array.replicate_succ, Array.replicate_zero, List.push_toArray, List.append_toArray, List.nil_append, List.cons_append]
  have S1 : StepI OT n₀ W (W.setCell ⟨T, 0, none⟩ (.int .i64 ((pre.length : Int) + 1))).drew := (StepI.setCell hTl (.inl rfl) hT 0 _).trans (StepI.drew OT n₀ _)
  have hT1 : TellerAt (W.setCell ⟨T, 0, none⟩ (.int .i64 ((pre.length : Int) + 1))).drew T l (pre.length + 1) := by
    have := block_setCell (i := 0) hTl (.int .i64 ((pre.length : Int) + 1))
    exact this
  have hpx1 : pre ++ [(ab, e)] <+: xs := by
    rw [Ex.told_eq] at hpx
    exact (List.prefix_append_right_inj pre |>.2 ⟨Ex.toldL pre.length (pre.length + 1) e.kids, rfl⟩).trans hpx
  have hK1 : BoxKept W (W.setCell ⟨T, 0, none⟩ (.int .i64 ((pre.length : Int) + 1))).drew := fun k cs rng h => by
    refine (Below.heap_setCell _ _ _ _ (fun e => ?_)).trans h
    have h2 : W.heap[T]? = some (.cells cs 51 rng) := by rw [← show k = T from e]; exact h
    unfold TellerAt at hTl
    rw [h2] at hTl
    simp at hTl
  have hj1 := hJ _ _ _ hj S1
  have hB1 := hB.trans S1.step.below
  have hY1 := hY (n - 1) pre (ab, e) _ hpx1 hj1
  have HY := (show Hid (_ ∧ _ ∧ _ ∧ _ ∧ _ ∧ _) from ⟨hY1, hpx, hT1, hB1, hk, hK1⟩)
  clear hY1 hj1 hB1 hT1 hK1 S1 hj hpx hpx1 hY hTl hk
  gi_upto_region 3 with fail
  gi_cut [39] from 20 (fun s wc => s = .bool false ∧ J (pre ++ [(ab, e)]) wc ∧ TellerAt wc T l (pre.length + 1) ∧ Below n₀ w0 wc ∧ BoxKept W wc)
  case first =>
    obtain ⟨fn, tmps, assign, body, hy, hR⟩ := HY.out.1
    dsimp only [encT] at hy
    have hmo : Try.prog.follows .mixedOrders = true := by kernel_rfl
    gi_region_with_o ((try refine ⟨fun h => (by cases h), ?_⟩); refine hR.mono ?_; rintro r W2 ⟨rfl, hj2, hk2⟩)
    all_goals
      gi_wp2
      gi_meet
      exact ⟨rfl, hj2, hk2.own _ _ _ _ HY.out.2.2.1 (.inl rfl), HY.out.2.2.2.1.trans hk2.below, HY.out.2.2.2.2.2.trans (fun k cs rng h => hk2.own k cs _ rng h (.inr rfl))⟩
  case rest =>
    obtain ⟨rfl, hj1, hT1, hB1, hK1⟩ := hcut
    obtain ⟨a, cap, rfl, hl, hc⟩ := HY.out.2.2.2.2.1
    unfold maxLen at hl
    rw [hB.cell (by exact hb), ← hB1.cell (by exact hb)] at c3
    have hct := Ex.countL_take e.kids
    have HC := (show Hid (_ ∧ _ ∧ _ ∧ _ ∧ _) from ⟨hc, hj1, hT1, hB1, hK1⟩)
    clear hc hj1 hT1 hB1 hK1 c0 c1 c2 t0 t1 tf
    gi_wp2
    gi_loopw [8, 45] (fun _ i wr => ∃ j : Nat, j ≤ e.kids.length ∧ i = .int .i64 j ∧ J (pre ++ (ab, e) :: Ex.toldL pre.length (pre.length + 1) (e.kids.take j)) wr ∧ TellerAt wr T l (pre.length + 1 + Ex.countL (e.kids.take j)) ∧ Below n₀ w0 wr ∧ BoxKept W wr) (fun _ i _ => e.kids.length - (intOf i).toNat)
    case atStart =>
      refine ⟨0, Nat.zero_le _, rfl, ?_, ?_, HC.out.2.2.2⟩
      · rw [List.take_zero, Ex.toldL]; exact HC.out.2.1
      · rw [List.take_zero, Ex.countL]; exact HC.out.2.2.1
    case round =>
      obtain ⟨j, hjl, rfl, hjr, hTr, hBr, hKr⟩ := hrel
      rw [HC.out.2.2.2.1.cell (by exact hb), ← hBr.cell (by exact hb)] at c3
      by_cases hlt : j < e.kids.length
      · have he := List.getElem?_eq_getElem hlt
        have hcy := hct j _ he
        have htk : e.kids.take (j + 1) = e.kids.take j ++ [e.kids[j]] := List.take_succ_eq_append_getElem hlt
        generalize e.kids[j] = y at *
        obtain ⟨b', off', kv', rfl, hS', hl1, k0, k1, k2, k3, q1, q2, q3, kk⟩ := HC.out.1 j y he
        have hpl : (pre ++ (ab, e) :: Ex.toldL pre.length (pre.length + 1) (e.kids.take j)).length = pre.length + 1 + Ex.countL (e.kids.take j) := by
          rw [List.length_append, List.length_cons, Ex.toldL_len]; omega
        have hnext : (pre ++ (ab, e) :: Ex.toldL pre.length (pre.length + 1) (e.kids.take j)) ++ y.told pre.length (pre.length + 1 + Ex.countL (e.kids.take j)) = pre ++ (ab, e) :: Ex.toldL pre.length (pre.length + 1) (e.kids.take (j + 1)) := by
          rw [htk, toldL_snoc]; simp
        have hpf : pre ++ (ab, e) :: Ex.toldL pre.length (pre.length + 1) (e.kids.take (j + 1)) <+: xs := by
          have := HY.out.2.1
          rw [Ex.told_eq] at this
          exact ((List.prefix_append_right_inj pre).2 ((List.cons_prefix_cons).2 ⟨rfl, toldL_take _ _ _ _⟩)).trans this
        have hF := hE (n - 1) b' (off' + j * 4) kv' y pre.length _ wr hS' k0 k1 k2 k3 kk hBr (by rw [hpl]; exact hTr) hjr (by rw [hpl, hnext]; exact hpf)
        rw [hpl, hnext] at hF
        have HF := (show Hid (_ ∧ _ ∧ _) from ⟨hF, hcy, hKr⟩)
        have hlt' : ((j : Nat) : Int) < ((e.kids.length : Nat) : Int) := by omega
        clear hF hjr hTr hBr hKr k0 k1 k2 k3 q1 q2 q3 kk htk hnext hpf he hcy hpl hE hct
        gi_wp2_with fail
        refine ⟨trivial, fun h => (by cases h), ?_⟩
        refine HF.out.1.mono ?_
        rintro r W2 ⟨rfl, hj2, hT2, hB2, hK2⟩
        gi_wp2
        refine ⟨⟨j + 1, by omega, by go_num, hj2, ?_, hB2, HF.out.2.2.trans hK2⟩, by simp [intOf]; omega⟩
        rw [HF.out.2.1, ← Nat.add_assoc]
        exact hT2
      · obtain rfl : j = e.kids.length := by omega
        rw [List.take_length] at hjr hTr
        have HR := (show Hid (_ ∧ _ ∧ _ ∧ _) from ⟨hjr, hTr, hBr, hKr⟩)
        clear hjr hTr hBr hKr hE hct
        gi_wp2
        go_ret
        refine ⟨rfl, ?_, ?_, HR.out.2.2⟩
        · rw [Ex.told_eq]; exact HR.out.1
        · rw [hcnt, ← Nat.add_assoc]; exact HR.out.2.1
theorem tell_any (w0 : World) (n₀ l T : Nat) (J : List (Int × Ex) → World → Prop) (xs : List (Int × Ex)) (hT : n₀ ≤ T) (hxs : xs.length ≤ 2000000) (hJ : StableI OT n₀ J)
    (hY : ∀ m pre x W1, pre ++ [x] <+: xs → J pre W1 → YieldAt Fence.wide m Try.prog l (encT x) W1 fun e W' => e = .returned (.bool true) ∧ J (pre ++ [x]) W' ∧ KeepT OT n₀ W1 W') : ∀ d, TellS w0 n₀ l T J xs d
  | 0 => fun _ _ _ _ _ _ _ _ _ _ _ _ _ hk => hk.elim
  | d + 1 => tell_of w0 n₀ l T J xs hT hxs hJ hY d (tell_any w0 n₀ l T J xs hT hxs hJ hY d)
end Go.Proofs.Ytdadppjncdkpiaa
