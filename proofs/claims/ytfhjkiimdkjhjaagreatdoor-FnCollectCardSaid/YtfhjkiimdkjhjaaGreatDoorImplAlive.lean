/-
  The program's Alive.
-/
import Derived.Test.YtfhjkiimdkjhjaaGreatDoorSrt
import Derived.Test.YtfhjkiimdkjhjaaGreatDoorAliveFrom
namespace Go.Proofs.YtfhjkiimdkjhjaaGreatDoor
open Go.RowKit Go.Joins Go.Maps Go.Sort Go.Shelf

set_option maxRecDepth 100000

theorem sorts_int (m : Nat) : AnyZI.SortsIn Tryz.prog Tryz.sortedA_ren Fence.wide m :=
  ⟨fun blk off cap ss W hH hblk hsz => callsIn_wide.2 (AnyM.slices_Sort_int Tryz.sortA blk off cap ss W hH hblk hsz),
   fun p cap W => callsIn_wide.2 (AnyM.slices_Sort_int_none Tryz.sortA p cap W)⟩

theorem sortedKeys_in {H : Type} (b nn : Nat) (D0 : DataW H) (R : Value → Option (DataW H × List MemPlace)) (w : World) (hown : w.ownsMap Tryz.prog 3 R b nn D0) (hmax : Maps.size D0 ≤ maxLen) (hbytes : Maps.size D0 * 8 ≤ 140737488355328) :
    CallsIn Fence.wide 5 Tryz.prog 40 #[.func (.func 58) #[] #[.pointer (some ⟨w.heap.size, 0, none⟩)]] (w.alloc (.cells #[.map (some b)] 48)) fun e w' => ∃ (v : Value) (ss : List Int), e = .returned v ∧ ss.Perm (intKeys D0) ∧
      w'.ownsRow w.heap.size 3 1 v ss.length ((ss.mergeSort (fun x y => decide (x ≤ y))).map encZ) ∧ Below w.heap.size w w' := by
  have hbl := hown.lt
  have hseq : SeqGives Fence.wide 2 Tryz.prog 58 #[.pointer (some ⟨w.heap.size, 0, none⟩)] encZ (fun ss => ss.Perm (intKeys D0)) (Maps.size D0) (w.alloc (.cells #[.map (some b)] 48)) :=
    AnyZI.keys_gives (ρ := Tryz.keysA_ren) { Tryz.keysA with } Fence.wide _ trivial rfl (by omega) w.heap.size b nn D0 _ (by simp) (by simp) (by
      obtain ⟨es, clock, hb, Ft, hs, hD⟩ := hown
      exact ⟨es, clock, (Below.heap_alloc _ _ b hbl).trans hb, Ft, hs, hD⟩)
  have cS := AnyZI.sorted_in Tryz.sortedA Fence.wide 5 trivial trivial trivial trivial rfl (by omega) (sorts_int _) (enters_of Tryz.func57 (by kernel_rfl) rfl) 58 #[.pointer (some ⟨w.heap.size, 0, none⟩)] trivial (enters_of Tryz.func58 (by kernel_rfl) rfl) _ _ hmax hbytes _ hseq
  change CallsIn _ _ Tryz.prog 40 _ _ _ at cS
  refine cS.mono ?_
  rintro e w' ⟨v, ss, rfl, hS, hrow, _, hb⟩
  exact ⟨v, ss, rfl, hS, own_mono hrow (by simp), ((Below.refl _ w).alloc (Nat.le_refl _) _).trans (hb.mono (by simp))⟩
theorem keys_call (mb : Option Nat) (W : World) : CallsIn Fence.wide 5 Tryz.prog 41 #[.map mb] W fun e w' => e = .returned (.func (.func 58) #[] #[.pointer (some ⟨W.heap.size, 0, none⟩)]) ∧ w' = W.alloc (.cells #[.map mb] 48) :=
  AnyZI.keys_in Tryz.keysA Fence.wide 5 trivial rfl mb W

theorem aliveTo_sorted (es : List Ce) (rs : List Int) : ∀ k, (aliveTo es rs k).Pairwise (fun x y => x < y) := by
  intro k
  induction k with
  | zero => simp [aliveTo]
  | succ k ih =>
    by_cases h : Reach es rs k
    · rw [aliveTo_yes h, List.pairwise_append]
      refine ⟨ih, by simp, fun x hx y hy => ?_⟩
      rw [List.mem_singleton] at hy
      subst hy
      exact (aliveTo_in es rs k x hx).2
    · rw [aliveTo_no h]; exact ih
theorem aliveOf_mem (es : List Ce) (rs : List Int) (z : Int) : z ∈ aliveOf es rs ↔ (fAlive (marksOf es rs) z).isSome = true := by
  constructor
  · intro h
    unfold aliveOf at h
    obtain ⟨i, hi, rfl⟩ := List.mem_map.1 h
    have hr : Reach es rs i := by simpa using (List.mem_filter.1 hi).2
    unfold fAlive
    rw [if_pos (by omega), Int.toNat_natCast, marksOf_yes hr]
    rfl
  · intro h
    unfold fAlive at h
    by_cases h0 : 0 ≤ z
    · rw [if_pos h0] at h
      by_cases hl : z.toNat < es.length
      · by_cases hr : Reach es rs z.toNat
        · unfold aliveOf
          exact List.mem_map.2 ⟨z.toNat, List.mem_filter.2 ⟨List.mem_range.2 hl, by simpa using hr⟩, by omega⟩
        · rw [marksOf_no hl hr] at h; simp at h
      · rw [List.getElem?_eq_none (by rw [marksOf_len]; omega)] at h; simp at h
    · rw [if_neg h0] at h; simp at h
theorem aliveOf_keys (es : List Ce) (rs : List Int) (w : World) (M n : Nat) (D : DataW Unit) (hown : w.ownsMap Tryz.prog 3 (plainElem Tryz.prog 3) M n D) (hD : ∀ z, has D (.int .i64 z) = (fAlive (marksOf es rs) z).isSome ∧ D.atKey (.int .i64 z) (.lit (.int .i64 0)) = .lit (.int .i64 ((fAlive (marksOf es rs) z).getD 0)))
    (ss : List Int) (hs : ss.Perm (intKeys D)) : ss.mergeSort (fun x y => decide (x ≤ y)) = aliveOf es rs := by
  have hso := aliveTo_sorted es rs es.length
  rw [aliveTo_all] at hso
  have hnd : (aliveOf es rs).Nodup := hso.imp (fun h => by omega)
  have hperm : (aliveOf es rs).Perm (intKeys D) := CollectedI.perm (left := fun _ => false) (ss := aliveOf es rs) ⟨hnd, fun x => by rw [aliveOf_mem, (hD x).1]; simp⟩ hown lawI Tryz.underlying3 (fun _ => rfl)
  have h1 := mergeSort_of_perm_i (hs.trans hperm.symm)
  have h2 : (aliveOf es rs).mergeSort leI = aliveOf es rs := List.mergeSort_of_pairwise (hso.imp (fun h => by simp [leI]; omega))
  exact h1.trans h2

set_option maxHeartbeats 3200000 in
theorem implAlive_any (v rv : Value) (es : List Ce) (rs : List Int) (S S2 : Nat → Prop) (w : World) (h : CellsAt w S v es) (h2 : IntsAt w S2 rv rs) (hn : es.length ≤ 2000000) :
    Calls Tryz.prog 16 #[v, rv] w fun e w' => ∃ gv, e = .returned gv ∧ w'.ownsRow w.heap.size 3 1 gv (aliveOf es rs).length (intVs (aliveOf es rs)) ∧ Below w.heap.size w w' := by
  refine (callsIn_wide (n := 6)).1 ?_
  have cA := (callsIn_wide (n := 5)).2 (aliveFrom_any v rv es rs S S2 w h h2 hn)
  have hfA : Fence.wide.fn 29 := trivial
  have hfK : Fence.wide.fn 41 := trivial
  have hfS : Fence.wide.fn 40 := trivial
  refine callsIn_of_wp Tryz.func16 rfl trivial ?_ rfl
  simp only [Tryz.ntmps16, List.size_toArray, List.length_cons, List.length_nil, Nat.reduceAdd, Nat.reduceSub, Array.replicate_succ, Array.replicate_zero, List.push_toArray, List.append_toArray, List.nil_append, List.cons_append]
  gi_wp2_with (first
    | (gi_at_call 29; refine cA.mono ?_; rintro e w1 ⟨M, n, rfl, hM, hn1, hI, hb1⟩)
    | (gi_at_call 41; refine (keys_call _ _).mono ?_; rintro e w2 ⟨rfl, rfl⟩)
    | (gi_at_call 40; obtain ⟨D, hown, hD⟩ := hI; have hsz := hown.size_le; refine (sortedKeys_in M n D _ w1 hown (by unfold maxLen; omega) (by omega)).mono ?_; rintro e w3 ⟨gv, ss, rfl, hss, hrow, hb3⟩))
  go_ret
  have hk := aliveOf_keys es rs w1 M n D hown hD ss hss
  have hlen : ss.length = (aliveOf es rs).length := by rw [← hk, List.length_mergeSort]
  refine ⟨gv, rfl, ?_, hb1.trans (hb3.mono hb1.size)⟩
  rw [hk, hlen] at hrow
  exact own_mono hrow hb1.size
end Go.Proofs.YtfhjkiimdkjhjaaGreatDoor
