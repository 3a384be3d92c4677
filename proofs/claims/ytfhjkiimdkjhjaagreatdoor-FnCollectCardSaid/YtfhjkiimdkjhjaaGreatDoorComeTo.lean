/-
  The program's walk comes to a row of places.
-/
import Derived.Test.YtfhjkiimdkjhjaaGreatDoorHeapPush
import Derived.Test.YtfhjkiimdkjhjaaGreatDoorComePure
import Derived.Test.YtfhjkiimdkjhjaaGreatDoorHpRow
namespace Go.Proofs.YtfhjkiimdkjhjaaGreatDoor
open Go.RowKit Go.Joins Go.Maps

set_option maxRecDepth 100000

theorem PQ.grown {w w' : World} {b M : Nat} {sv : Value} {xs : List Int} {row : Option Nat} (h : PQ w b M sv xs) (hg : w.grownBy w' row) (hr : ∀ g, row = some g → g < b) : PQ w' b M sv xs :=
  ⟨(hg.block b h.lt (fun e => by have := hr b e.symm; omega)).trans h.blk, own_moved h.row (fun g hgo => hg.block g (own_lt h.row g hgo) (fun e => by have := hr g e.symm; have := (own_type h.row g hgo).1; omega)), h.num⟩
/-- All but the walk's map and what lies behind the walk. -/
abbrev Wk (b M : Nat) : Nat → Prop := fun k => k = M ∨ b ≤ k
theorem outs_below {b M : Nat} {w w' : World} (h : Below b w w') : OutsP (Wk b M) w w' :=
  ⟨h.os, h.tape, h.output, h.size, fun k _ hk => h.block k (by
    have : ¬ b ≤ k := fun h => hk (.inr h)
    omega)⟩
theorem IMap.below {w w' : World} {M n b : Nat} {f : Int → Option Int} (h : IMap w M n f) (hb : Below b w w') (hM : M < b) : IMap w' M n f := h.block (hb.block M hM)
theorem ints_outs {w w' : World} {S : Nat → Prop} {b M : Nat} {v : Value} {zs : List Int} (h : IntsAt w S v zs) (hS : ∀ k, S k → k < b ∧ k ≠ M) (ho : OutsP (Wk b M) w w') : IntsAt w' S v zs :=
  h.kept (fun k hk hlt => ho.out k hlt (fun hw => by have := hS k hk; rcases hw with hw | hw <;> omega)) ho.size (fun _ h _ => h)
theorem cells_outs {w w' : World} {S : Nat → Prop} {b M : Nat} {v : Value} {es : List Ce} (h : CellsAt w S v es) (hS : ∀ k, S k → k < b ∧ k ≠ M) (ho : OutsP (Wk b M) w w') : CellsAt w' S v es :=
  h.kept (fun k hk hlt => ho.out k hlt (fun hw => by have := hS k hk; rcases hw with hw | hw <;> omega)) ho.size (fun _ h _ => h)

set_option maxHeartbeats 6400000 in
theorem comeTo_any {w : World} {b M n : Nat} {sv lv : Value} {xs zs : List Int} {bs : List Bool} {S : Nat → Prop} (hq : PQ w b M sv xs) (hm : IMap w M n (fOf bs)) (hM : M < b) (hz : IntsAt w S lv zs) (hS : ∀ k, S k → k < b ∧ k ≠ M) (hl : xs.length + countF bs ≤ 10000000) (hn : n + countF bs ≤ 100000000) :
    Calls Tryz.prog 52 #[.pointer (some ⟨b, 0, none⟩), lv] w fun e w' => e = .returned (.tuple #[]) ∧ ∃ bs' new sv' ys, Come bs zs bs' new ∧ ys.Perm (xs ++ new) ∧ PQ w' b M sv' ys ∧ IMap w' M (n + new.length) (fOf bs') ∧ OutsP (Wk b M) w w' := by
  obtain ⟨za, zcap, rfl, hzl, hzc⟩ := hz
  unfold maxLen at hzl
  have HH := (show Hid (_ ∧ _ ∧ _ ∧ _) from ⟨hq, hm, hS, hzc⟩)
  clear hq hm hS hzc
  go_enter Tryz.func52, Tryz.ntmps52
  go_wp2
  go_loopw [10] (fun i wr => ∃ (k : Nat) (bs' : List Bool) (new : List Int) (sv' : Value) (ys : List Int), k ≤ zs.length ∧ i = .int .i64 k ∧ Come bs (zs.take k) bs' new ∧ ys.Perm (xs ++ new) ∧ PQ wr b M sv' ys ∧ IMap wr M (n + new.length) (fOf bs') ∧ OutsP (Wk b M) w wr) (fun i _ => zs.length - (intOf i).toNat)
  case atStart => exact ⟨0, bs, [], sv, xs, Nat.zero_le _, rfl, by rw [List.take_zero]; exact .none, by rw [List.append_nil], HH.out.1, HH.out.2.1, OutsP.refl _ _⟩
  case round =>
    obtain ⟨k, bs', new, sv', ys, hk, rfl, hcome, hp, hq, hm, ho⟩ := hrel
    have hcnt := hcome.count
    have hlen := hp.length_eq
    rw [List.length_append] at hlen
    by_cases hkl : k < zs.length
    · have he := List.getElem?_eq_getElem hkl
      have htk := List.take_succ_eq_append_getElem hkl
      generalize zs[k] = z at *
      obtain ⟨zb, zoff, rfl, hSz, hzlt, c0, hz64⟩ := HH.out.2.2.2 k z he
      have c0 : wr.cell? ⟨zb, zoff + k, none⟩ = some (.int .i64 z) := by
        rw [← c0]
        exact World.cell?_of_block (ho.out zb hzlt (fun hw => by have := HH.out.2.2.1 zb hSz; rcases hw with hw | hw <;> omega))
      have hlk := hm.look_ok hz64
      have m0 := hq.map
      have hlt' : ((k : Nat) : Int) < ((zs.length : Nat) : Int) := by omega
      have hyl : ys.length < 100000000 := by omega
      have hnn : n + new.length ≤ 1000000000 := by omega
      have HR := (show Hid (_ ∧ _ ∧ _ ∧ _ ∧ _ ∧ _) from ⟨hcome, hp, hq, hm, ho, htk⟩)
      have HF := (show Hid (_ ∧ _) from ⟨fun h => fOf_zero (bs := bs') (z := z) h, fun h => fOf_other (bs := bs') (z := z) h⟩)
      clear hcome hp hq hm ho htk he hcnt hlen
      generalize hA : (fOf bs' z).isSome = A at *
      generalize hV : (fOf bs' z).getD 0 = V at *
      clear hA hV
      cases A with
      | false =>
        have HN := (show Hid (_ ∧ True) from ⟨HF.out.2 rfl, trivial⟩)
        clear HF
        go_wp2
        refine ⟨⟨k + 1, bs', new, sv', ys, by omega, by go_num, by rw [HR.out.2.2.2.2.2]; exact .skip HR.out.1 HN.out.1, HR.out.2.1, HR.out.2.2.1, HR.out.2.2.2.1, HR.out.2.2.2.2.1⟩, by simp [intOf]; omega⟩
      | true =>
        cases hv0 : (V == 0) with
        | false =>
          have HN := (show Hid (_ ∧ True) from ⟨HF.out.2 (by rw [hv0]; rfl), trivial⟩)
          clear HF
          go_wp2
          refine ⟨⟨k + 1, bs', new, sv', ys, by omega, by go_num, by rw [HR.out.2.2.2.2.2]; exact .skip HR.out.1 HN.out.1, HR.out.2.1, HR.out.2.2.1, HR.out.2.2.2.1, HR.out.2.2.2.2.1⟩, by simp [intOf]; omega⟩
        | true =>
          obtain ⟨j, rfl, hj⟩ := HF.out.1 (by rw [hv0]; rfl)
          have hjl := (List.getElem?_eq_some_iff.1 hj).1
          have HJ := (show Hid (_ ∧ _) from ⟨hj, hjl⟩)
          have h1in : inI64 1 := ⟨by omega, by omega⟩
          clear HF hj hjl
          go_wp2_with (at_mapUpdate; refine wpList_update_im _ rfl _ _ _ rfl M _ _ rfl HR.out.2.2.2.1 hnn _ _ rfl rfl hz64 h1in ?_; intro w1 hm1 hg1)
          rw [fOf_set bs' j HJ.out.2] at hm1
          have hq1 := HR.out.2.2.1.grown hg1 (fun g hg => by cases hg; exact hM)
          have ho1 : OutsP (Wk b M) w w1 := HR.out.2.2.2.2.1.trans (OutsP.of_grown hg1 (fun g hg => by cases hg; exact .inl rfl))
          have hpu := heapPush_any hq1 (j : Int) hz64 hyl
          have HP := (show Hid (_ ∧ _ ∧ _) from ⟨hpu, hm1, ho1⟩)
          clear hpu hm1 ho1 hq1 hg1
          refine HP.out.1.mono ?_
          rintro e w2 ⟨rfl, sv2, ys2, hp2, hq2, hb2⟩
          have hpp : ys2.Perm (xs ++ (new ++ [(j : Int)])) := by rw [← List.append_assoc]; exact hp2.trans (HR.out.2.1.append_right _)
          have HE := (show Hid (_ ∧ _ ∧ _ ∧ _) from ⟨hpp, hq2, HP.out.2.1.below hb2 hM, HP.out.2.2.trans (outs_below hb2)⟩)
          clear hp2 hpp hq2 hb2 HP
          go_wp2
          refine ⟨⟨k + 1, bs'.set j true, new ++ [(j : Int)], sv2, ys2, by omega, by go_num, by rw [HR.out.2.2.2.2.2]; exact .mark HR.out.1 HJ.out.1, HE.out.1, HE.out.2.1, by rw [List.length_append, List.length_singleton, ← Nat.add_assoc]; exact HE.out.2.2.1, HE.out.2.2.2⟩, by simp [intOf]; omega⟩
    · obtain rfl : k = zs.length := by omega
      rw [List.take_length] at hcome
      have HR := (show Hid (_ ∧ _ ∧ _ ∧ _ ∧ _) from ⟨hcome, hp, hq, hm, ho⟩)
      clear hcome hp hq hm ho HH
      go_wp2
      go_end0
      exact ⟨rfl, bs', new, sv', ys, HR.out.1, HR.out.2.1, HR.out.2.2.1, HR.out.2.2.2.1, HR.out.2.2.2.2⟩
end Go.Proofs.YtfhjkiimdkjhjaaGreatDoor
