/-
  Words, the specification's and the program's: the parts between blanks, in memory of their own.
-/
import Derived.Test.YtfnnodaggjgkfaaGreatDoorWordsDef
import Derived.Test.YtfnnodaggjgkfaaGreatDoorShelf
import Derived.WalkKit
import Derived.Maps.AppendAt
import Derived.Maps.Range
import Derived.Lib.SmallJoins
import Derived.Lib.BufferOwn
namespace Go.Proofs.YtfnnodaggjgkfaaGreatDoor
open Go.RowKit Go.Joins

set_option maxRecDepth 100000

theorem infoStr : (Tryz.prog.info? 9).map (fun i => (i.zero, i.size, i.bytes)) = some (some (.string ⟨#[]⟩), 1, 16) := by kernel_rfl

theorem str_oneCell (b : ByteArray) : ∀ u ∈ [Value.string b], u.oneCell' = true := by
  intro u hu
  rw [List.mem_singleton.1 hu]
  rfl

theorem wrow_empty (w : World) (base : Nat) (e : TypeId) (size : Nat) (h : base ≤ w.heap.size) : (w.alloc (.cells #[] e)).ownsRow base e size (.slice (some ⟨w.heap.size, 0, none⟩) 0 0) 0 [] :=
  World.ownsRow_made (size := size) (e := e) w #[] 0 h (Nat.zero_le _) (by simp)

set_option maxHeartbeats 1600000 in
theorem specWords_any (s : ByteArray) (w : World) (hs : s.size ≤ 1048576) :
    Calls Tryz.prog 23 #[.string s] w fun e w' => ∃ v, e = .returned v ∧ w'.ownsRow w.heap.size 9 1 v (wordsL s).length ((wordsL s).map Value.string) ∧ Below w.heap.size w w' := by
  obtain ⟨i0, hi, hz0, hz1, hz2⟩ := info_parts infoStr
  have HL : Hid (s.data.toList.length = s.size) := by simp [Hid]
  go_enter Tryz.func23, Tryz.ntmps23
  go_wp2
  go_loopw [3, 4, 5] (fun v fv i wr => ∃ (k fr : Nat) (acc : List ByteArray), fr ≤ k ∧ k ≤ s.size ∧ i = .int .i64 k ∧ fv = .int .i64 fr ∧ acc.length ≤ fr ∧
      wr.ownsRow w.heap.size 9 1 v acc.length (acc.map Value.string) ∧ Below w.heap.size w wr ∧ Hid (acc ++ wordsL (s.extract fr s.size) = wordsL s) ∧ Hid (∀ i, fr ≤ i → i < k → s.data.toList[i]? ≠ some 32)) (fun _ _ i _ => s.size - (intOf i).toNat)
  case atStart => exact ⟨0, 0, [], Nat.le_refl _, Nat.zero_le _, rfl, rfl, Nat.zero_le _, wrow_empty w _ _ _ (Nat.le_refl _), (Below.refl _ w).alloc (Nat.le_refl _) _, by show [] ++ _ = _; rw [words_whole]; rfl, fun i h1 h2 => by omega⟩
  case round =>
    obtain ⟨k, fr, acc, hfk, hk, rfl, rfl, hal, hrow, hbw, hinv, hno⟩ := hrel
    have hsz := hbw.size
    by_cases hlt : k < s.size
    · have hat : s.data.toList[k]? = some s[k] := by rw [List.getElem?_eq_getElem (by rw [HL.out]; exact hlt)]; rfl
      by_cases h32 : (s[k].toNat : Int) = 32
      · have hc32 : s.data.toList[k]? = some 32 := by rw [hat]; congr 1; apply UInt8.toNat_inj.1; show s[k].toNat = 32; omega
        have hst := words_hit s fr k hfk hc32 hno.out
        have HI : Hid ((acc ++ [s.extract fr k]) ++ wordsL (s.extract (k + 1) s.size) = wordsL s) := by
          have := hinv.out
          rw [hst] at this
          rw [List.append_assoc]
          exact this
        have hb32 : ((s[k].toNat : Int) == 32) = true := by simp [h32]
        clear hst hc32 hat h32
        go_wp2_with (at_builtin; refine wpList_append_own _ rfl _ _ 33 rfl w.heap.size 9 i0 (.string ⟨#[]⟩) 1 16 Tryz.underlying33 hi hz0 hz1 hz2 rfl (by decide) _ _ _ rfl (hrow.alloc _) ⟨wr.heap.size, 0, none⟩ 1 1 [.string (s.extract fr k)] rfl rfl (cell_one_new _ _ _) (str_oneCell _) (by unfold maxLen; omega) (by omega) (by simp; omega) ?_; intro v2 w2 hown2 hgrow2 hnil2)
        have s2 := hgrow2.size
        simp at s2
        go_roundw
        case rel => exact ⟨k + 1, k + 1, acc ++ [s.extract fr k], Nat.le_refl _, by omega, by go_num, by go_num, by simp; omega, by rw [List.length_append, List.map_append]; exact hown2, (hbw.alloc hsz _).grown hgrow2 (by simp; omega) (fun j hj => by have := (hrow.lt j hj).1; omega), HI, fun i h1 h2 => by omega⟩
        case measure => simp [intOf]; omega
      · have hb32 : ((s[k].toNat : Int) == 32) = false := by simp [h32]
        have HN : Hid (∀ i, fr ≤ i → i < k + 1 → s.data.toList[i]? ≠ some 32) := fun i h1 h2 e => by
          rcases Nat.lt_or_ge i k with h | h
          · exact hno.out i h1 h e
          · obtain rfl : i = k := by omega
            rw [hat] at e
            have : s[i] = 32 := Option.some.inj e
            exact h32 (by rw [this]; rfl)
        clear hat h32
        go_wp2
        go_roundw
        case rel => exact ⟨k + 1, fr, acc, by omega, by omega, by go_num, rfl, hal, hrow, hbw, hinv, HN⟩
        case measure => simp [intOf]; omega
    · obtain rfl : k = s.size := by omega
      have hst := words_last s fr (fun i h1 e => by
        have h2 : i < s.size := by rw [← HL.out]; exact (List.getElem?_eq_some_iff.1 e).1
        exact hno.out i h1 h2 e)
      have HF : Hid (acc ++ [s.extract fr s.size] = wordsL s) := by have := hinv.out; rw [hst] at this; exact this
      clear hst
      go_wp2_with (at_builtin; refine wpList_append_own _ rfl _ _ 33 rfl w.heap.size 9 i0 (.string ⟨#[]⟩) 1 16 Tryz.underlying33 hi hz0 hz1 hz2 rfl (by decide) _ _ _ rfl (hrow.alloc _) ⟨wr.heap.size, 0, none⟩ 1 1 [.string (s.extract fr s.size)] rfl rfl (cell_one_new _ _ _) (str_oneCell _) (by unfold maxLen; omega) (by omega) (by simp; omega) ?_; intro v2 w2 hown2 hgrow2 hnil2)
      have s2 := hgrow2.size
      simp at s2
      go_ret
      exact ⟨v2, rfl, by rw [← HF.out, List.length_append, List.map_append]; exact hown2, (hbw.alloc hsz _).grown hgrow2 (by simp; omega) (fun j hj => by have := (hrow.lt j hj).1; omega)⟩

theorem wClone_any (s : ByteArray) (w : World) (hlim : s.size ≤ 281474976710656) :
    Calls Tryz.prog 42 #[.string s] w fun e w' => e = .returned (.string s) ∧ Below w.heap.size w w' := by
  go_enter Tryz.func42, Tryz.ntmps42
  go_wp2_with (go_at_call 56; refine (Tryz.stringslite_Clone s _ hlim).mono ?_; rintro e w1 ⟨rfl, hb⟩)
  go_ret
  exact ⟨rfl, hb⟩

theorem split_row (w : World) (base : Nat) (s : ByteArray) (h : base ≤ w.heap.size) (hs : (wordsL s).length ≤ 1048577) :
    (w.alloc (.cells ((wordsL s).map Value.string).toArray 9)).ownsRow base 9 1 (.slice (some ⟨w.heap.size, 0, none⟩) (Lib.countB s ⟨#[32]⟩ + 1) (Lib.countB s ⟨#[32]⟩ + 1)) (wordsL s).length ((wordsL s).map Value.string) := by
  have e : Lib.countB s ⟨#[32]⟩ + 1 = (wordsL s).length := (wordsL_length s).symm
  rw [e]
  exact ⟨by simp, .inr ⟨w.heap.size, _, _, rfl, h, heap_alloc_new w _, Nat.le_refl _, by unfold maxLen; omega, by simp, by simp only [Nat.mul_one]; exact List.take_of_length_le (by simp)⟩⟩

theorem Words_any (s : ByteArray) (w : World) (hs : s.size ≤ 1048576) (m : Int) (hm : w.cell? ⟨1, 0, none⟩ = some (.int .i64 m)) :
    Calls Tryz.prog 22 #[.string s] w fun e w' => ∃ v, e = .returned v ∧ w'.ownsRow w.heap.size 9 1 v (wordsL s).length ((wordsL s).map Value.string) ∧ Below w.heap.size w w' := by
  have hlt := World.block_lt_of_cell? _ _ hm
  have HM : Hid (w.cell? ⟨1, 0, none⟩ = some (.int .i64 m)) := hm
  clear hm
  have hwl := wordsL_length s
  have hle := wordsL_le s
  go_enter Tryz.func22, Tryz.ntmps22
  go_wp2_with fail
  refine (wClone_any s _ (by omega)).mono ?_
  rintro e w1 ⟨rfl, hb1⟩
  go_wp2_with fail
  refine (Tryz.strings_Split s ⟨#[32]⟩ m _ (by omega) ((hb1.cell (by exact hlt)).trans HM.out) (by decide)).mono ?_
  rintro e w2 ⟨rfl, rfl⟩
  go_wp2
  go_ret
  exact ⟨_, rfl, split_row w1 _ s hb1.size (by omega), hb1.alloc hb1.size _⟩
end Go.Proofs.YtfnnodaggjgkfaaGreatDoor
