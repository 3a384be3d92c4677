/-
  The program's GetNum.
-/
import Derived.Test.YtkfmkhhjkioeoaaGreatDoorMD
import Derived.Lib.ConvBytes
import Derived.BigQuiet
import Derived.Deep.QuietTactic
namespace Go.Proofs.YtkfmkhhjkioeoaaGreatDoor
open Go.RowKit Go.Joins

set_option maxRecDepth 100000

theorem below_bytes (w : World) (e : TypeId) (s : ByteArray) : Below w.heap.size w (Lib.bytesWorld w e s) :=
  ⟨rfl, rfl, rfl, by rw [Lib.bytesWorld_size]; omega, fun k hk => Lib.bytesWorld_at_old w e s k hk⟩
theorem bytes_at (w : World) (e : TypeId) (s : ByteArray) : BtAt (Lib.bytesWorld w e s) w.heap.size 0 s.data.toList := by
  intro j x hx
  have hj : j < s.size := by have := (List.getElem?_eq_some_iff.1 hx).1; simpa using this
  rw [Nat.zero_add, Lib.bytesWorld_cell w e s j hj]
  simp [List.getD, hx]

set_option maxHeartbeats 3200000 in
theorem implGetNum_any (s : ByteArray) (i : Int) (w : World) (hs : s.size ≤ 1048576) (hi0 : -9223372036854775808 ≤ i) (hi1 : i ≤ 9223372036854775807) :
    Calls Tryz.prog 17 #[.string s, .int .i64 i] w fun e w' => e = .returned (.tuple #[.int .i64 (getN s i).1, .int .i64 (getN s i).2]) ∧ Below w.heap.size w w' := by
  have hnot := ex_not
  cases hin : inB i 0 ((s.size : Int) - 8) with
  | false =>
    have hr : getN s i = (0, -1) := by
      unfold getN
      rw [if_neg ?_]
      intro h
      unfold inB at hin
      simp [h.1, h.2] at hin
    rw [hr]
    go_enter Tryz.func17, Tryz.ntmps17
    go_wp2_with fail
    refine (within_r _ _ _ false hin _).mono ?_
    rintro e w1 ⟨rfl, rfl⟩
    go_wp2
    go_ret2
    exact ⟨rfl, Below.refl _ _⟩
  | true =>
    have hh : 0 ≤ i ∧ i ≤ (s.size : Int) - 8 := by unfold inB at hin; simpa using hin
    obtain ⟨p, rfl⟩ := Int.eq_ofNat_of_zero_le hh.1
    have hp : p + 8 ≤ s.size := by omega
    have hr : getN s (p : Int) = (wrap64 (bytesU ((s.data.toList.drop p).take 8) : Nat), (p : Int) + 8) := by
      unfold getN
      rw [if_pos hh, Int.toNat_natCast]
    rw [hr]
    clear hr hh
    have hsl : ∀ wx, (Instr.slice 9 (.string s) (some (.int .i64 (p : Int))) (some (.int .i64 ((p : Int) + 8))) none).run Tryz.prog wx = .ok (.string (s.extract p (p + 8))) wx := fun wx => by
      have h := run_slice_string (P := Tryz.prog) wx 9 s .i64 .i64 (p : Int) ((p : Int) + 8) Tryz.underlying9 (by omega) (by omega) (by omega)
      rw [show (p : Int).toNat = p by omega, show ((p : Int) + 8).toNat = p + 8 by omega] at h
      exact h
    have hex : (s.extract p (p + 8)).data.toList = (s.data.toList.drop p).take 8 := by
      rw [ByteArray.data_extract, Array.toList_extract, List.extract_eq_take_drop]
      congr 1
      omega
    have hexs : (s.extract p (p + 8)).size = 8 := by rw [ByteArray.size_extract]; omega
    have hcv : ∀ wx : World, (convert 9 22 (.string (s.extract p (p + 8)))).run Tryz.prog wx = .ok (.slice (some ⟨wx.heap.size, 0, none⟩) 8 (grownCap wx 8 0 5)) (Lib.bytesWorld wx 5 (s.extract p (p + 8))) := fun wx => by
      have := Lib.run_convert_string_bytes (P := Tryz.prog) wx 9 22 5 (s.extract p (p + 8)) Tryz.underlying9 Tryz.underlying22 Tryz.underlying5
      rw [hexs] at this
      exact this
    have HX := (show Hid (_ ∧ _) from ⟨hex, hexs⟩)
    clear hex hexs
    generalize s.extract p (p + 8) = t at *
    go_enter Tryz.func17, Tryz.ntmps17
    go_wp2_with fail
    refine (within_r _ _ _ true hin _).mono ?_
    rintro e w1 ⟨rfl, rfl⟩
    go_wp2_with fail
    have hl8 : ((s.data.toList.drop p).take 8).length = 8 := by rw [← HX.out.1]; exact HX.out.2
    have hN := numOf_any w1.heap.size 0 (grownCap w1 8 0 5) ((s.data.toList.drop p).take 8) (Lib.bytesWorld w1 5 t) (by rw [← HX.out.1]; exact bytes_at _ _ _) (by omega)
    rw [hl8] at hN
    refine hN.mono ?_
    rintro e w2 ⟨rfl, rfl⟩
    go_wp2
    go_ret2
    exact ⟨rfl, below_bytes _ _ _⟩
end Go.Proofs.YtkfmkhhjkioeoaaGreatDoor
