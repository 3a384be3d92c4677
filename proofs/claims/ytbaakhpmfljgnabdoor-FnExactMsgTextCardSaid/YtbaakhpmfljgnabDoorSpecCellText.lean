/-
  The specification's CellText.
-/
import Derived.Test.YtbaakhpmfljgnabDoorSpecLine
import Derived.Test.YtbaakhpmfljgnabDoorCellsAt
import Derived.Test.YtbaakhpmfljgnabDoorSpecIn0
import Derived.BigQuiet
import Derived.Deep.QuietTactic
namespace Go.Proofs.YtbaakhpmfljgnabDoor
open Go.RowKit Go.Joins

set_option maxRecDepth 100000

abbrev cellLetters : ByteArray := ⟨#[105, 110, 99, 102, 116, 104, 100, 114]⟩
/-- A cell's text. -/
def Ce.textOf (c : Ce) : List UInt8 := if inB c.kind 0 7 then (cellLetters.extract c.kind.toNat (c.kind.toNat + 1)).data.toList ++ 32 :: Lib.itoa c.n ++ 32 :: Lib.itoa c.pos ++ lineL c.kids else []
theorem letter_ext : ∀ d, d < 8 → cellLetters.extract d (d + 1) = ⟨#[cellLetters.data[d]!]⟩ := by decide
theorem letter_slice (d : Nat) (hd : d < 8) (w : World) : (Instr.slice 9 (.string ⟨#[105, 110, 99, 102, 116, 104, 100, 114]⟩) (some (.int .i64 (d : Int))) (some (.int .i64 ((d : Int) + 1))) none).run Tryd.prog w = .ok (.string ⟨#[cellLetters.data[d]!]⟩) w := by
  have h := run_slice_string (P := Tryd.prog) w 9 ⟨#[105, 110, 99, 102, 116, 104, 100, 114]⟩ .i64 .i64 (d : Int) ((d : Int) + 1) Tryd.underlying9 (by omega) (by omega) (by show _ ≤ ((8 : Nat) : Int); omega)
  rw [show (d : Int).toNat = d by omega, show ((d : Int) + 1).toNat = d + 1 by omega, letter_ext d hd] at h
  exact h

set_option maxHeartbeats 6400000 in
theorem specCellText_any (v : Value) (c : Ce) (S : Nat → Prop) (w : World) (h : CeAt w S v c) (hl : c.kids.length ≤ 100000000) :
    Calls Tryd.prog 12 #[v] w fun e w' => e = .returned (.string ⟨c.textOf.toArray⟩) ∧ Below w.heap.size w w' := by
  obtain ⟨kv, rfl, r1, r2, r3, hk⟩ := h
  obtain ⟨a, cap, rfl⟩ := hk.form
  have B0 : Below w.heap.size w (w.alloc (.cells #[.int .i64 c.kind, .int .i64 c.n, .int .i64 c.pos, .slice a c.kids.length cap] 29)) := (Below.refl _ w).alloc (Nat.le_refl _) _
  have HK := (show Hid (_ ∧ _) from ⟨hk.below B0, B0⟩)
  clear hk B0
  unfold Ce.textOf
  cases hin : inB c.kind 0 7 with
  | false =>
    go_enter Tryd.func12, Tryd.ntmps12
    go_wp2_with fail
    refine (specIn_is _ _ _ false hin _).mono ?_
    rintro e w1 ⟨rfl, rfl⟩
    go_wp2
    go_ret
    exact ⟨rfl, HK.out.2⟩
  | true =>
    have hin2 := hin
    unfold inB at hin2
    rw [Bool.and_eq_true, decide_eq_true_eq, decide_eq_true_eq] at hin2
    obtain ⟨kind, n, pos, kids⟩ := c
    simp only [] at *
    obtain ⟨d, rfl⟩ : ∃ d : Nat, kind = d := ⟨kind.toNat, by omega⟩
    have hd : d < 8 := by omega
    have hsl := letter_slice d hd
    have hle := letter_ext d hd
    rw [Int.toNat_natCast, hle]
    generalize cellLetters.data[d]! = ch at *
    have hn1 := itoa_len n r2
    have hn2 := itoa_len pos r3
    have hinK : ∀ z ∈ kids, inI64 z := fun z hz => by
      obtain ⟨_, _, _, _, hii⟩ := HK.out.1
      obtain ⟨i, hi⟩ := List.getElem?_of_mem hz
      obtain ⟨_, _, _, _, _, _, hin⟩ := hii i z hi
      exact hin
    have hn3 := lineL_len kids hinK
    obtain ⟨p0, p1⟩ := r2
    obtain ⟨q0, q1⟩ := r3
    clear hinK hin2 hle
    go_enter Tryd.func12, Tryd.ntmps12
    go_wp2_with fail
    refine (specIn_is _ _ _ true hin _).mono ?_
    rintro e w1 ⟨rfl, hw1⟩
    have x0 : w1.cell? ⟨w.heap.size, 0, none⟩ = some (.int .i64 (d : Int)) := by rw [hw1, cell_of_block (MapKept.heap_alloc w _).1]; rfl
    have x1 : w1.cell? ⟨w.heap.size, 1, none⟩ = some (.int .i64 n) := by rw [hw1, cell_of_block (MapKept.heap_alloc w _).1]; rfl
    have x2 : w1.cell? ⟨w.heap.size, 2, none⟩ = some (.int .i64 pos) := by rw [hw1, cell_of_block (MapKept.heap_alloc w _).1]; rfl
    have x3 : w1.cell? ⟨w.heap.size, 3, none⟩ = some (.slice a kids.length cap) := by rw [hw1, cell_of_block (MapKept.heap_alloc w _).1]; rfl
    have HW := (show Hid (_ ∧ _) from ⟨(by rw [hw1]; exact HK.out.1 : IntsAt w1 S (.slice a kids.length cap) kids), (by rw [hw1]; exact HK.out.2 : Below w.heap.size w w1)⟩)
    clear HK hw1
    go_wp2_with fail
    go_quiet (first
      | (go_at_call 11; refine Calls.quiet_of_same (specDec_any _ _ (by omega) (by omega)))
      | (go_at_call 25; refine Calls.quiet_of_same (l04Line_any _ kids S _ (HW.out.1.below (drewN_below (Below.refl _ _) _)) hl)))
    go_wp2
    go_ret
    exact ⟨ret_str (by apply ByteArray.ext; simp [ByteArray.data_append]), by first | exact drewN_below HW.out.2 _ | exact HW.out.2.drew | exact HW.out.2⟩
end Go.Proofs.YtbaakhpmfljgnabDoor
