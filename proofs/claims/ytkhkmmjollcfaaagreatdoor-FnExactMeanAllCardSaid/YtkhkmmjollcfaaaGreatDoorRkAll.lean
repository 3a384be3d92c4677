/-
  The program's evaluator does what the evaluator says.
-/
import Derived.Test.YtkhkmmjollcfaaaGreatDoorMR
import Derived.Test.YtkhkmmjollcfaaaGreatDoorMS
import Derived.Test.YtkhkmmjollcfaaaGreatDoorMT
import Derived.Test.YtkhkmmjollcfaaaGreatDoorMU
import Derived.Test.YtkhkmmjollcfaaaGreatDoorMV
import Derived.Test.YtkhkmmjollcfaaaGreatDoorSpecEv
namespace Go.Proofs.YtkhkmmjollcfaaaGreatDoor
open Go.RowKit Go.Joins

set_option maxRecDepth 100000

set_option maxHeartbeats 3200000 in
theorem reckon_out (P : List Ex) (bv : Value) (rb d : Nat) (S : Nat → Prop) (kb ko : Nat) (sv : Value) (w : World) (hr : RunI w rb bv 0) (hv : ∃ a, sv = .pointer a) :
    Calls Tryz.prog 40 #[.pointer (some ⟨rb, 0, none⟩), .pointer (some ⟨kb, ko, none⟩), sv] w fun r w' => ∃ v, r = .returned v ∧ AftI P S d rb bv w w' v (.err 1, 0) := by
  obtain ⟨sa, rfl⟩ := hv
  have hadd := add_any rb 0 (-1) w (by rw [cell_of_block hr]; rfl) (unfrozen_of_block hr 1) (by rw [IntKind.wrap_i64]; rfl)
  have hx : (w.setCell ⟨rb, 1, none⟩ (.int .i64 (-1))).heap[rb]? = some (.cells #[bv, .int .i64 (-1)] 73) := by
    have := block_setCell (i := 1) hr (.int .i64 (-1))
    exact this
  have HK := (show Hid (_ ∧ _ ∧ _) from ⟨hadd, hx, kb_set w rb 1 (.int .i64 (-1))⟩)
  clear hadd hx hr
  go_enter Tryz.func40, Tryz.ntmps40
  go_wp2_with fail
  refine HK.out.1.mono ?_
  rintro r w1 ⟨rfl, rfl⟩
  go_wp2_with fail
  go_ret
  exact ⟨_, rfl, HK.out.2.2, ⟨rfl, by decide⟩, ⟨_, HK.out.2.1, fun h => absurd (show (1 : Int) = 0 from h) (by decide)⟩⟩

theorem evI_succ (P : List Ex) (bv : Value) (rb d b : Nat) (hP : ∀ B ∈ P, Ok P B []) (hB : b < 1000000) (ih : EvI P bv rb d b) : EvI P bv rb d (b + 1) := by
  intro S f e env kb ko m sv w hf hr hs hx hv hg
  cases f with
  | zero =>
    rw [show ev P (b + 1) 0 e env = (.err 1, 0) by rw [ev, if_pos rfl]]
    exact reckon_out P bv rb d S kb ko sv w hr (by rcases hv.form with ⟨-, rfl⟩ | ⟨_, _, _, _, _, -, rfl, -⟩ <;> exact ⟨_, rfl⟩)
  | succ f =>
    have hf' : f ≤ b := by omega
    obtain ⟨f1, f2, f3, f4⟩ := field_n hg
    rw [ev, if_neg (by omega), show f + 1 - 1 = f from rfl]
    have hk : e.kind = 0 ∨ e.kind = 1 ∨ e.kind = 2 ∨ e.kind = 3 ∨ e.kind = 4 ∨ e.kind = 5 ∨ e.kind = 6 ∨ e.kind = 7 ∨ e.kind = 8 ∨ e.kind = 9 ∨ e.kind = 10 ∨ e.kind = 11 := by omega
    rcases hk with hk | hk | hk | hk | hk | hk | hk | hk | hk | hk | hk | hk
    · rw [if_pos hk]
      exact reckon0 P bv rb d b hB S f e env kb ko m sv w hf' hr hs hx hv hg hk
    · rw [if_neg (by omega), if_pos hk]
      obtain ⟨c, hc⟩ : ∃ c, env[e.n.toNat]? = some c := ⟨_, List.getElem?_eq_getElem (by have := f1 hk; omega)⟩
      rw [hc]
      exact reckon1 P bv rb d b ih hB S f e env kb ko m sv w hf' hr hs hx hv hg hk e.n.toNat (by have := f1 hk; omega) c hc
    · rw [if_neg (by omega), if_neg (by omega), if_pos hk]
      obtain ⟨B, hb⟩ : ∃ B, P[e.n.toNat]? = some B := ⟨_, List.getElem?_eq_getElem (by have := f2 hk; omega)⟩
      rw [show P.getD e.n.toNat exZ = B by rw [List.getD_eq_getElem?_getD, hb]; rfl]
      exact reckon2 P bv rb d b ih hB S f e env kb ko m sv w hf' hr hs hx hv hg hk e.n.toNat (by have := f2 hk; omega) B hb (hP B (List.mem_of_getElem? hb))
    · rw [if_neg (by omega), if_neg (by omega), if_neg (by omega), if_pos hk]
      exact reckon3 P bv rb d b hB S f e env kb ko m sv w hf' hr hs hx hv hg hk
    · rw [if_neg (by omega), if_neg (by omega), if_neg (by omega), if_neg (by omega), if_pos hk]
      exact reckon4 P bv rb d b ih hB S f e env kb ko m sv w hf' hr hs hx hv hg hk
    · rw [if_neg (by omega), if_neg (by omega), if_neg (by omega), if_neg (by omega), if_neg (by omega), if_pos hk]
      exact reckon5 P bv rb d b ih hB S f e env kb ko m sv w hf' hr hs hx hv hg hk
    · rw [if_neg (by omega), if_neg (by omega), if_neg (by omega), if_neg (by omega), if_neg (by omega), if_neg (by omega), if_pos hk]
      exact reckon6 P bv rb d b ih hB S f e env kb ko m sv w hf' hr hs hx hv hg hk
    · rw [if_neg (by omega), if_neg (by omega), if_neg (by omega), if_neg (by omega), if_neg (by omega), if_neg (by omega), if_neg (by omega), if_pos hk]
      exact reckon7 P bv rb d b hB S f e env kb ko m sv w hf' hr hs hx hv hg hk
    · rw [if_neg (by omega), if_neg (by omega), if_neg (by omega), if_neg (by omega), if_neg (by omega), if_neg (by omega), if_neg (by omega), if_neg (by omega), if_pos hk]
      exact reckon8 P bv rb d b hB S f e env kb ko m sv w hf' hr hs hx hv hg hk
    · rw [if_neg (by omega), if_neg (by omega), if_neg (by omega), if_neg (by omega), if_neg (by omega), if_neg (by omega), if_neg (by omega), if_neg (by omega), if_neg (by omega), if_pos hk]
      exact reckon9 P bv rb d b ih hB S f e env kb ko m sv w hf' hr hs hx hv hg hk
    · rw [if_neg (by omega), if_neg (by omega), if_neg (by omega), if_neg (by omega), if_neg (by omega), if_neg (by omega), if_neg (by omega), if_neg (by omega), if_neg (by omega), if_neg (by omega), if_pos hk]
      exact reckon10 P bv rb d b ih hB S f e env kb ko m sv w hf' hr hs hx hv hg hk
    · rw [if_neg (by omega), if_neg (by omega), if_neg (by omega), if_neg (by omega), if_neg (by omega), if_neg (by omega), if_neg (by omega), if_neg (by omega), if_neg (by omega), if_neg (by omega), if_neg (by omega)]
      exact reckon11 P bv rb d b ih hB S f e env kb ko m sv w hf' hr hs hx hv hg hk
theorem evI_all (P : List Ex) (bv : Value) (rb d : Nat) (hP : ∀ B ∈ P, Ok P B []) : ∀ b, b < 1000000 → EvI P bv rb d b
  | 0, _ => by
    intro S f e env kb ko m sv w hf hr hs hx hv hg
    obtain rfl : f = 0 := by omega
    rw [ev]
    exact reckon_out P bv rb d S kb ko sv w hr (by rcases hv.form with ⟨-, rfl⟩ | ⟨_, _, _, _, _, -, rfl, -⟩ <;> exact ⟨_, rfl⟩)
  | b + 1, h => evI_succ P bv rb d b hP (by omega) (evI_all P bv rb d hP b (by omega))
end Go.Proofs.YtkhkmmjollcfaaaGreatDoor
