/-
  The program's list of a pack's numbers, by their places; a pack's bytes in plain words.
-/
import Derived.Test.YtfcgpfjmabhmeabDoorPackOpen
import Derived.Test.YtfcgpfjmabhmeabDoorPutFields
import Derived.Test.YtfcgpfjmabhmeabDoorSpecCrc
import Derived.Test.YtfcgpfjmabhmeabDoorImplCrc
import Derived.BigRegion
namespace Go.Proofs.YtfcgpfjmabhmeabDoor
open Go.RowKit Go.Joins

set_option maxRecDepth 100000

abbrev ptr5 (p : Nat) : Array Value := #[.pointer (some ⟨p, 0, none⟩), .pointer (some ⟨p, 1, none⟩), .pointer (some ⟨p, 2, none⟩), .pointer (some ⟨p, 3, none⟩), .pointer (some ⟨p, 4, none⟩)]
set_option maxHeartbeats 1600000 in
theorem packFields_any (p : Nat) (w : World) :
    Calls Tryd.prog 23 #[.pointer (some ⟨p, 0, none⟩)] w fun e w' => e = .returned (.slice (some ⟨w.heap.size, 0, none⟩) 5 5) ∧ w'.heap[w.heap.size]? = some (.cells (ptr5 p) 82) ∧ Below w.heap.size w w' := by
  go_enter Tryd.func23, Tryd.ntmps23
  go_wp2_with fail
  go_region
  go_wp2
  go_ret
  exact ⟨rfl, (MapKept.heap_alloc _ _).1, (Below.refl _ _).drew.alloc (Nat.le_refl _) _⟩
/-- The numbers of a pack. -/
def Pa.nums (p : Pa) : List Int := [p.kind, p.frm, p.dst, p.seq, p.low, ((crcSum p.body.data.toList : Nat) : Int)]
/-- The bytes of a pack; none where it is not right. -/
def Pa.bytes (p : Pa) : List UInt8 := if p.ok then numsB p.nums ++ p.body.data.toList else []
/-- The numbers of a pack lie in range. -/
def Pa.fits (p : Pa) : Prop := inI64 p.kind ∧ inI64 p.frm ∧ inI64 p.dst ∧ inI64 p.seq ∧ inI64 p.low
theorem pack_flds {w : World} {b g fb : Nat} {p : Pa} (h1 : g ≠ b) (h2 : fb ≠ b) (hg : w.heap[g]? = some (.cells (ptr5 fb) 82)) (hf : w.heap[fb]? = some (.cells p.row 26)) (hp : p.fits) :
    Flds w b g fb [0, 1, 2, 3, 4] [p.kind, p.frm, p.dst, p.seq, p.low] := by
  refine ⟨h1, h2, hg, ⟨_, _, hf, by decide, ?_⟩, rfl, ?_⟩
  · intro j o z ho hz
    have hj : j < 5 := (List.getElem?_eq_some_iff.1 hz).1
    have : j = 0 ∨ j = 1 ∨ j = 2 ∨ j = 3 ∨ j = 4 := by omega
    rcases this with rfl | rfl | rfl | rfl | rfl <;> (cases ho; cases hz; rfl)
  · intro z hz
    simp only [List.mem_cons, List.not_mem_nil, or_false] at hz
    rcases hz with rfl | rfl | rfl | rfl | rfl
    · exact hp.1
    · exact hp.2.1
    · exact hp.2.2.1
    · exact hp.2.2.2.1
    · exact hp.2.2.2.2
end Go.Proofs.YtfcgpfjmabhmeabDoor
