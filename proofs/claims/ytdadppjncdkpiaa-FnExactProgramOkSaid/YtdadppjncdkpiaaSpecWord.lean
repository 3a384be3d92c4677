/-
  The specification's IsWord answers whether the text is one of the words.
-/
import Derived.Test.YtdadppjncdkpiaaHas
namespace Go.Proofs.Ytdadppjncdkpiaa
open Go.RowKit Go.Maps Go.Joins Go.WideMaps

set_option maxRecDepth 100000

def wordsB : List ByteArray := [⟨#[108, 101, 116]⟩, ⟨#[105, 110]⟩, ⟨#[105, 102]⟩, ⟨#[116, 104, 101, 110]⟩, ⟨#[101, 108, 115, 101]⟩, ⟨#[99, 97, 115, 101]⟩, ⟨#[111, 102]⟩, ⟨#[112, 97, 114]⟩]

theorem any_beq (l : List UInt8) : ∀ ws : List (List UInt8), ws.any (fun x => x == l) = ws.contains l
  | [] => rfl
  | a :: r => by
    rw [List.any_cons, List.contains_cons, any_beq l r]
    have hc : (a == l) = (l == a) := Bool.eq_iff_iff.2 (by simp only [beq_iff_eq]; exact ⟨fun h => h.symm, fun h => h.symm⟩)
    rw [hc]

theorem among_wordsB (s : ByteArray) : among wordsB s = isW s := by
  unfold among isW
  rw [ByteArray.toList_eq s]
  rw [← any_beq, show words = wordsB.map (fun x => x.toList) from by simp only [ByteArray.toList_eq, wordsB, words, List.map_cons, List.map_nil], List.any_map]
  rfl

theorem lit_cells (ss : List ByteArray) (w : World) (t : TypeId) (j : Nat) (h : j < ss.length) : (w.alloc (.cells (ss.map Value.string).toArray t)).cell? ⟨w.heap.size, j, none⟩ = some (.string (ss.getD j ByteArray.empty)) := by
  rw [cell_of_block (MapKept.heap_alloc w _).1]
  simp [List.getElem?_eq_getElem h]

set_option maxHeartbeats 400000 in
theorem specIsWord_any (s : ByteArray) (w : World) :
    Calls Try.prog 99 #[.string s] w fun e w' => e = .returned (.bool (isW s)) ∧ Below w.heap.size w w' := by
  go_enter Try.func99, Try.ntmps99
  go_wp2_with fail
  refine (has_any w.heap.size 8 8 wordsB s _ rfl (by decide) (lit_cells wordsB w 9)).mono ?_
  rintro e w1 ⟨rfl, rfl⟩
  go_wp2
  go_ret
  exact ⟨ret_bool (among_wordsB s).symm, (Below.refl _ w).alloc (Nat.le_refl _) _⟩
end Go.Proofs.Ytdadppjncdkpiaa
