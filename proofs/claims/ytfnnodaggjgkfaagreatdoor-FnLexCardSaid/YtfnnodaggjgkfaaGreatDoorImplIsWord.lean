/-
  The program's IsWord answers whether the text is one of the words; it lays new memory alone.
-/
import Derived.Test.YtfnnodaggjgkfaaGreatDoorWord
namespace Go.Proofs.YtfnnodaggjgkfaaGreatDoor
open Go.RowKit Go.Maps Go.Joins Go.WideMaps

set_option maxRecDepth 100000

theorem IsWord_any (s : ByteArray) (w : World) (hs : s.size ≤ maxLen) :
    Calls Tryz.prog 13 #[.string s] w fun e w' => e = .returned (.bool (isW s)) ∧ Below w.heap.size w w' := by
  go_enter Tryz.func13, Tryz.ntmps13
  go_wp2_with fail
  refine (isWord_any _ s _ hs (.inl (fresh_new w))).mono ?_
  rintro e w1 ⟨rfl, hd, hg⟩
  go_wp2
  go_ret
  exact ⟨rfl, below_of_new hg⟩
end Go.Proofs.YtfnnodaggjgkfaaGreatDoor
