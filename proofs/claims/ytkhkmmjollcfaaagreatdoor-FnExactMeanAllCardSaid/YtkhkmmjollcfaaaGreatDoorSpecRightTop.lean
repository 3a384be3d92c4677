/-
  The specification's l02Right, whole.
-/
import Derived.Test.YtkhkmmjollcfaaaGreatDoorMN
import Derived.Test.YtkhkmmjollcfaaaGreatDoorSpecRightE
namespace Go.Proofs.YtkhkmmjollcfaaaGreatDoor
open Go.RowKit Go.Joins

theorem l02Right_any : ∀ d, RightE d
  | 0 => fun _ _ _ _ _ _ _ ⟨_, _, _, _, _, h⟩ => h.elim
  | d + 1 => fun v x S w scope tops deep h hs ht hd => by
    by_cases hm : 0 ≤ deep ∧ scope ≤ 90 ∧ (x.kids.length : Int) = kidsOf x.kind
    · by_cases h10 : x.kind = 10
      · exact l02Right_k10 d (l02Right_any d) v x S w scope tops deep h hs ht hd hm.1 hm.2.1 hm.2.2 h10
      · by_cases h11 : x.kind = 11 ∧ x.text.toList = []
        · exact l02Right_k11 d (l02Right_any d) v x S w scope tops deep h hs ht hd hm.1 hm.2.1 hm.2.2 h11.1 (fun hn => hn h11.2)
        · refine l02Right_gen d (l02Right_any d) v x S w scope tops deep h hs ht hd (fun _ _ _ hx => ⟨h10, fun he => h11 ⟨he, ?_⟩⟩)
          by_cases ht : x.text.toList = []
          · exact ht
          · exact absurd ⟨ht, h10⟩ hx
    · exact l02Right_gen d (l02Right_any d) v x S w scope tops deep h hs ht hd (fun h1 h2 h3 _ => absurd ⟨h1, h2, h3⟩ hm)
end Go.Proofs.YtkhkmmjollcfaaaGreatDoor
