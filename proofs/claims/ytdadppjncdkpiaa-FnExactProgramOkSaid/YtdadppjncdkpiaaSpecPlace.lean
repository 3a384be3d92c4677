/-
  The specification's l02Place.
-/
import Derived.Test.YtdadppjncdkpiaaNamesPure
namespace Go.Proofs.Ytdadppjncdkpiaa
open Go.RowKit Go.Joins

set_option maxRecDepth 100000

theorem place_ret {a b : Int} (h : a = b) : Ending.returned (.int .i64 a) = .returned (.int .i64 b) := by rw [h]

set_option maxHeartbeats 1600000 in
theorem l02Place_any (v : Value) (ts : List ByteArray) (s : ByteArray) (S : Nat → Prop) (w : World) (h : StrsAt w S v ts) :
    Calls Try.prog 53 #[v, .string s] w fun e w' => e = .returned (.int .i64 (lastN ts s ts.length)) ∧ w' = w := by
  obtain ⟨a, cap, rfl, hl, hc⟩ := h
  unfold maxLen at hl
  have HC := (show Hid (_ ∧ True) from ⟨hc, trivial⟩)
  clear hc
  go_enter Try.func53, Try.ntmps53
  go_wp2
  go_loop [5, 6] (fun p i => ∃ k : Nat, k ≤ ts.length ∧ i = .int .i64 k ∧ p = .int .i64 (lastN ts s k)) (fun _ i => ts.length - (intOf i).toNat)
  case atStart => exact ⟨0, Nat.zero_le _, rfl, rfl⟩
  case round =>
    obtain ⟨k, hk, rfl, rfl⟩ := hrel
    by_cases hlt : k < ts.length
    · have he := List.getElem?_eq_getElem hlt
      have hst : lastN ts s (k + 1) = if (ts[k].toList == s.toList) = true then (k : Int) else lastN ts s k := by
        rw [lastN]; simp [List.getD, he]
      have HS := (show Hid (_ ∧ True) from ⟨hst, trivial⟩)
      clear hst
      generalize ts[k] = x at *
      obtain ⟨b, off, rfl, -, hl1, c0, -⟩ := HC.out.1 k x he
      clear he HC
      cases hx : (x.toList == s.toList)
      · go_wp2
        go_round
        case rel => exact ⟨k + 1, by omega, by go_num, by rw [HS.out.1, hx]; simp⟩
        case measure => simp [intOf]; omega
      · go_wp2
        go_round
        case rel => exact ⟨k + 1, by omega, by go_num, by rw [HS.out.1, hx]; simp⟩
        case measure => simp [intOf]; omega
    · obtain rfl : k = ts.length := by omega
      clear HC
      go_wp2
      go_ret
      exact ⟨rfl, rfl⟩
end Go.Proofs.Ytdadppjncdkpiaa
