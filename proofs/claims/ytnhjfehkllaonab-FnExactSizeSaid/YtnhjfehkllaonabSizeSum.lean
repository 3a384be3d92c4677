/-
  The program's Size: the sum over an expression's kids.
-/
import Derived.Test.YtnhjfehkllaonabSizePure
import Derived.LoopTactic
namespace Go.Proofs.Ytnhjfehkllaonab
open Go.RowKit Go.Joins

set_option maxRecDepth 100000

theorem infoPtrX : (Try.prog.info? 44).map (fun i => (i.zero, i.size, i.bytes)) = some (some (.pointer none), 1, 8) := by kernel_rfl
theorem infoExpX : (Try.prog.info? 29).map (fun i => i.size) = some 4 := by kernel_rfl
theorem keysPtr : KeysGo Try.prog 44 PtrK := by
  cases hj : Try.prog.info? 29 with
  | none => have := infoExpX; rw [hj] at this; cases this
  | some j =>
    have h4 : j.size = 4 := by have := infoExpX; rw [hj] at this; simpa using this
    exact ptr_keys Try.underlying44 hj (by omega)
theorem zeroInt (w : World) : (zeroValue 3).run Try.prog w = .ok (.int .i64 0) w := by kernel_rfl

set_option maxHeartbeats 1600000 in
theorem sum_any (N M : Nat) (f : Value → Option Value) (a : Option Addr) (cap : Nat) (es : List Ex) (w : World) (hm : PtMap (PtrN N) w M f)
    (hk : ∀ (i : Nat) (k : Ex), es[i]? = some k → ∃ b o, a = some ⟨b, o, none⟩ ∧ PtrN N w (ptr ⟨b, o + i * 4, none⟩) ∧ f (ptr ⟨b, o + i * 4, none⟩) = some (cnt k)) (hc : Ex.countL es ≤ 1048577) (hl : es.length ≤ 1048577) :
    Calls Try.prog 24 #[.slice a es.length cap, .map (some M)] w fun r w' => r = .returned (.int .i64 (Ex.countL es : Int)) ∧ w' = w := by
  have HM := (show Hid (_ ∧ True) from ⟨hm, trivial⟩)
  have HK := (show Hid (_ ∧ True) from ⟨hk, trivial⟩)
  have HT := (show Hid (_ ∧ True) from ⟨Ex.countL_take es, trivial⟩)
  clear hm hk
  go_enter Try.func24, Try.ntmps24
  go_wp2
  go_loopw [5, 9] (fun s i wr => wr = w ∧ ∃ j : Nat, j ≤ es.length ∧ i = .int .i64 j ∧ s = .int .i64 (Ex.countL (es.take j) : Int)) (fun _ i _ => es.length - (intOf i).toNat)
  case atStart => exact ⟨rfl, 0, Nat.zero_le _, rfl, by simp [Ex.countL]⟩
  case round =>
    obtain ⟨rfl, j, hj, rfl, rfl⟩ := hrel
    by_cases hjl : j < es.length
    · have he := List.getElem?_eq_getElem hjl
      obtain ⟨b, o, rfl, hp, hf⟩ := HK.out.1 j _ he
      have hlk := HM.out.1.look (PtrN.keys keysPtr _) Try.underlying55 (zeroInt _) hp false
      rw [hf] at hlk
      simp only [Bool.false_eq_true, if_false, Option.getD_some, ptr, cnt] at hlk
      have ht := HT.out.1 j _ he
      have htl : Ex.countL (es.take (j + 1)) ≤ 1048577 := by
        refine Nat.le_trans ?_ hc
        have h1 : ∀ (l : List Ex) (n : Nat), Ex.countL (l.take n) ≤ Ex.countL l := by
          intro l
          induction l with
          | nil => simp
          | cons x r ih =>
            intro n
            cases n with
            | zero => simp [Ex.countL]
            | succ n => rw [List.take_succ_cons, Ex.countL, Ex.countL]; have := ih n; omega
        exact h1 _ _
      generalize es[j] = x at *
      rw [ht] at htl
      have hlt' : ((j : Nat) : Int) < ((es.length : Nat) : Int) := by omega
      have HTT := (show Hid (_ ∧ True) from ⟨ht, trivial⟩)
      clear ht HM HK HT hp hf
      generalize Ex.countL (es.take j) = s0 at *
      generalize x.count = c0 at *
      go_wp2
      exact ⟨⟨trivial, j + 1, by omega, by go_num, by rw [HTT.out.1]; go_num⟩, by simp [intOf]; omega⟩
    · obtain rfl : j = es.length := by omega
      rw [List.take_of_length_le (Nat.le_refl _)]
      clear HM HK HT
      go_wp2
      go_ret
      exact ⟨rfl, rfl⟩
end Go.Proofs.Ytnhjfehkllaonab
