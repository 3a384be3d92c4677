/-
  One of what was sent, one of what was taken: two that are alike.
-/
import Derived.Test.YtbaakhpmfljgnaaIntsAt
import Derived.Test.YtbaakhpmfljgnaaLinkAt
namespace Go.Proofs.Ytbaakhpmfljgnaa
open Go.RowKit Go.Joins

set_option maxRecDepth 100000

abbrev Sn.row (s : Sn) : Array Value := #[.int .i64 s.seq, .int .i64 s.dst, .string s.body]

set_option maxHeartbeats 1600000 in
theorem eqSent_any (s : Sn) (w : World) :
    Calls Try.prog 21 #[.agg s.row, .agg s.row] w fun e w' => e = .returned (.bool true) ∧ Below w.heap.size w w' := by
  have e1 : (s.seq != s.seq) = false := by simp
  have e2 : (s.dst != s.dst) = false := by simp
  have e3 : (s.body.toList == s.body.toList) = true := by simp
  have B0 : Hid (∀ o o' : Obj, Below w.heap.size w ((w.alloc o).alloc o')) := fun o o' => ((Below.refl _ w).alloc (Nat.le_refl _) o).alloc (by simp) o'
  go_enter Try.func21, Try.ntmps21
  go_wp2
  go_ret
  exact ⟨rfl, B0.out _ _⟩

set_option maxHeartbeats 3200000 in
theorem eqSeen_any (kv1 kv2 : Value) (x : Se) (S1 S2 : Nat → Prop) (w : World) (k1 : IntsAt w S1 kv1 x.ids) (k2 : IntsAt w S2 kv2 x.ids) (hb : x.bulk ≤ 4194304) :
    Calls Try.prog 22 #[.agg #[.int .i64 x.low, kv1], .agg #[.int .i64 x.low, kv2]] w fun e w' => e = .returned (.bool true) ∧ Below w.heap.size w w' := by
  have hbe := (show x.bulk = x.ids.length from rfl)
  obtain ⟨a1, c1, rfl⟩ := k1.form
  obtain ⟨a2, c2, rfl⟩ := k2.form
  have e1 : (x.low != x.low) = false := by simp
  have B0 : Below w.heap.size w ((w.alloc (.cells #[.int .i64 x.low, .slice a1 x.ids.length c1] 33)).alloc (.cells #[.int .i64 x.low, .slice a2 x.ids.length c2] 33)) :=
    ((Below.refl _ w).alloc (Nat.le_refl _) _).alloc (by simp) _
  have HK1 := (show Hid (_ ∧ True) from ⟨k1.below B0, trivial⟩)
  have HK2 := (show Hid (_ ∧ True) from ⟨k2.below B0, trivial⟩)
  have HB0 := (show Hid (_ ∧ True) from ⟨B0, trivial⟩)
  have hnot := ex_not
  clear k1 k2 B0
  go_enter Try.func22, Try.ntmps22
  go_wp2_with fail
  refine (eqIntS_same _ _ x.ids S1 S2 _ HK1.out.1 HK2.out.1 (by omega)).mono ?_
  rintro e w1 ⟨rfl, b1⟩
  have B1 : Below w.heap.size w w1 := HB0.out.1.trans (b1.mono HB0.out.1.size)
  clear b1 HB0 HK1 HK2
  go_wp2
  go_ret
  exact ⟨rfl, B1⟩
end Go.Proofs.Ytbaakhpmfljgnaa
