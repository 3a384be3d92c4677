/-
  The program's SameExp: it goes by pairs of pointers, each pair once.
-/
import Derived.Test.YtnhjfehkllaonabNode
import Derived.Maps.AppendAt
import Derived.BigQuiet
import Derived.Deep.QuietTactic
namespace Go.Proofs.Ytnhjfehkllaonab
open Go.RowKit Go.Joins

set_option maxRecDepth 100000

theorem drewN_below {B : Nat} {a w : World} (h : Below B a w) (n : Nat) : Below B a (w.drewN n) := h.trans ⟨rfl, rfl, rfl, Nat.le_refl _, fun _ _ => rfl⟩

def headB (e f : Ex) : Bool := e.kind == f.kind && e.n == f.n && e.text.toList == f.text.toList && e.kids.length == f.kids.length
theorem headB_iff (e f : Ex) : headB e f = true ↔ headSame e f := by
  unfold headB headSame
  simp only [Bool.and_eq_true, beq_iff_eq]
  constructor
  · rintro ⟨⟨⟨h1, h2⟩, h3⟩, h4⟩
    exact ⟨h1, h2, bytes_toList h3, h4⟩
  · rintro ⟨h1, h2, h3, h4⟩
    exact ⟨⟨⟨h1, h2⟩, by rw [h3]⟩, h4⟩

set_option maxHeartbeats 2400000 in
theorem sameBut_any (p q : Addr) (e f : Ex) (d d' : Nat) (w : World) (hp : NodeAt w d p e) (hq : NodeAt w d' q f) :
    Calls Try.prog 17 #[.pointer (some p), .pointer (some q)] w fun r w' => r = .returned (.bool (headB e f)) ∧ Below w.heap.size w w' := by
  obtain ⟨a1, k1, hv1, _⟩ := hp.kidsVal
  obtain ⟨a2, k2, hv2, _⟩ := hq.kidsVal
  obtain ⟨b, o, kv, rfl, -, c0, c1, c2, c3, r1, r2, r3, -⟩ := hp
  obtain ⟨b', o', kv', rfl, -, d0, d1, d2, d3, s1, s2, s3, -⟩ := hq
  rw [hv1] at c3
  rw [hv2] at d3
  clear c3 d3
  go_enter Try.func17, Try.ntmps17
  by_cases h1 : e.kind = f.kind
  · by_cases h2 : e.n = f.n
    · by_cases h3 : (e.text.toList == f.text.toList) = true
      · by_cases h4 : e.kids.length = f.kids.length
        · skip
          have g1 : (e.kind == f.kind) = true := by simp [h1]
          have g2 : (e.n == f.n) = true := by simp [h2]
          have g3 : (e.text.toList == f.text.toList) = true := h3
          have g4 : (((e.kids.length : Nat) : Int) == ((f.kids.length : Nat) : Int)) = true := by simp [h4]
          have hr : headB e f = true := by unfold headB; rw [g1, g2, g3, h4]; simp
          rw [hr]
          go_wp2
          go_quiet (fail)
          go_wp2
          go_ret
          exact ⟨rfl, drewN_below (Below.refl _ w) _⟩
        · skip
          have g1 : (e.kind == f.kind) = true := by simp [h1]
          have g2 : (e.n == f.n) = true := by simp [h2]
          have g3 : (e.text.toList == f.text.toList) = true := h3
          have g4 : (((e.kids.length : Nat) : Int) == ((f.kids.length : Nat) : Int)) = false := by simp; omega
          have hr : headB e f = false := by unfold headB; rw [g1, g2, g3]; simp [h4]
          rw [hr]
          go_wp2
          go_quiet (fail)
          go_wp2
          go_ret
          exact ⟨rfl, drewN_below (Below.refl _ w) _⟩
      · skip
        have g1 : (e.kind == f.kind) = true := by simp [h1]
        have g2 : (e.n == f.n) = true := by simp [h2]
        have g3 : (e.text.toList == f.text.toList) = false := by simpa using h3
        have hr : headB e f = false := by unfold headB; rw [g1, g2, g3]; simp
        rw [hr]
        go_wp2
        go_quiet (fail)
        go_wp2
        go_ret
        exact ⟨rfl, drewN_below (Below.refl _ w) _⟩
    · skip
      have g1 : (e.kind == f.kind) = true := by simp [h1]
      have g2 : (e.n == f.n) = false := by simp [h2]
      have hr : headB e f = false := by unfold headB; rw [g1, g2]; simp
      rw [hr]
      go_wp2
      go_quiet (fail)
      go_wp2
      go_ret
      exact ⟨rfl, drewN_below (Below.refl _ w) _⟩
  · skip
    have g1 : (e.kind == f.kind) = false := by simp [h1]
    have hr : headB e f = false := by unfold headB; rw [g1]; simp
    rw [hr]
    go_wp2
    go_quiet (fail)
    go_wp2
    go_ret
    exact ⟨rfl, drewN_below (Below.refl _ w) _⟩
end Go.Proofs.Ytnhjfehkllaonab
