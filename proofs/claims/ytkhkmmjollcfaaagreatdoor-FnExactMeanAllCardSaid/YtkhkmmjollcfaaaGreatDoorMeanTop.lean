/-
  Mean of both sides: what it answers.
-/
import Derived.Test.YtkhkmmjollcfaaaGreatDoorML
import Derived.Test.YtkhkmmjollcfaaaGreatDoorSpecProg
import Derived.Test.YtkhkmmjollcfaaaGreatDoorMO
namespace Go.Proofs.YtkhkmmjollcfaaaGreatDoor
open Go.RowKit Go.Joins

set_option maxRecDepth 100000

def mainB : ByteArray := ⟨#[109, 97, 105, 110]⟩
def mainN (p : Pr) : Int := lastN p.names mainB p.names.length
def mOk (p : Pr) (F : Int) : Prop := p.ok = true ∧ 0 ≤ mainN p ∧ 0 ≤ F ∧ F ≤ 100000
noncomputable def mB (p : Pr) (F : Int) : ByteArray := open Classical in if mOk p F then ofB p.bodies (mainN p).toNat F.toNat else ⟨#[]⟩
noncomputable def mC (p : Pr) (F : Int) : Int := open Classical in if mOk p F then ofC p.bodies (mainN p).toNat F.toNat else 3
theorem mB_ok {p : Pr} {F : Int} (h : mOk p F) : mB p F = ofB p.bodies (mainN p).toNat F.toNat ∧ mC p F = ofC p.bodies (mainN p).toNat F.toNat := by unfold mB mC; rw [if_pos h, if_pos h]; exact ⟨rfl, rfl⟩
theorem mB_no {p : Pr} {F : Int} (h : ¬ mOk p F) : mB p F = ⟨#[]⟩ ∧ mC p F = 3 := by unfold mB mC; rw [if_neg h, if_neg h]; exact ⟨rfl, rfl⟩
theorem ok_bodies {p : Pr} (h : p.ok = true) : ∀ X ∈ p.bodies, Ok p.bodies X [] := by
  obtain ⟨h1, -, -, -, -, h6⟩ := p.ok_iff.1 h
  intro X hX
  have := h6 X hX
  rw [h1] at this
  exact ⟨⟨60, this⟩, trivial⟩
theorem main_lt {p : Pr} (h : p.ok = true) (h0 : 0 ≤ mainN p) : (mainN p).toNat < p.bodies.length := by
  have h1 := (p.ok_iff.1 h).1
  have h2 := (lastN_range p.names mainB p.names.length).2
  unfold mainN at *
  omega

set_option maxHeartbeats 3200000 in
theorem specMean_any (d : Nat) (v : Value) (p : Pr) (S : Nat → Prop) (F : Int) (w : World) (h : PrAt w S d v p) :
    Calls Tryz.prog 6 #[v, .int .i64 F] w fun r w' => r = .returned (.tuple #[.string (mB p F), .int .i64 (mC p F)]) ∧ Below w.heap.size w w' := by
  have hnot : ∀ (x : Bool) (w : World), (Op.unary .not (.bool x)).run Tryz.prog w = .ok (.bool (!x)) w := fun _ _ => rfl
  have H0 := (show Hid (PrAt w S d v p ∧ True) from ⟨h, trivial⟩)
  obtain ⟨nv, bv, rfl, hn, hk⟩ := h
  have hn0 := hn
  obtain ⟨a1, cap1, rfl, -, -⟩ := hn0
  obtain ⟨a2, cap2, rfl⟩ := hk.form
  obtain ⟨W1, hW1⟩ : ∃ W1, W1 = w.alloc (.cells #[.slice a1 p.names.length cap1, .slice a2 p.bodies.length cap2] 31) := ⟨_, rfl⟩
  have b1 : Below w.heap.size w W1 := by rw [hW1]; exact (Below.refl _ w).alloc (Nat.le_refl _) _
  have q1 : W1.heap[w.heap.size]? = some (.cells #[.slice a1 p.names.length cap1, .slice a2 p.bodies.length cap2] 31) := by rw [hW1]; exact block_alloc
  have hpl := l02Place_any _ p.names mainB S W1 (hn.below b1)
  have hpr := specProg_any d _ p S W1 (H0.out.1.below b1)
  have hof := fun (w2 : World) (hb : Below W1.heap.size W1 w2) (ho : mOk p F) => l03Of_any p.bodies (mainN p).toNat F.toNat d S a1 p.names.length cap1 (.slice a2 p.bodies.length cap2) w2 (ok_bodies ho.1) (main_lt ho.1 ho.2.1) (by have := ho.2.2; omega) (((hk.below b1).below hb))
  have x0 : W1.cell? ⟨w.heap.size, 0, none⟩ = some (.slice a1 p.names.length cap1) := by rw [cell_of_block q1]; rfl
  have x1 : W1.cell? ⟨w.heap.size, 1, none⟩ = some (.slice a2 p.bodies.length cap2) := by rw [cell_of_block q1]; rfl
  obtain ⟨z, hz⟩ : ∃ z, mainN p = z := ⟨_, rfl⟩
  rw [show lastN p.names mainB p.names.length = z from hz] at hpl
  unfold mainB at hpl
  have HK := (show Hid (_ ∧ _ ∧ _ ∧ _ ∧ _ ∧ _) from ⟨hpl, hpr, hof, b1, q1, hz⟩)
  have HW := (show Hid (_ ∧ True) from ⟨hW1, trivial⟩)
  clear hpl hpr hof b1 q1 hz hn hk H0 hW1
  by_cases ho : mOk p F
  · obtain ⟨e1, e2⟩ := mB_ok ho
    rw [e1, e2, HK.out.2.2.2.2.2]
    have hok : p.ok = true := ho.1
    have hz0 : decide (z < 0) = false := by have := ho.2.1; rw [HK.out.2.2.2.2.2] at this; simp; omega
    have hin := fun w => specIn_is F 0 100000 true (by unfold inB; have := ho.2.2; simp [this.1, this.2]) w
    obtain ⟨zi, hzi⟩ : ∃ zi : Nat, zi = z.toNat := ⟨_, rfl⟩
    obtain ⟨Fi, hFi⟩ : ∃ Fi : Nat, Fi = F.toNat := ⟨_, rfl⟩
    have hzz : z = (zi : Int) := by have := ho.2.1; rw [HK.out.2.2.2.2.2] at this; omega
    have hFF : F = (Fi : Int) := by have := ho.2.2; omega
    have HE := (show Hid (_ ∧ _ ∧ _ ∧ _ ∧ _) from ⟨ho, hin, hzi, hFi, e1⟩)
    have hof := HK.out.2.2.1
    rw [HK.out.2.2.2.2.2, ← hzi, ← hFi] at hof
    have HO := (show Hid (_ ∧ True) from ⟨hof, trivial⟩)
    rw [← hzi, ← hFi]
    clear ho hin hzi hFi hof e1 e2
    subst hzz
    subst hFF
    go_enter Tryz.func6, Tryz.ntmps6
    go_upto_region 1 with fail
    rw [← HW.out.1]
    go_wp2_with fail
    refine HK.out.1.mono ?_
    rintro r w1 ⟨rfl, rfl⟩
    go_wp2_with fail
    refine HK.out.2.1.mono ?_
    rintro r w2 ⟨rfl, b2⟩
    rw [hok]
    have B2 := (show Hid _ from b2)
    have x0' := (b2.cell (p := ⟨w.heap.size, 0, none⟩) (lt_heap HK.out.2.2.2.2.1)).trans x0
    have x1' := (b2.cell (p := ⟨w.heap.size, 1, none⟩) (lt_heap HK.out.2.2.2.2.1)).trans x1
    clear b2 x0 x1
    go_wp2_with fail
    refine (HE.out.2.1 _).mono ?_
    rintro r w3 ⟨rfl, rfl⟩
    go_wp2_with fail
    refine (HO.out.1 _ B2.out HE.out.1).mono ?_
    rintro r w4 ⟨rfl, b4⟩
    have B4 := (show Hid _ from b4)
    clear b4
    go_wp2_with fail
    refine bodyPost_ret (v := .tuple #[.string (ofB p.bodies zi Fi), .int .i64 (ofC p.bodies zi Fi)]) (by simp [results, Tryz.results6, go_sem]) rfl ?_
    exact ⟨rfl, HK.out.2.2.2.1.trans ((B2.out.trans (B4.out.mono B2.out.size)).mono HK.out.2.2.2.1.size)⟩
  · obtain ⟨e1, e2⟩ := mB_no ho
    rw [e1, e2]
    have HNO := (show Hid (_ ∧ True) from ⟨ho, trivial⟩)
    clear e1 e2 ho
    cases hok : p.ok with
    | false =>
      go_enter Tryz.func6, Tryz.ntmps6
      go_upto_region 1 with fail
      rw [← HW.out.1]
      go_wp2_with fail
      refine HK.out.1.mono ?_
      rintro r w1 ⟨rfl, rfl⟩
      go_wp2_with fail
      refine HK.out.2.1.mono ?_
      rintro r w2 ⟨rfl, b2⟩
      have B2 := (show Hid _ from b2)
      clear b2
      rw [hok]
      go_wp2_with fail
      refine bodyPost_ret (v := .tuple #[.string ⟨#[]⟩, .int .i64 3]) (by simp [results, Tryz.results6, go_sem]) rfl ?_
      exact ⟨rfl, HK.out.2.2.2.1.trans (B2.out.mono HK.out.2.2.2.1.size)⟩
    | true =>
      by_cases hz : z < 0
      · have hz0 : decide (z < 0) = true := by simpa using hz
        clear hz
        go_enter Tryz.func6, Tryz.ntmps6
        go_upto_region 1 with fail
        rw [← HW.out.1]
        go_wp2_with fail
        refine HK.out.1.mono ?_
        rintro r w1 ⟨rfl, rfl⟩
        go_wp2_with fail
        refine HK.out.2.1.mono ?_
        rintro r w2 ⟨rfl, b2⟩
        have B2 := (show Hid _ from b2)
        clear b2
        rw [hok]
        go_wp2_with fail
        refine bodyPost_ret (v := .tuple #[.string ⟨#[]⟩, .int .i64 3]) (by simp [results, Tryz.results6, go_sem]) rfl ?_
        exact ⟨rfl, HK.out.2.2.2.1.trans (B2.out.mono HK.out.2.2.2.1.size)⟩
      · have hz0 : decide (z < 0) = false := by simpa using hz
        have hin := fun w => specIn_is F 0 100000 false (by
          unfold inB
          by_cases h1 : 0 ≤ F <;> by_cases h2 : F ≤ 100000 <;> simp [h1, h2]
          exact absurd ⟨hok, by rw [HK.out.2.2.2.2.2]; omega, h1, h2⟩ HNO.out.1) w
        have HE := (show Hid (_ ∧ True) from ⟨hin, trivial⟩)
        clear hz hin
        go_enter Tryz.func6, Tryz.ntmps6
        go_upto_region 1 with fail
        rw [← HW.out.1]
        go_wp2_with fail
        refine HK.out.1.mono ?_
        rintro r w1 ⟨rfl, rfl⟩
        go_wp2_with fail
        refine HK.out.2.1.mono ?_
        rintro r w2 ⟨rfl, b2⟩
        have B2 := (show Hid _ from b2)
        clear b2
        rw [hok]
        go_wp2_with fail
        refine (HE.out.1 _).mono ?_
        rintro r w3 ⟨rfl, rfl⟩
        go_wp2_with fail
        refine bodyPost_ret (v := .tuple #[.string ⟨#[]⟩, .int .i64 3]) (by simp [results, Tryz.results6, go_sem]) rfl ?_
        exact ⟨rfl, HK.out.2.2.2.1.trans (B2.out.mono HK.out.2.2.2.1.size)⟩
end Go.Proofs.YtkhkmmjollcfaaaGreatDoor
