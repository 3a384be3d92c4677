/-
  The program's Show.
-/
import Derived.Test.YtlgnklpaebgnlaaShowDef
import Derived.Test.YtlgnklpaebgnlaaWithin
import Derived.Test.YtlgnklpaebgnlaaCpMachine
namespace Go.Proofs.Ytlgnklpaebgnlaa
open Go.RowKit Go.Joins

set_option maxRecDepth 100000

theorem isPlace_r (a : Option Addr) (l c : Nat) (at_ : Int) (r : Bool) (hl : l ≤ 1048576) (h : inB at_ 0 ((l : Int) - 1) = r) (w : World) : Calls Try.prog 30 #[.slice a l c, .int .i64 at_] w fun e w' => e = .returned (.bool r) ∧ w' = w := by
  go_enter Try.func30, Try.ntmps30
  go_wp2_with (go_at_call 73; refine (within_r at_ 0 ((l : Int) - 1) r h _).mono ?_; rintro e w1 ⟨rfl, hw⟩; subst hw)
  go_ret
  exact ⟨rfl, rfl⟩
set_option maxHeartbeats 12800000 in
theorem implShow_dt : ShC 8 := by
  intro vs x0 x1 x2 x3 x4 x5 x6 S w at_ hP h hb hat
  have hc := copyMachineT_dt
  obtain ⟨iX, hiX, hzX0, hzX1, hzX2⟩ := info_parts infoTh
  have hl2 : x2.length ≤ 1048576 ∧ x3.length ≤ 1048576 := by
    have h1 := bulkS_len x2
    have h2 := bulkS_len x3
    rw [show Dt.bulkR [.row x0, .row x1, .row x2, .row x3, .row x4, .row x5, .row x6] = Dt.bulkS x0 + Dt.bulkS x1 + Dt.bulkS x2 + Dt.bulkS x3 + Dt.bulkS x4 + Dt.bulkS x5 + Dt.bulkS x6 from by simp [Dt.bulkR, Dt.bulk]; omega] at hb
    omega
  have HQ := (show Hid (_ ∧ _ ∧ _ ∧ _) from ⟨hP, h, hb, hat⟩)
  have hq3 : AllR ThreadR x3 := by
    obtain ⟨y0, y1, y2, y3, y4, y5, y6, hy, -, -, -, q3, -, -, -⟩ := hP
    simp only [List.cons.injEq, Dt.row.injEq, and_true] at hy
    obtain ⟨rfl, rfl, rfl, rfl, rfl, rfl, rfl⟩ := hy
    exact q3
  obtain ⟨v0, v1, v2, v3, v4, v5, v6, rfl, a0, a1, a2, a3, a4, a5, a6⟩ := fs7 h
  obtain ⟨p0, c0, rfl⟩ := a0.form
  obtain ⟨p1, c1, rfl⟩ := a1.form
  obtain ⟨p2, c2, rfl⟩ := a2.form
  obtain ⟨p3, c3, rfl⟩ := a3.form
  obtain ⟨p4, c4, rfl⟩ := a4.form
  obtain ⟨p5, c5, rfl⟩ := a5.form
  obtain ⟨p6, c6, rfl⟩ := a6.form
  obtain ⟨W0, hW0⟩ : ∃ W0, W0 = (w.alloc (.cells #[.slice p0 x0.length c0, .slice p1 x1.length c1, .slice p2 x2.length c2, .slice p3 x3.length c3, .slice p4 x4.length c4, .slice p5 x5.length c5, .slice p6 x6.length c6] 39)).alloc (.cells #[.slice none 0 0, .slice none 0 0, .slice none 0 0, .slice none 0 0, .slice none 0 0, .slice none 0 0, .slice none 0 0] 39) := ⟨_, rfl⟩
  have B : Below w.heap.size w W0 := by rw [hW0]; exact ((Below.refl _ w).alloc (Nat.le_refl _) _).alloc (by simp) _
  have SZ : W0.heap.size = w.heap.size + 2 := by rw [hW0]; simp
  have O0 : W0.heap[w.heap.size]? = some (.cells #[.slice p0 x0.length c0, .slice p1 x1.length c1, .slice p2 x2.length c2, .slice p3 x3.length c3, .slice p4 x4.length c4, .slice p5 x5.length c5, .slice p6 x6.length c6] 39) := by rw [hW0]; exact (Below.heap_alloc _ _ _ (by simp)).trans (MapKept.heap_alloc w _).1
  have O1 : W0.heap[w.heap.size + 1]? = some (.cells #[.slice none 0 0, .slice none 0 0, .slice none 0 0, .slice none 0 0, .slice none 0 0, .slice none 0 0, .slice none 0 0] 39) := by
    rw [hW0]
    have := (MapKept.heap_alloc (w.alloc (.cells #[.slice p0 x0.length c0, .slice p1 x1.length c1, .slice p2 x2.length c2, .slice p3 x3.length c3, .slice p4 x4.length c4, .slice p5 x5.length c5, .slice p6 x6.length c6] 39)) (.cells #[.slice none 0 0, .slice none 0 0, .slice none 0 0, .slice none 0 0, .slice none 0 0, .slice none 0 0, .slice none 0 0] 39)).1
    simpa using this
  have HS := (show Hid (_ ∧ _ ∧ _ ∧ _ ∧ _) from ⟨B, SZ, O0, O1, hq3⟩)
  have HC := (show Hid (_ ∧ _) from ⟨hc, hW0⟩)
  clear B SZ O0 O1 hW0 hc hP h hb hat hq3 a0 a1 a2 a3 a4 a5 a6
  go_enter Try.func8, Try.ntmps8
  go_wp2_with fail
  rw [← HC.out.2]
  refine (HC.out.1 _ _ S W0 HQ.out.1 (HQ.out.2.1.up HS.out.1) HQ.out.2.2.1).mono ?_
  rintro e w1 ⟨us, rfl, N, ty, b1⟩
  clear HC
  obtain ⟨v0, v1, v2, v3, v4, v5, v6, rfl, k0, k1, k2, k3, k4, k5, k6⟩ := fs7 N.at
  obtain ⟨s0, t0, rfl⟩ := k0.form
  obtain ⟨s1, t1, rfl⟩ := k1.form
  obtain ⟨s2, t2, rfl⟩ := k2.form
  obtain ⟨s3, t3, rfl⟩ := k3.form
  obtain ⟨s4, t4, rfl⟩ := k4.form
  obtain ⟨s5, t5, rfl⟩ := k5.form
  obtain ⟨s6, t6, rfl⟩ := k6.form
  obtain ⟨u, hu, flat, hf⟩ := ty
  obtain rfl : u = .slice s3 x3.length t3 := by simpa using hu.symm
  have hf : w1.ownsRow W0.heap.size 69 5 (.slice s3 x3.length t3) x3.length flat := hf
  have P0 := (b1.block _ (lt_heap HS.out.2.2.1)).trans HS.out.2.2.1
  have P1 := (b1.block _ (lt_heap HS.out.2.2.2.1)).trans HS.out.2.2.2.1
  have hz1 : w.heap.size + 2 ≤ w1.heap.size := by have := b1.size; rw [HS.out.2.1] at this; exact this
  have y2 : w1.cell? ⟨w.heap.size, 2, none⟩ = some (.slice p2 x2.length c2) := by rw [cell_of_block P0]; rfl
  have y3 : w1.cell? ⟨w.heap.size, 3, none⟩ = some (.slice p3 x3.length c3) := by rw [cell_of_block P0]; rfl
  have hw1 : w.heap.size < w1.heap.size := by omega
  have hw2 : w.heap.size + 1 < w1.heap.size := by omega
  have H1 := (show Hid (_ ∧ _ ∧ _ ∧ _) from ⟨N, HS.out.1.trans (b1.mono HS.out.1.size), hf, P1⟩)
  rw [HS.out.2.1] at H1
  clear N hf hu P0 b1 k0 k1 k2 k3 k4 k5 k6
  have hn1 : w.heap.size ≠ w1.heap.size := by omega
  have hn2 : w.heap.size + 1 ≠ w1.heap.size := by omega
  obtain ⟨W2, hW2⟩ : ∃ W2, W2 = w1.alloc (.cells #[.slice s0 x0.length t0, .slice s1 x1.length t1, .slice s2 x2.length t2, .slice s3 x3.length t3, .slice s4 x4.length t4, .slice s5 x5.length t5, .slice s6 x6.length t6] 39) := ⟨_, rfl⟩
  have B2 : Below w1.heap.size w1 W2 := by rw [hW2]; exact (Below.refl _ w1).alloc (Nat.le_refl _) _
  have OB : W2.heap[w1.heap.size]? = some (.cells #[.slice s0 x0.length t0, .slice s1 x1.length t1, .slice s2 x2.length t2, .slice s3 x3.length t3, .slice s4 x4.length t4, .slice s5 x5.length t5, .slice s6 x6.length t6] 39) := by rw [hW2]; exact (MapKept.heap_alloc w1 _).1
  have hz2 : W2.heap.size = w1.heap.size + 1 := by rw [hW2]; simp
  have P2 := (B2.block _ (lt_heap P1)).trans P1
  have y3W : W2.cell? ⟨w.heap.size, 3, none⟩ = some (.slice p3 x3.length c3) := (B2.cell (p := ⟨w.heap.size, 3, none⟩) hw1).trans y3
  have d0 : W2.cell? ⟨w.heap.size + 1, 0, none⟩ = some (.slice none 0 0) := by rw [cell_of_block P2]; rfl
  have g0 : W2.frozen? ⟨w.heap.size + 1, 0, none⟩ = false := unfrozen_of_block P2 0
  have e0 : W2.cell? ⟨w1.heap.size, 0, none⟩ = some (.slice s0 x0.length t0) := by rw [cell_of_block OB]; rfl
  have d1 : W2.cell? ⟨w.heap.size + 1, 1, none⟩ = some (.slice none 0 0) := by rw [cell_of_block P2]; rfl
  have g1 : W2.frozen? ⟨w.heap.size + 1, 1, none⟩ = false := unfrozen_of_block P2 1
  have e1 : W2.cell? ⟨w1.heap.size, 1, none⟩ = some (.slice s1 x1.length t1) := by rw [cell_of_block OB]; rfl
  have d2 : W2.cell? ⟨w.heap.size + 1, 2, none⟩ = some (.slice none 0 0) := by rw [cell_of_block P2]; rfl
  have g2 : W2.frozen? ⟨w.heap.size + 1, 2, none⟩ = false := unfrozen_of_block P2 2
  have e2 : W2.cell? ⟨w1.heap.size, 2, none⟩ = some (.slice s2 x2.length t2) := by rw [cell_of_block OB]; rfl
  have d3 : W2.cell? ⟨w.heap.size + 1, 3, none⟩ = some (.slice none 0 0) := by rw [cell_of_block P2]; rfl
  have g3 : W2.frozen? ⟨w.heap.size + 1, 3, none⟩ = false := unfrozen_of_block P2 3
  have e3 : W2.cell? ⟨w1.heap.size, 3, none⟩ = some (.slice s3 x3.length t3) := by rw [cell_of_block OB]; rfl
  have d4 : W2.cell? ⟨w.heap.size + 1, 4, none⟩ = some (.slice none 0 0) := by rw [cell_of_block P2]; rfl
  have g4 : W2.frozen? ⟨w.heap.size + 1, 4, none⟩ = false := unfrozen_of_block P2 4
  have e4 : W2.cell? ⟨w1.heap.size, 4, none⟩ = some (.slice s4 x4.length t4) := by rw [cell_of_block OB]; rfl
  have d5 : W2.cell? ⟨w.heap.size + 1, 5, none⟩ = some (.slice none 0 0) := by rw [cell_of_block P2]; rfl
  have g5 : W2.frozen? ⟨w.heap.size + 1, 5, none⟩ = false := unfrozen_of_block P2 5
  have e5 : W2.cell? ⟨w1.heap.size, 5, none⟩ = some (.slice s5 x5.length t5) := by rw [cell_of_block OB]; rfl
  have d6 : W2.cell? ⟨w.heap.size + 1, 6, none⟩ = some (.slice none 0 0) := by rw [cell_of_block P2]; rfl
  have g6 : W2.frozen? ⟨w.heap.size + 1, 6, none⟩ = false := unfrozen_of_block P2 6
  have e6 : W2.cell? ⟨w1.heap.size, 6, none⟩ = some (.slice s6 x6.length t6) := by rw [cell_of_block OB]; rfl
  have hw3 : w1.heap.size < W2.heap.size := by omega
  have hw4 : w.heap.size + 1 < W2.heap.size := by omega
  have H2 := (show Hid (_ ∧ _ ∧ _ ∧ _ ∧ _) from ⟨B2, OB, hz2, P2, hW2⟩)
  clear P1 B2 OB hz2 P2 hW2
  have hlen2 : (0 : Int) ≤ (x2.length : Int) := by omega
  by_cases hin : inB at_ 0 ((x2.length : Int) - 1) = true
  · by_cases h60 : x3.length < 60
    · have HSH : Hid (showOf x2 x3 at_ = x3 ++ [showT at_]) := by show _ = _; unfold showOf showC; rw [hin, decide_eq_true h60]; rfl
      have h60' : ((x3.length : Nat) : Int) < 60 := by omega
      go_wp2_with (go_at_call 30; refine (isPlace_r p2 x2.length c2 at_ true hl2.1 hin _).mono ?_; rintro e w3 ⟨rfl, hw3⟩; obtain rfl := hw3; rw [← H2.out.2.2.2.2]; refine Hid.out ?_)
      have B5' : Below W2.heap.size W2 ((W2.alloc (.cells #[.int .i64 6, .int .i64 0, .int .i64 0, .slice none 0 0] 66)).alloc (.cells #[.int .i64 1, .int .i64 at_, .slice none 0 0, .slice (some ⟨W2.heap.size, 0, none⟩) 1 1, .string ⟨#[]⟩] 69)) := ((Below.refl _ W2).alloc (Nat.le_refl _) _).alloc (by simp) _
      have B5 : Below w1.heap.size w1 ((W2.alloc (.cells #[.int .i64 6, .int .i64 0, .int .i64 0, .slice none 0 0] 66)).alloc (.cells #[.int .i64 1, .int .i64 at_, .slice none 0 0, .slice (some ⟨W2.heap.size, 0, none⟩) 1 1, .string ⟨#[]⟩] 69)) := H2.out.1.trans (B5'.mono (by omega))
      have R5 := own_moved (W' := ((W2.alloc (.cells #[.int .i64 6, .int .i64 0, .int .i64 0, .slice none 0 0] 66)).alloc (.cells #[.int .i64 1, .int .i64 at_, .slice none 0 0, .slice (some ⟨W2.heap.size, 0, none⟩) 1 1, .string ⟨#[]⟩] 69))) H1.out.2.2.1 (fun b hb => B5.block b (own_lt H1.out.2.2.1 b hb))
      have hnews : ∀ (j : Nat) (u : Value), ([.int .i64 1, .int .i64 at_, .slice none 0 0, .slice (some ⟨W2.heap.size, 0, none⟩) 1 1, .string ⟨#[]⟩] : List Value)[j]? = some u → ((W2.alloc (.cells #[.int .i64 6, .int .i64 0, .int .i64 0, .slice none 0 0] 66)).alloc (.cells #[.int .i64 1, .int .i64 at_, .slice none 0 0, .slice (some ⟨W2.heap.size, 0, none⟩) 1 1, .string ⟨#[]⟩] 69)).cell? ((⟨W2.heap.size + 1, 0, none⟩ : Addr).add j) = some u := fun j u hj => by
        rw [addr_add, Nat.zero_add]
        have hb7 := (MapKept.heap_alloc (W2.alloc (.cells #[.int .i64 6, .int .i64 0, .int .i64 0, .slice none 0 0] 66)) (.cells #[.int .i64 1, .int .i64 at_, .slice none 0 0, .slice (some ⟨W2.heap.size, 0, none⟩) 1 1, .string ⟨#[]⟩] 69)).1
        rw [show (W2.alloc (.cells #[.int .i64 6, .int .i64 0, .int .i64 0, .slice none 0 0] 66)).heap.size = W2.heap.size + 1 by simp] at hb7
        rw [cell_of_block hb7]
        simpa using hj
      have hone : ∀ u ∈ ([.int .i64 1, .int .i64 at_, .slice none 0 0, .slice (some ⟨W2.heap.size, 0, none⟩) 1 1, .string ⟨#[]⟩] : List Value), u.oneCell' = true := by intro u hu; simp at hu; rcases hu with rfl | rfl | rfl | rfl | rfl <;> rfl
      have OF : ((W2.alloc (.cells #[.int .i64 6, .int .i64 0, .int .i64 0, .slice none 0 0] 66)).alloc (.cells #[.int .i64 1, .int .i64 at_, .slice none 0 0, .slice (some ⟨W2.heap.size, 0, none⟩) 1 1, .string ⟨#[]⟩] 69)).heap[W2.heap.size]? = some (.cells #[.int .i64 6, .int .i64 0, .int .i64 0, .slice none 0 0] 66) := by
        exact (Below.heap_alloc _ _ _ (by simp)).trans (MapKept.heap_alloc W2 _).1
      have OO : ((W2.alloc (.cells #[.int .i64 6, .int .i64 0, .int .i64 0, .slice none 0 0] 66)).alloc (.cells #[.int .i64 1, .int .i64 at_, .slice none 0 0, .slice (some ⟨W2.heap.size, 0, none⟩) 1 1, .string ⟨#[]⟩] 69)).heap[w1.heap.size]? = some (.cells #[.slice s0 x0.length t0, .slice s1 x1.length t1, .slice s2 x2.length t2, .slice s3 x3.length t3, .slice s4 x4.length t4, .slice s5 x5.length t5, .slice s6 x6.length t6] 39) := (B5'.block _ (lt_heap H2.out.2.1)).trans H2.out.2.1
      have sz5 : ((W2.alloc (.cells #[.int .i64 6, .int .i64 0, .int .i64 0, .slice none 0 0] 66)).alloc (.cells #[.int .i64 1, .int .i64 at_, .slice none 0 0, .slice (some ⟨W2.heap.size, 0, none⟩) 1 1, .string ⟨#[]⟩] 69)).heap.size = w1.heap.size + 3 := by simp; have := H2.out.2.2.1; omega
      have oFr : Own ((W2.alloc (.cells #[.int .i64 6, .int .i64 0, .int .i64 0, .slice none 0 0] 66)).alloc (.cells #[.int .i64 1, .int .i64 at_, .slice none 0 0, .slice (some ⟨W2.heap.size, 0, none⟩) 1 1, .string ⟨#[]⟩] 69)) (.slice (some ⟨W2.heap.size, 0, none⟩) 1 1) (.row [[.int 6, .int 0, .int 0, .row []]]) (Btw W2.heap.size ((W2.alloc (.cells #[.int .i64 6, .int .i64 0, .int .i64 0, .slice none 0 0] 66)).alloc (.cells #[.int .i64 1, .int .i64 at_, .slice none 0 0, .slice (some ⟨W2.heap.size, 0, none⟩) 1 1, .string ⟨#[]⟩] 69)).heap.size) := by
        have := Own.row (w := ((W2.alloc (.cells #[.int .i64 6, .int .i64 0, .int .i64 0, .slice none 0 0] 66)).alloc (.cells #[.int .i64 1, .int .i64 at_, .slice none 0 0, .slice (some ⟨W2.heap.size, 0, none⟩) 1 1, .string ⟨#[]⟩] 69))) W2.heap.size 1 4 66 #[.int .i64 6, .int .i64 0, .int .i64 0, .slice none 0 0] [[.int 6, .int 0, .int 0, .row []]] (fun _ j => match j with | 0 => .int .i64 6 | 1 => .int .i64 0 | 2 => .int .i64 0 | _ => .slice none 0 0) (fun _ _ _ => False) (Btw W2.heap.size ((W2.alloc (.cells #[.int .i64 6, .int .i64 0, .int .i64 0, .slice none 0 0] 66)).alloc (.cells #[.int .i64 1, .int .i64 at_, .slice none 0 0, .slice (some ⟨W2.heap.size, 0, none⟩) 1 1, .string ⟨#[]⟩] 69)).heap.size) (Nat.le_refl _) (by decide) rfl ⟨Nat.le_refl _, by rw [sz5]; have := H2.out.2.2.1; omega⟩ OF
          (fun i r hr => by match i, hr with | 0, hr => simp at hr; subst hr; rfl)
          (fun i j r d hr hj => by match i, hr with | 0, hr => simp at hr; subst hr; match j, hj with | 0, _ => rfl | 1, _ => rfl | 2, _ => rfl | 3, _ => rfl)
          (fun i j r d hr hj => by
            match i, hr with
            | 0, hr =>
              simp at hr; subst hr
              match j, hj with
              | 0, hj => simp at hj; subst hj; exact .int 6 (by constructor <;> decide) _
              | 1, hj => simp at hj; subst hj; exact .int 0 (by constructor <;> decide) _
              | 2, hj => simp at hj; subst hj; exact .int 0 (by constructor <;> decide) _
              | 3, hj => simp at hj; subst hj; exact .nil _)
          (fun _ _ _ h => h.elim) (fun _ _ _ _ _ h => h.elim)
        exact this
      have oTh : OFs ((W2.alloc (.cells #[.int .i64 6, .int .i64 0, .int .i64 0, .slice none 0 0] 66)).alloc (.cells #[.int .i64 1, .int .i64 at_, .slice none 0 0, .slice (some ⟨W2.heap.size, 0, none⟩) 1 1, .string ⟨#[]⟩] 69)) [.int .i64 1, .int .i64 at_, .slice none 0 0, .slice (some ⟨W2.heap.size, 0, none⟩) 1 1, .string ⟨#[]⟩] (showT at_) (Btw W2.heap.size ((W2.alloc (.cells #[.int .i64 6, .int .i64 0, .int .i64 0, .slice none 0 0] 66)).alloc (.cells #[.int .i64 1, .int .i64 at_, .slice none 0 0, .slice (some ⟨W2.heap.size, 0, none⟩) 1 1, .string ⟨#[]⟩] 69)).heap.size) :=
        OFs.int (by constructor <;> decide) (OFs.int HQ.out.2.2.2 ⟨fun _ => False, _, fun _ h => h.elim, fun _ h => h, fun _ h _ => h, .nil _, ⟨_, fun _ => False, fun _ h => h, fun _ h => h.elim, fun _ _ h => h, oFr, OFs.str (by decide) (show OFs _ [] [] _ from trivial)⟩⟩)
      have H5 := (show Hid (_ ∧ _ ∧ _ ∧ _ ∧ _ ∧ _) from ⟨R5, hnews, hone, B5, oTh, OO⟩)
      have H7 := (show Hid (_ ∧ True) from ⟨B5', trivial⟩)
      have H6 := (show Hid (_ ∧ True) from ⟨sz5, trivial⟩)
      clear B5 R5 hnews hone OF oFr oTh OO sz5 B5'
      unfold Hid
      go_wp2_with (at_builtin; refine wpList_append_own_at _ rfl _ _ 36 rfl (w.heap.size + 2) 69 iX _ 5 80 Try.underlying36 hiX hzX0 hzX1 hzX2 rfl (by decide) (.slice s3 x3.length t3) x3.length _ rfl H5.out.1 ⟨W2.heap.size + 1, 0, none⟩ 1 1 [.int .i64 1, .int .i64 at_, .slice none 0 0, .slice (some ⟨W2.heap.size, 0, none⟩) 1 1, .string ⟨#[]⟩] rfl rfl H5.out.2.1 H5.out.2.2.1 (by unfold maxLen; omega) (by omega) (by have := H6.out.1; omega) ?_; intro v8 w8 hown8 hgrow8 hnil8 hat8; obtain ⟨a8, c8, rfl⟩ := own_form hown8; have hge := (fun b hb => own_lt H1.out.2.2.1 b hb); have oo8 := (hgrow8.block w1.heap.size (lt_heap H5.out.2.2.2.2.2) (fun e => (by have := hge _ e.symm; omega))).trans H5.out.2.2.2.2.2; have or8 := (hgrow8.block (w.heap.size + 1) (by have := H6.out.1; omega) (fun e => (by have := (own_type H1.out.2.2.1 _ e.symm).1; omega))).trans ((H5.out.2.2.2.1.block _ hw2).trans H1.out.2.2.2); have e80 : w8.cell? ⟨w1.heap.size, 0, none⟩ = some (.slice s0 x0.length t0) := (by rw [cell_of_block oo8]; rfl); have e81 : w8.cell? ⟨w1.heap.size, 1, none⟩ = some (.slice s1 x1.length t1) := (by rw [cell_of_block oo8]; rfl); have e82 : w8.cell? ⟨w1.heap.size, 2, none⟩ = some (.slice s2 x2.length t2) := (by rw [cell_of_block oo8]; rfl); have e83 : w8.cell? ⟨w1.heap.size, 3, none⟩ = some (.slice s3 x3.length t3) := (by rw [cell_of_block oo8]; rfl); have e84 : w8.cell? ⟨w1.heap.size, 4, none⟩ = some (.slice s4 x4.length t4) := (by rw [cell_of_block oo8]; rfl); have e85 : w8.cell? ⟨w1.heap.size, 5, none⟩ = some (.slice s5 x5.length t5) := (by rw [cell_of_block oo8]; rfl); have e86 : w8.cell? ⟨w1.heap.size, 6, none⟩ = some (.slice s6 x6.length t6) := (by rw [cell_of_block oo8]; rfl); have eF : w8.frozen? ⟨w1.heap.size, 3, none⟩ = false := unfrozen_of_block oo8 3; have r0 : w8.cell? ⟨w.heap.size + 1, 0, none⟩ = some (.slice none 0 0) := (by rw [cell_of_block or8]; rfl); have rf0 : w8.frozen? ⟨w.heap.size + 1, 0, none⟩ = false := unfrozen_of_block or8 0; have r1 : w8.cell? ⟨w.heap.size + 1, 1, none⟩ = some (.slice none 0 0) := (by rw [cell_of_block or8]; rfl); have rf1 : w8.frozen? ⟨w.heap.size + 1, 1, none⟩ = false := unfrozen_of_block or8 1; have r2 : w8.cell? ⟨w.heap.size + 1, 2, none⟩ = some (.slice none 0 0) := (by rw [cell_of_block or8]; rfl); have rf2 : w8.frozen? ⟨w.heap.size + 1, 2, none⟩ = false := unfrozen_of_block or8 2; have r3 : w8.cell? ⟨w.heap.size + 1, 3, none⟩ = some (.slice none 0 0) := (by rw [cell_of_block or8]; rfl); have rf3 : w8.frozen? ⟨w.heap.size + 1, 3, none⟩ = false := unfrozen_of_block or8 3; have r4 : w8.cell? ⟨w.heap.size + 1, 4, none⟩ = some (.slice none 0 0) := (by rw [cell_of_block or8]; rfl); have rf4 : w8.frozen? ⟨w.heap.size + 1, 4, none⟩ = false := unfrozen_of_block or8 4; have r5 : w8.cell? ⟨w.heap.size + 1, 5, none⟩ = some (.slice none 0 0) := (by rw [cell_of_block or8]; rfl); have rf5 : w8.frozen? ⟨w.heap.size + 1, 5, none⟩ = false := unfrozen_of_block or8 5; have r6 : w8.cell? ⟨w.heap.size + 1, 6, none⟩ = some (.slice none 0 0) := (by rw [cell_of_block or8]; rfl); have rf6 : w8.frozen? ⟨w.heap.size + 1, 6, none⟩ = false := unfrozen_of_block or8 6; have H8 := (show Hid (_ ∧ _ ∧ _) from ⟨hown8, hgrow8, hat8⟩); clear hown8 hgrow8 hnil8 hat8 hge oo8 or8)
      refine bodyPost_ret (v := .agg #[.slice s0 x0.length t0, .slice s1 x1.length t1, .slice s2 x2.length t2, .slice a8 (x3.length + 1) c8, .slice s4 x4.length t4, .slice s5 x5.length t5, .slice s6 x6.length t6]) (by simp [results, Try.results8, go_sem, r0, r1, r2, r3, r4, r5, r6]) rfl ⟨_, rfl, ?_, ?_⟩
      · rw [HSH.out]
        obtain ⟨hown8, hgrow8, hat8⟩ := H8.out
        have hq3 := HS.out.2.2.2.2
        obtain ⟨-, Y, y1', y2', y3'⟩ := OFs.fam H1.out.1
        have o3 : Own w1 (.slice s3 x3.length t3) (.row x3) (fun b => Y 3 b ∧ b < w1.heap.size) := (y3' 3 _ _ rfl rfl).dom
        have sn := Own.snoc (o3.up H2.out.1) (own_moved H1.out.2.2.1 (fun b hb => H2.out.1.block b (own_lt H1.out.2.2.1 b hb))) (hq3.len ThreadR.len) H7.out.1 H5.out.2.2.2.2.1 (showT_len at_) hown8 hgrow8 hat8
        have hz2 := H2.out.2.2.1
        have hs8 : w1.heap.size + 3 ≤ w8.heap.size := by have := hgrow8.size; have := H6.out.1; omega
        have hst : ∀ b, b < w1.heap.size → Value.ownBlock (.slice s3 x3.length t3) ≠ some b → w8.heap[b]? = w1.heap[b]? := fun b hb hne => (hgrow8.block b (by have := H6.out.1; omega) (fun e => hne e.symm)).trans (H5.out.2.2.2.1.block b hb)
        have own3 : ∀ b, Value.ownBlock (.slice s3 x3.length t3) = some b → Y 3 b ∧ b < w1.heap.size := fun b hb => o3.blk hb
        have key : OFs w8 [.slice s0 x0.length t0, .slice s1 x1.length t1, .slice s2 x2.length t2, .slice a8 (x3.length + 1) c8, .slice s4 x4.length t4, .slice s5 x5.length t5, .slice s6 x6.length t6] [.row x0, .row x1, .row x2, .row (x3 ++ [showT at_]), .row x4, .row x5, .row x6] (fun b => Btw (w.heap.size + 2) w8.heap.size b ∧ b ≠ w1.heap.size) := by
          refine OFs.mk (fun j b => if j = 3 then ((Y 3 b ∧ b < w1.heap.size) ∨ (W2.heap.size ≤ b ∧ b < w8.heap.size)) else (Y j b ∧ b < w1.heap.size)) rfl (fun j b hb => ?_) (fun j j' b hb hb' => ?_) (fun j v d hv hd => ?_)
          · by_cases hj : j = 3
            · simp only [hj, if_true] at hb
              rcases hb with hb | hb
              · have := y1' 3 b hb.1; exact ⟨⟨this.1, by omega⟩, by omega⟩
              · exact ⟨⟨by omega, hb.2⟩, by omega⟩
            · simp only [hj, if_false] at hb
              have := y1' j b hb.1; exact ⟨⟨this.1, by omega⟩, by omega⟩
          · by_cases hj : j = 3 <;> by_cases hj' : j' = 3
            · omega
            · simp only [hj, hj', if_true, if_false] at hb hb'
              rcases hb with hb | hb
              · rw [hj]; exact y2' 3 j' b hb.1 hb'.1
              · omega
            · simp only [hj, hj', if_true, if_false] at hb hb'
              rcases hb' with hb' | hb'
              · rw [hj']; exact y2' j 3 b hb.1 hb'.1
              · omega
            · simp only [hj, hj', if_false] at hb hb'
              exact y2' j j' b hb.1 hb'.1
          · match j, hv, hd with
          | 3, hv, hd => simp at hv hd; subst hv hd; exact sn
          | 0, hv, hd => simp at hv hd; subst hv hd; exact ((y3' 0 _ _ rfl rfl).dom.moved (fun b hb hlt => hst b hlt (fun e => by have := y2' 3 0 b (own3 b e).1 hb.1; omega))).mono (fun b hb => hb)
          | 1, hv, hd => simp at hv hd; subst hv hd; exact ((y3' 1 _ _ rfl rfl).dom.moved (fun b hb hlt => hst b hlt (fun e => by have := y2' 3 1 b (own3 b e).1 hb.1; omega))).mono (fun b hb => hb)
          | 2, hv, hd => simp at hv hd; subst hv hd; exact ((y3' 2 _ _ rfl rfl).dom.moved (fun b hb hlt => hst b hlt (fun e => by have := y2' 3 2 b (own3 b e).1 hb.1; omega))).mono (fun b hb => hb)
          | 4, hv, hd => simp at hv hd; subst hv hd; exact ((y3' 4 _ _ rfl rfl).dom.moved (fun b hb hlt => hst b hlt (fun e => by have := y2' 3 4 b (own3 b e).1 hb.1; omega))).mono (fun b hb => hb)
          | 5, hv, hd => simp at hv hd; subst hv hd; exact ((y3' 5 _ _ rfl rfl).dom.moved (fun b hb hlt => hst b hlt (fun e => by have := y2' 3 5 b (own3 b e).1 hb.1; omega))).mono (fun b hb => hb)
          | 6, hv, hd => simp at hv hd; subst hv hd; exact ((y3' 6 _ _ rfl rfl).dom.moved (fun b hb hlt => hst b hlt (fun e => by have := y2' 3 6 b (own3 b e).1 hb.1; omega))).mono (fun b hb => hb)
        refine (key.moved (fun b hb' _ => ?_)).mono (fun b hb' => ⟨by have := hb'.1.1; omega, by have := hb'.1.2; simpa using this⟩)
        have e1' : ∀ (j : Nat) (u : Value) (W : World), (W.setCell ⟨w.heap.size + 1, j, none⟩ u).heap[b]? = W.heap[b]? := fun j u W => Below.heap_setCell W _ u b (by have := hb'.1.1; simp; omega)
        have e2' : ∀ (j : Nat) (u : Value) (W : World), (W.setCell ⟨w1.heap.size, j, none⟩ u).heap[b]? = W.heap[b]? := fun j u W => Below.heap_setCell W _ u b (by simpa using hb'.2)
        simp only [e1', e2']
      · iterate 8 refine Below.setCell ?_ (by simp; try omega) _
        obtain ⟨hown8, hgrow8, hat8⟩ := H8.out
        exact Below.grown (H1.out.2.1.trans (H5.out.2.2.2.1.mono (by omega))) hgrow8 (by have := H6.out.1; omega) (fun b hb => by have := (own_type H1.out.2.2.1 b hb).1; omega)
    · have HSH : Hid (showOf x2 x3 at_ = x3) := by show _ = _; unfold showOf showC; rw [hin, decide_eq_false h60]; rfl
      have h60' : ¬ ((x3.length : Nat) : Int) < 60 := by omega
      go_wp2_with (go_at_call 30; refine (isPlace_r p2 x2.length c2 at_ true hl2.1 hin _).mono ?_; rintro e w3 ⟨rfl, hw3⟩; obtain rfl := hw3; rw [← H2.out.2.2.2.2]; refine Hid.out ?_)
      unfold Hid
      go_wp2
      refine bodyPost_ret (v := .agg #[.slice s0 x0.length t0, .slice s1 x1.length t1, .slice s2 x2.length t2, .slice s3 x3.length t3, .slice s4 x4.length t4, .slice s5 x5.length t5, .slice s6 x6.length t6]) (by simp [results, Try.results8, go_sem, d0, d1, d2, d3, d4, d5, d6]) rfl ⟨_, rfl, ?_, ?_⟩
      · rw [HSH.out]
        refine (OFs.moved H1.out.1 (fun b hb' hlt => ?_)).mono (fun b hb' => ⟨by have := hb'.1; omega, by have := hb'.2; simp; omega⟩)
        have e1 : ∀ (j : Nat) (u : Value) (W : World), (W.setCell ⟨w.heap.size + 1, j, none⟩ u).heap[b]? = W.heap[b]? := fun j u W => Below.heap_setCell W _ u b (by have := hb'.1; simp; omega)
        simp only [e1]
        exact H2.out.1.block _ hlt
      · iterate 7 refine Below.setCell ?_ (by simp) _
        exact H1.out.2.1.trans (H2.out.1.mono H1.out.2.1.size)
  · have hin : inB at_ 0 ((x2.length : Int) - 1) = false := by simpa using hin
    have HSH : Hid (showOf x2 x3 at_ = x3) := by show _ = _; unfold showOf showC; rw [hin]; rfl
    go_wp2_with (go_at_call 30; refine (isPlace_r p2 x2.length c2 at_ false hl2.1 hin _).mono ?_; rintro e w3 ⟨rfl, hw3⟩; obtain rfl := hw3; rw [← H2.out.2.2.2.2]; refine Hid.out ?_)
    unfold Hid
    go_wp2
    refine bodyPost_ret (v := .agg #[.slice s0 x0.length t0, .slice s1 x1.length t1, .slice s2 x2.length t2, .slice s3 x3.length t3, .slice s4 x4.length t4, .slice s5 x5.length t5, .slice s6 x6.length t6]) (by simp [results, Try.results8, go_sem, d0, d1, d2, d3, d4, d5, d6]) rfl ⟨_, rfl, ?_, ?_⟩
    · rw [HSH.out]
      refine (OFs.moved H1.out.1 (fun b hb' hlt => ?_)).mono (fun b hb' => ⟨by have := hb'.1; omega, by have := hb'.2; simp; omega⟩)
      have e1 : ∀ (j : Nat) (u : Value) (W : World), (W.setCell ⟨w.heap.size + 1, j, none⟩ u).heap[b]? = W.heap[b]? := fun j u W => Below.heap_setCell W _ u b (by have := hb'.1; simp; omega)
      simp only [e1]
      exact H2.out.1.block _ hlt
    · iterate 7 refine Below.setCell ?_ (by simp) _
      exact H1.out.2.1.trans (H2.out.1.mono H1.out.2.1.size)

end Go.Proofs.Ytlgnklpaebgnlaa
