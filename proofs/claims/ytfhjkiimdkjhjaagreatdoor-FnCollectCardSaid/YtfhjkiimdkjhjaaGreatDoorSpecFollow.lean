/-
  The specification's Follow.
-/
import Derived.Test.YtfhjkiimdkjhjaaGreatDoorCellsPure
namespace Go.Proofs.YtfhjkiimdkjhjaaGreatDoor
open Go.RowKit Go.Joins

set_option maxRecDepth 100000

set_option maxHeartbeats 6400000 in
theorem specFollow_any (v : Value) (es : List Ce) (p : Int) (S : Nat → Prop) (w : World) (h : CellsAt w S v es) (hn : es.length ≤ 4194304) :
    Calls Tryz.prog 15 #[v, .int .i64 p] w fun e w' => e = .returned (.int .i64 (follow es p)) ∧ Below w.heap.size w w' := by
  unfold follow
  obtain ⟨a, cap, rfl, hl, hc⟩ := h
  clear hl
  have HC := (show Hid (_ ∧ True) from ⟨hc, trivial⟩)
  clear hc
  generalize hR : followN es (es.length + 1) p = R
  go_enter Tryz.func15, Tryz.ntmps15
  go_wp2
  go_loopw [1, 5] (fun pv i wr => ∃ (k : Nat) (q : Int), k ≤ es.length + 1 ∧ i = .int .i64 k ∧ pv = .int .i64 q ∧ followN es (es.length + 1 - k) q = R ∧ Below w.heap.size w wr) (fun _ i _ => es.length + 1 - (intOf i).toNat)
  case atStart => exact ⟨0, p, Nat.zero_le _, rfl, rfl, hR, Below.refl _ _⟩
  case round =>
    clear hR
    obtain ⟨k, q, hk, rfl, rfl, hR, hbw⟩ := hrel
    by_cases hkl : k ≤ es.length
    · have hlt' : ((k : Nat) : Int) ≤ ((es.length : Nat) : Int) := by omega
      have hm : es.length + 1 - k = (es.length - k) + 1 := by omega
      rw [hm] at hR
      by_cases hin : inB q 0 ((es.length : Int) - 1) = true
      · obtain ⟨j, c, rfl, hj, he, hca⟩ := cellAt_some hin
        obtain ⟨b, off, kv, rfl, hSb, hlt2, c0, c1, c2, c3, r1, r2, r3, hkk⟩ := HC.out.1 j c he
        have hkk2 := hkk.below hbw
        obtain ⟨ka, kcap, rfl, hkm, hkc⟩ := hkk2
        unfold maxLen at hkm
        rw [← hbw.cell (by exact hlt2)] at c0 c1 c2 c3
        clear HC c1 c2 hkk
        by_cases hk6 : c.kind = 6
        · have hn6 : (c.kind != 6) = false := by simpa using hk6
          by_cases hk0 : c.kids.length = 0
          · have hz : (((c.kids.length : Nat) : Int) == 0) = true := by simpa using hk0
            have HX : Hid ((j : Int) = R) := (followN_here _ hca (Or.inr hk0)).symm.trans hR
            clear hkc hca hR he hk6 hk0
            go_wp2_with fail
            refine (specIn_is _ _ _ true hin _).mono ?_
            rintro e w1 ⟨rfl, rfl⟩
            go_wp2
            go_ret
            exact ⟨int_ret HX.out, hbw⟩
          · have hz : (((c.kids.length : Nat) : Int) == 0) = false := by simpa using hk0
            have hk0' : 0 < c.kids.length := by omega
            have hk0i : (0 : Int) < ((c.kids.length : Nat) : Int) := by omega
            have he0 := List.getElem?_eq_getElem hk0'
            generalize c.kids[0] = q at *
            obtain ⟨b2, off2, rfl, -, hlt3, d0, d1⟩ := hkc 0 q he0
            have HX : Hid (followN es (es.length + 1 - (k + 1)) q = R) := by
              show followN es (es.length + 1 - (k + 1)) q = R
              rw [show es.length + 1 - (k + 1) = es.length - k by omega]
              exact (followN_on _ hca hk6 he0).symm.trans hR
            rw [Nat.add_zero] at d0
            clear hkc hca hR he hk6 hk0 he0
            go_wp2_with fail
            refine (specIn_is _ _ _ true hin _).mono ?_
            rintro e w1 ⟨rfl, rfl⟩
            go_wp2
            refine ⟨⟨k + 1, q, by omega, by go_num, rfl, HX.out, hbw⟩, by simp [intOf]; omega⟩
        · have hn6 : (c.kind != 6) = true := by simpa using hk6
          have HX : Hid ((j : Int) = R) := (followN_here _ hca (Or.inl hk6)).symm.trans hR
          clear hkc hca hR he hk6
          go_wp2_with fail
          refine (specIn_is _ _ _ true hin _).mono ?_
          rintro e w1 ⟨rfl, rfl⟩
          go_wp2
          go_ret
          exact ⟨int_ret HX.out, hbw⟩
      · have hin' : inB q 0 ((es.length : Int) - 1) = false := by simpa using hin
        have HX : Hid ((-1 : Int) = R) := (followN_none _ (cellAt_none hin')).symm.trans hR
        clear HC hR hin
        go_wp2_with fail
        refine (specIn_is _ _ _ false hin' _).mono ?_
        rintro e w1 ⟨rfl, rfl⟩
        go_wp2
        go_ret
        exact ⟨int_ret HX.out, hbw⟩
    · have HX : Hid ((-1 : Int) = R) := by rw [show es.length + 1 - k = 0 by omega] at hR; exact hR
      have hnlt : ¬ ((k : Nat) : Int) ≤ ((es.length : Nat) : Int) := by omega
      clear HC hR
      go_wp2
      go_ret
      exact ⟨int_ret HX.out, hbw⟩
end Go.Proofs.YtfhjkiimdkjhjaaGreatDoor
