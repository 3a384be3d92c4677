/-
  The program's Follow.
-/
import Derived.Test.YtfhjkiimdkjhjaaGreatDoorImplHeap0
import Derived.Test.YtfhjkiimdkjhjaaGreatDoorFollowPure
namespace Go.Proofs.YtfhjkiimdkjhjaaGreatDoor
open Go.RowKit Go.Joins

set_option maxRecDepth 100000

theorem isEnd_yes {c : Ce} (h : c.isEnd = true) : c.kind ≠ 6 ∨ c.kids.length = 0 := by
  unfold Ce.isEnd at h
  rw [Bool.or_eq_true] at h
  rcases h with h | h
  · exact .inl (by simpa using h)
  · exact .inr (by simpa using h)
theorem isEnd_no {c : Ce} (h : c.isEnd = false) : c.kind = 6 ∧ 0 < c.kids.length := by
  unfold Ce.isEnd at h
  rw [Bool.or_eq_false_iff] at h
  refine ⟨by simpa using h.1, ?_⟩
  have := h.2
  simp at this
  exact List.length_pos_iff.2 this

set_option maxHeartbeats 6400000 in
theorem implFollow_any (v : Value) (es : List Ce) (p : Int) (S : Nat → Prop) (w : World) (h : CellsAt w S v es) (hn : es.length ≤ 4194304) :
    Calls Tryz.prog 14 #[v, .int .i64 p] w fun e w' => e = .returned (.int .i64 (follow es p)) ∧ Below w.heap.size w w' := by
  rw [follow_len]
  obtain ⟨a, cap, rfl, hl, hc⟩ := h
  clear hl
  have HC := (show Hid (_ ∧ True) from ⟨hc, trivial⟩)
  clear hc
  generalize hR : followN es es.length p = R
  go_enter Tryz.func14, Tryz.ntmps14
  go_wp2
  go_loopw [1, 7] (fun pv i wr => ∃ (k : Nat) (q : Int), k ≤ es.length ∧ i = .int .i64 k ∧ pv = .int .i64 q ∧ followN es (es.length - k) q = R ∧ Below w.heap.size w wr) (fun _ i _ => es.length - (intOf i).toNat)
  case atStart => exact ⟨0, p, Nat.zero_le _, rfl, rfl, hR, Below.refl _ _⟩
  case round =>
    clear hR
    obtain ⟨k, q, hk, rfl, rfl, hR, hbw⟩ := hrel
    by_cases hkl : k < es.length
    · have hlt' : ((k : Nat) : Int) < ((es.length : Nat) : Int) := by omega
      have hm : es.length - k = (es.length - (k + 1)) + 1 := by omega
      rw [hm] at hR
      by_cases hin : inB q 0 ((es.length : Int) - 1) = true
      · obtain ⟨j, c, rfl, hj, he, hca⟩ := cellAt_some hin
        obtain ⟨b, off, kv, rfl, hSb, hlt2, c0, c1, c2, c3, r1, r2, r3, hkk⟩ := HC.out.1 j c he
        rw [← hbw.cell (by exact hlt2)] at c0 c1 c2 c3
        have hkk2 := hkk.below hbw
        have HX : Hid (CeAt wr S (.agg #[.int .i64 c.kind, .int .i64 c.n, .int .i64 c.pos, kv]) c) := ⟨kv, rfl, r1, r2, r3, hkk2⟩
        have hltj : ((j : Nat) : Int) < ((es.length : Nat) : Int) := by omega
        have hszw := hbw.size
        have hb2 : b < wr.heap.size := by omega
        cases hen : c.isEnd with
        | true =>
          have HR : Hid ((j : Int) = R) := (followN_here _ hca (isEnd_yes hen)).symm.trans hR
          clear HC hkk hkk2 hca hR he
          go_wp2_with (first
            | (go_at_call 37; refine (isPlace_is _ _ _ _ true hin _ hn).mono ?_; rintro e w1 ⟨rfl, rfl⟩)
            | (go_at_call 38; refine (isEnd_any _ c S _ HX.out).mono ?_; rintro e w2 ⟨rfl, b2⟩; rw [hen]))
          go_ret
          exact ⟨int_ret HR.out, hbw.trans (b2.mono hbw.size)⟩
        | false =>
          obtain ⟨hk6, hk0'⟩ := isEnd_no hen
          have hk0i : (0 : Int) < ((c.kids.length : Nat) : Int) := by omega
          have he0 := List.getElem?_eq_getElem hk0'
          generalize c.kids[0] = q at *
          have HR : Hid (followN es (es.length - (k + 1)) q = R) := (followN_on _ hca hk6 he0).symm.trans hR
          obtain ⟨ka, kcap, rfl, hkm, hkc⟩ := hkk2
          unfold maxLen at hkm
          obtain ⟨kb, koff, rfl, -, hlt3, d0, d1⟩ := hkc 0 q he0
          rw [Nat.add_zero] at d0
          have HC1 := (show Hid (_ ∧ _ ∧ _) from ⟨c3, d0, hlt3⟩)
          clear HC hkk hkc hca hR he hk6 d0
          go_wp2_with (first
            | (go_at_call 37; refine (isPlace_is _ _ _ _ true hin _ hn).mono ?_; rintro e w1 ⟨rfl, rfl⟩)
            | (go_at_call 38; refine (isEnd_any _ c S _ HX.out).mono ?_; rintro e w2 ⟨rfl, b2⟩; rw [hen]; have c3' := (b2.cell (p := ⟨b, off + j * 4 + 3, none⟩) hb2).trans HC1.out.1; have d0' := (b2.cell (p := ⟨kb, koff, none⟩) HC1.out.2.2).trans HC1.out.2.1))
          refine ⟨⟨k + 1, q, by omega, by go_num, rfl, HR.out, hbw.trans (b2.mono hbw.size)⟩, by simp [intOf]; omega⟩
      · have hin' : inB q 0 ((es.length : Int) - 1) = false := by simpa using hin
        have HX : Hid ((-1 : Int) = R) := (followN_none _ (cellAt_none hin')).symm.trans hR
        clear HC hR hin
        go_wp2_with (go_at_call 37; refine (isPlace_is _ _ _ _ false hin' _ hn).mono ?_; rintro e w1 ⟨rfl, rfl⟩)
        go_ret
        exact ⟨int_ret HX.out, hbw⟩
    · have HX : Hid ((-1 : Int) = R) := by rw [show es.length - k = 0 by omega] at hR; exact hR
      have hnlt : ¬ ((k : Nat) : Int) < ((es.length : Nat) : Int) := by omega
      clear HC hR
      go_wp2
      go_ret
      exact ⟨int_ret HX.out, hbw⟩
end Go.Proofs.YtfhjkiimdkjhjaaGreatDoor
