/-
  The program's HeapOk as a whole; and the law.
-/
import Derived.Test.YthjpmdoljceaiaaImplHeapOk
import Derived.Test.YthjpmdoljceaiaaLawHeap
namespace Go.Proofs.Ythjpmdoljceaiaa
open Go.RowKit Go.Joins

set_option maxRecDepth 100000

set_option maxHeartbeats 6400000 in
theorem implHeapOk_any (v : Value) (es : List Ce) (codes : Int) (S : Nat → Prop) (w : World) (h : CellsAt w S v es) (hn : es.length ≤ 4194304) :
    Calls Try.prog 10 #[v, .int .i64 codes] w fun e w' => e = .returned (.bool (heapOk es codes)) ∧ Below w.heap.size w w' := by
  obtain ⟨a, cap, rfl, hl, hc⟩ := h
  clear hl
  have HC := (show Hid (_ ∧ True) from ⟨hc, trivial⟩)
  clear hc
  unfold heapOk
  generalize hP : (fun c : Ce => c.right es.length codes) = P
  have hPx : ∀ x, P x = x.right es.length codes := fun x => by rw [← hP]
  clear hP
  by_cases hbig : 3000 < es.length
  · have hd : decide (es.length ≤ 3000) = false := by simp; omega
    rw [hd, Bool.and_false]
    clear HC hPx
    have hbi : (3000 : Int) < (es.length : Int) := by omega
    go_enter Try.func10, Try.ntmps10
    go_wp2
    go_ret
    exact ⟨rfl, Below.refl _ _⟩
  · have hd : decide (es.length ≤ 3000) = true := by simp; omega
    rw [hd, Bool.and_true]
    have hbi : ¬ (3000 : Int) < (es.length : Int) := by omega
    go_enter Try.func10, Try.ntmps10
    go_wp2
    go_loopw [12] (fun i wr => ∃ k : Nat, k ≤ es.length ∧ i = .int .i64 k ∧ (es.take k).all P = true ∧ Below w.heap.size w wr) (fun i _ => es.length - (intOf i).toNat)
    case atStart => exact ⟨0, Nat.zero_le _, rfl, by simp, Below.refl _ _⟩
    case round =>
      obtain ⟨k, hk, rfl, hall, hbw⟩ := hrel
      have HA := (show Hid (_ ∧ True) from ⟨hall, trivial⟩)
      clear hall
      by_cases hkl : k < es.length
      · have he := List.getElem?_eq_getElem hkl
        generalize es[k] = x at *
        obtain ⟨b, off, kv, rfl, hSb, hlt2, c0, c1, c2, c3, r1, r2, r3, hkk⟩ := HC.out.1 k x he
        rw [← hbw.cell (by exact hlt2)] at c0 c1 c2 c3
        obtain ⟨ka, kc, rfl⟩ := hkk.form
        have hszw := hbw.size
        have hbl : b < wr.heap.size := by omega
        have hbn : ¬ b = wr.heap.size := by omega
        have hbw : Below w.heap.size w (wr.alloc (.cells #[.int .i64 x.kind, .int .i64 x.n, .int .i64 x.pos, .slice ka x.kids.length kc] 42)) := hbw.alloc hszw _
        have HX : Hid (CeAt (wr.alloc (.cells #[.int .i64 x.kind, .int .i64 x.n, .int .i64 x.pos, .slice ka x.kids.length kc] 42)) S (.agg #[.int .i64 x.kind, .int .i64 x.n, .int .i64 x.pos, .slice ka x.kids.length kc]) x) := ⟨_, rfl, r1, r2, r3, hkk.below hbw⟩
        have HI : Hid (IntsAt (wr.alloc (.cells #[.int .i64 x.kind, .int .i64 x.n, .int .i64 x.pos, .slice ka x.kids.length kc] 42)) S (.slice ka x.kids.length kc) x.kids) := hkk.below hbw
        have HE := (show Hid (_ ∧ True) from ⟨he, trivial⟩)
        have hlt' : ((k : Nat) : Int) < ((es.length : Nat) : Int) := by omega
        have hrt : x.right es.length codes = (x.kids.all (fun k => inB k 0 ((es.length : Int) - 1)) && x.fields codes) := rfl
        have HP := fun w => fieldsFit_any (.agg #[.int .i64 x.kind, .int .i64 x.n, .int .i64 x.pos, .slice ka x.kids.length kc]) x codes S w
        have HQ := arePlaces_any (.slice (some ⟨b, off, none⟩) es.length cap) _ x.kids S _ (some ⟨b, off, none⟩) es.length cap rfl HI.out hn
        have HPQ := (show Hid (_ ∧ _) from ⟨HP, HQ⟩)
        generalize hq1 : x.kids.all (fun k => inB k 0 ((es.length : Int) - 1)) = B1 at *
        generalize hq2 : x.fields codes = B2 at *
        have HRT := (show Hid (_ ∧ True) from ⟨hrt, trivial⟩)
        clear hkk he HC r1 r2 r3 HP HQ hrt hq1 hq2
        cases B1 with
        | false =>
          have HN := (show Hid (_ ∧ True) from ⟨all_not P es k HE.out.1 ((hPx x).trans HRT.out.1), trivial⟩)
          clear hPx HE HA
          go_wp2_with (go_at_call 27; refine HPQ.out.2.mono ?_; rintro e w1 ⟨rfl, rfl⟩)
          go_ret
          exact ⟨by rw [HN.out.1]; rfl, hbw⟩
        | true =>
          cases B2 with
          | false =>
            have HN := (show Hid (_ ∧ True) from ⟨all_not P es k HE.out.1 ((hPx x).trans HRT.out.1), trivial⟩)
            clear hPx HE HA
            go_wp2_with (first
              | (go_at_call 27; refine HPQ.out.2.mono ?_; rintro e w1 ⟨rfl, rfl⟩)
              | (go_at_call 28; refine (HPQ.out.1 _ HX.out).mono ?_; rintro e w2 ⟨rfl, b2⟩))
            go_ret
            exact ⟨by rw [HN.out.1]; rfl, hbw.trans (b2.mono hbw.size)⟩
          | true =>
            have HN := (show Hid (_ ∧ True) from ⟨all_take P es k HE.out.1 HA.out.1 ((hPx x).trans HRT.out.1), trivial⟩)
            clear hPx HE HA
            go_wp2_with (first
              | (go_at_call 27; refine HPQ.out.2.mono ?_; rintro e w1 ⟨rfl, rfl⟩)
              | (go_at_call 28; refine (HPQ.out.1 _ HX.out).mono ?_; rintro e w2 ⟨rfl, b2⟩))
            refine ⟨⟨k + 1, by omega, by go_num, HN.out.1, hbw.trans (b2.mono hbw.size)⟩, by simp [intOf]; omega⟩
      · obtain rfl : k = es.length := by omega
        have HALL := (show Hid (_ ∧ True) from ⟨(by rw [← HA.out.1, List.take_length] : es.all P = true), trivial⟩)
        clear HC hPx HA
        go_wp2
        go_ret
        exact ⟨by rw [HALL.out.1]; rfl, hbw⟩

theorem fnExactHeapOk_holds : Rows.FnExactHeapOkSaid :=
  fnExactHeapOk.over fun v es p n0 w h hb _ => implHeapOk_any v es p _ w h (by have : es.length ≤ bulkL es := Nat.le_add_right _ _; omega)
end Go.Proofs.Ythjpmdoljceaiaa
