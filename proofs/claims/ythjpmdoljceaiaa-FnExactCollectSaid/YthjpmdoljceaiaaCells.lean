/-
  Cells in memory: their bulk.
-/
import Derived.Test.YthjpmdoljceaiaaCellOne
namespace Go.Proofs.Ythjpmdoljceaiaa
open Go.RowKit Go.Joins

set_option maxRecDepth 100000

set_option maxHeartbeats 6400000 in
theorem szCellS_any (v : Value) (es : List Ce) (S : Nat → Prop) (w : World) (left : Int) (h : CellsAt w S v es) (h0 : 0 ≤ left) (h1 : left ≤ 1048576) :
    Calls Try.prog 7 #[v, .int .i64 left] w fun e w' => e = .returned (.int .i64 (szR left (bulkL es))) ∧ Below w.heap.size w w' := by
  have hB := (show bulkL es = es.length + preL es es.length from rfl)
  have hP := preL_le es
  obtain ⟨a, cap, rfl, hl, hc⟩ := h
  unfold maxLen at hl
  by_cases hlt : left - (es.length : Int) < 0
  · clear hc
    go_enter Try.func7, Try.ntmps7
    go_wp2
    go_ret
    exact ⟨int_ret (by unfold szR; rw [if_neg (by omega)]), Below.refl _ w⟩
  · have HC := (show Hid (_ ∧ True) from ⟨hc, trivial⟩)
    clear hc
    go_enter Try.func7, Try.ntmps7
    go_wp2
    go_loopw [1, 5] (fun lv i wr => ∃ k : Nat, k ≤ es.length ∧ i = .int .i64 k ∧ (preL es k : Int) ≤ left - (es.length : Int) ∧ lv = .int .i64 (left - (es.length : Int) - preL es k) ∧ Below w.heap.size w wr) (fun _ i _ => es.length - (intOf i).toNat)
    case atStart => exact ⟨0, Nat.zero_le _, rfl, by simp [preL]; omega, by simp [preL], Below.refl _ _⟩
    case round =>
      obtain ⟨k, hk, rfl, hle, rfl, hbw⟩ := hrel
      by_cases hkl : k < es.length
      · have he := List.getElem?_eq_getElem hkl
        have hps := preL_succ he
        generalize es[k] = x at *
        obtain ⟨b, off, kv, rfl, hSb, hlt2, c0, c1, c2, c3, r1, r2, r3, hkk⟩ := HC.out.1 k x he
        rw [← hbw.cell (by exact hlt2)] at c0 c1 c2 c3
        have HX : Hid (CeAt wr S (.agg #[.int .i64 x.kind, .int .i64 x.n, .int .i64 x.pos, kv]) x) := ⟨kv, rfl, r1, r2, r3, hkk.below hbw⟩
        obtain ⟨ka, kc, rfl⟩ := hkk.form
        clear hkk he HC
        have hlt' : ((k : Nat) : Int) < ((es.length : Nat) : Int) := by omega
        go_wp2_with fail
        refine (szCell_any _ x S _ _ HX.out (by omega) (by omega)).mono ?_
        rintro e w1 ⟨rfl, b1⟩
        have b2 : Below w.heap.size w w1 := hbw.trans (b1.mono hbw.size)
        clear b1 HX c0 c1 c2 c3
        have hbd : -1 ≤ szR (left - (es.length : Int) - preL es k) x.bulk ∧ szR (left - (es.length : Int) - preL es k) x.bulk ≤ 1048576 := by unfold szR; split <;> omega
        have hpk := hP (k + 1)
        by_cases hok : (x.bulk : Int) ≤ left - (es.length : Int) - preL es k
        · have hr : szR (left - (es.length : Int) - preL es k) x.bulk = left - (es.length : Int) - preL es (k + 1) := by unfold szR; rw [if_pos hok]; omega
          rw [hr]
          have hr0 : ¬ left - (es.length : Int) - preL es (k + 1) < 0 := by omega
          clear hbd
          go_wp2
          refine ⟨⟨k + 1, by omega, by go_num, by omega, int_val (by omega), b2⟩, by simp [intOf]; omega⟩
        · have hr : szR (left - (es.length : Int) - preL es k) x.bulk = -1 := by unfold szR; rw [if_neg hok]
          rw [hr]
          clear hbd
          go_wp2
          go_ret
          exact ⟨int_ret (by unfold szR; rw [if_neg (by omega)]), b2⟩
      · obtain rfl : k = es.length := by omega
        go_wp2
        go_ret
        exact ⟨int_ret (by unfold szR; rw [if_pos (by omega)]; omega), hbw⟩

end Go.Proofs.Ythjpmdoljceaiaa
