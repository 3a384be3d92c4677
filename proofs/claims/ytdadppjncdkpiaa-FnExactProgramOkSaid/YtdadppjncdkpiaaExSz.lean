/-
  The laws' measure of an expression.
-/
import Derived.Test.YtdadppjncdkpiaaRowBase
import Derived.RegionTactic
namespace Go.Proofs.Ytdadppjncdkpiaa
open Go.RowKit Go.Joins

set_option maxRecDepth 100000

def preB (es : List Ex) (k : Nat) : Nat := ((es.take k).map Ex.bulk).sum
theorem preB_succ {es : List Ex} {k : Nat} {e : Ex} (h : es[k]? = some e) : preB es (k + 1) = preB es k + e.bulk := by
  unfold preB
  have hk := (List.getElem?_eq_some_iff.1 h).1
  rw [List.take_succ_eq_append_getElem hk, List.map_append, List.sum_append]
  rw [(List.getElem?_eq_some_iff.1 h).2]
  simp
theorem bulkL_pre : ∀ es : List Ex, Ex.bulkL es = es.length + preB es es.length
  | [] => rfl
  | e :: r => by
    have := bulkL_pre r
    unfold preB at *
    rw [List.take_length] at *
    rw [Ex.bulkL, this, List.map_cons, List.sum_cons, List.length_cons]
    omega
theorem preB_le (es : List Ex) (k : Nat) : preB es k ≤ preB es es.length := by
  unfold preB
  rw [List.take_length]
  conv => rhs; rw [← List.take_append_drop k es, List.map_append, List.sum_append]
  omega

set_option maxHeartbeats 3200000 in
theorem szExp_of (d : Nat) (hS : ∀ (v : Value) (es : List Ex) (S : Nat → Prop) (w : World) (left : Int), KidsAt w S d v es → 0 ≤ left → left ≤ 1048576 →
      Calls Try.prog 51 #[v, .int .i64 left] w fun e w' => e = .returned (.int .i64 (szR left (Ex.bulkL es))) ∧ Below w.heap.size w w')
    (v : Value) (x : Ex) (S : Nat → Prop) (w : World) (left : Int) (h : ExAt w S d v x) (h0 : 0 ≤ left) (h1 : left ≤ 1048576) :
    Calls Try.prog 96 #[v, .int .i64 left] w fun e w' => e = .returned (.int .i64 (szR left x.bulk)) ∧ Below w.heap.size w w' := by
  obtain ⟨kv, rfl, r1, r2, r3, hk⟩ := h
  unfold maxLen at r3
  rw [Ex.bulk_eq]
  by_cases hlt : left - (x.text.size : Int) < 0
  · clear hk hS
    go_enter Try.func96, Try.ntmps96
    go_wp2
    go_ret
    exact ⟨int_ret (by unfold szR; rw [if_neg (by omega)]), (Below.refl _ w).alloc (Nat.le_refl _) _⟩
  · obtain ⟨a, cap, rfl⟩ := hk.form
    have hk1 := hk.below ((Below.refl _ w).alloc (Nat.le_refl _) (.cells #[.int .i64 x.kind, .int .i64 x.n, .string x.text, .slice a x.kids.length cap] 145))
    have HK : Hid (KidsAt (w.alloc (.cells #[.int .i64 x.kind, .int .i64 x.n, .string x.text, .slice a x.kids.length cap] 145)) S d (.slice a x.kids.length cap) x.kids) := hk1
    clear hk hk1
    go_enter Try.func96, Try.ntmps96
    go_wp2_with fail
    refine (hS _ x.kids S _ _ HK.out (by omega) (by omega)).mono ?_
    rintro e w1 ⟨rfl, b1⟩
    have b2 : Below w.heap.size w w1 := ((Below.refl _ w).alloc (Nat.le_refl _) _).trans (b1.mono (by simp))
    clear b1 hS HK
    have hbd : -1 ≤ szR (left - (x.text.size : Int)) (Ex.bulkL x.kids) ∧ szR (left - (x.text.size : Int)) (Ex.bulkL x.kids) ≤ 1048576 := by unfold szR; split <;> omega
    have heq : szR left (x.text.size + Ex.bulkL x.kids) = szR (left - (x.text.size : Int)) (Ex.bulkL x.kids) := by unfold szR; split <;> split <;> omega
    generalize szR (left - (x.text.size : Int)) (Ex.bulkL x.kids) = r at *
    by_cases hr : r < 0
    · go_wp2
      go_ret
      exact ⟨int_ret (by omega), b2⟩
    · go_wp2
      go_ret
      exact ⟨int_ret (by omega), b2⟩

set_option maxHeartbeats 6400000 in
theorem szExpS_of (d : Nat) (hE : ∀ (v : Value) (x : Ex) (S : Nat → Prop) (w : World) (left : Int), ExAt w S d v x → 0 ≤ left → left ≤ 1048576 →
      Calls Try.prog 96 #[v, .int .i64 left] w fun e w' => e = .returned (.int .i64 (szR left x.bulk)) ∧ Below w.heap.size w w')
    (v : Value) (es : List Ex) (S : Nat → Prop) (w : World) (left : Int) (h : KidsAt w S (d + 1) v es) (h0 : 0 ≤ left) (h1 : left ≤ 1048576) :
    Calls Try.prog 51 #[v, .int .i64 left] w fun e w' => e = .returned (.int .i64 (szR left (Ex.bulkL es))) ∧ Below w.heap.size w w' := by
  have hB := bulkL_pre es
  have hP := preB_le es
  obtain ⟨a, cap, rfl, hl, hc⟩ := h
  unfold maxLen at hl
  by_cases hlt : left - (es.length : Int) < 0
  · clear hc hE
    go_enter Try.func51, Try.ntmps51
    go_wp2
    go_ret
    exact ⟨int_ret (by unfold szR; rw [if_neg (by omega)]), Below.refl _ w⟩
  · have HE := (show Hid (_ ∧ True) from ⟨hE, trivial⟩)
    have HC := (show Hid (_ ∧ True) from ⟨hc, trivial⟩)
    clear hE hc
    go_enter Try.func51, Try.ntmps51
    go_wp2
    go_loopw [1, 5] (fun lv i wr => ∃ k : Nat, k ≤ es.length ∧ i = .int .i64 k ∧ (preB es k : Int) ≤ left - (es.length : Int) ∧ lv = .int .i64 (left - (es.length : Int) - preB es k) ∧ Below w.heap.size w wr) (fun _ i _ => es.length - (intOf i).toNat)
    case atStart => exact ⟨0, Nat.zero_le _, rfl, by simp [preB]; omega, by simp [preB], Below.refl _ _⟩
    case round =>
      obtain ⟨k, hk, rfl, hle, rfl, hbw⟩ := hrel
      by_cases hkl : k < es.length
      · have he := List.getElem?_eq_getElem hkl
        have hps := preB_succ he
        generalize es[k] = x at *
        obtain ⟨b, off, kv, rfl, hSb, hlt2, c0, c1, c2, c3, r1, r2, r3, hkk⟩ := HC.out.1 k x he
        rw [← hbw.cell (by exact hlt2)] at c0 c1 c2 c3
        have HX : Hid (ExAt wr S d (.agg #[.int .i64 x.kind, .int .i64 x.n, .string x.text, kv]) x) := ⟨kv, rfl, r1, r2, r3, hkk.below hbw⟩
        obtain ⟨ka, kc, rfl⟩ := hkk.form
        clear hkk he HC
        have hlt' : ((k : Nat) : Int) < ((es.length : Nat) : Int) := by omega
        go_wp2_with fail
        refine (HE.out.1 _ x S _ _ HX.out (by omega) (by omega)).mono ?_
        rintro e w1 ⟨rfl, b1⟩
        have b2 : Below w.heap.size w w1 := hbw.trans (b1.mono hbw.size)
        clear b1 HX c0 c1 c2 c3
        have hbd : -1 ≤ szR (left - (es.length : Int) - preB es k) x.bulk ∧ szR (left - (es.length : Int) - preB es k) x.bulk ≤ 1048576 := by unfold szR; split <;> omega
        have hpk := hP (k + 1)
        by_cases hok : (x.bulk : Int) ≤ left - (es.length : Int) - preB es k
        · have hr : szR (left - (es.length : Int) - preB es k) x.bulk = left - (es.length : Int) - preB es (k + 1) := by unfold szR; rw [if_pos hok]; omega
          rw [hr]
          have hr0 : ¬ left - (es.length : Int) - preB es (k + 1) < 0 := by omega
          clear hbd
          go_wp2
          refine ⟨⟨k + 1, by omega, by go_num, by omega, int_val (by omega), b2⟩, by simp [intOf]; omega⟩
        · have hr : szR (left - (es.length : Int) - preB es k) x.bulk = -1 := by unfold szR; rw [if_neg hok]
          rw [hr]
          clear hbd
          go_wp2
          go_ret
          exact ⟨int_ret (by unfold szR; rw [if_neg (by omega)]), b2⟩
      · obtain rfl : k = es.length := by omega
        go_wp2
        go_ret
        exact ⟨int_ret (by unfold szR; rw [if_pos (by omega)]; omega), hbw⟩

theorem szExpS_any : ∀ (d : Nat) (v : Value) (es : List Ex) (S : Nat → Prop) (w : World) (left : Int), KidsAt w S d v es → 0 ≤ left → left ≤ 1048576 →
      Calls Try.prog 51 #[v, .int .i64 left] w fun e w' => e = .returned (.int .i64 (szR left (Ex.bulkL es))) ∧ Below w.heap.size w w'
  | 0, _, _, _, _, _, h, _, _ => h.elim
  | d + 1, v, es, S, w, left, h, h0, h1 => szExpS_of d (szExp_of d (szExpS_any d)) v es S w left h h0 h1
theorem szExp_any (d : Nat) (v : Value) (x : Ex) (S : Nat → Prop) (w : World) (left : Int) (h : ExAt w S d v x) (h0 : 0 ≤ left) (h1 : left ≤ 1048576) :
    Calls Try.prog 96 #[v, .int .i64 left] w fun e w' => e = .returned (.int .i64 (szR left x.bulk)) ∧ Below w.heap.size w w' :=
  szExp_of d (szExpS_any d) v x S w left h h0 h1
end Go.Proofs.Ytdadppjncdkpiaa
