/-
  The laws' measure of an expression.
  The laws' copy of an expression: the same one, in new memory.
  The laws' look whether two expressions are the same: of one expression in two places it says yes.
  Rows of texts that came in, and the laws' measure, copy and comparison of them.
  An expression that came in, opened: it is one in plain words.
  Programs that came in, and the laws' measure, copy and comparison of them.
  The laws' marking of a program that they made: what lies elsewhere stays as it is.
-/
import Derived.Test.YtdadppjncdkpiaaRowBase
import Derived.RegionTactic
import Derived.OwnWalk
import Derived.Test.YtdadppjncdkpiaaStrsAt
import Derived.Test.YtdadppjncdkpiaaProgAt
import Derived.Test.YtdadppjncdkpiaaMK
import Derived.Test.YtdadppjncdkpiaaNode
namespace Go.Proofs.Ytdadppjncdkpiaa
open Go.RowKit Go.Joins

set_option maxRecDepth 100000

def preB (es : List Ex) (k : Nat) : Nat := ((es.take k).map Ex.bulk).sum
theorem preB_succ {es : List Ex} {k : Nat} {e : Ex} (h : es[k]? = some e) : preB es (k + 1) = preB es k + e.bulk := by
  unfold preB
  have hk := (List.getElem?_eq_some_iff.1 h).1
  rw [List.take_succ_eq_append_getElem hk, List.map_append, List.sum_append]
  rw [(List.getElem?_eq_some_iff.1 h).2]
  simp
theorem bulkL_pre : ∀ es : List Ex, Ex.bulkL es = es.length + preB es es.length
  | [] => rfl
  | e :: r => by
    have := bulkL_pre r
    unfold preB at *
    rw [List.take_length] at *
    rw [Ex.bulkL, this, List.map_cons, List.sum_cons, List.length_cons]
    omega
theorem preB_le (es : List Ex) (k : Nat) : preB es k ≤ preB es es.length := by
  unfold preB
  rw [List.take_length]
  conv => rhs; rw [← List.take_append_drop k es, List.map_append, List.sum_append]
  omega

set_option maxHeartbeats 3200000 in
theorem szExp_of (d : Nat) (hS : ∀ (v : Value) (es : List Ex) (S : Nat → Prop) (w : World) (left : Int), KidsAt w S d v es → 0 ≤ left → left ≤ 1048576 →
      Calls Try.prog 51 #[v, .int .i64 left] w fun e w' => e = .returned (.int .i64 (szR left (Ex.bulkL es))) ∧ Below w.heap.size w w')
    (v : Value) (x : Ex) (S : Nat → Prop) (w : World) (left : Int) (h : ExAt w S d v x) (h0 : 0 ≤ left) (h1 : left ≤ 1048576) :
    Calls Try.prog 96 #[v, .int .i64 left] w fun e w' => e = .returned (.int .i64 (szR left x.bulk)) ∧ Below w.heap.size w w' := by
  obtain ⟨kv, rfl, r1, r2, r3, hk⟩ := h
  unfold maxLen at r3
  rw [Ex.bulk_eq]
  by_cases hlt : left - (x.text.size : Int) < 0
  · clear hk hS
    go_enter Try.func96, Try.ntmps96
    go_wp2
    go_ret
    exact ⟨int_ret (by unfold szR; rw [if_neg (by omega)]), (Below.refl _ w).alloc (Nat.le_refl _) _⟩
  · obtain ⟨a, cap, rfl⟩ := hk.form
    have hk1 := hk.below ((Below.refl _ w).alloc (Nat.le_refl _) (.cells #[.int .i64 x.kind, .int .i64 x.n, .string x.text, .slice a x.kids.length cap] 145))
    have HK : Hid (KidsAt (w.alloc (.cells #[.int .i64 x.kind, .int .i64 x.n, .string x.text, .slice a x.kids.length cap] 145)) S d (.slice a x.kids.length cap) x.kids) := hk1
    clear hk hk1
    go_enter Try.func96, Try.ntmps96
    go_wp2_with fail
    refine (hS _ x.kids S _ _ HK.out (by omega) (by omega)).mono ?_
    rintro e w1 ⟨rfl, b1⟩
    have b2 : Below w.heap.size w w1 := ((Below.refl _ w).alloc (Nat.le_refl _) _).trans (b1.mono (by simp))
    clear b1 hS HK
    have hbd : -1 ≤ szR (left - (x.text.size : Int)) (Ex.bulkL x.kids) ∧ szR (left - (x.text.size : Int)) (Ex.bulkL x.kids) ≤ 1048576 := by unfold szR; split <;> omega
    have heq : szR left (x.text.size + Ex.bulkL x.kids) = szR (left - (x.text.size : Int)) (Ex.bulkL x.kids) := by unfold szR; split <;> split <;> omega
    generalize szR (left - (x.text.size : Int)) (Ex.bulkL x.kids) = r at *
    by_cases hr : r < 0
    · go_wp2
      go_ret
      exact ⟨int_ret (by omega), b2⟩
    · go_wp2
      go_ret
      exact ⟨int_ret (by omega), b2⟩

set_option maxHeartbeats 6400000 in
theorem szExpS_of (d : Nat) (hE : ∀ (v : Value) (x : Ex) (S : Nat → Prop) (w : World) (left : Int), ExAt w S d v x → 0 ≤ left → left ≤ 1048576 →
      Calls Try.prog 96 #[v, .int .i64 left] w fun e w' => e = .returned (.int .i64 (szR left x.bulk)) ∧ Below w.heap.size w w')
    (v : Value) (es : List Ex) (S : Nat → Prop) (w : World) (left : Int) (h : KidsAt w S (d + 1) v es) (h0 : 0 ≤ left) (h1 : left ≤ 1048576) :
    Calls Try.prog 51 #[v, .int .i64 left] w fun e w' => e = .returned (.int .i64 (szR left (Ex.bulkL es))) ∧ Below w.heap.size w w' := by
  have hB := bulkL_pre es
  have hP := preB_le es
  obtain ⟨a, cap, rfl, hl, hc⟩ := h
  unfold maxLen at hl
  by_cases hlt : left - (es.length : Int) < 0
  · clear hc hE
    go_enter Try.func51, Try.ntmps51
    go_wp2
    go_ret
    exact ⟨int_ret (by unfold szR; rw [if_neg (by omega)]), Below.refl _ w⟩
  · have HE := (show Hid (_ ∧ True) from ⟨hE, trivial⟩)
    have HC := (show Hid (_ ∧ True) from ⟨hc, trivial⟩)
    clear hE hc
    go_enter Try.func51, Try.ntmps51
    go_wp2
    go_loopw [1, 5] (fun lv i wr => ∃ k : Nat, k ≤ es.length ∧ i = .int .i64 k ∧ (preB es k : Int) ≤ left - (es.length : Int) ∧ lv = .int .i64 (left - (es.length : Int) - preB es k) ∧ Below w.heap.size w wr) (fun _ i _ => es.length - (intOf i).toNat)
    case atStart => exact ⟨0, Nat.zero_le _, rfl, by simp [preB]; omega, by simp [preB], Below.refl _ _⟩
    case round =>
      obtain ⟨k, hk, rfl, hle, rfl, hbw⟩ := hrel
      by_cases hkl : k < es.length
      · have he := List.getElem?_eq_getElem hkl
        have hps := preB_succ he
        generalize es[k] = x at *
        obtain ⟨b, off, kv, rfl, hSb, hlt2, c0, c1, c2, c3, r1, r2, r3, hkk⟩ := HC.out.1 k x he
        rw [← hbw.cell (by exact hlt2)] at c0 c1 c2 c3
        have HX : Hid (ExAt wr S d (.agg #[.int .i64 x.kind, .int .i64 x.n, .string x.text, kv]) x) := ⟨kv, rfl, r1, r2, r3, hkk.below hbw⟩
        obtain ⟨ka, kc, rfl⟩ := hkk.form
        clear hkk he HC
        have hlt' : ((k : Nat) : Int) < ((es.length : Nat) : Int) := by omega
        go_wp2_with fail
        refine (HE.out.1 _ x S _ _ HX.out (by omega) (by omega)).mono ?_
        rintro e w1 ⟨rfl, b1⟩
        have b2 : Below w.heap.size w w1 := hbw.trans (b1.mono hbw.size)
        clear b1 HX c0 c1 c2 c3
        have hbd : -1 ≤ szR (left - (es.length : Int) - preB es k) x.bulk ∧ szR (left - (es.length : Int) - preB es k) x.bulk ≤ 1048576 := by unfold szR; split <;> omega
        have hpk := hP (k + 1)
        by_cases hok : (x.bulk : Int) ≤ left - (es.length : Int) - preB es k
        · have hr : szR (left - (es.length : Int) - preB es k) x.bulk = left - (es.length : Int) - preB es (k + 1) := by unfold szR; rw [if_pos hok]; omega
          rw [hr]
          have hr0 : ¬ left - (es.length : Int) - preB es (k + 1) < 0 := by omega
          clear hbd
          go_wp2
          refine ⟨⟨k + 1, by omega, by go_num, by omega, int_val (by omega), b2⟩, by simp [intOf]; omega⟩
        · have hr : szR (left - (es.length : Int) - preB es k) x.bulk = -1 := by unfold szR; rw [if_neg hok]
          rw [hr]
          clear hbd
          go_wp2
          go_ret
          exact ⟨int_ret (by unfold szR; rw [if_neg (by omega)]), b2⟩
      · obtain rfl : k = es.length := by omega
        go_wp2
        go_ret
        exact ⟨int_ret (by unfold szR; rw [if_pos (by omega)]; omega), hbw⟩

theorem szExpS_any : ∀ (d : Nat) (v : Value) (es : List Ex) (S : Nat → Prop) (w : World) (left : Int), KidsAt w S d v es → 0 ≤ left → left ≤ 1048576 →
      Calls Try.prog 51 #[v, .int .i64 left] w fun e w' => e = .returned (.int .i64 (szR left (Ex.bulkL es))) ∧ Below w.heap.size w w'
  | 0, _, _, _, _, _, h, _, _ => h.elim
  | d + 1, v, es, S, w, left, h, h0, h1 => szExpS_of d (szExp_of d (szExpS_any d)) v es S w left h h0 h1
theorem szExp_any (d : Nat) (v : Value) (x : Ex) (S : Nat → Prop) (w : World) (left : Int) (h : ExAt w S d v x) (h0 : 0 ≤ left) (h1 : left ≤ 1048576) :
    Calls Try.prog 96 #[v, .int .i64 left] w fun e w' => e = .returned (.int .i64 (szR left x.bulk)) ∧ Below w.heap.size w w' :=
  szExp_of d (szExpS_any d) v x S w left h h0 h1
end Go.Proofs.Ytdadppjncdkpiaa

namespace Go.Proofs.Ytdadppjncdkpiaa
open Go.RowKit Go.Joins

set_option maxRecDepth 100000

theorem infoExp : (Try.prog.info? 92).map (fun i => (i.zero, i.size, i.bytes)) = some (some (.agg #[.int .i64 0, .int .i64 0, .string ⟨#[]⟩, .slice none 0 0]), 4, 56) := by kernel_rfl

theorem make_exps (n : Nat) (hn : n ≤ 1048576) (w : World) : (Instr.makeSlice 51 (.int .i64 (n : Int)) (.int .i64 (n : Int))).run Try.prog w = .ok (.slice (some ⟨w.heap.size, 0, none⟩) n n) (w.alloc (.cells (madeCells #[.int .i64 0, .int .i64 0, .string ⟨#[]⟩, .slice none 0 0] (n * 4)) 92)) := by
  obtain ⟨i0, hi, hz0, hz1, hz2⟩ := info_parts infoExp
  have h := run_make (P := Try.prog) w 51 92 i0 _ Try.underlying51 hi hz0 .i64 .i64 (n : Int) (n : Int) (by omega) (by omega) (by rw [hz2]; omega) (by omega)
  rw [h, hz1]
  rfl

/-- How the rows of expressions lie, whatever stands in them: each from its block's beginning on, in blocks of S. -/
def Sk (w : World) (S : Nat → Prop) : Nat → Value → List Ex → Prop
  | 0, _, _ => False
  | d + 1, v, es => ∃ a cap, v = .slice a es.length cap ∧ ∀ i e, es[i]? = some e → ∃ b kv cs, a = some ⟨b, 0, none⟩ ∧ S b ∧ w.heap[b]? = some (.cells cs 92 (0, 0)) ∧ i * 4 + 4 ≤ cs.size ∧ cs[i * 4 + 3]? = some kv ∧ Sk w S d kv e.kids
theorem Sk.kept {w w' : World} {S S' : Nat → Prop} (hw : ∀ b, S b → b < w.heap.size → w'.heap[b]? = w.heap[b]?) (hS : ∀ b, S b → b < w.heap.size → S' b) : ∀ {d : Nat} {v : Value} {es : List Ex}, Sk w S d v es → Sk w' S' d v es
  | 0, _, _, h => h.elim
  | d + 1, v, es, ⟨a, cap, hv, hc⟩ => by
    refine ⟨a, cap, hv, fun i e he => ?_⟩
    obtain ⟨b, kv, cs, ha, hb, hblk, hs, h3, hk⟩ := hc i e he
    have hlt := (Array.getElem?_eq_some_iff.1 hblk).1
    exact ⟨b, kv, cs, ha, hS b hb hlt, (hw b hb hlt).trans hblk, hs, h3, Sk.kept hw hS hk⟩
theorem Sk.below {w w' : World} {S : Nat → Prop} {d : Nat} {v : Value} {es : List Ex} (h : Sk w S d v es) (hb : Below w.heap.size w w') : Sk w' S d v es := h.kept (fun b _ hlt => hb.block b hlt) (fun _ h _ => h)
theorem Sk.wide {w : World} {S S' : Nat → Prop} {d : Nat} {v : Value} {es : List Ex} (h : Sk w S d v es) (hS : ∀ b, S b → b < w.heap.size → S' b) : Sk w S' d v es := h.kept (fun _ _ _ => rfl) hS

def ToExpSK (d : Nat) : Prop := ∀ (v : Value) (es : List Ex) (S : Nat → Prop) (w : World), KidsAt w S d v es → Ex.bulkL es ≤ 1048576 →
  Calls Try.prog 56 #[v] w fun e w' => ∃ v', e = .returned v' ∧ KidsAt w' (fun b => w.heap.size ≤ b ∧ Pl w' b) d v' es ∧ Below w.heap.size w w' ∧ Sk w' (fun b => w.heap.size ≤ b) d v' es
def ToExpK (d : Nat) : Prop := ∀ (v : Value) (x : Ex) (S : Nat → Prop) (w : World), ExAt w S d v x → x.bulk ≤ 1048576 →
  Calls Try.prog 102 #[v] w fun e w' => ∃ kv, e = .returned (.agg #[.int .i64 x.kind, .int .i64 x.n, .string x.text, kv]) ∧ ExAt w' (fun b => w.heap.size ≤ b ∧ Pl w' b) d (.agg #[.int .i64 x.kind, .int .i64 x.n, .string x.text, kv]) x ∧ Below w.heap.size w w' ∧ Sk w' (fun b => w.heap.size ≤ b) d kv x.kids
def ToExpS (d : Nat) : Prop := ∀ (v : Value) (es : List Ex) (S : Nat → Prop) (w : World), KidsAt w S d v es → Ex.bulkL es ≤ 1048576 →
  Calls Try.prog 56 #[v] w fun e w' => ∃ v', e = .returned v' ∧ KidsAt w' (fun b => w.heap.size ≤ b ∧ Pl w' b) d v' es ∧ Below w.heap.size w w'
def ToExp (d : Nat) : Prop := ∀ (v : Value) (x : Ex) (S : Nat → Prop) (w : World), ExAt w S d v x → x.bulk ≤ 1048576 →
  Calls Try.prog 102 #[v] w fun e w' => ∃ v', e = .returned v' ∧ ExAt w' (fun b => w.heap.size ≤ b ∧ Pl w' b) d v' x ∧ Below w.heap.size w w'

set_option maxHeartbeats 3200000 in
theorem toExp_of (d : Nat) (hS : ToExpSK d) : ToExpK d := by
  intro v x S w h hb
  obtain ⟨kv, rfl, r1, r2, r3, hk⟩ := h
  obtain ⟨a, cap, rfl⟩ := hk.form
  have hbe := Ex.bulk_eq x
  have HK : Hid (KidsAt w S d (.slice a x.kids.length cap) x.kids) := hk
  have HS : Hid (ToExpSK d) := hS
  have HR : Hid (inI64 x.kind ∧ inI64 x.n ∧ x.text.size ≤ maxLen) := ⟨r1, r2, r3⟩
  clear hk hS r1 r2
  unfold maxLen at r3
  go_enter Try.func102, Try.ntmps102
  go_wp2_with fail
  have HB0 : Below w.heap.size w (((w.alloc (.cells #[.int .i64 x.kind, .int .i64 x.n, .string x.text, .slice a x.kids.length cap] 145)).alloc (.cells #[.int .i64 0, .int .i64 0, .string ⟨#[]⟩, .slice none 0 0] 92)).alloc (.cells #[.int .i64 x.kind, .int .i64 x.n, .string x.text, .slice none 0 0] 92)) :=
    (((Below.refl _ w).alloc (Nat.le_refl _) _).alloc (by simp) _).alloc (by simp; omega) _
  refine (HS.out _ x.kids S _ (HK.out.below HB0) (by omega)).mono ?_
  rintro e w1 ⟨kv, rfl, k1, b1, s1⟩
  have hsz : (((w.alloc (.cells #[.int .i64 x.kind, .int .i64 x.n, .string x.text, .slice a x.kids.length cap] 145)).alloc (.cells #[.int .i64 0, .int .i64 0, .string ⟨#[]⟩, .slice none 0 0] 92)).alloc (.cells #[.int .i64 x.kind, .int .i64 x.n, .string x.text, .slice none 0 0] 92)).heap.size = w.heap.size + 3 := by simp
  have o2 : w1.heap[w.heap.size + 1 + 1]? = some (.cells #[.int .i64 x.kind, .int .i64 x.n, .string x.text, .slice none 0 0] 92) := by
    rw [b1.block _ (by rw [hsz]; omega)]
    have := (MapKept.heap_alloc ((w.alloc (.cells #[.int .i64 x.kind, .int .i64 x.n, .string x.text, .slice a x.kids.length cap] 145)).alloc (.cells #[.int .i64 0, .int .i64 0, .string ⟨#[]⟩, .slice none 0 0] 92)) (.cells #[.int .i64 x.kind, .int .i64 x.n, .string x.text, .slice none 0 0] 92)).1
    simpa using this
  have o1 : w1.heap[w.heap.size + 1]? = some (.cells #[.int .i64 0, .int .i64 0, .string ⟨#[]⟩, .slice none 0 0] 92) := by
    rw [b1.block _ (by rw [hsz]; omega), Below.heap_alloc _ _ _ (by simp)]
    have := (MapKept.heap_alloc (w.alloc (.cells #[.int .i64 x.kind, .int .i64 x.n, .string x.text, .slice a x.kids.length cap] 145)) (.cells #[.int .i64 0, .int .i64 0, .string ⟨#[]⟩, .slice none 0 0] 92)).1
    simpa using this
  rw [hsz] at k1 b1 s1
  have hs1 : w.heap.size + 3 ≤ w1.heap.size := by have := b1.size; rw [hsz] at this; exact this
  have B1 : Below w.heap.size w w1 := HB0.trans (b1.mono (by omega))
  clear HB0 b1 hsz HK HS
  obtain ⟨ka, kc, rfl⟩ := k1.form
  have K1 : Hid (KidsAt w1 (fun b => w.heap.size + 3 ≤ b ∧ Pl w1 b) d (.slice ka x.kids.length kc) x.kids) := k1
  have S1 : Hid (Sk w1 (fun b => w.heap.size + 3 ≤ b) d (.slice ka x.kids.length kc) x.kids) := s1
  clear k1 s1
  have c20 : w1.cell? ⟨w.heap.size + 1 + 1, 0, none⟩ = some (.int .i64 x.kind) := by rw [cell_of_block o2]; rfl
  have c21 : w1.cell? ⟨w.heap.size + 1 + 1, 1, none⟩ = some (.int .i64 x.n) := by rw [cell_of_block o2]; rfl
  have c22 : w1.cell? ⟨w.heap.size + 1 + 1, 2, none⟩ = some (.string x.text) := by rw [cell_of_block o2]; rfl
  have c23 : w1.cell? ⟨w.heap.size + 1 + 1, 3, none⟩ = some (.slice none 0 0) := by rw [cell_of_block o2]; rfl
  have f23 : w1.frozen? ⟨w.heap.size + 1 + 1, 3, none⟩ = false := unfrozen_of_block o2 3
  have c10 : w1.cell? ⟨w.heap.size + 1, 0, none⟩ = some (.int .i64 0) := by rw [cell_of_block o1]; rfl
  have c11 : w1.cell? ⟨w.heap.size + 1, 1, none⟩ = some (.int .i64 0) := by rw [cell_of_block o1]; rfl
  have c12 : w1.cell? ⟨w.heap.size + 1, 2, none⟩ = some (.string ⟨#[]⟩) := by rw [cell_of_block o1]; rfl
  have c13 : w1.cell? ⟨w.heap.size + 1, 3, none⟩ = some (.slice none 0 0) := by rw [cell_of_block o1]; rfl
  have f10 : w1.frozen? ⟨w.heap.size + 1, 0, none⟩ = false := unfrozen_of_block o1 0
  have f11 : w1.frozen? ⟨w.heap.size + 1, 1, none⟩ = false := unfrozen_of_block o1 1
  have f12 : w1.frozen? ⟨w.heap.size + 1, 2, none⟩ = false := unfrozen_of_block o1 2
  have f13 : w1.frozen? ⟨w.heap.size + 1, 3, none⟩ = false := unfrozen_of_block o1 3
  clear o1 o2
  go_wp2
  have he : ∀ b, w.heap.size + 3 ≤ b → (((((w1.setCell ⟨w.heap.size + 1 + 1, 3, none⟩ (.slice ka x.kids.length kc)).setCell ⟨w.heap.size + 1, 0, none⟩ (.int .i64 x.kind)).setCell ⟨w.heap.size + 1, 1, none⟩ (.int .i64 x.n)).setCell ⟨w.heap.size + 1, 2, none⟩ (.string x.text)).setCell ⟨w.heap.size + 1, 3, none⟩ (.slice ka x.kids.length kc)).heap[b]? = w1.heap[b]? := by
    intro b hb1
    have e1 : ∀ (j : Nat) (u : Value) (W : World), (W.setCell ⟨w.heap.size + 1, j, none⟩ u).heap[b]? = W.heap[b]? := fun j u W => Below.heap_setCell W _ u b (by simp; omega)
    have e2 : ∀ (j : Nat) (u : Value) (W : World), (W.setCell ⟨w.heap.size + 1 + 1, j, none⟩ u).heap[b]? = W.heap[b]? := fun j u W => Below.heap_setCell W _ u b (by simp; omega)
    rw [e1, e1, e1, e1, e2]
  refine bodyPost_ret (v := .agg #[.int .i64 x.kind, .int .i64 x.n, .string x.text, .slice ka x.kids.length kc]) (by simp [results, Try.results102, go_sem, c10, c11, c12, c13]) rfl ⟨_, rfl, ⟨_, rfl, HR.out.1, HR.out.2.1, HR.out.2.2, ?_⟩, ?_, ?_⟩
  · exact K1.out.kept (fun b hb1 hb2 => he b hb1.1) (by simp) (fun b hb1 _ => ⟨by omega, hb1.2.of (he b hb1.1)⟩)
  · exact ((((B1.setCell (p := ⟨w.heap.size + 1 + 1, 3, none⟩) (by simp; omega) _).setCell (p := ⟨w.heap.size + 1, 0, none⟩) (by simp) _).setCell (p := ⟨w.heap.size + 1, 1, none⟩) (by simp) _).setCell (p := ⟨w.heap.size + 1, 2, none⟩) (by simp) _).setCell (p := ⟨w.heap.size + 1, 3, none⟩) (by simp) _
  · exact S1.out.kept (fun b hb1 _ => he b hb1) (fun b hb1 _ => by omega)

/-- A row under way: its first k expressions lie there. -/
def RowTo (w : World) (g n d k : Nat) (es : List Ex) : Prop :=
  ∃ cur, w.heap[g]? = some (.cells cur 92 (0, 0)) ∧ cur.size = n * 4 ∧ ∀ i e, i < k → es[i]? = some e → ∃ kv, cur[i * 4]? = some (.int .i64 e.kind) ∧ cur[i * 4 + 1]? = some (.int .i64 e.n) ∧ cur[i * 4 + 2]? = some (.string e.text) ∧ cur[i * 4 + 3]? = some kv ∧
    inI64 e.kind ∧ inI64 e.n ∧ e.text.size ≤ maxLen ∧ KidsAt w (fun b => g < b ∧ Pl w b) d kv e.kids ∧ Sk w (fun b => g < b) d kv e.kids

theorem RowTo.next {wr w1 : World} {g n d k : Nat} {es : List Ex} {x : Ex} {kv : Value} {cur : Array Value} (hg : w1.heap[g]? = some (.cells cur 92 (0, 0))) (hcs : cur.size = n * 4) (hkn : k < n) (hb : Below wr.heap.size wr w1) (hgl : g < wr.heap.size)
    (hcur : ∀ i e, i < k → es[i]? = some e → ∃ kv, cur[i * 4]? = some (.int .i64 e.kind) ∧ cur[i * 4 + 1]? = some (.int .i64 e.n) ∧ cur[i * 4 + 2]? = some (.string e.text) ∧ cur[i * 4 + 3]? = some kv ∧ inI64 e.kind ∧ inI64 e.n ∧ e.text.size ≤ maxLen ∧ KidsAt wr (fun b => g < b ∧ Pl wr b) d kv e.kids ∧ Sk wr (fun b => g < b) d kv e.kids)
    (hx : es[k]? = some x) (hr : inI64 x.kind ∧ inI64 x.n ∧ x.text.size ≤ maxLen) (hk : KidsAt w1 (fun b => wr.heap.size ≤ b ∧ Pl w1 b) d kv x.kids) (hsk : Sk w1 (fun b => wr.heap.size ≤ b) d kv x.kids) :
    RowTo (set4 w1 g (k * 4) (.int .i64 x.kind) (.int .i64 x.n) (.string x.text) kv) g n d (k + 1) es := by
  refine ⟨_, block_setCell (block_setCell (block_setCell (block_setCell hg _) _) _) _, by simp [hcs], fun i e hi he => ?_⟩
  have hsz : w1.heap.size ≤ (set4 w1 g (k * 4) (.int .i64 x.kind) (.int .i64 x.n) (.string x.text) kv).heap.size := by simp [set4]
  by_cases hik : i < k
  · obtain ⟨kv', q0, q1, q2, q3, q4, q5, q6, q7, q8⟩ := hcur i e hik he
    have hee : ∀ b, g < b → b < wr.heap.size → (set4 w1 g (k * 4) (.int .i64 x.kind) (.int .i64 x.n) (.string x.text) kv).heap[b]? = wr.heap[b]? := fun b hb1 hb2 => by
      rw [set4_heap _ _ _ _ _ _ _ _ (by omega)]; exact hb.block b hb2
    refine ⟨kv', ?_, ?_, ?_, ?_, q4, q5, q6, q7.kept (fun b hb1 hb2 => hee b hb1.1 hb2) (Nat.le_trans hb.size hsz) (fun b h h2 => ⟨h.1, h.2.of (hee b h.1 h2)⟩), q8.kept (fun b hb1 hb2 => hee b hb1 hb2) (fun b h _ => h)⟩
    · rw [set4_other _ _ _ _ _ _ _ (by omega) (by omega) (by omega) (by omega)]; exact q0
    · rw [set4_other _ _ _ _ _ _ _ (by omega) (by omega) (by omega) (by omega)]; exact q1
    · rw [set4_other _ _ _ _ _ _ _ (by omega) (by omega) (by omega) (by omega)]; exact q2
    · rw [set4_other _ _ _ _ _ _ _ (by omega) (by omega) (by omega) (by omega)]; exact q3
  · obtain rfl : i = k := by omega
    obtain rfl : x = e := Option.some.inj (hx.symm.trans he)
    obtain ⟨s0, s1, s2, s3⟩ := set4_same cur (i * 4) (.int .i64 x.kind) (.int .i64 x.n) (.string x.text) kv (by omega)
    exact ⟨kv, s0, s1, s2, s3, hr.1, hr.2.1, hr.2.2, hk.kept (fun b hb1 hb2 => set4_heap _ _ _ _ _ _ _ _ (by have := hb1.1; omega)) hsz (fun b h _ => ⟨by have := h.1; omega, h.2.of (set4_heap _ _ _ _ _ _ _ _ (by have := h.1; omega))⟩), hsk.kept (fun b hb1 hb2 => set4_heap _ _ _ _ _ _ _ _ (by omega)) (fun b h _ => by omega)⟩

set_option maxHeartbeats 6400000 in
theorem toExpS_of (d : Nat) (hE : ToExpK d) : ToExpSK (d + 1) := by
  intro v es S w h hb
  have hlen := bulk_len es
  have hBA := @bulk_at es
  obtain ⟨a, cap, rfl, hl, hc⟩ := h
  clear hl
  have HC := (show Hid (_ ∧ True) from ⟨hc, trivial⟩)
  have HE : Hid (ToExpK d) := hE
  have hmk := make_exps es.length (by omega)
  clear hc hE
  have hms : (madeCells #[.int .i64 0, .int .i64 0, .string ⟨#[]⟩, .slice none 0 0] (es.length * 4)).size = es.length * 4 := size_madeCells _ _
  have R0 : RowTo (w.alloc (.cells (madeCells #[.int .i64 0, .int .i64 0, .string ⟨#[]⟩, .slice none 0 0] (es.length * 4)) 92)) w.heap.size es.length d 0 es :=
    ⟨_, (MapKept.heap_alloc w _).1, hms, fun i e h => by omega⟩
  have B0 : Below w.heap.size w (w.alloc (.cells (madeCells #[.int .i64 0, .int .i64 0, .string ⟨#[]⟩, .slice none 0 0] (es.length * 4)) 92)) := (Below.refl _ w).alloc (Nat.le_refl _) _
  generalize madeCells #[.int .i64 0, .int .i64 0, .string ⟨#[]⟩, .slice none 0 0] (es.length * 4) = c0 at *
  clear hms
  go_enter Try.func56, Try.ntmps56
  go_wp2
  clear hmk
  go_loopw [4] (fun i wr => ∃ k : Nat, k ≤ es.length ∧ i = .int .i64 k ∧ RowTo wr w.heap.size es.length d k es ∧ Below w.heap.size w wr) (fun i _ => es.length - (intOf i).toNat)
  case atStart => exact ⟨0, Nat.zero_le _, rfl, R0, B0⟩
  case round =>
    obtain ⟨k, hk, rfl, hrow, hbw⟩ := hrel
    by_cases hkl : k < es.length
    · have he := List.getElem?_eq_getElem hkl
      have hbk := hBA he
      generalize es[k] = x at *
      obtain ⟨b, off, kv, rfl, hSb, hlt2, c0, c1, c2, c3, r1, r2, r3, hkk⟩ := HC.out.1 k x he
      rw [← hbw.cell (by exact hlt2)] at c0 c1 c2 c3
      have HX : Hid (ExAt wr S d (.agg #[.int .i64 x.kind, .int .i64 x.n, .string x.text, kv]) x) := ⟨kv, rfl, r1, r2, r3, hkk.below hbw⟩
      obtain ⟨ka, kc, rfl⟩ := hkk.form
      have HH : Hid (es[k]? = some x) := he
      clear hkk he HC hBA B0 R0
      have hlt' : ((k : Nat) : Int) < ((es.length : Nat) : Int) := by omega
      go_wp2_with fail
      refine (HE.out _ x S _ HX.out (by omega)).mono ?_
      rintro e w1 ⟨kv', rfl, x1, b1, s1⟩
      obtain ⟨kv'', hkv, _, _, _, k1⟩ := x1
      obtain rfl : kv' = kv'' := by simpa using hkv
      clear hkv
      obtain ⟨ka', kc', rfl⟩ := k1.form
      obtain ⟨cur, hg, hcs, hcur⟩ := hrow
      have hgl : w.heap.size < wr.heap.size := (Array.getElem?_eq_some_iff.1 hg).1
      have hg1 : w1.heap[w.heap.size]? = some (.cells cur 92 (0, 0)) := (b1.block _ hgl).trans hg
      have B1 : Below w.heap.size w w1 := hbw.trans (b1.mono hbw.size)
      have d0 : w1.cell? ⟨w.heap.size, k * 4, none⟩ = some (cur[k * 4]'(by omega)) := by rw [cell_of_block hg1]; exact Array.getElem?_eq_getElem _
      have d1 : w1.cell? ⟨w.heap.size, k * 4 + 1, none⟩ = some (cur[k * 4 + 1]'(by omega)) := by rw [cell_of_block hg1]; exact Array.getElem?_eq_getElem _
      have d2 : w1.cell? ⟨w.heap.size, k * 4 + 2, none⟩ = some (cur[k * 4 + 2]'(by omega)) := by rw [cell_of_block hg1]; exact Array.getElem?_eq_getElem _
      have d3 : w1.cell? ⟨w.heap.size, k * 4 + 3, none⟩ = some (cur[k * 4 + 3]'(by omega)) := by rw [cell_of_block hg1]; exact Array.getElem?_eq_getElem _
      generalize cur[k * 4]'(by omega) = y0 at d0
      generalize cur[k * 4 + 1]'(by omega) = y1 at d1
      generalize cur[k * 4 + 2]'(by omega) = y2 at d2
      generalize cur[k * 4 + 3]'(by omega) = y3 at d3
      have f0 : w1.frozen? ⟨w.heap.size, k * 4, none⟩ = false := unfrozen_of_block hg1 _
      have f1 : w1.frozen? ⟨w.heap.size, k * 4 + 1, none⟩ = false := unfrozen_of_block hg1 _
      have f2 : w1.frozen? ⟨w.heap.size, k * 4 + 2, none⟩ = false := unfrozen_of_block hg1 _
      have f3 : w1.frozen? ⟨w.heap.size, k * 4 + 3, none⟩ = false := unfrozen_of_block hg1 _
      have HG := (show Hid (_ ∧ True) from ⟨hg1, trivial⟩)
      have HCur := (show Hid (_ ∧ True) from ⟨hcur, trivial⟩)
      have HS4 : Hid (cur.size = es.length * 4) := hcs
      have HK1 : Hid (KidsAt w1 (fun b => wr.heap.size ≤ b ∧ Pl w1 b) d (.slice ka' x.kids.length kc') x.kids) := k1
      have HB1 : Hid (Below wr.heap.size wr w1) := b1
      have HS1 : Hid (Sk w1 (fun b => wr.heap.size ≤ b) d (.slice ka' x.kids.length kc') x.kids) := s1
      have HR : Hid (inI64 x.kind ∧ inI64 x.n ∧ x.text.size ≤ maxLen) := ⟨r1, r2, r3⟩
      clear hg hg1 hcur hcs k1 b1 s1 HX HE c0 c1 c2 c3 r1 r2 r3
      go_wp2
      refine ⟨⟨k + 1, by omega, by go_num, RowTo.next HG.out.1 HS4.out hkl HB1.out hgl HCur.out.1 HH.out HR.out HK1.out HS1.out, ?_⟩, by simp [intOf]; omega⟩
      exact (((B1.setCell (p := ⟨w.heap.size, k * 4, none⟩) (Nat.le_refl _) _).setCell (p := ⟨w.heap.size, k * 4 + 1, none⟩) (Nat.le_refl _) _).setCell (p := ⟨w.heap.size, k * 4 + 2, none⟩) (Nat.le_refl _) _).setCell (p := ⟨w.heap.size, k * 4 + 3, none⟩) (Nat.le_refl _) _
    · obtain rfl : k = es.length := by omega
      obtain ⟨cur, hg, hcs, hcur⟩ := hrow
      have HF : Hid (KidsAt wr (fun b => w.heap.size ≤ b ∧ Pl wr b) (d + 1) (.slice (some ⟨w.heap.size, 0, none⟩) es.length es.length) es) := by
        refine ⟨_, _, rfl, by unfold maxLen; omega, fun i e he => ?_⟩
        obtain ⟨kv, q0, q1, q2, q3, q4, q5, q6, q7, _⟩ := hcur i e (List.getElem?_eq_some_iff.1 he).1 he
        refine ⟨w.heap.size, 0, kv, rfl, ⟨Nat.le_refl _, _, _, hg⟩, (Array.getElem?_eq_some_iff.1 hg).1, ?_, ?_, ?_, ?_, q4, q5, q6, q7.wide (fun b hb => ⟨Nat.le_of_lt hb.1, hb.2⟩)⟩
        · rw [cell_of_block hg, Nat.zero_add]; exact q0
        · rw [cell_of_block hg, Nat.zero_add]; exact q1
        · rw [cell_of_block hg, Nat.zero_add]; exact q2
        · rw [cell_of_block hg, Nat.zero_add]; exact q3
      have HFS : Hid (Sk wr (fun b => w.heap.size ≤ b) (d + 1) (.slice (some ⟨w.heap.size, 0, none⟩) es.length es.length) es) := by
        refine ⟨_, _, rfl, fun i e he => ?_⟩
        have hi := (List.getElem?_eq_some_iff.1 he).1
        obtain ⟨kv, q0, q1, q2, q3, q4, q5, q6, q7, q8⟩ := hcur i e hi he
        exact ⟨w.heap.size, kv, cur, rfl, Nat.le_refl _, hg, by omega, q3, q8.wide (fun b hb _ => Nat.le_of_lt hb)⟩
      clear hg hcur HC HE
      go_wp2
      go_ret
      exact ⟨_, rfl, HF.out, hbw, HFS.out⟩

theorem toExpSK_any : ∀ d, ToExpSK d
  | 0 => fun _ _ _ _ h => h.elim
  | d + 1 => toExpS_of d (toExp_of d (toExpSK_any d))
theorem toExpK_any (d : Nat) : ToExpK d := toExp_of d (toExpSK_any d)
theorem toExpS_any (d : Nat) : ToExpS d := fun v es S w h hb => (toExpSK_any d v es S w h hb).mono (fun _ _ ⟨v', h1, h2, h3, _⟩ => ⟨v', h1, h2, h3⟩)
theorem toExp_any (d : Nat) : ToExp d := fun v x S w h hb => (toExpK_any d v x S w h hb).mono (fun _ _ ⟨_, h1, h2, h3, _⟩ => ⟨_, h1, h2, h3⟩)
end Go.Proofs.Ytdadppjncdkpiaa

namespace Go.Proofs.Ytdadppjncdkpiaa
open Go.RowKit Go.Joins

set_option maxRecDepth 100000

def EqExpS (d : Nat) : Prop := ∀ (v1 v2 : Value) (es : List Ex) (S1 S2 : Nat → Prop) (w : World), KidsAt w S1 d v1 es → KidsAt w S2 d v2 es → Ex.bulkL es ≤ 1048576 →
  Calls Try.prog 60 #[v1, v2] w fun e w' => e = .returned (.bool true) ∧ Below w.heap.size w w'
def EqExp (d : Nat) : Prop := ∀ (v1 v2 : Value) (x : Ex) (S1 S2 : Nat → Prop) (w : World), ExAt w S1 d v1 x → ExAt w S2 d v2 x → x.bulk ≤ 1048576 →
  Calls Try.prog 107 #[v1, v2] w fun e w' => e = .returned (.bool true) ∧ Below w.heap.size w w'

set_option maxHeartbeats 3200000 in
theorem eqExp_of (d : Nat) (hS : EqExpS d) : EqExp d := by
  intro v1 v2 x S1 S2 w h1 h2 hb
  have hbe := Ex.bulk_eq x
  obtain ⟨kv1, rfl, -, -, -, k1⟩ := h1
  obtain ⟨kv2, rfl, -, -, -, k2⟩ := h2
  obtain ⟨a1, c1, rfl⟩ := k1.form
  obtain ⟨a2, c2, rfl⟩ := k2.form
  have e1 : (x.kind != x.kind) = false := by simp
  have e2 : (x.n != x.n) = false := by simp
  have e3 : (x.text.toList != x.text.toList) = false := by simp
  have e3' : (x.text.toList == x.text.toList) = true := by simp
  have B0 : Below w.heap.size w ((w.alloc (.cells #[.int .i64 x.kind, .int .i64 x.n, .string x.text, .slice a1 x.kids.length c1] 92)).alloc (.cells #[.int .i64 x.kind, .int .i64 x.n, .string x.text, .slice a2 x.kids.length c2] 92)) :=
    ((Below.refl _ w).alloc (Nat.le_refl _) _).alloc (by simp) _
  have HK1 := (show Hid (_ ∧ True) from ⟨k1.below B0, trivial⟩)
  have HK2 := (show Hid (_ ∧ True) from ⟨k2.below B0, trivial⟩)
  have HB0 := (show Hid (_ ∧ True) from ⟨B0, trivial⟩)
  have HS : Hid (EqExpS d) := hS
  have hnot := ex_not
  clear k1 k2 hS B0
  go_enter Try.func107, Try.ntmps107
  go_wp2_with fail
  refine (HS.out _ _ x.kids S1 S2 _ HK1.out.1 HK2.out.1 (by omega)).mono ?_
  rintro e w1 ⟨rfl, b1⟩
  have B1 : Below w.heap.size w w1 := HB0.out.1.trans (b1.mono HB0.out.1.size)
  clear b1 HB0 HK1 HK2 HS
  go_wp2
  go_ret
  exact ⟨rfl, B1⟩

set_option maxHeartbeats 6400000 in
theorem eqExpS_of (d : Nat) (hE : EqExp d) : EqExpS (d + 1) := by
  intro v1 v2 es S1 S2 w h1 h2 hb
  have hlen := bulk_len es
  have hBA := @bulk_at es
  obtain ⟨a1, cap1, rfl, -, hc1⟩ := h1
  obtain ⟨a2, cap2, rfl, -, hc2⟩ := h2
  have HC1 := (show Hid (_ ∧ True) from ⟨hc1, trivial⟩)
  have HC2 := (show Hid (_ ∧ True) from ⟨hc2, trivial⟩)
  have HE : Hid (EqExp d) := hE
  clear hc1 hc2 hE
  have hnot := ex_not
  have hne : (((es.length : Nat) : Int) != ((es.length : Nat) : Int)) = false := by simp
  go_enter Try.func60, Try.ntmps60
  go_wp2
  go_loopw [5] (fun i wr => ∃ k : Nat, k ≤ es.length ∧ i = .int .i64 k ∧ Below w.heap.size w wr) (fun i _ => es.length - (intOf i).toNat)
  case atStart => exact ⟨0, Nat.zero_le _, rfl, Below.refl _ _⟩
  case round =>
    obtain ⟨k, hk, rfl, hbw⟩ := hrel
    by_cases hkl : k < es.length
    · have he := List.getElem?_eq_getElem hkl
      have hbk := hBA he
      generalize es[k] = x at *
      obtain ⟨b1, off1, kv1, rfl, -, hl1, c0, c1, c2, c3, r1, r2, r3, k1⟩ := HC1.out.1 k x he
      obtain ⟨b2, off2, kv2, rfl, -, hl2, d0, d1, d2, d3, -, -, -, k2⟩ := HC2.out.1 k x he
      rw [← hbw.cell (by exact hl1)] at c0 c1 c2 c3
      rw [← hbw.cell (by exact hl2)] at d0 d1 d2 d3
      have HX1 : Hid (∀ wx : World, Below w.heap.size w wx → ExAt wx S1 d (.agg #[.int .i64 x.kind, .int .i64 x.n, .string x.text, kv1]) x) := fun wx hx => ⟨kv1, rfl, r1, r2, r3, k1.below hx⟩
      have HX2 : Hid (∀ wx : World, Below w.heap.size w wx → ExAt wx S2 d (.agg #[.int .i64 x.kind, .int .i64 x.n, .string x.text, kv2]) x) := fun wx hx => ⟨kv2, rfl, r1, r2, r3, k2.below hx⟩
      obtain ⟨ka1, kc1, rfl⟩ := k1.form
      obtain ⟨ka2, kc2, rfl⟩ := k2.form
      clear k1 k2 he HC1 HC2 hBA r1 r2 r3
      have hlt' : ((k : Nat) : Int) < ((es.length : Nat) : Int) := by omega
      have hsz := hbw.size
      go_wp2
      go_region_with (go_at_call 107; refine (HE.out _ _ x S1 S2 _ (HX1.out _ hbw.drew) (HX2.out _ hbw.drew) (by omega)).mono ?_; rintro e w1 ⟨rfl, b1⟩)
      all_goals
        have hbw2 : Below w.heap.size w w1 := hbw.drew.trans (b1.mono hsz)
        clear b1
        go_wp2
        go_roundw
        case rel => exact ⟨k + 1, by omega, by go_num, hbw2⟩
        case measure => simp [intOf]; omega
    · clear HC1 HC2 HE
      go_wp2
      go_ret
      exact ⟨rfl, hbw⟩

theorem eqExpS_any : ∀ d, EqExpS d
  | 0 => fun _ _ _ _ _ _ h => h.elim
  | d + 1 => eqExpS_of d (eqExp_of d (eqExpS_any d))
theorem eqExp_any (d : Nat) : EqExp d := eqExp_of d (eqExpS_any d)
end Go.Proofs.Ytdadppjncdkpiaa

namespace Go.Proofs.Ytdadppjncdkpiaa
open Go.RowKit Go.Joins

set_option maxRecDepth 100000

theorem preS_succ {ts : List ByteArray} {k : Nat} {e : ByteArray} (h : ts[k]? = some e) : preS ts (k + 1) = preS ts k + e.size := by
  unfold preS
  have hk := (List.getElem?_eq_some_iff.1 h).1
  rw [List.take_succ_eq_append_getElem hk, List.map_append, List.sum_append]
  rw [(List.getElem?_eq_some_iff.1 h).2]
  simp
theorem preS_le (ts : List ByteArray) (k : Nat) : preS ts k ≤ preS ts ts.length := by
  unfold preS
  rw [List.take_length]
  conv => rhs; rw [← List.take_append_drop k ts, List.map_append, List.sum_append]
  omega

set_option maxHeartbeats 3200000 in
theorem szStringS_any (v : Value) (ts : List ByteArray) (S : Nat → Prop) (w : World) (left : Int) (h : StrsAt w S v ts) (h0 : 0 ≤ left) (h1 : left ≤ 1048576) :
    Calls Try.prog 50 #[v, .int .i64 left] w fun e w' => e = .returned (.int .i64 (szR left (bulkS ts))) ∧ Below w.heap.size w w' := by
  have hP := preS_le ts
  obtain ⟨a, cap, rfl, hl, hc⟩ := h
  unfold maxLen at hl
  by_cases hlt : left - (ts.length : Int) < 0
  · clear hc
    go_enter Try.func50, Try.ntmps50
    go_wp2
    go_ret
    exact ⟨int_ret (by unfold szR bulkS; rw [if_neg (by omega)]), Below.refl _ w⟩
  · have HC := (show Hid (_ ∧ True) from ⟨hc, trivial⟩)
    clear hc
    go_enter Try.func50, Try.ntmps50
    go_wp2
    go_loopw [1, 5] (fun lv i wr => ∃ k : Nat, k ≤ ts.length ∧ i = .int .i64 k ∧ (preS ts k : Int) ≤ left - (ts.length : Int) ∧ lv = .int .i64 (left - (ts.length : Int) - preS ts k) ∧ Below w.heap.size w wr) (fun _ i _ => ts.length - (intOf i).toNat)
    case atStart => exact ⟨0, Nat.zero_le _, rfl, by simp [preS]; omega, by simp [preS], Below.refl _ _⟩
    case round =>
      obtain ⟨k, hk, rfl, hle, rfl, hbw⟩ := hrel
      by_cases hkl : k < ts.length
      · have he := List.getElem?_eq_getElem hkl
        have hps := preS_succ he
        have hpk := hP (k + 1)
        generalize ts[k] = x at *
        obtain ⟨b, off, rfl, hSb, hlt2, c0, r3⟩ := HC.out.1 k x he
        rw [← hbw.cell (by exact hlt2)] at c0
        unfold maxLen at r3
        clear he HC
        have hlt' : ((k : Nat) : Int) < ((ts.length : Nat) : Int) := by omega
        by_cases hok : (x.size : Int) ≤ left - (ts.length : Int) - preS ts k
        · have hr0 : ¬ left - (ts.length : Int) - preS ts k - (x.size : Int) < 0 := by omega
          go_wp2
          refine ⟨⟨k + 1, by omega, by go_num, by omega, int_val (by omega), hbw⟩, by simp [intOf]; omega⟩
        · have hr0 : left - (ts.length : Int) - preS ts k - (x.size : Int) < 0 := by omega
          go_wp2
          go_ret
          exact ⟨int_ret (by unfold szR bulkS; rw [if_neg (by omega)]), hbw⟩
      · obtain rfl : k = ts.length := by omega
        clear HC
        go_wp2
        go_ret
        exact ⟨int_ret (by unfold szR bulkS; rw [if_pos (by omega)]; omega), hbw⟩

set_option maxHeartbeats 3200000 in
theorem eqStrS_same (v1 v2 : Value) (ts : List ByteArray) (S1 S2 : Nat → Prop) (w : World) (h1 : StrsAt w S1 v1 ts) (h2 : StrsAt w S2 v2 ts) (hb : ts.length ≤ 1048576) :
    Calls Try.prog 59 #[v1, v2] w fun e w' => e = .returned (.bool true) ∧ Below w.heap.size w w' := by
  obtain ⟨a1, cap1, rfl, -, hc1⟩ := h1
  obtain ⟨a2, cap2, rfl, -, hc2⟩ := h2
  have HC1 := (show Hid (_ ∧ True) from ⟨hc1, trivial⟩)
  have HC2 := (show Hid (_ ∧ True) from ⟨hc2, trivial⟩)
  clear hc1 hc2
  have hne : (((ts.length : Nat) : Int) != ((ts.length : Nat) : Int)) = false := by simp
  go_enter Try.func59, Try.ntmps59
  go_wp2
  go_loopw [5] (fun i wr => ∃ k : Nat, k ≤ ts.length ∧ i = .int .i64 k ∧ Below w.heap.size w wr) (fun i _ => ts.length - (intOf i).toNat)
  case atStart => exact ⟨0, Nat.zero_le _, rfl, Below.refl _ _⟩
  case round =>
    obtain ⟨k, hk, rfl, hbw⟩ := hrel
    by_cases hkl : k < ts.length
    · have he := List.getElem?_eq_getElem hkl
      generalize ts[k] = t at *
      obtain ⟨b1, off1, rfl, -, hl1, c0, -⟩ := HC1.out.1 k t he
      obtain ⟨b2, off2, rfl, -, hl2, d0, -⟩ := HC2.out.1 k t he
      rw [← hbw.cell (by exact hl1)] at c0
      rw [← hbw.cell (by exact hl2)] at d0
      clear he HC1 HC2
      have hlt' : ((k : Nat) : Int) < ((ts.length : Nat) : Int) := by omega
      have hst : (t.toList == t.toList) = true := by simp
      go_wp2
      go_region
      all_goals
        go_wp2
        go_roundw
        case rel => exact ⟨k + 1, by omega, by go_num, hbw.drew⟩
        case measure => simp [intOf]; omega
    · clear HC1 HC2
      go_wp2
      go_ret
      exact ⟨rfl, hbw⟩

theorem infoStrX : (Try.prog.info? 9).map (fun i => (i.zero, i.size, i.bytes)) = some (some (.string ⟨#[]⟩), 1, 16) := by kernel_rfl
theorem make_strs (n : Nat) (hn : n ≤ 1048576) (w : World) : (Instr.makeSlice 45 (.int .i64 (n : Int)) (.int .i64 (n : Int))).run Try.prog w = .ok (.slice (some ⟨w.heap.size, 0, none⟩) n n) (w.alloc (.cells (madeCells #[.string ⟨#[]⟩] n) 9)) := by
  obtain ⟨i0, hi, hz0, hz1, hz2⟩ := info_parts infoStrX
  have h := run_make (P := Try.prog) w 45 9 i0 _ Try.underlying45 hi hz0 .i64 .i64 (n : Int) (n : Int) (by omega) (by omega) (by rw [hz2]; omega) (by omega)
  rw [h, hz1]
  simp [Value.cells]

/-- A row of texts under way. -/
def StrTo (w : World) (g n k : Nat) (ts : List ByteArray) : Prop :=
  ∃ cur, w.heap[g]? = some (.cells cur 9 (0, 0)) ∧ cur.size = n ∧ ∀ i t, i < k → ts[i]? = some t → cur[i]? = some (.string t) ∧ t.size ≤ maxLen

theorem StrTo.next {w : World} {g n k : Nat} {ts : List ByteArray} {t : ByteArray} (h : StrTo w g n k ts) (hk : k < n) (ht : ts[k]? = some t) (hr : t.size ≤ maxLen) : StrTo (w.setCell ⟨g, k, none⟩ (.string t)) g n (k + 1) ts := by
  obtain ⟨cur, hg, hs, hc⟩ := h
  refine ⟨_, block_setCell hg _, by simp [hs], fun i u hi hu => ?_⟩
  by_cases hik : i < k
  · rw [Array.getElem?_setIfInBounds_ne (by omega)]; exact hc i u hik hu
  · obtain rfl : i = k := by omega
    obtain rfl : t = u := Option.some.inj (ht.symm.trans hu)
    exact ⟨Array.getElem?_setIfInBounds_self_of_lt (by omega), hr⟩

set_option maxHeartbeats 3200000 in
theorem toStringS_any (v : Value) (ts : List ByteArray) (S : Nat → Prop) (w : World) (h : StrsAt w S v ts) (hb : ts.length ≤ 1048576) :
    Calls Try.prog 55 #[v] w fun e w' => ∃ v', e = .returned v' ∧ StrsAt w' (fun b => w.heap.size ≤ b ∧ Pl w' b) v' ts ∧ Below w.heap.size w w' := by
  obtain ⟨a, cap, rfl, -, hc⟩ := h
  have HC := (show Hid (_ ∧ True) from ⟨hc, trivial⟩)
  have hmk := make_strs ts.length hb
  clear hc
  have R0 : StrTo (w.alloc (.cells (madeCells #[.string ⟨#[]⟩] ts.length) 9)) w.heap.size ts.length 0 ts :=
    ⟨_, (MapKept.heap_alloc w _).1, size_madeCells _ _, fun i e h => by omega⟩
  have B0 : Below w.heap.size w (w.alloc (.cells (madeCells #[.string ⟨#[]⟩] ts.length) 9)) := (Below.refl _ w).alloc (Nat.le_refl _) _
  generalize madeCells #[.string ⟨#[]⟩] ts.length = c0 at *
  go_enter Try.func55, Try.ntmps55
  go_wp2
  clear hmk
  go_loopw [4] (fun i wr => ∃ k : Nat, k ≤ ts.length ∧ i = .int .i64 k ∧ StrTo wr w.heap.size ts.length k ts ∧ Below w.heap.size w wr) (fun i _ => ts.length - (intOf i).toNat)
  case atStart => exact ⟨0, Nat.zero_le _, rfl, R0, B0⟩
  case round =>
    obtain ⟨k, hk, rfl, hrow, hbw⟩ := hrel
    by_cases hkl : k < ts.length
    · have he := List.getElem?_eq_getElem hkl
      generalize ts[k] = t at *
      obtain ⟨b, off, rfl, -, hl1, c0, r0⟩ := HC.out.1 k t he
      rw [← hbw.cell (by exact hl1)] at c0
      have HN : Hid (∀ wx : World, wx.heap = wr.heap → StrTo (wx.setCell ⟨w.heap.size, k, none⟩ (.string t)) w.heap.size ts.length (k + 1) ts) := fun wx hx => by
        refine StrTo.next (k := k) ?_ hkl he r0
        obtain ⟨cur, hg, hs, hc⟩ := hrow
        exact ⟨cur, by rw [hx]; exact hg, hs, hc⟩
      obtain ⟨cur, hg, hs, -⟩ := hrow
      have d0 : wr.cell? ⟨w.heap.size, k, none⟩ = some (cur[k]'(by omega)) := by rw [cell_of_block hg]; exact Array.getElem?_eq_getElem _
      generalize cur[k]'(by omega) = y0 at d0
      have f0 : wr.frozen? ⟨w.heap.size, k, none⟩ = false := unfrozen_of_block hg _
      clear he HC hg hs B0 R0
      have hlt' : ((k : Nat) : Int) < ((ts.length : Nat) : Int) := by omega
      go_wp2
      exact ⟨⟨k + 1, by omega, by go_num, HN.out _ rfl, hbw.setCell (p := ⟨w.heap.size, k, none⟩) (Nat.le_refl _) _⟩, by simp [intOf]; omega⟩
    · obtain rfl : k = ts.length := by omega
      obtain ⟨cur, hg, hcs, hcur⟩ := hrow
      have HF : Hid (StrsAt wr (fun b => w.heap.size ≤ b ∧ Pl wr b) (.slice (some ⟨w.heap.size, 0, none⟩) ts.length ts.length) ts) := by
        refine ⟨_, _, rfl, by unfold maxLen; omega, fun i t ht => ?_⟩
        obtain ⟨q0, q1⟩ := hcur i t (List.getElem?_eq_some_iff.1 ht).1 ht
        exact ⟨w.heap.size, 0, rfl, ⟨Nat.le_refl _, _, _, hg⟩, (Array.getElem?_eq_some_iff.1 hg).1, by rw [cell_of_block hg, Nat.zero_add]; exact q0, q1⟩
      clear hg hcur HC
      go_wp2
      go_ret
      exact ⟨_, rfl, HF.out, hbw⟩

section
variable {H : Type} {enc : TypeId × Value → H} {w : World} {spare : Nat → Bool} {held : Bool}
theorem open_strs (fuel : Nat) (cs : List Value) (x : DataW H × List MemPlace) (h : DataW.trod enc Try.prog w 0 spare held fuel 45 cs = some x) : ∃ v ts, cs = [v] ∧ StrsAt w (fun _ => True) v ts := by
  have cells1 : Try.prog.cellsOf 9 = 1 := by kernel_rfl
  rcases DataW.trod_slice Try.underlying45 h with ⟨hcs, _⟩ | ⟨a, len, cap, elems, rest, n, hn, hcs, _, _, hlc, hcm, hel, hat, _, _⟩
  · exact ⟨_, [], hcs, none, 0, rfl, Nat.zero_le _, fun i e he => by simp at he⟩
  · have one : ∀ (i : Nat), i < len → ∃ t : ByteArray, w.cell? (a.add i) = some (.string t) ∧ t.size ≤ maxLen := by
      intro i hi
      have hb := hat i hi
      rw [List.getElem?_eq_getElem (by omega), cells1] at hb
      obtain ⟨cs', hc', ht'⟩ := Option.bind_eq_some_iff.1 hb
      obtain ⟨t, rfl, _, wt⟩ := DataW.trod_string Try.underlying9 ht'
      refine ⟨t, ?_, wt⟩
      unfold World.cells? at hc'
      rw [if_pos (Nat.zero_le _)] at hc'
      simp only [show List.range 1 = [0] from rfl, List.mapM_cons, List.mapM_nil, Nat.mul_one] at hc'
      cases h0 : w.cell? ((a.add i).add 0) with
      | none => simp [h0] at hc'
      | some c0 =>
        simp [h0] at hc'
        subst hc'
        simpa [Addr.add] using h0
    have key : ∀ i, i < len → ∃ t : ByteArray, ∃ b off, a = ⟨b, off, none⟩ ∧ b < w.heap.size ∧ w.cell? ⟨b, off + i, none⟩ = some (.string t) ∧ t.size ≤ maxLen := by
      intro i hi
      obtain ⟨t, ht, wt⟩ := one i hi
      obtain ⟨t0, ht0, _⟩ := one 0 (by omega)
      obtain ⟨b, off, spot⟩ := a
      obtain rfl : spot = none := by simpa [Addr.add] using World.cell?_spot ht0
      rw [addr_add'] at ht
      exact ⟨t, b, off, rfl, World.block_lt_of_cell? _ _ ht, ht, wt⟩
    obtain ⟨f, hf⟩ := Deep.choose_lt key
    refine ⟨_, (List.range len).map f, hcs, some a, cap, by simp, by simp; omega, fun i t ht => ?_⟩
    have hi : i < len := by have := (List.getElem?_eq_some_iff.1 ht).1; simpa using this
    obtain rfl : f i = t := by simpa [hi] using ht
    obtain ⟨b, off, ha, hlt, c0, r0⟩ := hf i hi
    exact ⟨b, off, by rw [ha], trivial, hlt, c0, r0⟩
end
end Go.Proofs.Ytdadppjncdkpiaa

namespace Go.Proofs.Ytdadppjncdkpiaa
open Go.ChangeShapes Go.WideShapes Go.ChangeAt Go.RowKit Go.Joins

set_option maxRecDepth 100000

instance : Inhabited Ex := ⟨.mk 0 0 ⟨#[]⟩ []⟩
theorem cells_exp : Try.prog.cellsOf 145 = 4 := by kernel_rfl

variable {H : Type} {enc : TypeId × Value → H} {w : World} {spare : Nat → Bool} {held : Bool}

/-- The four fields of an expression that is read. -/
theorem open_fields {fuel : Nat} {c0 c1 c2 c3 : Value} {x : DataW H × List MemPlace} (h : DataW.trod enc Try.prog w 0 spare held fuel 145 [c0, c1, c2, c3] = some x) :
    ∃ k n t, c0 = .int .i64 k ∧ c1 = .int .i64 n ∧ c2 = .string t ∧ inI64 k ∧ inI64 n ∧ t.size ≤ maxLen ∧ ∃ m y, fuel = m + 1 ∧ DataW.trod enc Try.prog w 0 spare held m 46 [c3] = some y := by
  obtain ⟨xs, m, hm, _, _, hlen, hf⟩ := DataW.trod_struct Try.underlying145 h
  have hl4 : xs.length = 4 := hlen
  obtain ⟨x0, x1, x2, x3, rfl⟩ : ∃ x0 x1 x2 x3, xs = [x0, x1, x2, x3] := by
    match xs, hl4 with
    | [x0, x1, x2, x3], _ => exact ⟨x0, x1, x2, x3, rfl⟩
  have e1 : Try.prog.cellsOf 3 = 1 := by kernel_rfl
  have e2 : Try.prog.cellsOf 9 = 1 := by kernel_rfl
  have e3 : Try.prog.cellsOf 46 = 1 := by kernel_rfl
  have f0 : DataW.trod enc Try.prog w 0 spare held m 3 (([c0, c1, c2, c3].drop 0).take (Try.prog.cellsOf 3)) = some x0 := hf 0 _ rfl
  have f1 : DataW.trod enc Try.prog w 0 spare held m 3 (([c0, c1, c2, c3].drop 1).take (Try.prog.cellsOf 3)) = some x1 := hf 1 _ rfl
  have f2 : DataW.trod enc Try.prog w 0 spare held m 9 (([c0, c1, c2, c3].drop 2).take (Try.prog.cellsOf 9)) = some x2 := hf 2 _ rfl
  have f3 : DataW.trod enc Try.prog w 0 spare held m 46 (([c0, c1, c2, c3].drop 3).take (Try.prog.cellsOf 46)) = some x3 := hf 3 _ rfl
  rw [e1] at f0 f1
  rw [e2] at f2
  rw [e3] at f3
  obtain ⟨k, hk, _, wk⟩ := DataW.trod_int Try.underlying3 (show DataW.trod enc Try.prog w 0 spare held m 3 [c0] = some x0 from f0)
  obtain ⟨n, hn, _, wn⟩ := DataW.trod_int Try.underlying3 (show DataW.trod enc Try.prog w 0 spare held m 3 [c1] = some x1 from f1)
  obtain ⟨t, ht, _, wt⟩ := DataW.trod_string Try.underlying9 (show DataW.trod enc Try.prog w 0 spare held m 9 [c2] = some x2 from f2)
  simp only [List.cons.injEq, and_true] at hk hn ht
  exact ⟨k, n, t, hk, hn, ht, bounds_i64 wk, bounds_i64 wn, wt, m, x3, hm, f3⟩

theorem open_kids : ∀ (fuel : Nat) (cs : List Value) (x : DataW H × List MemPlace), DataW.trod enc Try.prog w 0 spare held fuel 46 cs = some x → ∃ v es, cs = [v] ∧ KidsAt w (fun _ => True) fuel v es
  | 0, cs, x, h => by simp [DataW.trod] at h
  | fuel + 1, cs, x, h => by
    rcases DataW.trod_slice Try.underlying46 h with ⟨hcs, _⟩ | ⟨a, len, cap, elems, rest, n, hn, hcs, _, _, hlc, hcm, hel, hat, _, _⟩
    · exact ⟨_, [], hcs, none, 0, rfl, Nat.zero_le _, fun i e he => by simp at he⟩
    · obtain rfl : fuel = n := by omega
      have key : ∀ i, i < len → ∃ e : Ex, ∃ b off kv, a = ⟨b, off, none⟩ ∧ b < w.heap.size ∧
          w.cell? ⟨b, off + i * 4, none⟩ = some (.int .i64 e.kind) ∧ w.cell? ⟨b, off + i * 4 + 1, none⟩ = some (.int .i64 e.n) ∧ w.cell? ⟨b, off + i * 4 + 2, none⟩ = some (.string e.text) ∧ w.cell? ⟨b, off + i * 4 + 3, none⟩ = some kv ∧
          inI64 e.kind ∧ inI64 e.n ∧ e.text.size ≤ maxLen ∧ KidsAt w (fun _ => True) fuel kv e.kids := by
        intro i hi
        have hb := hat i hi
        rw [List.getElem?_eq_getElem (by omega), cells_exp] at hb
        obtain ⟨cs', hc', ht'⟩ := Option.bind_eq_some_iff.1 hb
        obtain ⟨c0, c1, c2, c3, rfl, g0, g1, g2, g3⟩ := cells4 hc'
        obtain ⟨k, nn, t, rfl, rfl, rfl, rk, rn, rt, m, y, hm, hk⟩ := open_fields ht'
        obtain ⟨v, es, hv, hes⟩ := open_kids m [c3] y hk
        obtain rfl : c3 = v := by simpa using hv
        obtain ⟨b, off, spot⟩ := a
        have hspot : spot = none := by
          have hb0 := hat 0 (by omega)
          rw [List.getElem?_eq_getElem (by omega), cells_exp] at hb0
          obtain ⟨cs0, hc0, _⟩ := Option.bind_eq_some_iff.1 hb0
          obtain ⟨d0, _, _, _, _, q0, _⟩ := cells4 hc0
          simpa [Addr.add] using World.cell?_spot q0
        subst hspot
        rw [addr_add] at g0 g1 g2 g3
        rw [addr_add] at g1 g2 g3
        exact ⟨.mk k nn t es, b, off, c3, rfl, World.block_lt_of_cell? _ _ g0, g0, g1, g2, g3, rk, rn, rt, hes.deep (by omega)⟩
      obtain ⟨f, hf⟩ := Deep.choose_lt key
      refine ⟨_, (List.range len).map f, hcs, some a, cap, by simp, by simp; omega, fun i e he => ?_⟩
      have hi : i < len := by have := (List.getElem?_eq_some_iff.1 he).1; simpa using this
      obtain rfl : f i = e := by simpa [hi] using he
      obtain ⟨b, off, kv, ha, hlt, c0, c1, c2, c3, r1, r2, r3, hk⟩ := hf i hi
      exact ⟨b, off, kv, by rw [ha], trivial, hlt, c0, c1, c2, c3, r1, r2, r3, hk⟩
  termination_by fuel => fuel

theorem open_exp {v : Value} {dd : DataW H} {p : List MemPlace} (hv : ∃ cs, v = .agg cs ∧ cs.size = Try.prog.cellsOf 145) (h : DataW.Trod enc Try.prog w 0 spare held 145 v dd p) : ∃ e d, ExAt w (fun _ => True) d v e := by
  obtain ⟨fuel, hf⟩ := h
  obtain ⟨cs, rfl, hcs⟩ := hv
  rw [cells_exp] at hcs
  obtain ⟨l⟩ := cs
  obtain ⟨c0, c1, c2, c3, rfl⟩ : ∃ c0 c1 c2 c3, l = [c0, c1, c2, c3] := by
    match l, hcs with
    | [x0, x1, x2, x3], _ => exact ⟨x0, x1, x2, x3, rfl⟩
  obtain ⟨k, nn, t, rfl, rfl, rfl, rk, rn, rt, m, y, _, hk⟩ := open_fields (show DataW.trod enc Try.prog w 0 spare held fuel 145 [c0, c1, c2, c3] = some (dd, p) from hf)
  obtain ⟨v, es, hv, hes⟩ := open_kids m [c3] y hk
  obtain rfl : c3 = v := by simpa using hv
  exact ⟨.mk k nn t es, m, c3, rfl, rk, rn, rt, hes⟩
end Go.Proofs.Ytdadppjncdkpiaa

namespace Go.Proofs.Ytdadppjncdkpiaa
open Go.RowKit Go.Joins

set_option maxRecDepth 100000

set_option maxHeartbeats 3200000 in
theorem szProgram_any (d : Nat) (v : Value) (p : Pr) (S : Nat → Prop) (w : World) (left : Int) (h : PrAt w S d v p) (h0 : 0 ≤ left) (h1 : left ≤ 1048576) :
    Calls Try.prog 13 #[v, .int .i64 left] w fun e w' => e = .returned (.int .i64 (szR left p.bulk)) ∧ Below w.heap.size w w' := by
  obtain ⟨nv, bv, rfl, hn, hk⟩ := h
  obtain ⟨a1, c1, rfl⟩ := hn.form
  obtain ⟨a2, c2, rfl⟩ := hk.form
  have B0 : Below w.heap.size w (w.alloc (.cells #[.slice a1 p.names.length c1, .slice a2 p.bodies.length c2] 48)) := (Below.refl _ w).alloc (Nat.le_refl _) _
  have P2 : (w.alloc (.cells #[.slice a1 p.names.length c1, .slice a2 p.bodies.length c2] 48)).cell? ⟨w.heap.size, 1, none⟩ = some (.slice a2 p.bodies.length c2) := by
    rw [cell_of_block (MapKept.heap_alloc w _).1]; rfl
  have HN := (show Hid (_ ∧ True) from ⟨hn.below B0, trivial⟩)
  have HK := (show Hid (_ ∧ True) from ⟨hk.below B0, trivial⟩)
  have HB := (show Hid (_ ∧ True) from ⟨B0, trivial⟩)
  have HP2 := (show Hid (_ ∧ True) from ⟨P2, trivial⟩)
  have P3 : (w.alloc (.cells #[.slice a1 p.names.length c1, .slice a2 p.bodies.length c2] 48)).heap.size = w.heap.size + 1 := by simp
  have hE := szExpS_any d
  have hbk : p.bulk = bulkS p.names + Ex.bulkL p.bodies := rfl
  have HE := (show Hid (_ ∧ True) from ⟨hE, trivial⟩)
  clear hn hk B0 P2 hE
  go_enter Try.func13, Try.ntmps13
  go_wp2_with fail
  refine (szStringS_any _ p.names S _ _ HN.out.1 h0 h1).mono ?_
  rintro e w1 ⟨rfl, b1⟩
  have B1 : Below w.heap.size w w1 := HB.out.1.trans (b1.mono HB.out.1.size)
  have Q2 : w1.cell? ⟨w.heap.size, 1, none⟩ = some (.slice a2 p.bodies.length c2) := (b1.cell (by rw [P3]; simp)).trans HP2.out.1
  have HK1 := (show Hid (_ ∧ True) from ⟨HK.out.1.below b1, trivial⟩)
  clear b1 HN HK HB HP2 P3
  by_cases hlt : left < (bulkS p.names : Int)
  · have hr : szR left (bulkS p.names) = -1 := by unfold szR; rw [if_neg (by omega)]
    rw [hr]
    go_wp2
    go_ret
    exact ⟨int_ret (by unfold szR; rw [if_neg (by omega)]), B1⟩
  · have hr : szR left (bulkS p.names) = left - bulkS p.names := by unfold szR; rw [if_pos (by omega)]
    rw [hr]
    have hr0 : ¬ left - (bulkS p.names : Int) < 0 := by omega
    go_wp2_with fail
    refine (HE.out.1 _ p.bodies S _ _ HK1.out.1 (by omega) (by omega)).mono ?_
    rintro e w2 ⟨rfl, b2⟩
    have B2 : Below w.heap.size w w2 := B1.trans (b2.mono B1.size)
    clear b2 HE HK1 Q2
    have hbd : -1 ≤ szR (left - (bulkS p.names : Int)) (Ex.bulkL p.bodies) ∧ szR (left - (bulkS p.names : Int)) (Ex.bulkL p.bodies) ≤ 1048576 := by unfold szR; split <;> omega
    have heq : szR left p.bulk = szR (left - (bulkS p.names : Int)) (Ex.bulkL p.bodies) := by rw [hbk]; unfold szR; split <;> split <;> omega
    generalize szR (left - (bulkS p.names : Int)) (Ex.bulkL p.bodies) = r at *
    by_cases hr : r < 0
    · go_wp2
      go_ret
      exact ⟨int_ret (by omega), B2⟩
    · go_wp2
      go_ret
      exact ⟨int_ret (by omega), B2⟩

set_option maxHeartbeats 3200000 in
theorem eqProgram_any (d : Nat) (v1 v2 : Value) (p : Pr) (S1 S2 : Nat → Prop) (w : World) (h1 : PrAt w S1 d v1 p) (h2 : PrAt w S2 d v2 p) (hb : p.bulk ≤ 1048576) :
    Calls Try.prog 17 #[v1, v2] w fun e w' => e = .returned (.bool true) ∧ Below w.heap.size w w' := by
  have hl1 := bulkS_len p.names
  have hbk : p.bulk = bulkS p.names + Ex.bulkL p.bodies := rfl
  obtain ⟨nv1, bv1, rfl, n1, k1⟩ := h1
  obtain ⟨nv2, bv2, rfl, n2, k2⟩ := h2
  obtain ⟨a1, c1, rfl⟩ := n1.form
  obtain ⟨a2, c2, rfl⟩ := k1.form
  obtain ⟨a3, c3, rfl⟩ := n2.form
  obtain ⟨a4, c4, rfl⟩ := k2.form
  have B0 : Below w.heap.size w ((w.alloc (.cells #[.slice a1 p.names.length c1, .slice a2 p.bodies.length c2] 53)).alloc (.cells #[.slice a3 p.names.length c3, .slice a4 p.bodies.length c4] 53)) :=
    ((Below.refl _ w).alloc (Nat.le_refl _) _).alloc (by simp) _
  have P1 : ((w.alloc (.cells #[.slice a1 p.names.length c1, .slice a2 p.bodies.length c2] 53)).alloc (.cells #[.slice a3 p.names.length c3, .slice a4 p.bodies.length c4] 53)).cell? ⟨w.heap.size, 1, none⟩ = some (.slice a2 p.bodies.length c2) := by
    rw [cell_of_block ((Below.heap_alloc _ _ _ (by simp)).trans (MapKept.heap_alloc w _).1)]; rfl
  have P2 : ((w.alloc (.cells #[.slice a1 p.names.length c1, .slice a2 p.bodies.length c2] 53)).alloc (.cells #[.slice a3 p.names.length c3, .slice a4 p.bodies.length c4] 53)).cell? ⟨w.heap.size + 1, 1, none⟩ = some (.slice a4 p.bodies.length c4) := by
    have := (MapKept.heap_alloc (w.alloc (.cells #[.slice a1 p.names.length c1, .slice a2 p.bodies.length c2] 53)) (.cells #[.slice a3 p.names.length c3, .slice a4 p.bodies.length c4] 53)).1
    rw [cell_of_block (by simpa using this)]; rfl
  have P3 : ((w.alloc (.cells #[.slice a1 p.names.length c1, .slice a2 p.bodies.length c2] 53)).alloc (.cells #[.slice a3 p.names.length c3, .slice a4 p.bodies.length c4] 53)).heap.size = w.heap.size + 2 := by simp
  have HN1 := (show Hid (_ ∧ True) from ⟨n1.below B0, trivial⟩)
  have HN2 := (show Hid (_ ∧ True) from ⟨n2.below B0, trivial⟩)
  have HK1 := (show Hid (_ ∧ True) from ⟨k1.below B0, trivial⟩)
  have HK2 := (show Hid (_ ∧ True) from ⟨k2.below B0, trivial⟩)
  have HB := (show Hid (_ ∧ True) from ⟨B0, trivial⟩)
  have HP1 := (show Hid (_ ∧ True) from ⟨P1, trivial⟩)
  have HP2 := (show Hid (_ ∧ True) from ⟨P2, trivial⟩)
  have hnot := ex_not
  clear n1 n2 k1 k2 B0 P1 P2
  go_enter Try.func17, Try.ntmps17
  go_wp2_with fail
  refine (eqStrS_same _ _ p.names S1 S2 _ HN1.out.1 HN2.out.1 (by omega)).mono ?_
  rintro e w1 ⟨rfl, b1⟩
  have B1 : Below w.heap.size w w1 := HB.out.1.trans (b1.mono HB.out.1.size)
  have Q1 : w1.cell? ⟨w.heap.size, 1, none⟩ = some (.slice a2 p.bodies.length c2) := (b1.cell (by rw [P3]; simp)).trans HP1.out.1
  have Q2 : w1.cell? ⟨w.heap.size + 1, 1, none⟩ = some (.slice a4 p.bodies.length c4) := (b1.cell (by rw [P3]; simp)).trans HP2.out.1
  have HL1 := (show Hid (_ ∧ True) from ⟨HK1.out.1.below b1, trivial⟩)
  have HL2 := (show Hid (_ ∧ True) from ⟨HK2.out.1.below b1, trivial⟩)
  clear b1 HN1 HN2 HK1 HK2 HB HP1 HP2 P3
  go_wp2_with fail
  refine (eqExpS_any d _ _ p.bodies S1 S2 _ HL1.out.1 HL2.out.1 (by omega)).mono ?_
  rintro e w2 ⟨rfl, b2⟩
  have B2 : Below w.heap.size w w2 := B1.trans (b2.mono B1.size)
  clear b2 HL1 HL2 Q1 Q2
  go_wp2
  go_ret
  exact ⟨rfl, B2⟩

set_option maxHeartbeats 3200000 in
theorem toProgramK_any (d : Nat) (v : Value) (p : Pr) (S : Nat → Prop) (w : World) (h : PrAt w S d v p) (hb : p.bulk ≤ 1048576) :
    Calls Try.prog 15 #[v] w fun e w' => ∃ nv bv mid, e = .returned (.agg #[nv, bv]) ∧ PrAt w' (fun b => w.heap.size ≤ b ∧ Pl w' b) d (.agg #[nv, bv]) p ∧ Below w.heap.size w w' ∧ StrsAt w' (fun b => w.heap.size ≤ b ∧ b < mid ∧ Pl w' b) nv p.names ∧ Sk w' (fun b => mid ≤ b) d bv p.bodies ∧ w.heap.size ≤ mid ∧ mid ≤ w'.heap.size := by
  have hl1 := bulkS_len p.names
  have hbk : p.bulk = bulkS p.names + Ex.bulkL p.bodies := rfl
  obtain ⟨nv, bv, rfl, hn, hk⟩ := h
  obtain ⟨a1, c1, rfl⟩ := hn.form
  obtain ⟨a2, c2, rfl⟩ := hk.form
  have B0 : Below w.heap.size w (((w.alloc (.cells #[.slice a1 p.names.length c1, .slice a2 p.bodies.length c2] 48)).alloc (.cells #[.slice none 0 0, .slice none 0 0] 53)).alloc (.cells #[.slice none 0 0, .slice none 0 0] 53)) := (((Below.refl _ w).alloc (Nat.le_refl _) _).alloc (by simp) _).alloc (by simp; omega) _
  have O0 : (((w.alloc (.cells #[.slice a1 p.names.length c1, .slice a2 p.bodies.length c2] 48)).alloc (.cells #[.slice none 0 0, .slice none 0 0] 53)).alloc (.cells #[.slice none 0 0, .slice none 0 0] 53)).heap[w.heap.size]? = some (.cells #[.slice a1 p.names.length c1, .slice a2 p.bodies.length c2] 48) :=
    (Below.heap_alloc _ _ _ (by simp; omega)).trans ((Below.heap_alloc _ _ _ (by simp)).trans (MapKept.heap_alloc w _).1)
  have O1 : (((w.alloc (.cells #[.slice a1 p.names.length c1, .slice a2 p.bodies.length c2] 48)).alloc (.cells #[.slice none 0 0, .slice none 0 0] 53)).alloc (.cells #[.slice none 0 0, .slice none 0 0] 53)).heap[w.heap.size + 1]? = some (.cells #[.slice none 0 0, .slice none 0 0] 53) := by
    have := (MapKept.heap_alloc (w.alloc (.cells #[.slice a1 p.names.length c1, .slice a2 p.bodies.length c2] 48)) (.cells #[.slice none 0 0, .slice none 0 0] 53)).1
    exact (Below.heap_alloc _ _ _ (by simp)).trans (by simpa using this)
  have O2 : (((w.alloc (.cells #[.slice a1 p.names.length c1, .slice a2 p.bodies.length c2] 48)).alloc (.cells #[.slice none 0 0, .slice none 0 0] 53)).alloc (.cells #[.slice none 0 0, .slice none 0 0] 53)).heap[w.heap.size + 1 + 1]? = some (.cells #[.slice none 0 0, .slice none 0 0] 53) := by
    have := (MapKept.heap_alloc ((w.alloc (.cells #[.slice a1 p.names.length c1, .slice a2 p.bodies.length c2] 48)).alloc (.cells #[.slice none 0 0, .slice none 0 0] 53)) (.cells #[.slice none 0 0, .slice none 0 0] 53)).1
    simpa using this
  have P3 : (((w.alloc (.cells #[.slice a1 p.names.length c1, .slice a2 p.bodies.length c2] 48)).alloc (.cells #[.slice none 0 0, .slice none 0 0] 53)).alloc (.cells #[.slice none 0 0, .slice none 0 0] 53)).heap.size = w.heap.size + 3 := by simp
  have HN := (show Hid (_ ∧ True) from ⟨hn.below B0, trivial⟩)
  have HK : Hid (KidsAt w S d (.slice a2 p.bodies.length c2) p.bodies) := hk
  have HB := (show Hid (_ ∧ True) from ⟨B0, trivial⟩)
  have HO0 := (show Hid (_ ∧ True) from ⟨O0, trivial⟩)
  have HO1 := (show Hid (_ ∧ True) from ⟨O1, trivial⟩)
  have HO2 := (show Hid (_ ∧ True) from ⟨O2, trivial⟩)
  have HE : Hid (ToExpSK d) := toExpSK_any d
  clear hn hk B0 O0 O1 O2
  go_enter Try.func15, Try.ntmps15
  go_wp2_with fail
  refine (toStringS_any _ p.names S _ HN.out.1 (by omega)).mono ?_
  rintro e w1 ⟨nv, rfl, n1, b1⟩
  obtain ⟨a3, c3, rfl⟩ := n1.form
  rw [P3] at n1
  have hs1 : w.heap.size + 3 ≤ w1.heap.size := by have := b1.size; rw [P3] at this; exact this
  have O0 : w1.heap[w.heap.size]? = some (.cells #[.slice a1 p.names.length c1, .slice a2 p.bodies.length c2] 48) := (b1.block _ (by rw [P3]; omega)).trans HO0.out.1
  have O1 : w1.heap[w.heap.size + 1]? = some (.cells #[.slice none 0 0, .slice none 0 0] 53) := (b1.block _ (by rw [P3]; omega)).trans HO1.out.1
  have O2 : w1.heap[w.heap.size + 1 + 1]? = some (.cells #[.slice none 0 0, .slice none 0 0] 53) := (b1.block _ (by rw [P3]; omega)).trans HO2.out.1
  have B1 : Below w.heap.size w w1 := HB.out.1.trans (b1.mono HB.out.1.size)
  clear b1 HN HB HO0 HO1 HO2 P3
  have x20 : w1.cell? ⟨w.heap.size + 1 + 1, 0, none⟩ = some (.slice none 0 0) := by rw [cell_of_block O2]; rfl
  have f20 : w1.frozen? ⟨w.heap.size + 1 + 1, 0, none⟩ = false := unfrozen_of_block O2 0
  -- the world behind the first store
  have W0 : (w1.setCell ⟨w.heap.size + 1 + 1, 0, none⟩ (.slice a3 p.names.length c3)).heap[w.heap.size]? = some (.cells #[.slice a1 p.names.length c1, .slice a2 p.bodies.length c2] 48) := (Below.heap_setCell _ _ _ _ (by simp; omega)).trans O0
  have W1 : (w1.setCell ⟨w.heap.size + 1 + 1, 0, none⟩ (.slice a3 p.names.length c3)).heap[w.heap.size + 1]? = some (.cells #[.slice none 0 0, .slice none 0 0] 53) := (Below.heap_setCell _ _ _ _ (by simp)).trans O1
  have W2 : (w1.setCell ⟨w.heap.size + 1 + 1, 0, none⟩ (.slice a3 p.names.length c3)).heap[w.heap.size + 1 + 1]? = some (.cells #[.slice a3 p.names.length c3, .slice none 0 0] 53) := block_setCell O2 _
  have n2 : StrsAt (w1.setCell ⟨w.heap.size + 1 + 1, 0, none⟩ (.slice a3 p.names.length c3)) (fun b => w.heap.size + 3 ≤ b ∧ Pl (w1.setCell ⟨w.heap.size + 1 + 1, 0, none⟩ (.slice a3 p.names.length c3)) b) (.slice a3 p.names.length c3) p.names :=
    n1.kept (fun b hb1 _ => Below.heap_setCell _ _ _ _ (by have := hb1.1; simp; omega)) (by simp) (fun b h _ => ⟨h.1, h.2.of (Below.heap_setCell _ _ _ _ (by have := h.1; simp; omega))⟩)
  have S0 : (w1.setCell ⟨w.heap.size + 1 + 1, 0, none⟩ (.slice a3 p.names.length c3)).heap.size = w1.heap.size := by simp
  have B2 : Below w.heap.size w (w1.setCell ⟨w.heap.size + 1 + 1, 0, none⟩ (.slice a3 p.names.length c3)) := B1.setCell (p := ⟨w.heap.size + 1 + 1, 0, none⟩) (by simp; omega) _
  have HK0 : Hid (KidsAt (w1.setCell ⟨w.heap.size + 1 + 1, 0, none⟩ (.slice a3 p.names.length c3)) S d (.slice a2 p.bodies.length c2) p.bodies) := HK.out.below B2
  have HW0 := (show Hid (_ ∧ True) from ⟨W0, trivial⟩)
  have HW1 := (show Hid (_ ∧ True) from ⟨W1, trivial⟩)
  have HW2 := (show Hid (_ ∧ True) from ⟨W2, trivial⟩)
  have HN2 := (show Hid (_ ∧ True) from ⟨n2, trivial⟩)
  have y01 : w1.cell? ⟨w.heap.size, 1, none⟩ = some (.slice a2 p.bodies.length c2) := by rw [cell_of_block O0]; rfl
  clear W0 W1 W2 n2 n1 O0 O1 O2 HK
  go_wp2_with fail
  generalize w1.setCell ⟨w.heap.size + 1 + 1, 0, none⟩ (.slice a3 p.names.length c3) = w2 at *
  rw [← S0] at hs1
  clear S0 x20 f20 y01
  refine (HE.out _ p.bodies S _ HK0.out (by omega)).mono ?_
  rintro e w3 ⟨bv, rfl, k3, b3, s3⟩
  obtain ⟨a4, c4, rfl⟩ := k3.form
  have O1 : w3.heap[w.heap.size + 1]? = some (.cells #[.slice none 0 0, .slice none 0 0] 53) := (b3.block _ (by omega)).trans HW1.out.1
  have O2 : w3.heap[w.heap.size + 1 + 1]? = some (.cells #[.slice a3 p.names.length c3, .slice none 0 0] 53) := (b3.block _ (by omega)).trans HW2.out.1
  have n3 := HN2.out.1.belowP b3
  have hm3 := b3.size
  have m3 : StrsAt w3 (fun b => w.heap.size + 3 ≤ b ∧ b < w2.heap.size ∧ Pl w3 b) (.slice a3 p.names.length c3) p.names := HN2.out.1.kept (fun b _ hlt => b3.block b hlt) b3.size (fun b h hlt => ⟨h.1, hlt, h.2.below b3⟩)
  have B3 : Below w.heap.size w w3 := B2.trans (b3.mono B2.size)
  have hs3 : w.heap.size + 3 ≤ w3.heap.size := Nat.le_trans hs1 b3.size
  have k4 : KidsAt w3 (fun b => w.heap.size + 3 ≤ b ∧ Pl w3 b) d (.slice a4 p.bodies.length c4) p.bodies := k3.wide (fun b hb => ⟨Nat.le_trans hs1 hb.1, hb.2⟩)
  have x20 : w3.cell? ⟨w.heap.size + 1 + 1, 0, none⟩ = some (.slice a3 p.names.length c3) := by rw [cell_of_block O2]; rfl
  have x21 : w3.cell? ⟨w.heap.size + 1 + 1, 1, none⟩ = some (.slice none 0 0) := by rw [cell_of_block O2]; rfl
  have f21 : w3.frozen? ⟨w.heap.size + 1 + 1, 1, none⟩ = false := unfrozen_of_block O2 1
  have x10 : w3.cell? ⟨w.heap.size + 1, 0, none⟩ = some (.slice none 0 0) := by rw [cell_of_block O1]; rfl
  have x11 : w3.cell? ⟨w.heap.size + 1, 1, none⟩ = some (.slice none 0 0) := by rw [cell_of_block O1]; rfl
  have f10 : w3.frozen? ⟨w.heap.size + 1, 0, none⟩ = false := unfrozen_of_block O1 0
  have f11 : w3.frozen? ⟨w.heap.size + 1, 1, none⟩ = false := unfrozen_of_block O1 1
  have HN3 := (show Hid (_ ∧ True) from ⟨n3, trivial⟩)
  have HK4 := (show Hid (_ ∧ _ ∧ _) from ⟨k4, m3, s3⟩)
  clear O1 O2 b3 k3 k4 n3 m3 s3 HW0 HW1 HW2 HN2 HK0 HE
  go_wp2
  have HH : ∀ b, w.heap.size + 3 ≤ b → (((w3.setCell ⟨w.heap.size + 1 + 1, 1, none⟩ (.slice a4 p.bodies.length c4)).setCell ⟨w.heap.size + 1, 0, none⟩ (.slice a3 p.names.length c3)).setCell ⟨w.heap.size + 1, 1, none⟩ (.slice a4 p.bodies.length c4)).heap[b]? = w3.heap[b]? := fun b hb => by
    rw [Below.heap_setCell _ _ _ b (by simp; omega), Below.heap_setCell _ _ _ b (by simp; omega), Below.heap_setCell _ _ _ b (by simp; omega)]
  refine bodyPost_ret (v := .agg #[.slice a3 p.names.length c3, .slice a4 p.bodies.length c4]) (by simp [results, Try.results15, go_sem, x10, x11]) rfl ⟨_, _, w2.heap.size, rfl, ⟨_, _, rfl, ?_, ?_⟩, ?_, ?_, ?_, by omega, by simp; exact hm3⟩
  · exact HN3.out.1.kept (fun b hb1 _ => HH b hb1.1) (by simp) (fun b hb1 _ => ⟨by have := hb1.1; omega, hb1.2.of (HH b hb1.1)⟩)
  · exact HK4.out.1.kept (fun b hb1 _ => HH b hb1.1) (by simp) (fun b hb1 _ => ⟨by have := hb1.1; omega, hb1.2.of (HH b hb1.1)⟩)
  · exact ((B3.setCell (p := ⟨w.heap.size + 1 + 1, 1, none⟩) (by simp; omega) _).setCell (p := ⟨w.heap.size + 1, 0, none⟩) (by simp) _).setCell (p := ⟨w.heap.size + 1, 1, none⟩) (by simp) _
  · exact HK4.out.2.1.kept (fun b hb1 _ => HH b hb1.1) (by simp) (fun b hb1 _ => ⟨by have := hb1.1; omega, hb1.2.1, hb1.2.2.of (HH b hb1.1)⟩)
  · exact HK4.out.2.2.kept (fun b hb1 _ => HH b (by omega)) (fun b hb1 _ => hb1)
theorem toProgram_any (d : Nat) (v : Value) (p : Pr) (S : Nat → Prop) (w : World) (h : PrAt w S d v p) (hb : p.bulk ≤ 1048576) :
    Calls Try.prog 15 #[v] w fun e w' => ∃ v', e = .returned v' ∧ PrAt w' (fun b => w.heap.size ≤ b ∧ Pl w' b) d v' p ∧ Below w.heap.size w w' :=
  (toProgramK_any d v p S w h hb).mono (fun _ _ ⟨_, _, _, h1, h2, h3, _⟩ => ⟨_, h1, h2, h3⟩)

section
variable {H : Type} {enc : TypeId × Value → H} {w : World} {spare : Nat → Bool} {held : Bool}
theorem cells_prog : Try.prog.cellsOf 48 = 2 := by kernel_rfl
theorem open_prog {v : Value} {dd : DataW H} {ps : List MemPlace} (hv : ∃ cs, v = .agg cs ∧ cs.size = Try.prog.cellsOf 48) (h : DataW.Trod enc Try.prog w 0 spare held 48 v dd ps) : ∃ p d, PrAt w (fun _ => True) d v p := by
  obtain ⟨fuel, hf⟩ := h
  obtain ⟨cs, rfl, hcs⟩ := hv
  rw [cells_prog] at hcs
  obtain ⟨l⟩ := cs
  obtain ⟨c0, c1, rfl⟩ : ∃ c0 c1, l = [c0, c1] := by
    match l, hcs with
    | [x0, x1], _ => exact ⟨x0, x1, rfl⟩
  obtain ⟨xs, m, hm, _, _, hlen, hff⟩ := DataW.trod_struct Try.underlying48 (show DataW.trod enc Try.prog w 0 spare held fuel 48 [c0, c1] = some (dd, ps) from hf)
  have hl2 : xs.length = 2 := hlen
  obtain ⟨x0, x1, rfl⟩ : ∃ x0 x1, xs = [x0, x1] := by
    match xs, hl2 with
    | [x0, x1], _ => exact ⟨x0, x1, rfl⟩
  have e2 : Try.prog.cellsOf 45 = 1 := by kernel_rfl
  have e3 : Try.prog.cellsOf 46 = 1 := by kernel_rfl
  have f0 : DataW.trod enc Try.prog w 0 spare held m 45 (([c0, c1].drop 0).take (Try.prog.cellsOf 45)) = some x0 := hff 0 _ rfl
  have f1 : DataW.trod enc Try.prog w 0 spare held m 46 (([c0, c1].drop 1).take (Try.prog.cellsOf 46)) = some x1 := hff 1 _ rfl
  rw [e2] at f0
  rw [e3] at f1
  obtain ⟨nv, ts, hn, hts⟩ := open_strs m _ x0 f0
  obtain ⟨bv, es, hb, hes⟩ := open_kids m _ x1 f1
  obtain rfl : c0 = nv := by simpa using hn
  obtain rfl : c1 = bv := by simpa using hb
  exact ⟨⟨ts, es⟩, m, _, _, rfl, hts, hes⟩
end
end Go.Proofs.Ytdadppjncdkpiaa

namespace Go.Proofs.Ytdadppjncdkpiaa
open Go.RowKit Go.Joins

set_option maxRecDepth 100000

/-- All that is not in the blocks from lo up to hi lies; rows of expressions keep their kids. -/
structure Mkd (lo hi : Nat) (w w' : World) : Prop where
  os : w'.os = w.os
  tape : w'.tape = w.tape
  output : w'.output = w.output
  size : w.heap.size ≤ w'.heap.size
  out : ∀ k, k < w.heap.size → (k < lo ∨ hi ≤ k) → w'.heap[k]? = w.heap[k]?
  exp : ∀ (k : Nat) (cs : Array Value), w.heap[k]? = some (Obj.cells cs 92 (0, 0)) → ∃ cs', w'.heap[k]? = some (Obj.cells cs' 92 (0, 0)) ∧ cs'.size = cs.size ∧ ∀ i, cs'[i * 4 + 3]? = cs[i * 4 + 3]?
theorem Mkd.refl (lo hi : Nat) (w : World) : Mkd lo hi w w := ⟨rfl, rfl, rfl, Nat.le_refl _, fun _ _ _ => rfl, fun _ cs h => ⟨cs, h, rfl, fun _ => rfl⟩⟩
theorem Mkd.trans {lo hi : Nat} {a b c : World} (h : Mkd lo hi a b) (k : Mkd lo hi b c) : Mkd lo hi a c :=
  ⟨k.os.trans h.os, k.tape.trans h.tape, k.output.trans h.output, Nat.le_trans h.size k.size, fun i hi ho => (k.out i (Nat.lt_of_lt_of_le hi h.size) ho).trans (h.out i hi ho), fun i cs hi => by
    obtain ⟨cs1, h1, s1, e1⟩ := h.exp i cs hi
    obtain ⟨cs2, h2, s2, e2⟩ := k.exp i cs1 h1
    exact ⟨cs2, h2, s2.trans s1, fun j => (e2 j).trans (e1 j)⟩⟩
theorem Mkd.of_below {lo hi : Nat} {w w' : World} (h : Below w.heap.size w w') : Mkd lo hi w w' :=
  ⟨h.os, h.tape, h.output, h.size, fun k hk _ => h.block k hk, fun k cs hk => ⟨cs, (h.block k (Array.getElem?_eq_some_iff.1 hk).1).trans hk, rfl, fun _ => rfl⟩⟩
/-- A store into a row of expressions, not over kids. -/
theorem Mkd.set {lo hi : Nat} {w : World} {b o : Nat} {cs : Array Value} (hb : w.heap[b]? = some (.cells cs 92 (0, 0))) (h1 : lo ≤ b) (h2 : b < hi) (ho : o % 4 ≠ 3) (u : Value) : Mkd lo hi w (w.setCell ⟨b, o, none⟩ u) := by
  refine ⟨rfl, rfl, rfl, by simp [World.setCell], fun k _ hk => Below.heap_setCell _ _ _ _ (by show k ≠ b; omega), fun k cs' hk => ?_⟩
  by_cases e : k = b
  · subst e
    rw [hk] at hb
    cases hb
    refine ⟨_, block_setCell hk u, by simp, fun i => ?_⟩
    rw [Array.getElem?_setIfInBounds_ne (by omega)]
  · exact ⟨cs', (Below.heap_setCell _ _ _ _ e).trans hk, rfl, fun _ => rfl⟩
/-- All that is not in the blocks from lo up to hi lies. -/
structure Outs (lo hi : Nat) (w w' : World) : Prop where
  os : w'.os = w.os
  tape : w'.tape = w.tape
  output : w'.output = w.output
  size : w.heap.size ≤ w'.heap.size
  out : ∀ k, k < w.heap.size → (k < lo ∨ hi ≤ k) → w'.heap[k]? = w.heap[k]?
theorem Outs.refl (lo hi : Nat) (w : World) : Outs lo hi w w := ⟨rfl, rfl, rfl, Nat.le_refl _, fun _ _ _ => rfl⟩
theorem Outs.trans {lo hi : Nat} {a b c : World} (h : Outs lo hi a b) (k : Outs lo hi b c) : Outs lo hi a c :=
  ⟨k.os.trans h.os, k.tape.trans h.tape, k.output.trans h.output, Nat.le_trans h.size k.size, fun i hi ho => (k.out i (Nat.lt_of_lt_of_le hi h.size) ho).trans (h.out i hi ho)⟩
theorem Outs.of_below {lo hi : Nat} {w w' : World} (h : Below w.heap.size w w') : Outs lo hi w w' := ⟨h.os, h.tape, h.output, h.size, fun k hk _ => h.block k hk⟩
theorem Outs.set {lo hi : Nat} (w : World) (b o : Nat) (h1 : lo ≤ b) (h2 : b < hi) (u : Value) : Outs lo hi w (w.setCell ⟨b, o, none⟩ u) :=
  ⟨rfl, rfl, rfl, by simp [World.setCell], fun k _ hk => Below.heap_setCell _ _ _ _ (by show k ≠ b; omega)⟩
theorem Outs.wide {lo hi lo' hi' : Nat} {w w' : World} (h : Outs lo hi w w') (h1 : lo' ≤ lo) (h2 : hi ≤ hi') : Outs lo' hi' w w' := ⟨h.os, h.tape, h.output, h.size, fun k hk ho => h.out k hk (by omega)⟩
theorem Mkd.outs {lo hi : Nat} {w w' : World} (h : Mkd lo hi w w') : Outs lo hi w w' := ⟨h.os, h.tape, h.output, h.size, h.out⟩
theorem Sk.mkd {lo hi : Nat} {S : Nat → Prop} {w w' : World} (hm : Mkd lo hi w w') : ∀ {d : Nat} {v : Value} {es : List Ex}, Sk w S d v es → Sk w' S d v es
  | 0, _, _, h => h.elim
  | d + 1, v, es, ⟨a, cap, hv, hc⟩ => by
    refine ⟨a, cap, hv, fun i e he => ?_⟩
    obtain ⟨b, kv, cs, ha, hb, hblk, hs, h3, hk⟩ := hc i e he
    obtain ⟨cs', h1, s1, e1⟩ := hm.exp b cs hblk
    exact ⟨b, kv, cs', ha, hb, h1, by omega, (e1 i).trans h3, Sk.mkd hm hk⟩
theorem Sk.form {w : World} {S : Nat → Prop} {d : Nat} {v : Value} {es : List Ex} (h : Sk w S d v es) : ∃ a cap, v = .slice a es.length cap := by
  cases d with
  | zero => exact h.elim
  | succ d => obtain ⟨a, cap, hv, _⟩ := h; exact ⟨a, cap, hv⟩
theorem int_eqp {a b : Int} (h : a = b) : Value.int .i64 a = .int .i64 b := by rw [h]

def MarkES (lo hi d : Nat) : Prop := ∀ (v : Value) (es : List Ex) (k0 : Int) (w : World), Sk w (fun b => lo ≤ b ∧ b < hi) d v es → es.length ≤ 100000000 → 0 ≤ k0 → k0 + 3 * (Ex.countL es : Int) ≤ 100000000 →
  Calls Try.prog 66 #[v, .int .i64 k0] w fun e w' => e = .returned (.int .i64 (k0 + 3 * (Ex.countL es : Int))) ∧ Mkd lo hi w w'

theorem countL_len : ∀ l : List Ex, l.length ≤ Ex.countL l
  | [] => Nat.le_refl _
  | e :: r => by have := countL_len r; have := Ex.count_eq e; rw [Ex.countL, List.length_cons]; omega
theorem countL_take_leM : ∀ (l : List Ex) (n : Nat), Ex.countL (l.take n) ≤ Ex.countL l
  | [], _ => by simp
  | x :: r, 0 => by simp [Ex.countL]
  | x :: r, n + 1 => by have := countL_take_leM r n; rw [List.take_succ_cons, Ex.countL, Ex.countL]; omega

set_option maxHeartbeats 3200000 in
theorem markExpS_of (lo hi d : Nat) (hE : MarkES lo hi d) : MarkES lo hi (d + 1) := by
  intro v es k0 w hS hl hk0 hk1
  obtain ⟨a, cap, rfl⟩ := hS.form
  have HS : Hid (Sk w (fun b => lo ≤ b ∧ b < hi) (d + 1) (.slice a es.length cap) es) := hS
  have HE : Hid (MarkES lo hi d) := hE
  have hct := Ex.countL_take es
  clear hS hE
  go_enter Try.func66, Try.ntmps66
  go_wp2
  go_loopw [1, 5] (fun kv i wr => ∃ j : Nat, j ≤ es.length ∧ i = .int .i64 j ∧ kv = .int .i64 (k0 + 3 * (Ex.countL (es.take j) : Int)) ∧ Hid (Mkd lo hi w wr)) (fun _ i _ => es.length - (intOf i).toNat)
  case atStart => exact ⟨0, Nat.zero_le _, rfl, by simp [Ex.countL], Mkd.refl _ _ _⟩
  case round =>
    obtain ⟨j, hj, rfl, rfl, hmr⟩ := hrel
    have htl0 := countL_take_leM es j
    by_cases hlt : j < es.length
    · have he := List.getElem?_eq_getElem hlt
      have hcy := hct j _ he
      have htl := countL_take_leM es (j + 1)
      generalize es[j] = y at *
      have hcn := Ex.count_eq y
      have hyl := countL_len y.kids
      obtain ⟨a', cap', hv, hc⟩ := HS.out.mkd hmr.out
      cases hv
      obtain ⟨b, kv, cs, rfl, hb, hblk, hs, h3, hk⟩ := hc j y he
      obtain ⟨ka, kc, rfl⟩ := hk.form
      have hlt' : ((j : Nat) : Int) < ((es.length : Nat) : Int) := by omega
      generalize hkk : k0 + 3 * (Ex.countL (es.take j) : Int) = k at *
      have x0 : wr.cell? ⟨b, j * 4, none⟩ = some (cs[j * 4]'(by omega)) := by rw [cell_of_block hblk]; exact Array.getElem?_eq_getElem _
      have x1 : wr.cell? ⟨b, j * 4 + 1, none⟩ = some (cs[j * 4 + 1]'(by omega)) := by rw [cell_of_block hblk]; exact Array.getElem?_eq_getElem _
      have x2 : wr.cell? ⟨b, j * 4 + 2, none⟩ = some (cs[j * 4 + 2]'(by omega)) := by rw [cell_of_block hblk]; exact Array.getElem?_eq_getElem _
      have x3 : wr.cell? ⟨b, j * 4 + 3, none⟩ = some (.slice ka y.kids.length kc) := by rw [cell_of_block hblk]; exact h3
      generalize cs[j * 4]'(by omega) = y0 at x0
      generalize cs[j * 4 + 1]'(by omega) = y1 at x1
      have hx2 : cs[j * 4 + 2]? = some (cs[j * 4 + 2]'(by omega)) := Array.getElem?_eq_getElem _
      generalize cs[j * 4 + 2]'(by omega) = y2 at x2 hx2
      have hkb : 0 ≤ k ∧ k + 3 ≤ 100000000 := by omega
      have hykl : y.kids.length ≤ 100000000 := by omega
      have f0 : wr.frozen? ⟨b, j * 4, none⟩ = false := unfrozen_of_block hblk _
      have f1 : wr.frozen? ⟨b, j * 4 + 1, none⟩ = false := unfrozen_of_block hblk _
      have hbl := (Array.getElem?_eq_some_iff.1 hblk).1
      have M2 : Mkd lo hi wr ((wr.setCell ⟨b, j * 4, none⟩ (.int .i64 k)).setCell ⟨b, j * 4 + 1, none⟩ (.int .i64 (k + 1))) := (Mkd.set hblk hb.1 hb.2 (by omega) _).trans (Mkd.set (block_setCell hblk _) hb.1 hb.2 (by omega) _)
      have hblk2 := block_setCell (i := j * 4 + 1) (block_setCell (i := j * 4) hblk (.int .i64 k)) (.int .i64 (k + 1))
      have z2 : ((wr.setCell ⟨b, j * 4, none⟩ (.int .i64 k)).setCell ⟨b, j * 4 + 1, none⟩ (.int .i64 (k + 1))).cell? ⟨b, j * 4 + 2, none⟩ = some y2 := by
        rw [cell_of_block hblk2, Array.getElem?_setIfInBounds_ne (by omega), Array.getElem?_setIfInBounds_ne (by omega)]; exact hx2
      have z3 : ((wr.setCell ⟨b, j * 4, none⟩ (.int .i64 k)).setCell ⟨b, j * 4 + 1, none⟩ (.int .i64 (k + 1))).cell? ⟨b, j * 4 + 3, none⟩ = some (.slice ka y.kids.length kc) := by
        rw [cell_of_block hblk2, Array.getElem?_setIfInBounds_ne (by omega), Array.getElem?_setIfInBounds_ne (by omega)]; exact h3
      have hs2 : ((wr.setCell ⟨b, j * 4, none⟩ (.int .i64 k)).setCell ⟨b, j * 4 + 1, none⟩ (.int .i64 (k + 1))).heap.size = wr.heap.size := by simp
      have HX := (show Hid (_ ∧ _ ∧ _ ∧ _ ∧ _ ∧ _ ∧ _ ∧ _ ∧ _) from ⟨M2, hblk2, z2, z3, hk, hb, hkk, hcy, hmr⟩)
      clear M2 hblk2 z2 z3 hk hb hkk hcy hmr hc h3 hs hblk HS he hct x2 x3 hx2
      go_wp2_with fail
      refine (markText_any _ _ (by omega)).mono ?_
      rintro e w1 ⟨rfl, b1⟩
      have hbl1 : w1.heap[b]? = _ := (b1.block b (by rw [hs2]; exact hbl)).trans HX.out.2.1
      have u2 : w1.cell? ⟨b, j * 4 + 2, none⟩ = some y2 := (b1.cell (p := ⟨b, j * 4 + 2, none⟩) (by rw [hs2]; exact hbl)).trans HX.out.2.2.1
      have u3 : w1.cell? ⟨b, j * 4 + 3, none⟩ = some (.slice ka y.kids.length kc) := (b1.cell (p := ⟨b, j * 4 + 3, none⟩) (by rw [hs2]; exact hbl)).trans HX.out.2.2.2.1
      have f2 : w1.frozen? ⟨b, j * 4 + 2, none⟩ = false := unfrozen_of_block hbl1 _
      have M4 : Mkd lo hi wr (w1.setCell ⟨b, j * 4 + 2, none⟩ (.string (markT (k + 1 + 1)))) := (HX.out.1.trans (Mkd.of_below b1)).trans (Mkd.set hbl1 HX.out.2.2.2.2.2.1.1 HX.out.2.2.2.2.2.1.2 (by omega) _)
      have hrec := HE.out _ y.kids (k + 1 + 1 + 1) _ (HX.out.2.2.2.2.1.mkd M4) (by omega) (by omega) (by have := HX.out.2.2.2.2.2.2.1; have := HX.out.2.2.2.2.2.2.2.1; omega)
      have HY := (show Hid (_ ∧ _) from ⟨hrec, M4⟩)
      clear hrec M4 b1 hbl1 HE x0 x1 f0 f1
      go_wp2_with fail
      refine HY.out.1.mono ?_
      rintro e w5 ⟨rfl, hm5⟩
      have M5 : Mkd lo hi w w5 := HX.out.2.2.2.2.2.2.2.2.out.trans (HY.out.2.trans hm5)
      have hfin : k + 1 + 1 + 1 + 3 * (Ex.countL y.kids : Int) = k0 + 3 * (Ex.countL (es.take (j + 1)) : Int) := by
        have := HX.out.2.2.2.2.2.2.1; have := HX.out.2.2.2.2.2.2.2.1; omega
      have HZ := (show Hid (_ ∧ _) from ⟨M5, hfin⟩)
      clear M5 hm5 hfin
      go_wp2
      exact ⟨⟨j + 1, by omega, by go_num, int_eqp HZ.out.2, HZ.out.1⟩, by simp [intOf]; omega⟩
    · obtain rfl : j = es.length := by omega
      rw [List.take_length]
      go_wp2
      go_ret
      exact ⟨rfl, hmr.out⟩
theorem markExpS_any (lo hi : Nat) : ∀ d, MarkES lo hi d
  | 0 => fun _ _ _ _ h => h.elim
  | d + 1 => markExpS_of lo hi d (markExpS_any lo hi d)

set_option maxHeartbeats 3200000 in
theorem markStringS_any (lo hi : Nat) (v : Value) (ts : List ByteArray) (k0 : Int) (w : World) (h : StrsAt w (fun b => lo ≤ b ∧ b < hi ∧ Pl w b) v ts) (hl : ts.length ≤ 10000000) (hk0 : 0 ≤ k0) (hk1 : k0 ≤ 10000000) :
    Calls Try.prog 65 #[v, .int .i64 k0] w fun e w' => e = .returned (.int .i64 (k0 + ts.length)) ∧ Outs lo hi w w' := by
  obtain ⟨a, cap, rfl, _, hc⟩ := h
  by_cases hz : ts.length = 0
  · obtain rfl : ts = [] := List.eq_nil_of_length_eq_zero hz
    clear hc
    go_enter Try.func65, Try.ntmps65
    go_wp2
    refine wp_loop_rounds 1 ?_
    rw [rounds_succ]
    go_wp2
    go_ret
    exact ⟨int_ret (by simp), Outs.refl _ _ _⟩
  obtain ⟨b, off, rfl, ⟨hb1, hb2, cs, ty, hblk⟩, _⟩ := hc 0 ts[0] (List.getElem?_eq_getElem (by omega))
  have hsz : ∀ j, j < ts.length → off + j < cs.size := fun j hj => by
    obtain ⟨b', off', hab, _, _, hcell, _⟩ := hc j ts[j] (List.getElem?_eq_getElem hj)
    obtain ⟨rfl, rfl⟩ : b = b' ∧ off = off' := by simpa using hab
    rw [cell_of_block hblk] at hcell
    exact (Array.getElem?_eq_some_iff.1 hcell).1
  have HB : Hid (w.heap[b]? = some (Obj.cells cs ty (0, 0))) := hblk
  have HZ := (show Hid (_ ∧ True) from ⟨hsz, trivial⟩)
  clear hblk hsz hc
  go_enter Try.func65, Try.ntmps65
  go_wp2
  go_loopw [1, 5] (fun kv i wr => ∃ j : Nat, j ≤ ts.length ∧ i = .int .i64 j ∧ kv = .int .i64 (k0 + j) ∧ Hid (∃ cur, wr.heap[b]? = some (Obj.cells cur ty (0, 0)) ∧ cur.size = cs.size) ∧ Hid (Outs lo hi w wr)) (fun _ i _ => ts.length - (intOf i).toNat)
  case atStart => exact ⟨0, Nat.zero_le _, rfl, by simp, ⟨cs, HB.out, rfl⟩, Outs.refl _ _ _⟩
  case round =>
    obtain ⟨j, hj, rfl, rfl, ⟨cur, hcur, hcs⟩, hmr⟩ := hrel
    by_cases hlt : j < ts.length
    · have hlt' : ((j : Nat) : Int) < ((ts.length : Nat) : Int) := by omega
      have hin : off + j < cur.size := by have := HZ.out.1 j hlt; omega
      have HC : Hid (wr.heap[b]? = some (Obj.cells cur ty (0, 0)) ∧ cur.size = cs.size) := ⟨hcur, hcs⟩
      have hbl := (Array.getElem?_eq_some_iff.1 hcur).1
      clear hcur hcs
      go_wp2_with fail
      refine (markText_any _ _ (by omega)).mono ?_
      rintro e w1 ⟨rfl, b1⟩
      have hbl1 : w1.heap[b]? = some (Obj.cells cur ty (0, 0)) := (b1.block b hbl).trans HC.out.1
      have x0 : w1.cell? ⟨b, off + j, none⟩ = some (cur[off + j]'hin) := by rw [cell_of_block hbl1]; exact Array.getElem?_eq_getElem _
      generalize cur[off + j]'hin = y0 at x0
      have f0 : w1.frozen? ⟨b, off + j, none⟩ = false := unfrozen_of_block hbl1 _
      have M2 : Outs lo hi w (w1.setCell ⟨b, off + j, none⟩ (.string (markT (k0 + j)))) := (hmr.out.trans (Outs.of_below b1)).trans (Outs.set _ _ _ hb1 hb2 _)
      have HM := (show Hid (_ ∧ _) from ⟨M2, hbl1⟩)
      clear M2 hbl1 b1 hmr
      go_wp2
      refine ⟨⟨j + 1, by omega, by go_num, int_eqp (by omega), ⟨_, block_setCell HM.out.2 _, by simp only [Array.size_setIfInBounds]; exact HC.out.2⟩, HM.out.1⟩, by simp [intOf]; omega⟩
    · obtain rfl : j = ts.length := by omega
      clear hcur hcs
      go_wp2
      go_ret
      exact ⟨rfl, hmr.out⟩

set_option maxHeartbeats 1600000 in
theorem markProgram_any (lo mid hi d : Nat) (nv bv : Value) (p : Pr) (w : World) (hn : StrsAt w (fun b => lo ≤ b ∧ b < mid ∧ Pl w b) nv p.names) (hs : Sk w (fun b => mid ≤ b ∧ b < hi) d bv p.bodies) (h1 : lo ≤ mid) (h2 : mid ≤ hi) (h3 : hi ≤ w.heap.size) (hb : p.bulk ≤ 1048576) :
    Calls Try.prog 21 #[.agg #[nv, bv], .int .i64 1] w fun e w' => ∃ k : Int, 0 ≤ k ∧ e = .returned (.int .i64 k) ∧ Outs lo hi w w' := by
  obtain ⟨a1, c1, rfl⟩ := hn.form
  obtain ⟨a2, c2, rfl⟩ := hs.form
  have hbk : p.bulk = bulkS p.names + Ex.bulkL p.bodies := rfl
  have hnl := bulkS_len p.names
  have hcl := Ex.countL_bulk p.bodies
  have hll := countL_len p.bodies
  have B0 : Below w.heap.size w (w.alloc (.cells #[.slice a1 p.names.length c1, .slice a2 p.bodies.length c2] 53)) := (Below.refl _ w).alloc (Nat.le_refl _) _
  have O0 : (w.alloc (.cells #[.slice a1 p.names.length c1, .slice a2 p.bodies.length c2] 53)).heap[w.heap.size]? = some (.cells #[.slice a1 p.names.length c1, .slice a2 p.bodies.length c2] 53 (0, 0)) := (MapKept.heap_alloc w _).1
  have hs0 : (w.alloc (.cells #[.slice a1 p.names.length c1, .slice a2 p.bodies.length c2] 53)).heap.size = w.heap.size + 1 := by simp
  have hm := markStringS_any lo mid _ p.names 1 _ (hn.kept (fun b _ hlt => B0.block b hlt) B0.size (fun b h _ => ⟨h.1, h.2.1, h.2.2.below B0⟩)) (by omega) (by omega) (by omega)
  have HM := (show Hid (_ ∧ _ ∧ _ ∧ _) from ⟨hm, B0, O0, hs⟩)
  clear hm B0 O0 hn hs
  go_enter Try.func21, Try.ntmps21
  go_wp2_with fail
  refine HM.out.1.mono ?_
  rintro e w1 ⟨rfl, m1⟩
  have O1 : w1.heap[w.heap.size]? = some (.cells #[.slice a1 p.names.length c1, .slice a2 p.bodies.length c2] 53 (0, 0)) := (m1.out _ (by rw [hs0]; omega) (by omega)).trans HM.out.2.2.1
  have y1 : w1.cell? ⟨w.heap.size, 1, none⟩ = some (.slice a2 p.bodies.length c2) := by rw [cell_of_block O1]; rfl
  have S1 : Sk w1 (fun b => mid ≤ b ∧ b < hi) d (.slice a2 p.bodies.length c2) p.bodies := (HM.out.2.2.2.below HM.out.2.1).kept (fun b hb hlt => m1.out b hlt (.inr hb.1)) (fun _ h _ => h)
  have hm2 := markExpS_any mid hi d _ p.bodies (1 + (p.names.length : Int)) w1 S1 (by omega) (by omega) (by omega)
  have M1 : Outs lo hi w w1 := (Outs.of_below HM.out.2.1).trans (m1.wide (Nat.le_refl _) h2)
  have H1 := (show Hid (_ ∧ _) from ⟨hm2, M1⟩)
  clear hm2 M1 m1 S1 O1 HM
  go_wp2_with fail
  refine H1.out.1.mono ?_
  rintro e w2 ⟨rfl, m2⟩
  have M2 : Outs lo hi w w2 := H1.out.2.trans (m2.outs.wide h1 (Nat.le_refl _))
  clear m2 H1
  go_wp2
  go_ret
  exact ⟨_, by omega, rfl, M2⟩
end Go.Proofs.Ytdadppjncdkpiaa
