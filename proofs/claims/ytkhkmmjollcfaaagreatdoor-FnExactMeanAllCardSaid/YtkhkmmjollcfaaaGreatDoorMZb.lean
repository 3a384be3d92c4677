/-
  The laws' measure of an expression.
  The laws' copy of an expression: the same one, in new memory.
-/
import Derived.Test.YtkhkmmjollcfaaaGreatDoorMB
import Derived.RegionTactic
import Derived.OwnWalk
namespace Go.Proofs.YtkhkmmjollcfaaaGreatDoor
open Go.RowKit Go.Joins

set_option maxRecDepth 100000

def preB (es : List Ex) (k : Nat) : Nat := ((es.take k).map Ex.bulk).sum
theorem preB_succ {es : List Ex} {k : Nat} {e : Ex} (h : es[k]? = some e) : preB es (k + 1) = preB es k + e.bulk := by
  unfold preB
  have hk := (List.getElem?_eq_some_iff.1 h).1
  rw [List.take_succ_eq_append_getElem hk, List.map_append, List.sum_append]
  rw [(List.getElem?_eq_some_iff.1 h).2]
  simp
theorem bulkL_pre : ∀ es : List Ex, Ex.bulkL es = es.length + preB es es.length
  | [] => rfl
  | e :: r => by
    have := bulkL_pre r
    unfold preB at *
    rw [List.take_length] at *
    rw [Ex.bulkL, this, List.map_cons, List.sum_cons, List.length_cons]
    omega
theorem preB_le (es : List Ex) (k : Nat) : preB es k ≤ preB es es.length := by
  unfold preB
  rw [List.take_length]
  conv => rhs; rw [← List.take_append_drop k es, List.map_append, List.sum_append]
  omega

set_option maxHeartbeats 3200000 in
theorem szExp_of (d : Nat) (hS : ∀ (v : Value) (es : List Ex) (S : Nat → Prop) (w : World) (left : Int), KidsAt w S d v es → 0 ≤ left → left ≤ 1048576 →
      Calls Tryz.prog 17 #[v, .int .i64 left] w fun e w' => e = .returned (.int .i64 (szR left (Ex.bulkL es))) ∧ Below w.heap.size w w')
    (v : Value) (x : Ex) (S : Nat → Prop) (w : World) (left : Int) (h : ExAt w S d v x) (h0 : 0 ≤ left) (h1 : left ≤ 1048576) :
    Calls Tryz.prog 31 #[v, .int .i64 left] w fun e w' => e = .returned (.int .i64 (szR left x.bulk)) ∧ Below w.heap.size w w' := by
  obtain ⟨kv, rfl, r1, r2, r3, hk⟩ := h
  unfold maxLen at r3
  rw [Ex.bulk_eq]
  by_cases hlt : left - (x.text.size : Int) < 0
  · clear hk hS
    go_enter Tryz.func31, Tryz.ntmps31
    go_wp2
    go_ret
    exact ⟨int_ret (by unfold szR; rw [if_neg (by omega)]), (Below.refl _ w).alloc (Nat.le_refl _) _⟩
  · obtain ⟨a, cap, rfl⟩ := hk.form
    have hk1 := hk.below ((Below.refl _ w).alloc (Nat.le_refl _) (.cells #[.int .i64 x.kind, .int .i64 x.n, .string x.text, .slice a x.kids.length cap] 54))
    have HK : Hid (KidsAt (w.alloc (.cells #[.int .i64 x.kind, .int .i64 x.n, .string x.text, .slice a x.kids.length cap] 54)) S d (.slice a x.kids.length cap) x.kids) := hk1
    clear hk hk1
    go_enter Tryz.func31, Tryz.ntmps31
    go_wp2_with fail
    refine (hS _ x.kids S _ _ HK.out (by omega) (by omega)).mono ?_
    rintro e w1 ⟨rfl, b1⟩
    have b2 : Below w.heap.size w w1 := ((Below.refl _ w).alloc (Nat.le_refl _) _).trans (b1.mono (by simp))
    clear b1 hS HK
    have hbd : -1 ≤ szR (left - (x.text.size : Int)) (Ex.bulkL x.kids) ∧ szR (left - (x.text.size : Int)) (Ex.bulkL x.kids) ≤ 1048576 := by unfold szR; split <;> omega
    have heq : szR left (x.text.size + Ex.bulkL x.kids) = szR (left - (x.text.size : Int)) (Ex.bulkL x.kids) := by unfold szR; split <;> split <;> omega
    generalize szR (left - (x.text.size : Int)) (Ex.bulkL x.kids) = r at *
    by_cases hr : r < 0
    · go_wp2
      go_ret
      exact ⟨int_ret (by omega), b2⟩
    · go_wp2
      go_ret
      exact ⟨int_ret (by omega), b2⟩

set_option maxHeartbeats 6400000 in
theorem szExpS_of (d : Nat) (hE : ∀ (v : Value) (x : Ex) (S : Nat → Prop) (w : World) (left : Int), ExAt w S d v x → 0 ≤ left → left ≤ 1048576 →
      Calls Tryz.prog 31 #[v, .int .i64 left] w fun e w' => e = .returned (.int .i64 (szR left x.bulk)) ∧ Below w.heap.size w w')
    (v : Value) (es : List Ex) (S : Nat → Prop) (w : World) (left : Int) (h : KidsAt w S (d + 1) v es) (h0 : 0 ≤ left) (h1 : left ≤ 1048576) :
    Calls Tryz.prog 17 #[v, .int .i64 left] w fun e w' => e = .returned (.int .i64 (szR left (Ex.bulkL es))) ∧ Below w.heap.size w w' := by
  have hB := bulkL_pre es
  have hP := preB_le es
  obtain ⟨a, cap, rfl, hl, hc⟩ := h
  unfold maxLen at hl
  by_cases hlt : left - (es.length : Int) < 0
  · clear hc hE
    go_enter Tryz.func17, Tryz.ntmps17
    go_wp2
    go_ret
    exact ⟨int_ret (by unfold szR; rw [if_neg (by omega)]), Below.refl _ w⟩
  · have HE := (show Hid (_ ∧ True) from ⟨hE, trivial⟩)
    have HC := (show Hid (_ ∧ True) from ⟨hc, trivial⟩)
    clear hE hc
    go_enter Tryz.func17, Tryz.ntmps17
    go_wp2
    go_loopw [1, 5] (fun lv i wr => ∃ k : Nat, k ≤ es.length ∧ i = .int .i64 k ∧ (preB es k : Int) ≤ left - (es.length : Int) ∧ lv = .int .i64 (left - (es.length : Int) - preB es k) ∧ Below w.heap.size w wr) (fun _ i _ => es.length - (intOf i).toNat)
    case atStart => exact ⟨0, Nat.zero_le _, rfl, by simp [preB]; omega, by simp [preB], Below.refl _ _⟩
    case round =>
      obtain ⟨k, hk, rfl, hle, rfl, hbw⟩ := hrel
      by_cases hkl : k < es.length
      · have he := List.getElem?_eq_getElem hkl
        have hps := preB_succ he
        generalize es[k] = x at *
        obtain ⟨b, off, kv, rfl, hSb, hlt2, c0, c1, c2, c3, r1, r2, r3, hkk⟩ := HC.out.1 k x he
        rw [← hbw.cell (by exact hlt2)] at c0 c1 c2 c3
        have HX : Hid (ExAt wr S d (.agg #[.int .i64 x.kind, .int .i64 x.n, .string x.text, kv]) x) := ⟨kv, rfl, r1, r2, r3, hkk.below hbw⟩
        obtain ⟨ka, kc, rfl⟩ := hkk.form
        clear hkk he HC
        have hlt' : ((k : Nat) : Int) < ((es.length : Nat) : Int) := by omega
        go_wp2_with fail
        refine (HE.out.1 _ x S _ _ HX.out (by omega) (by omega)).mono ?_
        rintro e w1 ⟨rfl, b1⟩
        have b2 : Below w.heap.size w w1 := hbw.trans (b1.mono hbw.size)
        clear b1 HX c0 c1 c2 c3
        have hbd : -1 ≤ szR (left - (es.length : Int) - preB es k) x.bulk ∧ szR (left - (es.length : Int) - preB es k) x.bulk ≤ 1048576 := by unfold szR; split <;> omega
        have hpk := hP (k + 1)
        by_cases hok : (x.bulk : Int) ≤ left - (es.length : Int) - preB es k
        · have hr : szR (left - (es.length : Int) - preB es k) x.bulk = left - (es.length : Int) - preB es (k + 1) := by unfold szR; rw [if_pos hok]; omega
          rw [hr]
          have hr0 : ¬ left - (es.length : Int) - preB es (k + 1) < 0 := by omega
          clear hbd
          go_wp2
          refine ⟨⟨k + 1, by omega, by go_num, by omega, int_val (by omega), b2⟩, by simp [intOf]; omega⟩
        · have hr : szR (left - (es.length : Int) - preB es k) x.bulk = -1 := by unfold szR; rw [if_neg hok]
          rw [hr]
          clear hbd
          go_wp2
          go_ret
          exact ⟨int_ret (by unfold szR; rw [if_neg (by omega)]), b2⟩
      · obtain rfl : k = es.length := by omega
        go_wp2
        go_ret
        exact ⟨int_ret (by unfold szR; rw [if_pos (by omega)]; omega), hbw⟩

theorem szExpS_any : ∀ (d : Nat) (v : Value) (es : List Ex) (S : Nat → Prop) (w : World) (left : Int), KidsAt w S d v es → 0 ≤ left → left ≤ 1048576 →
      Calls Tryz.prog 17 #[v, .int .i64 left] w fun e w' => e = .returned (.int .i64 (szR left (Ex.bulkL es))) ∧ Below w.heap.size w w'
  | 0, _, _, _, _, _, h, _, _ => h.elim
  | d + 1, v, es, S, w, left, h, h0, h1 => szExpS_of d (szExp_of d (szExpS_any d)) v es S w left h h0 h1
theorem szExp_any (d : Nat) (v : Value) (x : Ex) (S : Nat → Prop) (w : World) (left : Int) (h : ExAt w S d v x) (h0 : 0 ≤ left) (h1 : left ≤ 1048576) :
    Calls Tryz.prog 31 #[v, .int .i64 left] w fun e w' => e = .returned (.int .i64 (szR left x.bulk)) ∧ Below w.heap.size w w' :=
  szExp_of d (szExpS_any d) v x S w left h h0 h1
end Go.Proofs.YtkhkmmjollcfaaaGreatDoor

namespace Go.Proofs.YtkhkmmjollcfaaaGreatDoor
open Go.RowKit Go.Joins

set_option maxRecDepth 100000

theorem infoExp : (Tryz.prog.info? 58).map (fun i => (i.zero, i.size, i.bytes)) = some (some (.agg #[.int .i64 0, .int .i64 0, .string ⟨#[]⟩, .slice none 0 0]), 4, 56) := by kernel_rfl

theorem make_exps (n : Nat) (hn : n ≤ 1048576) (w : World) : (Instr.makeSlice 29 (.int .i64 (n : Int)) (.int .i64 (n : Int))).run Tryz.prog w = .ok (.slice (some ⟨w.heap.size, 0, none⟩) n n) (w.alloc (.cells (madeCells #[.int .i64 0, .int .i64 0, .string ⟨#[]⟩, .slice none 0 0] (n * 4)) 58)) := by
  obtain ⟨i0, hi, hz0, hz1, hz2⟩ := info_parts infoExp
  have h := run_make (P := Tryz.prog) w 29 58 i0 _ Tryz.underlying29 hi hz0 .i64 .i64 (n : Int) (n : Int) (by omega) (by omega) (by rw [hz2]; omega) (by omega)
  rw [h, hz1]
  rfl

/-- How the rows of expressions lie, whatever stands in them: each from its block's beginning on, in blocks of S. -/
def Sk (w : World) (S : Nat → Prop) : Nat → Value → List Ex → Prop
  | 0, _, _ => False
  | d + 1, v, es => ∃ a cap, v = .slice a es.length cap ∧ ∀ i e, es[i]? = some e → ∃ b kv cs, a = some ⟨b, 0, none⟩ ∧ S b ∧ w.heap[b]? = some (.cells cs 58 (0, 0)) ∧ i * 4 + 4 ≤ cs.size ∧ cs[i * 4 + 3]? = some kv ∧ Sk w S d kv e.kids
theorem Sk.kept {w w' : World} {S S' : Nat → Prop} (hw : ∀ b, S b → b < w.heap.size → w'.heap[b]? = w.heap[b]?) (hS : ∀ b, S b → b < w.heap.size → S' b) : ∀ {d : Nat} {v : Value} {es : List Ex}, Sk w S d v es → Sk w' S' d v es
  | 0, _, _, h => h.elim
  | d + 1, v, es, ⟨a, cap, hv, hc⟩ => by
    refine ⟨a, cap, hv, fun i e he => ?_⟩
    obtain ⟨b, kv, cs, ha, hb, hblk, hs, h3, hk⟩ := hc i e he
    have hlt := (Array.getElem?_eq_some_iff.1 hblk).1
    exact ⟨b, kv, cs, ha, hS b hb hlt, (hw b hb hlt).trans hblk, hs, h3, Sk.kept hw hS hk⟩
theorem Sk.below {w w' : World} {S : Nat → Prop} {d : Nat} {v : Value} {es : List Ex} (h : Sk w S d v es) (hb : Below w.heap.size w w') : Sk w' S d v es := h.kept (fun b _ hlt => hb.block b hlt) (fun _ h _ => h)
theorem Sk.wide {w : World} {S S' : Nat → Prop} {d : Nat} {v : Value} {es : List Ex} (h : Sk w S d v es) (hS : ∀ b, S b → b < w.heap.size → S' b) : Sk w S' d v es := h.kept (fun _ _ _ => rfl) hS

def ToExpSK (d : Nat) : Prop := ∀ (v : Value) (es : List Ex) (S : Nat → Prop) (w : World), KidsAt w S d v es → Ex.bulkL es ≤ 1048576 →
  Calls Tryz.prog 23 #[v] w fun e w' => ∃ v', e = .returned v' ∧ KidsAt w' (fun b => w.heap.size ≤ b ∧ Pl w' b) d v' es ∧ Below w.heap.size w w' ∧ Sk w' (fun b => w.heap.size ≤ b) d v' es
def ToExpK (d : Nat) : Prop := ∀ (v : Value) (x : Ex) (S : Nat → Prop) (w : World), ExAt w S d v x → x.bulk ≤ 1048576 →
  Calls Tryz.prog 35 #[v] w fun e w' => ∃ kv, e = .returned (.agg #[.int .i64 x.kind, .int .i64 x.n, .string x.text, kv]) ∧ ExAt w' (fun b => w.heap.size ≤ b ∧ Pl w' b) d (.agg #[.int .i64 x.kind, .int .i64 x.n, .string x.text, kv]) x ∧ Below w.heap.size w w' ∧ Sk w' (fun b => w.heap.size ≤ b) d kv x.kids
def ToExpS (d : Nat) : Prop := ∀ (v : Value) (es : List Ex) (S : Nat → Prop) (w : World), KidsAt w S d v es → Ex.bulkL es ≤ 1048576 →
  Calls Tryz.prog 23 #[v] w fun e w' => ∃ v', e = .returned v' ∧ KidsAt w' (fun b => w.heap.size ≤ b ∧ Pl w' b) d v' es ∧ Below w.heap.size w w'
def ToExp (d : Nat) : Prop := ∀ (v : Value) (x : Ex) (S : Nat → Prop) (w : World), ExAt w S d v x → x.bulk ≤ 1048576 →
  Calls Tryz.prog 35 #[v] w fun e w' => ∃ v', e = .returned v' ∧ ExAt w' (fun b => w.heap.size ≤ b ∧ Pl w' b) d v' x ∧ Below w.heap.size w w'

set_option maxHeartbeats 3200000 in
theorem toExp_of (d : Nat) (hS : ToExpSK d) : ToExpK d := by
  intro v x S w h hb
  obtain ⟨kv, rfl, r1, r2, r3, hk⟩ := h
  obtain ⟨a, cap, rfl⟩ := hk.form
  have hbe := Ex.bulk_eq x
  have HK : Hid (KidsAt w S d (.slice a x.kids.length cap) x.kids) := hk
  have HS : Hid (ToExpSK d) := hS
  have HR : Hid (inI64 x.kind ∧ inI64 x.n ∧ x.text.size ≤ maxLen) := ⟨r1, r2, r3⟩
  clear hk hS r1 r2
  unfold maxLen at r3
  go_enter Tryz.func35, Tryz.ntmps35
  go_wp2_with fail
  have HB0 : Below w.heap.size w (((w.alloc (.cells #[.int .i64 x.kind, .int .i64 x.n, .string x.text, .slice a x.kids.length cap] 54)).alloc (.cells #[.int .i64 0, .int .i64 0, .string ⟨#[]⟩, .slice none 0 0] 58)).alloc (.cells #[.int .i64 x.kind, .int .i64 x.n, .string x.text, .slice none 0 0] 58)) :=
    (((Below.refl _ w).alloc (Nat.le_refl _) _).alloc (by simp) _).alloc (by simp; omega) _
  refine (HS.out _ x.kids S _ (HK.out.below HB0) (by omega)).mono ?_
  rintro e w1 ⟨kv, rfl, k1, b1, s1⟩
  have hsz : (((w.alloc (.cells #[.int .i64 x.kind, .int .i64 x.n, .string x.text, .slice a x.kids.length cap] 54)).alloc (.cells #[.int .i64 0, .int .i64 0, .string ⟨#[]⟩, .slice none 0 0] 58)).alloc (.cells #[.int .i64 x.kind, .int .i64 x.n, .string x.text, .slice none 0 0] 58)).heap.size = w.heap.size + 3 := by simp
  have o2 : w1.heap[w.heap.size + 1 + 1]? = some (.cells #[.int .i64 x.kind, .int .i64 x.n, .string x.text, .slice none 0 0] 58) := by
    rw [b1.block _ (by rw [hsz]; omega)]
    have := (MapKept.heap_alloc ((w.alloc (.cells #[.int .i64 x.kind, .int .i64 x.n, .string x.text, .slice a x.kids.length cap] 54)).alloc (.cells #[.int .i64 0, .int .i64 0, .string ⟨#[]⟩, .slice none 0 0] 58)) (.cells #[.int .i64 x.kind, .int .i64 x.n, .string x.text, .slice none 0 0] 58)).1
    simpa using this
  have o1 : w1.heap[w.heap.size + 1]? = some (.cells #[.int .i64 0, .int .i64 0, .string ⟨#[]⟩, .slice none 0 0] 58) := by
    rw [b1.block _ (by rw [hsz]; omega), Below.heap_alloc _ _ _ (by simp)]
    have := (MapKept.heap_alloc (w.alloc (.cells #[.int .i64 x.kind, .int .i64 x.n, .string x.text, .slice a x.kids.length cap] 54)) (.cells #[.int .i64 0, .int .i64 0, .string ⟨#[]⟩, .slice none 0 0] 58)).1
    simpa using this
  rw [hsz] at k1 b1 s1
  have hs1 : w.heap.size + 3 ≤ w1.heap.size := by have := b1.size; rw [hsz] at this; exact this
  have B1 : Below w.heap.size w w1 := HB0.trans (b1.mono (by omega))
  clear HB0 b1 hsz HK HS
  obtain ⟨ka, kc, rfl⟩ := k1.form
  have K1 : Hid (KidsAt w1 (fun b => w.heap.size + 3 ≤ b ∧ Pl w1 b) d (.slice ka x.kids.length kc) x.kids) := k1
  have S1 : Hid (Sk w1 (fun b => w.heap.size + 3 ≤ b) d (.slice ka x.kids.length kc) x.kids) := s1
  clear k1 s1
  have c20 : w1.cell? ⟨w.heap.size + 1 + 1, 0, none⟩ = some (.int .i64 x.kind) := by rw [cell_of_block o2]; rfl
  have c21 : w1.cell? ⟨w.heap.size + 1 + 1, 1, none⟩ = some (.int .i64 x.n) := by rw [cell_of_block o2]; rfl
  have c22 : w1.cell? ⟨w.heap.size + 1 + 1, 2, none⟩ = some (.string x.text) := by rw [cell_of_block o2]; rfl
  have c23 : w1.cell? ⟨w.heap.size + 1 + 1, 3, none⟩ = some (.slice none 0 0) := by rw [cell_of_block o2]; rfl
  have f23 : w1.frozen? ⟨w.heap.size + 1 + 1, 3, none⟩ = false := unfrozen_of_block o2 3
  have c10 : w1.cell? ⟨w.heap.size + 1, 0, none⟩ = some (.int .i64 0) := by rw [cell_of_block o1]; rfl
  have c11 : w1.cell? ⟨w.heap.size + 1, 1, none⟩ = some (.int .i64 0) := by rw [cell_of_block o1]; rfl
  have c12 : w1.cell? ⟨w.heap.size + 1, 2, none⟩ = some (.string ⟨#[]⟩) := by rw [cell_of_block o1]; rfl
  have c13 : w1.cell? ⟨w.heap.size + 1, 3, none⟩ = some (.slice none 0 0) := by rw [cell_of_block o1]; rfl
  have f10 : w1.frozen? ⟨w.heap.size + 1, 0, none⟩ = false := unfrozen_of_block o1 0
  have f11 : w1.frozen? ⟨w.heap.size + 1, 1, none⟩ = false := unfrozen_of_block o1 1
  have f12 : w1.frozen? ⟨w.heap.size + 1, 2, none⟩ = false := unfrozen_of_block o1 2
  have f13 : w1.frozen? ⟨w.heap.size + 1, 3, none⟩ = false := unfrozen_of_block o1 3
  clear o1 o2
  go_wp2
  have he : ∀ b, w.heap.size + 3 ≤ b → (((((w1.setCell ⟨w.heap.size + 1 + 1, 3, none⟩ (.slice ka x.kids.length kc)).setCell ⟨w.heap.size + 1, 0, none⟩ (.int .i64 x.kind)).setCell ⟨w.heap.size + 1, 1, none⟩ (.int .i64 x.n)).setCell ⟨w.heap.size + 1, 2, none⟩ (.string x.text)).setCell ⟨w.heap.size + 1, 3, none⟩ (.slice ka x.kids.length kc)).heap[b]? = w1.heap[b]? := by
    intro b hb1
    have e1 : ∀ (j : Nat) (u : Value) (W : World), (W.setCell ⟨w.heap.size + 1, j, none⟩ u).heap[b]? = W.heap[b]? := fun j u W => Below.heap_setCell W _ u b (by simp; omega)
    have e2 : ∀ (j : Nat) (u : Value) (W : World), (W.setCell ⟨w.heap.size + 1 + 1, j, none⟩ u).heap[b]? = W.heap[b]? := fun j u W => Below.heap_setCell W _ u b (by simp; omega)
    rw [e1, e1, e1, e1, e2]
  refine bodyPost_ret (v := .agg #[.int .i64 x.kind, .int .i64 x.n, .string x.text, .slice ka x.kids.length kc]) (by simp [results, Tryz.results35, go_sem, c10, c11, c12, c13]) rfl ⟨_, rfl, ⟨_, rfl, HR.out.1, HR.out.2.1, HR.out.2.2, ?_⟩, ?_, ?_⟩
  · exact K1.out.kept (fun b hb1 hb2 => he b hb1.1) (by simp) (fun b hb1 _ => ⟨by omega, hb1.2.of (he b hb1.1)⟩)
  · exact ((((B1.setCell (p := ⟨w.heap.size + 1 + 1, 3, none⟩) (by simp; omega) _).setCell (p := ⟨w.heap.size + 1, 0, none⟩) (by simp) _).setCell (p := ⟨w.heap.size + 1, 1, none⟩) (by simp) _).setCell (p := ⟨w.heap.size + 1, 2, none⟩) (by simp) _).setCell (p := ⟨w.heap.size + 1, 3, none⟩) (by simp) _
  · exact S1.out.kept (fun b hb1 _ => he b hb1) (fun b hb1 _ => by omega)

/-- A row under way: its first k expressions lie there. -/
def RowTo (w : World) (g n d k : Nat) (es : List Ex) : Prop :=
  ∃ cur, w.heap[g]? = some (.cells cur 58 (0, 0)) ∧ cur.size = n * 4 ∧ ∀ i e, i < k → es[i]? = some e → ∃ kv, cur[i * 4]? = some (.int .i64 e.kind) ∧ cur[i * 4 + 1]? = some (.int .i64 e.n) ∧ cur[i * 4 + 2]? = some (.string e.text) ∧ cur[i * 4 + 3]? = some kv ∧
    inI64 e.kind ∧ inI64 e.n ∧ e.text.size ≤ maxLen ∧ KidsAt w (fun b => g < b ∧ Pl w b) d kv e.kids ∧ Sk w (fun b => g < b) d kv e.kids

theorem RowTo.next {wr w1 : World} {g n d k : Nat} {es : List Ex} {x : Ex} {kv : Value} {cur : Array Value} (hg : w1.heap[g]? = some (.cells cur 58 (0, 0))) (hcs : cur.size = n * 4) (hkn : k < n) (hb : Below wr.heap.size wr w1) (hgl : g < wr.heap.size)
    (hcur : ∀ i e, i < k → es[i]? = some e → ∃ kv, cur[i * 4]? = some (.int .i64 e.kind) ∧ cur[i * 4 + 1]? = some (.int .i64 e.n) ∧ cur[i * 4 + 2]? = some (.string e.text) ∧ cur[i * 4 + 3]? = some kv ∧ inI64 e.kind ∧ inI64 e.n ∧ e.text.size ≤ maxLen ∧ KidsAt wr (fun b => g < b ∧ Pl wr b) d kv e.kids ∧ Sk wr (fun b => g < b) d kv e.kids)
    (hx : es[k]? = some x) (hr : inI64 x.kind ∧ inI64 x.n ∧ x.text.size ≤ maxLen) (hk : KidsAt w1 (fun b => wr.heap.size ≤ b ∧ Pl w1 b) d kv x.kids) (hsk : Sk w1 (fun b => wr.heap.size ≤ b) d kv x.kids) :
    RowTo (set4 w1 g (k * 4) (.int .i64 x.kind) (.int .i64 x.n) (.string x.text) kv) g n d (k + 1) es := by
  refine ⟨_, block_setCell (block_setCell (block_setCell (block_setCell hg _) _) _) _, by simp [hcs], fun i e hi he => ?_⟩
  have hsz : w1.heap.size ≤ (set4 w1 g (k * 4) (.int .i64 x.kind) (.int .i64 x.n) (.string x.text) kv).heap.size := by simp [set4]
  by_cases hik : i < k
  · obtain ⟨kv', q0, q1, q2, q3, q4, q5, q6, q7, q8⟩ := hcur i e hik he
    have hee : ∀ b, g < b → b < wr.heap.size → (set4 w1 g (k * 4) (.int .i64 x.kind) (.int .i64 x.n) (.string x.text) kv).heap[b]? = wr.heap[b]? := fun b hb1 hb2 => by
      rw [set4_heap _ _ _ _ _ _ _ _ (by omega)]; exact hb.block b hb2
    refine ⟨kv', ?_, ?_, ?_, ?_, q4, q5, q6, q7.kept (fun b hb1 hb2 => hee b hb1.1 hb2) (Nat.le_trans hb.size hsz) (fun b h h2 => ⟨h.1, h.2.of (hee b h.1 h2)⟩), q8.kept (fun b hb1 hb2 => hee b hb1 hb2) (fun b h _ => h)⟩
    · rw [set4_other _ _ _ _ _ _ _ (by omega) (by omega) (by omega) (by omega)]; exact q0
    · rw [set4_other _ _ _ _ _ _ _ (by omega) (by omega) (by omega) (by omega)]; exact q1
    · rw [set4_other _ _ _ _ _ _ _ (by omega) (by omega) (by omega) (by omega)]; exact q2
    · rw [set4_other _ _ _ _ _ _ _ (by omega) (by omega) (by omega) (by omega)]; exact q3
  · obtain rfl : i = k := by omega
    obtain rfl : x = e := Option.some.inj (hx.symm.trans he)
    obtain ⟨s0, s1, s2, s3⟩ := set4_same cur (i * 4) (.int .i64 x.kind) (.int .i64 x.n) (.string x.text) kv (by omega)
    exact ⟨kv, s0, s1, s2, s3, hr.1, hr.2.1, hr.2.2, hk.kept (fun b hb1 hb2 => set4_heap _ _ _ _ _ _ _ _ (by have := hb1.1; omega)) hsz (fun b h _ => ⟨by have := h.1; omega, h.2.of (set4_heap _ _ _ _ _ _ _ _ (by have := h.1; omega))⟩), hsk.kept (fun b hb1 hb2 => set4_heap _ _ _ _ _ _ _ _ (by omega)) (fun b h _ => by omega)⟩

set_option maxHeartbeats 6400000 in
theorem toExpS_of (d : Nat) (hE : ToExpK d) : ToExpSK (d + 1) := by
  intro v es S w h hb
  have hlen := bulk_len es
  have hBA := @bulk_at es
  obtain ⟨a, cap, rfl, hl, hc⟩ := h
  clear hl
  have HC := (show Hid (_ ∧ True) from ⟨hc, trivial⟩)
  have HE : Hid (ToExpK d) := hE
  have hmk := make_exps es.length (by omega)
  clear hc hE
  have hms : (madeCells #[.int .i64 0, .int .i64 0, .string ⟨#[]⟩, .slice none 0 0] (es.length * 4)).size = es.length * 4 := size_madeCells _ _
  have R0 : RowTo (w.alloc (.cells (madeCells #[.int .i64 0, .int .i64 0, .string ⟨#[]⟩, .slice none 0 0] (es.length * 4)) 58)) w.heap.size es.length d 0 es :=
    ⟨_, (MapKept.heap_alloc w _).1, hms, fun i e h => by omega⟩
  have B0 : Below w.heap.size w (w.alloc (.cells (madeCells #[.int .i64 0, .int .i64 0, .string ⟨#[]⟩, .slice none 0 0] (es.length * 4)) 58)) := (Below.refl _ w).alloc (Nat.le_refl _) _
  generalize madeCells #[.int .i64 0, .int .i64 0, .string ⟨#[]⟩, .slice none 0 0] (es.length * 4) = c0 at *
  clear hms
  go_enter Tryz.func23, Tryz.ntmps23
  go_wp2
  clear hmk
  go_loopw [4] (fun i wr => ∃ k : Nat, k ≤ es.length ∧ i = .int .i64 k ∧ RowTo wr w.heap.size es.length d k es ∧ Below w.heap.size w wr) (fun i _ => es.length - (intOf i).toNat)
  case atStart => exact ⟨0, Nat.zero_le _, rfl, R0, B0⟩
  case round =>
    obtain ⟨k, hk, rfl, hrow, hbw⟩ := hrel
    by_cases hkl : k < es.length
    · have he := List.getElem?_eq_getElem hkl
      have hbk := hBA he
      generalize es[k] = x at *
      obtain ⟨b, off, kv, rfl, hSb, hlt2, c0, c1, c2, c3, r1, r2, r3, hkk⟩ := HC.out.1 k x he
      rw [← hbw.cell (by exact hlt2)] at c0 c1 c2 c3
      have HX : Hid (ExAt wr S d (.agg #[.int .i64 x.kind, .int .i64 x.n, .string x.text, kv]) x) := ⟨kv, rfl, r1, r2, r3, hkk.below hbw⟩
      obtain ⟨ka, kc, rfl⟩ := hkk.form
      have HH : Hid (es[k]? = some x) := he
      clear hkk he HC hBA B0 R0
      have hlt' : ((k : Nat) : Int) < ((es.length : Nat) : Int) := by omega
      go_wp2_with fail
      refine (HE.out _ x S _ HX.out (by omega)).mono ?_
      rintro e w1 ⟨kv', rfl, x1, b1, s1⟩
      obtain ⟨kv'', hkv, _, _, _, k1⟩ := x1
      obtain rfl : kv' = kv'' := by simpa using hkv
      clear hkv
      obtain ⟨ka', kc', rfl⟩ := k1.form
      obtain ⟨cur, hg, hcs, hcur⟩ := hrow
      have hgl : w.heap.size < wr.heap.size := (Array.getElem?_eq_some_iff.1 hg).1
      have hg1 : w1.heap[w.heap.size]? = some (.cells cur 58 (0, 0)) := (b1.block _ hgl).trans hg
      have B1 : Below w.heap.size w w1 := hbw.trans (b1.mono hbw.size)
      have d0 : w1.cell? ⟨w.heap.size, k * 4, none⟩ = some (cur[k * 4]'(by omega)) := by rw [cell_of_block hg1]; exact Array.getElem?_eq_getElem _
      have d1 : w1.cell? ⟨w.heap.size, k * 4 + 1, none⟩ = some (cur[k * 4 + 1]'(by omega)) := by rw [cell_of_block hg1]; exact Array.getElem?_eq_getElem _
      have d2 : w1.cell? ⟨w.heap.size, k * 4 + 2, none⟩ = some (cur[k * 4 + 2]'(by omega)) := by rw [cell_of_block hg1]; exact Array.getElem?_eq_getElem _
      have d3 : w1.cell? ⟨w.heap.size, k * 4 + 3, none⟩ = some (cur[k * 4 + 3]'(by omega)) := by rw [cell_of_block hg1]; exact Array.getElem?_eq_getElem _
      generalize cur[k * 4]'(by omega) = y0 at d0
      generalize cur[k * 4 + 1]'(by omega) = y1 at d1
      generalize cur[k * 4 + 2]'(by omega) = y2 at d2
      generalize cur[k * 4 + 3]'(by omega) = y3 at d3
      have f0 : w1.frozen? ⟨w.heap.size, k * 4, none⟩ = false := unfrozen_of_block hg1 _
      have f1 : w1.frozen? ⟨w.heap.size, k * 4 + 1, none⟩ = false := unfrozen_of_block hg1 _
      have f2 : w1.frozen? ⟨w.heap.size, k * 4 + 2, none⟩ = false := unfrozen_of_block hg1 _
      have f3 : w1.frozen? ⟨w.heap.size, k * 4 + 3, none⟩ = false := unfrozen_of_block hg1 _
      have HG := (show Hid (_ ∧ True) from ⟨hg1, trivial⟩)
      have HCur := (show Hid (_ ∧ True) from ⟨hcur, trivial⟩)
      have HS4 : Hid (cur.size = es.length * 4) := hcs
      have HK1 : Hid (KidsAt w1 (fun b => wr.heap.size ≤ b ∧ Pl w1 b) d (.slice ka' x.kids.length kc') x.kids) := k1
      have HB1 : Hid (Below wr.heap.size wr w1) := b1
      have HS1 : Hid (Sk w1 (fun b => wr.heap.size ≤ b) d (.slice ka' x.kids.length kc') x.kids) := s1
      have HR : Hid (inI64 x.kind ∧ inI64 x.n ∧ x.text.size ≤ maxLen) := ⟨r1, r2, r3⟩
      clear hg hg1 hcur hcs k1 b1 s1 HX HE c0 c1 c2 c3 r1 r2 r3
      go_wp2
      refine ⟨⟨k + 1, by omega, by go_num, RowTo.next HG.out.1 HS4.out hkl HB1.out hgl HCur.out.1 HH.out HR.out HK1.out HS1.out, ?_⟩, by simp [intOf]; omega⟩
      exact (((B1.setCell (p := ⟨w.heap.size, k * 4, none⟩) (Nat.le_refl _) _).setCell (p := ⟨w.heap.size, k * 4 + 1, none⟩) (Nat.le_refl _) _).setCell (p := ⟨w.heap.size, k * 4 + 2, none⟩) (Nat.le_refl _) _).setCell (p := ⟨w.heap.size, k * 4 + 3, none⟩) (Nat.le_refl _) _
    · obtain rfl : k = es.length := by omega
      obtain ⟨cur, hg, hcs, hcur⟩ := hrow
      have HF : Hid (KidsAt wr (fun b => w.heap.size ≤ b ∧ Pl wr b) (d + 1) (.slice (some ⟨w.heap.size, 0, none⟩) es.length es.length) es) := by
        refine ⟨_, _, rfl, by unfold maxLen; omega, fun i e he => ?_⟩
        obtain ⟨kv, q0, q1, q2, q3, q4, q5, q6, q7, _⟩ := hcur i e (List.getElem?_eq_some_iff.1 he).1 he
        refine ⟨w.heap.size, 0, kv, rfl, ⟨Nat.le_refl _, _, _, hg⟩, (Array.getElem?_eq_some_iff.1 hg).1, ?_, ?_, ?_, ?_, q4, q5, q6, q7.wide (fun b hb => ⟨Nat.le_of_lt hb.1, hb.2⟩)⟩
        · rw [cell_of_block hg, Nat.zero_add]; exact q0
        · rw [cell_of_block hg, Nat.zero_add]; exact q1
        · rw [cell_of_block hg, Nat.zero_add]; exact q2
        · rw [cell_of_block hg, Nat.zero_add]; exact q3
      have HFS : Hid (Sk wr (fun b => w.heap.size ≤ b) (d + 1) (.slice (some ⟨w.heap.size, 0, none⟩) es.length es.length) es) := by
        refine ⟨_, _, rfl, fun i e he => ?_⟩
        have hi := (List.getElem?_eq_some_iff.1 he).1
        obtain ⟨kv, q0, q1, q2, q3, q4, q5, q6, q7, q8⟩ := hcur i e hi he
        exact ⟨w.heap.size, kv, cur, rfl, Nat.le_refl _, hg, by omega, q3, q8.wide (fun b hb _ => Nat.le_of_lt hb)⟩
      clear hg hcur HC HE
      go_wp2
      go_ret
      exact ⟨_, rfl, HF.out, hbw, HFS.out⟩

theorem toExpSK_any : ∀ d, ToExpSK d
  | 0 => fun _ _ _ _ h => h.elim
  | d + 1 => toExpS_of d (toExp_of d (toExpSK_any d))
theorem toExpK_any (d : Nat) : ToExpK d := toExp_of d (toExpSK_any d)
theorem toExpS_any (d : Nat) : ToExpS d := fun v es S w h hb => (toExpSK_any d v es S w h hb).mono (fun _ _ ⟨v', h1, h2, h3, _⟩ => ⟨v', h1, h2, h3⟩)
theorem toExp_any (d : Nat) : ToExp d := fun v x S w h hb => (toExpK_any d v x S w h hb).mono (fun _ _ ⟨_, h1, h2, h3, _⟩ => ⟨_, h1, h2, h3⟩)
end Go.Proofs.YtkhkmmjollcfaaaGreatDoor
