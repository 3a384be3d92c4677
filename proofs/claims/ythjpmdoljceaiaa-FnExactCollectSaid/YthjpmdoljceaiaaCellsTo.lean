/-
  Cells in memory: copies of them.
-/
import Derived.Test.YthjpmdoljceaiaaCells
namespace Go.Proofs.Ythjpmdoljceaiaa
open Go.RowKit Go.Joins

set_option maxRecDepth 100000

theorem make_cells (n : Nat) (hn : n ≤ 1048576) (w : World) : (Instr.makeSlice 25 (.int .i64 (n : Int)) (.int .i64 (n : Int))).run Try.prog w = .ok (.slice (some ⟨w.heap.size, 0, none⟩) n n) (w.alloc (.cells (madeCells #[.int .i64 0, .int .i64 0, .int .i64 0, .slice none 0 0] (n * 4)) 42)) := by
  obtain ⟨i0, hi, hz0, hz1, hz2⟩ := info_parts infoCell
  have h := run_make (P := Try.prog) w 25 42 i0 _ Try.underlying25 hi hz0 .i64 .i64 (n : Int) (n : Int) (by omega) (by omega) (by rw [hz2]; omega) (by omega)
  rw [h, hz1]
  rfl

/-- A row under way: its first k cells lie there. -/
def LRowTo (w : World) (g n k : Nat) (es : List Ce) : Prop :=
  ∃ cur, w.heap[g]? = some (.cells cur 42 (0, 0)) ∧ cur.size = n * 4 ∧ ∀ i e, i < k → es[i]? = some e → ∃ kv, cur[i * 4]? = some (.int .i64 e.kind) ∧ cur[i * 4 + 1]? = some (.int .i64 e.n) ∧ cur[i * 4 + 2]? = some (.int .i64 e.pos) ∧ cur[i * 4 + 3]? = some kv ∧
    inI64 e.kind ∧ inI64 e.n ∧ inI64 e.pos ∧ IntsAt w (fun b => g < b ∧ Pl w b) kv e.kids

theorem LRowTo.next {wr w1 : World} {g n k : Nat} {es : List Ce} {x : Ce} {kv : Value} {cur : Array Value} (hg : w1.heap[g]? = some (.cells cur 42 (0, 0))) (hcs : cur.size = n * 4) (hkn : k < n) (hb : Below wr.heap.size wr w1) (hgl : g < wr.heap.size)
    (hcur : ∀ i e, i < k → es[i]? = some e → ∃ kv, cur[i * 4]? = some (.int .i64 e.kind) ∧ cur[i * 4 + 1]? = some (.int .i64 e.n) ∧ cur[i * 4 + 2]? = some (.int .i64 e.pos) ∧ cur[i * 4 + 3]? = some kv ∧ inI64 e.kind ∧ inI64 e.n ∧ inI64 e.pos ∧ IntsAt wr (fun b => g < b ∧ Pl wr b) kv e.kids)
    (hx : es[k]? = some x) (hr : inI64 x.kind ∧ inI64 x.n ∧ inI64 x.pos) (hk : IntsAt w1 (fun b => wr.heap.size ≤ b ∧ Pl w1 b) kv x.kids) :
    LRowTo (set4 w1 g (k * 4) (.int .i64 x.kind) (.int .i64 x.n) (.int .i64 x.pos) kv) g n (k + 1) es := by
  refine ⟨_, block_setCell (block_setCell (block_setCell (block_setCell hg _) _) _) _, by simp [hcs], fun i e hi he => ?_⟩
  have hsz : w1.heap.size ≤ (set4 w1 g (k * 4) (.int .i64 x.kind) (.int .i64 x.n) (.int .i64 x.pos) kv).heap.size := by simp [set4]
  by_cases hik : i < k
  · obtain ⟨kv', q0, q1, q2, q3, q4, q5, q6, q7⟩ := hcur i e hik he
    have hee : ∀ b, g < b → b < wr.heap.size → (set4 w1 g (k * 4) (.int .i64 x.kind) (.int .i64 x.n) (.int .i64 x.pos) kv).heap[b]? = wr.heap[b]? := fun b hb1 hb2 => by
      rw [set4_heap _ _ _ _ _ _ _ _ (by omega)]; exact hb.block b hb2
    refine ⟨kv', ?_, ?_, ?_, ?_, q4, q5, q6, q7.kept (fun b hb1 hb2 => hee b hb1.1 hb2) (Nat.le_trans hb.size hsz) (fun b h h2 => ⟨h.1, h.2.of (hee b h.1 h2)⟩)⟩
    · rw [set4_other _ _ _ _ _ _ _ (by omega) (by omega) (by omega) (by omega)]; exact q0
    · rw [set4_other _ _ _ _ _ _ _ (by omega) (by omega) (by omega) (by omega)]; exact q1
    · rw [set4_other _ _ _ _ _ _ _ (by omega) (by omega) (by omega) (by omega)]; exact q2
    · rw [set4_other _ _ _ _ _ _ _ (by omega) (by omega) (by omega) (by omega)]; exact q3
  · obtain rfl : i = k := by omega
    obtain rfl : x = e := Option.some.inj (hx.symm.trans he)
    obtain ⟨s0, s1, s2, s3⟩ := set4_same cur (i * 4) (.int .i64 x.kind) (.int .i64 x.n) (.int .i64 x.pos) kv (by omega)
    exact ⟨kv, s0, s1, s2, s3, hr.1, hr.2.1, hr.2.2, hk.kept (fun b hb1 hb2 => set4_heap _ _ _ _ _ _ _ _ (by have := hb1.1; omega)) hsz (fun b h _ => ⟨by have := h.1; omega, h.2.of (set4_heap _ _ _ _ _ _ _ _ (by have := h.1; omega))⟩)⟩

set_option maxHeartbeats 6400000 in
theorem toCellS_any (v : Value) (es : List Ce) (S : Nat → Prop) (w : World) (h : CellsAt w S v es) (hb : bulkL es ≤ 1048576) :
    Calls Try.prog 9 #[v] w fun e w' => ∃ v', e = .returned v' ∧ CellsAt w' (fun b => w.heap.size ≤ b ∧ Pl w' b) v' es ∧ Below w.heap.size w w' := by
  have hlen : es.length ≤ bulkL es := Nat.le_add_right _ _
  have hBA := @bulkL_at es
  obtain ⟨a, cap, rfl, hl, hc⟩ := h
  clear hl
  have HC := (show Hid (_ ∧ True) from ⟨hc, trivial⟩)
  have hmk := make_cells es.length (by omega)
  clear hc
  have hms : (madeCells #[.int .i64 0, .int .i64 0, .int .i64 0, .slice none 0 0] (es.length * 4)).size = es.length * 4 := size_madeCells _ _
  have R0 : LRowTo (w.alloc (.cells (madeCells #[.int .i64 0, .int .i64 0, .int .i64 0, .slice none 0 0] (es.length * 4)) 42)) w.heap.size es.length 0 es :=
    ⟨_, (MapKept.heap_alloc w _).1, hms, fun i e h => by omega⟩
  have B0 : Below w.heap.size w (w.alloc (.cells (madeCells #[.int .i64 0, .int .i64 0, .int .i64 0, .slice none 0 0] (es.length * 4)) 42)) := (Below.refl _ w).alloc (Nat.le_refl _) _
  generalize madeCells #[.int .i64 0, .int .i64 0, .int .i64 0, .slice none 0 0] (es.length * 4) = c0 at *
  clear hms
  go_enter Try.func9, Try.ntmps9
  go_wp2
  clear hmk
  go_loopw [4] (fun i wr => ∃ k : Nat, k ≤ es.length ∧ i = .int .i64 k ∧ LRowTo wr w.heap.size es.length k es ∧ Below w.heap.size w wr) (fun i _ => es.length - (intOf i).toNat)
  case atStart => exact ⟨0, Nat.zero_le _, rfl, R0, B0⟩
  case round =>
    obtain ⟨k, hk, rfl, hrow, hbw⟩ := hrel
    by_cases hkl : k < es.length
    · have he := List.getElem?_eq_getElem hkl
      have hbk := hBA he
      generalize es[k] = x at *
      obtain ⟨b, off, kv, rfl, hSb, hlt2, c0, c1, c2, c3, r1, r2, r3, hkk⟩ := HC.out.1 k x he
      rw [← hbw.cell (by exact hlt2)] at c0 c1 c2 c3
      have HX : Hid (CeAt wr S (.agg #[.int .i64 x.kind, .int .i64 x.n, .int .i64 x.pos, kv]) x) := ⟨kv, rfl, r1, r2, r3, hkk.below hbw⟩
      obtain ⟨ka, kc, rfl⟩ := hkk.form
      have HH : Hid (es[k]? = some x) := he
      clear hkk he HC hBA B0 R0
      have hlt' : ((k : Nat) : Int) < ((es.length : Nat) : Int) := by omega
      go_wp2_with fail
      refine (toCell_any _ x S _ HX.out (by omega)).mono ?_
      rintro e w1 ⟨v', rfl, x1, b1⟩
      obtain ⟨kv', rfl, _, _, _, k1⟩ := x1
      obtain ⟨ka', kc', rfl⟩ := k1.form
      obtain ⟨cur, hg, hcs, hcur⟩ := hrow
      have hgl : w.heap.size < wr.heap.size := (Array.getElem?_eq_some_iff.1 hg).1
      have hg1 : w1.heap[w.heap.size]? = some (.cells cur 42 (0, 0)) := (b1.block _ hgl).trans hg
      have B1 : Below w.heap.size w w1 := hbw.trans (b1.mono hbw.size)
      have d0 : w1.cell? ⟨w.heap.size, k * 4, none⟩ = some (cur[k * 4]'(by omega)) := by rw [cell_of_block hg1]; exact Array.getElem?_eq_getElem _
      have d1 : w1.cell? ⟨w.heap.size, k * 4 + 1, none⟩ = some (cur[k * 4 + 1]'(by omega)) := by rw [cell_of_block hg1]; exact Array.getElem?_eq_getElem _
      have d2 : w1.cell? ⟨w.heap.size, k * 4 + 2, none⟩ = some (cur[k * 4 + 2]'(by omega)) := by rw [cell_of_block hg1]; exact Array.getElem?_eq_getElem _
      have d3 : w1.cell? ⟨w.heap.size, k * 4 + 3, none⟩ = some (cur[k * 4 + 3]'(by omega)) := by rw [cell_of_block hg1]; exact Array.getElem?_eq_getElem _
      generalize cur[k * 4]'(by omega) = y0 at d0
      generalize cur[k * 4 + 1]'(by omega) = y1 at d1
      generalize cur[k * 4 + 2]'(by omega) = y2 at d2
      generalize cur[k * 4 + 3]'(by omega) = y3 at d3
      have f0 : w1.frozen? ⟨w.heap.size, k * 4, none⟩ = false := unfrozen_of_block hg1 _
      have f1 : w1.frozen? ⟨w.heap.size, k * 4 + 1, none⟩ = false := unfrozen_of_block hg1 _
      have f2 : w1.frozen? ⟨w.heap.size, k * 4 + 2, none⟩ = false := unfrozen_of_block hg1 _
      have f3 : w1.frozen? ⟨w.heap.size, k * 4 + 3, none⟩ = false := unfrozen_of_block hg1 _
      have HG := (show Hid (_ ∧ True) from ⟨hg1, trivial⟩)
      have HCur := (show Hid (_ ∧ True) from ⟨hcur, trivial⟩)
      have HS4 : Hid (cur.size = es.length * 4) := hcs
      have HK1 : Hid (IntsAt w1 (fun b => wr.heap.size ≤ b ∧ Pl w1 b) (.slice ka' x.kids.length kc') x.kids) := k1
      have HB1 : Hid (Below wr.heap.size wr w1) := b1
      have HR : Hid (inI64 x.kind ∧ inI64 x.n ∧ inI64 x.pos) := ⟨r1, r2, r3⟩
      clear hg hg1 hcur hcs k1 b1 HX c0 c1 c2 c3 r1 r2 r3
      go_wp2
      refine ⟨⟨k + 1, by omega, by go_num, LRowTo.next HG.out.1 HS4.out hkl HB1.out hgl HCur.out.1 HH.out HR.out HK1.out, ?_⟩, by simp [intOf]; omega⟩
      exact (((B1.setCell (p := ⟨w.heap.size, k * 4, none⟩) (Nat.le_refl _) _).setCell (p := ⟨w.heap.size, k * 4 + 1, none⟩) (Nat.le_refl _) _).setCell (p := ⟨w.heap.size, k * 4 + 2, none⟩) (Nat.le_refl _) _).setCell (p := ⟨w.heap.size, k * 4 + 3, none⟩) (Nat.le_refl _) _
    · obtain rfl : k = es.length := by omega
      obtain ⟨cur, hg, hcs, hcur⟩ := hrow
      have HF : Hid (CellsAt wr (fun b => w.heap.size ≤ b ∧ Pl wr b) (.slice (some ⟨w.heap.size, 0, none⟩) es.length es.length) es) := by
        refine ⟨_, _, rfl, by unfold maxLen; omega, fun i e he => ?_⟩
        obtain ⟨kv, q0, q1, q2, q3, q4, q5, q6, q7⟩ := hcur i e (List.getElem?_eq_some_iff.1 he).1 he
        refine ⟨w.heap.size, 0, kv, rfl, ⟨Nat.le_refl _, _, _, hg⟩, (Array.getElem?_eq_some_iff.1 hg).1, ?_, ?_, ?_, ?_, q4, q5, q6, q7.wide (fun b hb => ⟨Nat.le_of_lt hb.1, hb.2⟩)⟩
        · rw [cell_of_block hg, Nat.zero_add]; exact q0
        · rw [cell_of_block hg, Nat.zero_add]; exact q1
        · rw [cell_of_block hg, Nat.zero_add]; exact q2
        · rw [cell_of_block hg, Nat.zero_add]; exact q3
      clear hg hcur HC
      go_wp2
      go_ret
      exact ⟨_, rfl, HF.out, hbw⟩

end Go.Proofs.Ythjpmdoljceaiaa
