/-
  The laws' copy of an expression: the same one, in new memory.
-/
import Derived.Test.YtfldnonifhedgaaDoorExSz
import Derived.OwnWalk
namespace Go.Proofs.YtfldnonifhedgaaDoor
open Go.RowKit Go.Joins

set_option maxRecDepth 100000

theorem infoExp : (Tryd.prog.info? 29).map (fun i => (i.zero, i.size, i.bytes)) = some (some (.agg #[.int .i64 0, .int .i64 0, .string ⟨#[]⟩, .slice none 0 0]), 4, 56) := by kernel_rfl

theorem make_exps (n : Nat) (hn : n ≤ 1048576) (w : World) : (Instr.makeSlice 27 (.int .i64 (n : Int)) (.int .i64 (n : Int))).run Tryd.prog w = .ok (.slice (some ⟨w.heap.size, 0, none⟩) n n) (w.alloc (.cells (madeCells #[.int .i64 0, .int .i64 0, .string ⟨#[]⟩, .slice none 0 0] (n * 4)) 29)) := by
  obtain ⟨i0, hi, hz0, hz1, hz2⟩ := info_parts infoExp
  have h := run_make (P := Tryd.prog) w 27 29 i0 _ Tryd.underlying27 hi hz0 .i64 .i64 (n : Int) (n : Int) (by omega) (by omega) (by rw [hz2]; omega) (by omega)
  rw [h, hz1]
  rfl

def ToExpS (d : Nat) : Prop := ∀ (v : Value) (es : List Ex) (S : Nat → Prop) (w : World), KidsAt w S d v es → Ex.bulkL es ≤ 1048576 →
  Calls Tryd.prog 11 #[v] w fun e w' => ∃ v', e = .returned v' ∧ KidsAt w' (fun b => w.heap.size ≤ b ∧ Pl w' b) d v' es ∧ Below w.heap.size w w'
def ToExp (d : Nat) : Prop := ∀ (v : Value) (x : Ex) (S : Nat → Prop) (w : World), ExAt w S d v x → x.bulk ≤ 1048576 →
  Calls Tryd.prog 6 #[v] w fun e w' => ∃ v', e = .returned v' ∧ ExAt w' (fun b => w.heap.size ≤ b ∧ Pl w' b) d v' x ∧ Below w.heap.size w w'

set_option maxHeartbeats 3200000 in
theorem toExp_of (d : Nat) (hS : ToExpS d) : ToExp d := by
  intro v x S w h hb
  obtain ⟨kv, rfl, r1, r2, r3, hk⟩ := h
  obtain ⟨a, cap, rfl⟩ := hk.form
  have hbe := Ex.bulk_eq x
  have HK : Hid (KidsAt w S d (.slice a x.kids.length cap) x.kids) := hk
  have HS : Hid (ToExpS d) := hS
  have HR : Hid (inI64 x.kind ∧ inI64 x.n ∧ x.text.size ≤ maxLen) := ⟨r1, r2, r3⟩
  clear hk hS r1 r2
  unfold maxLen at r3
  go_enter Tryd.func6, Tryd.ntmps6
  go_wp2_with fail
  have HB0 : Below w.heap.size w (((w.alloc (.cells #[.int .i64 x.kind, .int .i64 x.n, .string x.text, .slice a x.kids.length cap] 24)).alloc (.cells #[.int .i64 0, .int .i64 0, .string ⟨#[]⟩, .slice none 0 0] 29)).alloc (.cells #[.int .i64 x.kind, .int .i64 x.n, .string x.text, .slice none 0 0] 29)) :=
    (((Below.refl _ w).alloc (Nat.le_refl _) _).alloc (by simp) _).alloc (by simp; omega) _
  refine (HS.out _ x.kids S _ (HK.out.below HB0) (by omega)).mono ?_
  rintro e w1 ⟨kv, rfl, k1, b1⟩
  have hsz : (((w.alloc (.cells #[.int .i64 x.kind, .int .i64 x.n, .string x.text, .slice a x.kids.length cap] 24)).alloc (.cells #[.int .i64 0, .int .i64 0, .string ⟨#[]⟩, .slice none 0 0] 29)).alloc (.cells #[.int .i64 x.kind, .int .i64 x.n, .string x.text, .slice none 0 0] 29)).heap.size = w.heap.size + 3 := by simp
  have o2 : w1.heap[w.heap.size + 1 + 1]? = some (.cells #[.int .i64 x.kind, .int .i64 x.n, .string x.text, .slice none 0 0] 29) := by
    rw [b1.block _ (by rw [hsz]; omega)]
    have := (MapKept.heap_alloc ((w.alloc (.cells #[.int .i64 x.kind, .int .i64 x.n, .string x.text, .slice a x.kids.length cap] 24)).alloc (.cells #[.int .i64 0, .int .i64 0, .string ⟨#[]⟩, .slice none 0 0] 29)) (.cells #[.int .i64 x.kind, .int .i64 x.n, .string x.text, .slice none 0 0] 29)).1
    simpa using this
  have o1 : w1.heap[w.heap.size + 1]? = some (.cells #[.int .i64 0, .int .i64 0, .string ⟨#[]⟩, .slice none 0 0] 29) := by
    rw [b1.block _ (by rw [hsz]; omega), Below.heap_alloc _ _ _ (by simp)]
    have := (MapKept.heap_alloc (w.alloc (.cells #[.int .i64 x.kind, .int .i64 x.n, .string x.text, .slice a x.kids.length cap] 24)) (.cells #[.int .i64 0, .int .i64 0, .string ⟨#[]⟩, .slice none 0 0] 29)).1
    simpa using this
  rw [hsz] at k1 b1
  have hs1 : w.heap.size + 3 ≤ w1.heap.size := by have := b1.size; rw [hsz] at this; exact this
  have B1 : Below w.heap.size w w1 := HB0.trans (b1.mono (by omega))
  clear HB0 b1 hsz HK HS
  obtain ⟨ka, kc, rfl⟩ := k1.form
  have K1 : Hid (KidsAt w1 (fun b => w.heap.size + 3 ≤ b ∧ Pl w1 b) d (.slice ka x.kids.length kc) x.kids) := k1
  clear k1
  have c20 : w1.cell? ⟨w.heap.size + 1 + 1, 0, none⟩ = some (.int .i64 x.kind) := by rw [cell_of_block o2]; rfl
  have c21 : w1.cell? ⟨w.heap.size + 1 + 1, 1, none⟩ = some (.int .i64 x.n) := by rw [cell_of_block o2]; rfl
  have c22 : w1.cell? ⟨w.heap.size + 1 + 1, 2, none⟩ = some (.string x.text) := by rw [cell_of_block o2]; rfl
  have c23 : w1.cell? ⟨w.heap.size + 1 + 1, 3, none⟩ = some (.slice none 0 0) := by rw [cell_of_block o2]; rfl
  have f23 : w1.frozen? ⟨w.heap.size + 1 + 1, 3, none⟩ = false := unfrozen_of_block o2 3
  have c10 : w1.cell? ⟨w.heap.size + 1, 0, none⟩ = some (.int .i64 0) := by rw [cell_of_block o1]; rfl
  have c11 : w1.cell? ⟨w.heap.size + 1, 1, none⟩ = some (.int .i64 0) := by rw [cell_of_block o1]; rfl
  have c12 : w1.cell? ⟨w.heap.size + 1, 2, none⟩ = some (.string ⟨#[]⟩) := by rw [cell_of_block o1]; rfl
  have c13 : w1.cell? ⟨w.heap.size + 1, 3, none⟩ = some (.slice none 0 0) := by rw [cell_of_block o1]; rfl
  have f10 : w1.frozen? ⟨w.heap.size + 1, 0, none⟩ = false := unfrozen_of_block o1 0
  have f11 : w1.frozen? ⟨w.heap.size + 1, 1, none⟩ = false := unfrozen_of_block o1 1
  have f12 : w1.frozen? ⟨w.heap.size + 1, 2, none⟩ = false := unfrozen_of_block o1 2
  have f13 : w1.frozen? ⟨w.heap.size + 1, 3, none⟩ = false := unfrozen_of_block o1 3
  clear o1 o2
  go_wp2
  refine bodyPost_ret (v := .agg #[.int .i64 x.kind, .int .i64 x.n, .string x.text, .slice ka x.kids.length kc]) (by simp [results, Tryd.results6, go_sem, c10, c11, c12, c13]) rfl ⟨_, rfl, ⟨_, rfl, HR.out.1, HR.out.2.1, HR.out.2.2, ?_⟩, ?_⟩
  · have he : ∀ b, w.heap.size + 3 ≤ b → (((((w1.setCell ⟨w.heap.size + 1 + 1, 3, none⟩ (.slice ka x.kids.length kc)).setCell ⟨w.heap.size + 1, 0, none⟩ (.int .i64 x.kind)).setCell ⟨w.heap.size + 1, 1, none⟩ (.int .i64 x.n)).setCell ⟨w.heap.size + 1, 2, none⟩ (.string x.text)).setCell ⟨w.heap.size + 1, 3, none⟩ (.slice ka x.kids.length kc)).heap[b]? = w1.heap[b]? := ?_
    refine K1.out.kept (fun b hb1 hb2 => he b hb1.1) (by simp) (fun b hb1 _ => ⟨by omega, hb1.2.of (he b hb1.1)⟩)
    intro b hb1
    have e1 : ∀ (j : Nat) (u : Value) (W : World), (W.setCell ⟨w.heap.size + 1, j, none⟩ u).heap[b]? = W.heap[b]? := fun j u W => Below.heap_setCell W _ u b (by simp; omega)
    have e2 : ∀ (j : Nat) (u : Value) (W : World), (W.setCell ⟨w.heap.size + 1 + 1, j, none⟩ u).heap[b]? = W.heap[b]? := fun j u W => Below.heap_setCell W _ u b (by simp; omega)
    rw [e1, e1, e1, e1, e2]
  · exact ((((B1.setCell (p := ⟨w.heap.size + 1 + 1, 3, none⟩) (by simp; omega) _).setCell (p := ⟨w.heap.size + 1, 0, none⟩) (by simp) _).setCell (p := ⟨w.heap.size + 1, 1, none⟩) (by simp) _).setCell (p := ⟨w.heap.size + 1, 2, none⟩) (by simp) _).setCell (p := ⟨w.heap.size + 1, 3, none⟩) (by simp) _

/-- A row under way: its first k expressions lie there. -/
def RowTo (w : World) (g n d k : Nat) (es : List Ex) : Prop :=
  ∃ cur, w.heap[g]? = some (.cells cur 29 (0, 0)) ∧ cur.size = n * 4 ∧ ∀ i e, i < k → es[i]? = some e → ∃ kv, cur[i * 4]? = some (.int .i64 e.kind) ∧ cur[i * 4 + 1]? = some (.int .i64 e.n) ∧ cur[i * 4 + 2]? = some (.string e.text) ∧ cur[i * 4 + 3]? = some kv ∧
    inI64 e.kind ∧ inI64 e.n ∧ e.text.size ≤ maxLen ∧ KidsAt w (fun b => g < b ∧ Pl w b) d kv e.kids

theorem set4_other (cur : Array Value) (p q : Nat) (a b c e : Value) (h0 : q ≠ p) (h1 : q ≠ p + 1) (h2 : q ≠ p + 2) (h3 : q ≠ p + 3) : ((((cur.setIfInBounds p a).setIfInBounds (p + 1) b).setIfInBounds (p + 2) c).setIfInBounds (p + 3) e)[q]? = cur[q]? := by
  rw [Array.getElem?_setIfInBounds_ne (Ne.symm h3), Array.getElem?_setIfInBounds_ne (Ne.symm h2), Array.getElem?_setIfInBounds_ne (Ne.symm h1), Array.getElem?_setIfInBounds_ne (Ne.symm h0)]
theorem set4_same (cur : Array Value) (p : Nat) (a b c e : Value) (h : p + 4 ≤ cur.size) : ((((cur.setIfInBounds p a).setIfInBounds (p + 1) b).setIfInBounds (p + 2) c).setIfInBounds (p + 3) e)[p]? = some a ∧ ((((cur.setIfInBounds p a).setIfInBounds (p + 1) b).setIfInBounds (p + 2) c).setIfInBounds (p + 3) e)[p + 1]? = some b ∧ ((((cur.setIfInBounds p a).setIfInBounds (p + 1) b).setIfInBounds (p + 2) c).setIfInBounds (p + 3) e)[p + 2]? = some c ∧ ((((cur.setIfInBounds p a).setIfInBounds (p + 1) b).setIfInBounds (p + 2) c).setIfInBounds (p + 3) e)[p + 3]? = some e := by
  refine ⟨?_, ?_, ?_, ?_⟩
  · rw [Array.getElem?_setIfInBounds_ne (by omega), Array.getElem?_setIfInBounds_ne (by omega), Array.getElem?_setIfInBounds_ne (by omega), Array.getElem?_setIfInBounds_self_of_lt (by omega)]
  · rw [Array.getElem?_setIfInBounds_ne (by omega), Array.getElem?_setIfInBounds_ne (by omega), Array.getElem?_setIfInBounds_self_of_lt (by simp; omega)]
  · rw [Array.getElem?_setIfInBounds_ne (by omega), Array.getElem?_setIfInBounds_self_of_lt (by simp; omega)]
  · rw [Array.getElem?_setIfInBounds_self_of_lt (by simp; omega)]

abbrev set4 (w : World) (g p : Nat) (a b c e : Value) : World := (((w.setCell ⟨g, p, none⟩ a).setCell ⟨g, p + 1, none⟩ b).setCell ⟨g, p + 2, none⟩ c).setCell ⟨g, p + 3, none⟩ e
theorem set4_heap (w : World) (g p : Nat) (a b c e : Value) (k : Nat) (hk : k ≠ g) : (set4 w g p a b c e).heap[k]? = w.heap[k]? := by
  unfold set4
  rw [Below.heap_setCell _ _ _ k (by simpa using hk), Below.heap_setCell _ _ _ k (by simpa using hk), Below.heap_setCell _ _ _ k (by simpa using hk), Below.heap_setCell _ _ _ k (by simpa using hk)]

theorem RowTo.next {wr w1 : World} {g n d k : Nat} {es : List Ex} {x : Ex} {kv : Value} {cur : Array Value} (hg : w1.heap[g]? = some (.cells cur 29 (0, 0))) (hcs : cur.size = n * 4) (hkn : k < n) (hb : Below wr.heap.size wr w1) (hgl : g < wr.heap.size)
    (hcur : ∀ i e, i < k → es[i]? = some e → ∃ kv, cur[i * 4]? = some (.int .i64 e.kind) ∧ cur[i * 4 + 1]? = some (.int .i64 e.n) ∧ cur[i * 4 + 2]? = some (.string e.text) ∧ cur[i * 4 + 3]? = some kv ∧ inI64 e.kind ∧ inI64 e.n ∧ e.text.size ≤ maxLen ∧ KidsAt wr (fun b => g < b ∧ Pl wr b) d kv e.kids)
    (hx : es[k]? = some x) (hr : inI64 x.kind ∧ inI64 x.n ∧ x.text.size ≤ maxLen) (hk : KidsAt w1 (fun b => wr.heap.size ≤ b ∧ Pl w1 b) d kv x.kids) :
    RowTo (set4 w1 g (k * 4) (.int .i64 x.kind) (.int .i64 x.n) (.string x.text) kv) g n d (k + 1) es := by
  refine ⟨_, block_setCell (block_setCell (block_setCell (block_setCell hg _) _) _) _, by simp [hcs], fun i e hi he => ?_⟩
  have hsz : w1.heap.size ≤ (set4 w1 g (k * 4) (.int .i64 x.kind) (.int .i64 x.n) (.string x.text) kv).heap.size := by simp [set4]
  by_cases hik : i < k
  · obtain ⟨kv', q0, q1, q2, q3, q4, q5, q6, q7⟩ := hcur i e hik he
    have hee : ∀ b, g < b → b < wr.heap.size → (set4 w1 g (k * 4) (.int .i64 x.kind) (.int .i64 x.n) (.string x.text) kv).heap[b]? = wr.heap[b]? := fun b hb1 hb2 => by
      rw [set4_heap _ _ _ _ _ _ _ _ (by omega)]; exact hb.block b hb2
    refine ⟨kv', ?_, ?_, ?_, ?_, q4, q5, q6, q7.kept (fun b hb1 hb2 => hee b hb1.1 hb2) (Nat.le_trans hb.size hsz) (fun b h h2 => ⟨h.1, h.2.of (hee b h.1 h2)⟩)⟩
    · rw [set4_other _ _ _ _ _ _ _ (by omega) (by omega) (by omega) (by omega)]; exact q0
    · rw [set4_other _ _ _ _ _ _ _ (by omega) (by omega) (by omega) (by omega)]; exact q1
    · rw [set4_other _ _ _ _ _ _ _ (by omega) (by omega) (by omega) (by omega)]; exact q2
    · rw [set4_other _ _ _ _ _ _ _ (by omega) (by omega) (by omega) (by omega)]; exact q3
  · obtain rfl : i = k := by omega
    obtain rfl : x = e := Option.some.inj (hx.symm.trans he)
    obtain ⟨s0, s1, s2, s3⟩ := set4_same cur (i * 4) (.int .i64 x.kind) (.int .i64 x.n) (.string x.text) kv (by omega)
    exact ⟨kv, s0, s1, s2, s3, hr.1, hr.2.1, hr.2.2, hk.kept (fun b hb1 hb2 => set4_heap _ _ _ _ _ _ _ _ (by have := hb1.1; omega)) hsz (fun b h _ => ⟨by have := h.1; omega, h.2.of (set4_heap _ _ _ _ _ _ _ _ (by have := h.1; omega))⟩)⟩

set_option maxHeartbeats 6400000 in
theorem toExpS_of (d : Nat) (hE : ToExp d) : ToExpS (d + 1) := by
  intro v es S w h hb
  have hlen := bulk_len es
  have hBA := @bulk_at es
  obtain ⟨a, cap, rfl, hl, hc⟩ := h
  clear hl
  have HC := (show Hid (_ ∧ True) from ⟨hc, trivial⟩)
  have HE : Hid (ToExp d) := hE
  have hmk := make_exps es.length (by omega)
  clear hc hE
  have hms : (madeCells #[.int .i64 0, .int .i64 0, .string ⟨#[]⟩, .slice none 0 0] (es.length * 4)).size = es.length * 4 := size_madeCells _ _
  have R0 : RowTo (w.alloc (.cells (madeCells #[.int .i64 0, .int .i64 0, .string ⟨#[]⟩, .slice none 0 0] (es.length * 4)) 29)) w.heap.size es.length d 0 es :=
    ⟨_, (MapKept.heap_alloc w _).1, hms, fun i e h => by omega⟩
  have B0 : Below w.heap.size w (w.alloc (.cells (madeCells #[.int .i64 0, .int .i64 0, .string ⟨#[]⟩, .slice none 0 0] (es.length * 4)) 29)) := (Below.refl _ w).alloc (Nat.le_refl _) _
  generalize madeCells #[.int .i64 0, .int .i64 0, .string ⟨#[]⟩, .slice none 0 0] (es.length * 4) = c0 at *
  clear hms
  go_enter Tryd.func11, Tryd.ntmps11
  go_wp2
  clear hmk
  go_loopw [4] (fun i wr => ∃ k : Nat, k ≤ es.length ∧ i = .int .i64 k ∧ RowTo wr w.heap.size es.length d k es ∧ Below w.heap.size w wr) (fun i _ => es.length - (intOf i).toNat)
  case atStart => exact ⟨0, Nat.zero_le _, rfl, R0, B0⟩
  case round =>
    obtain ⟨k, hk, rfl, hrow, hbw⟩ := hrel
    by_cases hkl : k < es.length
    · have he := List.getElem?_eq_getElem hkl
      have hbk := hBA he
      generalize es[k] = x at *
      obtain ⟨b, off, kv, rfl, hSb, hlt2, c0, c1, c2, c3, r1, r2, r3, hkk⟩ := HC.out.1 k x he
      rw [← hbw.cell (by exact hlt2)] at c0 c1 c2 c3
      have HX : Hid (ExAt wr S d (.agg #[.int .i64 x.kind, .int .i64 x.n, .string x.text, kv]) x) := ⟨kv, rfl, r1, r2, r3, hkk.below hbw⟩
      obtain ⟨ka, kc, rfl⟩ := hkk.form
      have HH : Hid (es[k]? = some x) := he
      clear hkk he HC hBA B0 R0
      have hlt' : ((k : Nat) : Int) < ((es.length : Nat) : Int) := by omega
      go_wp2_with fail
      refine (HE.out _ x S _ HX.out (by omega)).mono ?_
      rintro e w1 ⟨v', rfl, x1, b1⟩
      obtain ⟨kv', rfl, _, _, _, k1⟩ := x1
      obtain ⟨ka', kc', rfl⟩ := k1.form
      obtain ⟨cur, hg, hcs, hcur⟩ := hrow
      have hgl : w.heap.size < wr.heap.size := (Array.getElem?_eq_some_iff.1 hg).1
      have hg1 : w1.heap[w.heap.size]? = some (.cells cur 29 (0, 0)) := (b1.block _ hgl).trans hg
      have B1 : Below w.heap.size w w1 := hbw.trans (b1.mono hbw.size)
      have d0 : w1.cell? ⟨w.heap.size, k * 4, none⟩ = some (cur[k * 4]'(by omega)) := by rw [cell_of_block hg1]; exact Array.getElem?_eq_getElem _
      have d1 : w1.cell? ⟨w.heap.size, k * 4 + 1, none⟩ = some (cur[k * 4 + 1]'(by omega)) := by rw [cell_of_block hg1]; exact Array.getElem?_eq_getElem _
      have d2 : w1.cell? ⟨w.heap.size, k * 4 + 2, none⟩ = some (cur[k * 4 + 2]'(by omega)) := by rw [cell_of_block hg1]; exact Array.getElem?_eq_getElem _
      have d3 : w1.cell? ⟨w.heap.size, k * 4 + 3, none⟩ = some (cur[k * 4 + 3]'(by omega)) := by rw [cell_of_block hg1]; exact Array.getElem?_eq_getElem _
      generalize cur[k * 4]'(by omega) = y0 at d0
      generalize cur[k * 4 + 1]'(by omega) = y1 at d1
      generalize cur[k * 4 + 2]'(by omega) = y2 at d2
      generalize cur[k * 4 + 3]'(by omega) = y3 at d3
      have f0 : w1.frozen? ⟨w.heap.size, k * 4, none⟩ = false := unfrozen_of_block hg1 _
      have f1 : w1.frozen? ⟨w.heap.size, k * 4 + 1, none⟩ = false := unfrozen_of_block hg1 _
      have f2 : w1.frozen? ⟨w.heap.size, k * 4 + 2, none⟩ = false := unfrozen_of_block hg1 _
      have f3 : w1.frozen? ⟨w.heap.size, k * 4 + 3, none⟩ = false := unfrozen_of_block hg1 _
      have HG := (show Hid (_ ∧ True) from ⟨hg1, trivial⟩)
      have HCur := (show Hid (_ ∧ True) from ⟨hcur, trivial⟩)
      have HS4 : Hid (cur.size = es.length * 4) := hcs
      have HK1 : Hid (KidsAt w1 (fun b => wr.heap.size ≤ b ∧ Pl w1 b) d (.slice ka' x.kids.length kc') x.kids) := k1
      have HB1 : Hid (Below wr.heap.size wr w1) := b1
      have HR : Hid (inI64 x.kind ∧ inI64 x.n ∧ x.text.size ≤ maxLen) := ⟨r1, r2, r3⟩
      clear hg hg1 hcur hcs k1 b1 HX HE c0 c1 c2 c3 r1 r2 r3
      go_wp2
      refine ⟨⟨k + 1, by omega, by go_num, RowTo.next HG.out.1 HS4.out hkl HB1.out hgl HCur.out.1 HH.out HR.out HK1.out, ?_⟩, by simp [intOf]; omega⟩
      exact (((B1.setCell (p := ⟨w.heap.size, k * 4, none⟩) (Nat.le_refl _) _).setCell (p := ⟨w.heap.size, k * 4 + 1, none⟩) (Nat.le_refl _) _).setCell (p := ⟨w.heap.size, k * 4 + 2, none⟩) (Nat.le_refl _) _).setCell (p := ⟨w.heap.size, k * 4 + 3, none⟩) (Nat.le_refl _) _
    · obtain rfl : k = es.length := by omega
      obtain ⟨cur, hg, hcs, hcur⟩ := hrow
      have HF : Hid (KidsAt wr (fun b => w.heap.size ≤ b ∧ Pl wr b) (d + 1) (.slice (some ⟨w.heap.size, 0, none⟩) es.length es.length) es) := by
        refine ⟨_, _, rfl, by unfold maxLen; omega, fun i e he => ?_⟩
        obtain ⟨kv, q0, q1, q2, q3, q4, q5, q6, q7⟩ := hcur i e (List.getElem?_eq_some_iff.1 he).1 he
        refine ⟨w.heap.size, 0, kv, rfl, ⟨Nat.le_refl _, _, _, hg⟩, (Array.getElem?_eq_some_iff.1 hg).1, ?_, ?_, ?_, ?_, q4, q5, q6, q7.wide (fun b hb => ⟨Nat.le_of_lt hb.1, hb.2⟩)⟩
        · rw [cell_of_block hg, Nat.zero_add]; exact q0
        · rw [cell_of_block hg, Nat.zero_add]; exact q1
        · rw [cell_of_block hg, Nat.zero_add]; exact q2
        · rw [cell_of_block hg, Nat.zero_add]; exact q3
      clear hg hcur HC HE
      go_wp2
      go_ret
      exact ⟨_, rfl, HF.out, hbw⟩

theorem toExpS_any : ∀ d, ToExpS d
  | 0 => fun _ _ _ _ h => h.elim
  | d + 1 => toExpS_of d (toExp_of d (toExpS_any d))
theorem toExp_any (d : Nat) : ToExp d := toExp_of d (toExpS_any d)
end Go.Proofs.YtfldnonifhedgaaDoor
