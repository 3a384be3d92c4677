/-
  Copies of cells, as rows of a call's own that share nothing.
-/
import Derived.Test.YthjpmdoljceaiaaCellsTo
import Derived.Test.YthjpmdoljceaiaaHpRow
namespace Go.Proofs.Ythjpmdoljceaiaa
open Go.RowKit Go.Joins

set_option maxRecDepth 100000

set_option maxHeartbeats 3200000 in
theorem toCellO_any (v : Value) (x : Ce) (S : Nat → Prop) (w : World) (h : CeAt w S v x) (hb : x.bulk ≤ 1048576) :
    Calls Try.prog 26 #[v] w fun e w' => ∃ kv, e = .returned (.agg #[.int .i64 x.kind, .int .i64 x.n, .int .i64 x.pos, kv]) ∧ w'.ownsRow w.heap.size 3 1 kv x.kids.length (intVs x.kids) ∧ CeOk x ∧ Below w.heap.size w w' := by
  obtain ⟨kv, rfl, r1, r2, r3, hk⟩ := h
  obtain ⟨a, cap, rfl⟩ := hk.form
  have hbe := (show x.bulk = x.kids.length from rfl)
  have HK : Hid (IntsAt w S (.slice a x.kids.length cap) x.kids) := hk
  have HR : Hid (inI64 x.kind ∧ inI64 x.n ∧ inI64 x.pos) := ⟨r1, r2, r3⟩
  clear hk r1 r2 r3
  go_enter Try.func26, Try.ntmps26
  go_wp2_with fail
  have HB0 : Below w.heap.size w (((w.alloc (.cells #[.int .i64 x.kind, .int .i64 x.n, .int .i64 x.pos, .slice a x.kids.length cap] 40)).alloc (.cells #[.int .i64 0, .int .i64 0, .int .i64 0, .slice none 0 0] 42)).alloc (.cells #[.int .i64 x.kind, .int .i64 x.n, .int .i64 x.pos, .slice none 0 0] 42)) :=
    (((Below.refl _ w).alloc (Nat.le_refl _) _).alloc (by simp) _).alloc (by simp; omega) _
  refine (toIntO_any _ x.kids S _ (HK.out.below HB0) (by omega)).mono ?_
  rintro e w1 ⟨kv, rfl, k1, kz, kb, b1⟩
  have hsz : (((w.alloc (.cells #[.int .i64 x.kind, .int .i64 x.n, .int .i64 x.pos, .slice a x.kids.length cap] 40)).alloc (.cells #[.int .i64 0, .int .i64 0, .int .i64 0, .slice none 0 0] 42)).alloc (.cells #[.int .i64 x.kind, .int .i64 x.n, .int .i64 x.pos, .slice none 0 0] 42)).heap.size = w.heap.size + 3 := by simp
  have o2 : w1.heap[w.heap.size + 1 + 1]? = some (.cells #[.int .i64 x.kind, .int .i64 x.n, .int .i64 x.pos, .slice none 0 0] 42) := by
    rw [b1.block _ (by rw [hsz]; omega)]
    have := (MapKept.heap_alloc ((w.alloc (.cells #[.int .i64 x.kind, .int .i64 x.n, .int .i64 x.pos, .slice a x.kids.length cap] 40)).alloc (.cells #[.int .i64 0, .int .i64 0, .int .i64 0, .slice none 0 0] 42)) (.cells #[.int .i64 x.kind, .int .i64 x.n, .int .i64 x.pos, .slice none 0 0] 42)).1
    simpa using this
  have o1 : w1.heap[w.heap.size + 1]? = some (.cells #[.int .i64 0, .int .i64 0, .int .i64 0, .slice none 0 0] 42) := by
    rw [b1.block _ (by rw [hsz]; omega), Below.heap_alloc _ _ _ (by simp)]
    have := (MapKept.heap_alloc (w.alloc (.cells #[.int .i64 x.kind, .int .i64 x.n, .int .i64 x.pos, .slice a x.kids.length cap] 40)) (.cells #[.int .i64 0, .int .i64 0, .int .i64 0, .slice none 0 0] 42)).1
    simpa using this
  rw [hsz] at k1 b1 kb
  have hs1 : w.heap.size + 3 ≤ w1.heap.size := by have := b1.size; rw [hsz] at this; exact this
  have B1 : Below w.heap.size w w1 := HB0.trans (b1.mono (by omega))
  clear HB0 b1 hsz HK
  obtain ⟨ka, kc, rfl⟩ := own_form k1
  have K1 := (show Hid (_ ∧ _ ∧ _) from ⟨k1, kz, kb⟩)
  clear k1 kz kb
  have c20 : w1.cell? ⟨w.heap.size + 1 + 1, 0, none⟩ = some (.int .i64 x.kind) := by rw [cell_of_block o2]; rfl
  have c21 : w1.cell? ⟨w.heap.size + 1 + 1, 1, none⟩ = some (.int .i64 x.n) := by rw [cell_of_block o2]; rfl
  have c22 : w1.cell? ⟨w.heap.size + 1 + 1, 2, none⟩ = some (.int .i64 x.pos) := by rw [cell_of_block o2]; rfl
  have c23 : w1.cell? ⟨w.heap.size + 1 + 1, 3, none⟩ = some (.slice none 0 0) := by rw [cell_of_block o2]; rfl
  have f23 : w1.frozen? ⟨w.heap.size + 1 + 1, 3, none⟩ = false := unfrozen_of_block o2 3
  have c10 : w1.cell? ⟨w.heap.size + 1, 0, none⟩ = some (.int .i64 0) := by rw [cell_of_block o1]; rfl
  have c11 : w1.cell? ⟨w.heap.size + 1, 1, none⟩ = some (.int .i64 0) := by rw [cell_of_block o1]; rfl
  have c12 : w1.cell? ⟨w.heap.size + 1, 2, none⟩ = some (.int .i64 0) := by rw [cell_of_block o1]; rfl
  have c13 : w1.cell? ⟨w.heap.size + 1, 3, none⟩ = some (.slice none 0 0) := by rw [cell_of_block o1]; rfl
  have f10 : w1.frozen? ⟨w.heap.size + 1, 0, none⟩ = false := unfrozen_of_block o1 0
  have f11 : w1.frozen? ⟨w.heap.size + 1, 1, none⟩ = false := unfrozen_of_block o1 1
  have f12 : w1.frozen? ⟨w.heap.size + 1, 2, none⟩ = false := unfrozen_of_block o1 2
  have f13 : w1.frozen? ⟨w.heap.size + 1, 3, none⟩ = false := unfrozen_of_block o1 3
  clear o1 o2
  go_wp2
  refine bodyPost_ret (v := .agg #[.int .i64 x.kind, .int .i64 x.n, .int .i64 x.pos, .slice ka x.kids.length kc]) (by simp [results, Try.results26, go_sem, c10, c11, c12, c13]) rfl ⟨_, rfl, ?_, ⟨HR.out.1, HR.out.2.1, HR.out.2.2, K1.out.2.1⟩, ?_⟩
  · refine own_mono (own_moved K1.out.1 (fun b hb => ?_)) (by omega)
    have hb1 : b = w.heap.size + 3 := Option.some.inj (hb.symm.trans K1.out.2.2)
    have e1 : ∀ (j : Nat) (u : Value) (W : World), (W.setCell ⟨w.heap.size + 1, j, none⟩ u).heap[b]? = W.heap[b]? := fun j u W => Below.heap_setCell W _ u b (by simp; omega)
    have e2 : ∀ (j : Nat) (u : Value) (W : World), (W.setCell ⟨w.heap.size + 1 + 1, j, none⟩ u).heap[b]? = W.heap[b]? := fun j u W => Below.heap_setCell W _ u b (by simp; omega)
    rw [e1, e1, e1, e1, e2]
  · exact ((((B1.setCell (p := ⟨w.heap.size + 1 + 1, 3, none⟩) (by simp; omega) _).setCell (p := ⟨w.heap.size + 1, 0, none⟩) (by simp) _).setCell (p := ⟨w.heap.size + 1, 1, none⟩) (by simp) _).setCell (p := ⟨w.heap.size + 1, 2, none⟩) (by simp) _).setCell (p := ⟨w.heap.size + 1, 3, none⟩) (by simp) _

theorem set4_take (cur : Array Value) (k : Nat) (a b c e : Value) (L : List Value) (hs : k * 4 + 4 ≤ cur.size) (ht : cur.toList.take (k * 4) = L) : ((((cur.setIfInBounds (k * 4) a).setIfInBounds (k * 4 + 1) b).setIfInBounds (k * 4 + 2) c).setIfInBounds (k * 4 + 3) e).toList.take ((k + 1) * 4) = L ++ [a, b, c, e] := by
  have h0 := set_one cur (k * 4) a L (by omega) ht
  have h1 := set_one _ (k * 4 + 1) b _ (by simp; omega) h0
  have h2 := set_one _ (k * 4 + 2) c _ (by simp; omega) h1
  have h3 := set_one _ (k * 4 + 3) e _ (by simp; omega) h2
  rw [show (k + 1) * 4 = k * 4 + 3 + 1 by omega, h3]
  simp
/-- One cell more lies there. -/
theorem HpAt.next {wr w1 : World} {B g n k : Nat} {rs : List (Ce × Value)} {x : Ce} {kv : Value} (h : HpAt wr B (.slice (some ⟨g, 0, none⟩) k n) rs) (hk : rs.length = k) (hkn : k < n) (hb : Below wr.heap.size wr w1)
    (hx : w1.ownsRow wr.heap.size 3 1 kv x.kids.length (intVs x.kids)) (hok : CeOk x) (hB : B ≤ wr.heap.size) :
    HpAt (set4 w1 g (k * 4) (.int .i64 x.kind) (.int .i64 x.n) (.int .i64 x.pos) kv) B (.slice (some ⟨g, 0, none⟩) (k + 1) n) (rs ++ [(x, kv)]) := by
  have h1 := h.below hb
  subst hk
  rcases h1.cells.2 with ⟨h', _⟩ | ⟨g', cap', cur, h', hb', hc', hn', hm', hs', ht'⟩
  · simp at h'
  simp only [Value.slice.injEq, Option.some.injEq, Addr.mk.injEq, and_true, true_and] at h'
  obtain ⟨rfl, rfl⟩ := h'
  have hty := (own_type h.cells g rfl).2
  have hgl := own_lt h.cells g rfl
  have keep : ∀ b, b ≠ g → (set4 w1 g (rs.length * 4) (.int .i64 x.kind) (.int .i64 x.n) (.int .i64 x.pos) kv).heap[b]? = w1.heap[b]? := fun b hb => set4_heap _ _ _ _ _ _ _ _ hb
  refine ⟨?_, fun r hr => ?_, ?_⟩
  · rw [List.length_append, List.length_singleton, List.flatMap_append]
    refine ⟨by rw [List.length_append, ce_len]; simp [ceCells]; omega, .inr ⟨g, n, _, rfl, hb', block_setCell (block_setCell (block_setCell (block_setCell hc' _) _) _) _, by omega, hm', by simp [hs'], ?_⟩⟩
    have := set4_take cur rs.length (.int .i64 x.kind) (.int .i64 x.n) (.int .i64 x.pos) kv _ (by omega) ht'
    simpa [ceCells] using this
  · rw [List.mem_append, List.mem_singleton] at hr
    rcases hr with hr | rfl
    · have hk := h1.kids r hr
      exact ⟨own_moved hk.1 (fun b hb => keep b (fun e => own_ne hk.1 h1.cells (by decide) b hb (by rw [e]; rfl))), hk.2⟩
    · exact ⟨own_mono (own_moved hx (fun b hb => keep b (fun e => own_ne hx h1.cells (by decide) b hb (by rw [e]; rfl)))) hB, hok⟩
  · rw [List.map_append, List.pairwise_append]
    refine ⟨h.apart, by simp, fun u hu v hv => ?_⟩
    obtain ⟨r, hr, rfl⟩ := List.mem_map.1 hu
    simp at hv
    subst hv
    cases hb' : r.2.ownBlock with
    | none => exact .inl hb'
    | some q =>
      refine .inr fun e => ?_
      have h2 := own_lt (h.kids r hr).1 q hb'
      have h3 := (own_type hx q (e.symm.trans hb')).1
      omega

set_option maxHeartbeats 6400000 in
theorem toCellSO_any (v : Value) (es : List Ce) (S : Nat → Prop) (w : World) (h : CellsAt w S v es) (hb : bulkL es ≤ 1048576) :
    Calls Try.prog 9 #[v] w fun e w' => ∃ v' rs, e = .returned v' ∧ HpAt w' w.heap.size v' rs ∧ rs.map Prod.fst = es ∧ Below w.heap.size w w' := by
  have hlen : es.length ≤ bulkL es := Nat.le_add_right _ _
  have hBA := @bulkL_at es
  obtain ⟨a, cap, rfl, hl, hc⟩ := h
  clear hl
  have HC := (show Hid (_ ∧ True) from ⟨hc, trivial⟩)
  have hmk := make_cells es.length (by omega)
  clear hc
  have hms : (madeCells #[.int .i64 0, .int .i64 0, .int .i64 0, .slice none 0 0] (es.length * 4)).size = es.length * 4 := size_madeCells _ _
  have R0 : HpAt (w.alloc (.cells (madeCells #[.int .i64 0, .int .i64 0, .int .i64 0, .slice none 0 0] (es.length * 4)) 42)) w.heap.size (.slice (some ⟨w.heap.size, 0, none⟩) 0 es.length) [] :=
    ⟨⟨rfl, .inr ⟨_, _, _, rfl, Nat.le_refl _, (MapKept.heap_alloc w _).1, Nat.zero_le _, by unfold maxLen; omega, hms, rfl⟩⟩, fun r hr => by simp at hr, by simp⟩
  have B0 : Below w.heap.size w (w.alloc (.cells (madeCells #[.int .i64 0, .int .i64 0, .int .i64 0, .slice none 0 0] (es.length * 4)) 42)) := (Below.refl _ w).alloc (Nat.le_refl _) _
  generalize madeCells #[.int .i64 0, .int .i64 0, .int .i64 0, .slice none 0 0] (es.length * 4) = c0 at *
  clear hms
  go_enter Try.func9, Try.ntmps9
  go_wp2
  clear hmk
  go_loopw [4] (fun i wr => ∃ (k : Nat) (rs : List (Ce × Value)), k ≤ es.length ∧ i = .int .i64 k ∧ rs.length = k ∧ rs.map Prod.fst = es.take k ∧ HpAt wr w.heap.size (.slice (some ⟨w.heap.size, 0, none⟩) k es.length) rs ∧ Below w.heap.size w wr) (fun i _ => es.length - (intOf i).toNat)
  case atStart => exact ⟨0, [], Nat.zero_le _, rfl, rfl, by simp, R0, B0⟩
  case round =>
    clear R0 B0
    obtain ⟨k, rs, hk, rfl, hrl, hmap, hrow, hbw⟩ := hrel
    by_cases hkl : k < es.length
    · have he := List.getElem?_eq_getElem hkl
      have hbk := hBA he
      have htk : es.take (k + 1) = es.take k ++ [es[k]] := List.take_succ_eq_append_getElem hkl
      generalize es[k] = x at *
      obtain ⟨b, off, kv, rfl, hSb, hlt2, c0, c1, c2, c3, r1, r2, r3, hkk⟩ := HC.out.1 k x he
      rw [← hbw.cell (by exact hlt2)] at c0 c1 c2 c3
      have HX : Hid (CeAt wr S (.agg #[.int .i64 x.kind, .int .i64 x.n, .int .i64 x.pos, kv]) x) := ⟨kv, rfl, r1, r2, r3, hkk.below hbw⟩
      obtain ⟨ka, kc, rfl⟩ := hkk.form
      have HH := (show Hid (_ ∧ _ ∧ _ ∧ _) from ⟨htk, hmap, hrow, hrl⟩)
      have hsz := hbw.size
      have hgl := own_lt hrow.cells w.heap.size rfl
      clear hkk he HC hBA htk hmap hrow hrl
      have hlt' : ((k : Nat) : Int) < ((es.length : Nat) : Int) := by omega
      go_wp2_with fail
      refine (toCellO_any _ x S _ HX.out (by omega)).mono ?_
      rintro e w1 ⟨kv', rfl, hx1, hok, b1⟩
      obtain ⟨ka', kc', rfl⟩ := own_form hx1
      have hn1 := HH.out.2.2.1.next HH.out.2.2.2 hkl b1 hx1 hok hsz
      have B1 : Below w.heap.size w w1 := hbw.trans (b1.mono hsz)
      rcases (HH.out.2.2.1.below b1).cells.2 with ⟨h', _⟩ | ⟨g', cap', cur, h', hb', hg1, hn', hm', hcs, ht'⟩
      · simp at h'
      simp only [Value.slice.injEq, Option.some.injEq, Addr.mk.injEq, and_true] at h'
      obtain ⟨rfl, hkr, hcc⟩ := h'
      rw [← hcc] at hcs
      clear hkr hcc hn' hm'
      have d0 : w1.cell? ⟨w.heap.size, k * 4, none⟩ = some (cur[k * 4]'(by omega)) := by rw [cell_of_block hg1]; exact Array.getElem?_eq_getElem _
      have d1 : w1.cell? ⟨w.heap.size, k * 4 + 1, none⟩ = some (cur[k * 4 + 1]'(by omega)) := by rw [cell_of_block hg1]; exact Array.getElem?_eq_getElem _
      have d2 : w1.cell? ⟨w.heap.size, k * 4 + 2, none⟩ = some (cur[k * 4 + 2]'(by omega)) := by rw [cell_of_block hg1]; exact Array.getElem?_eq_getElem _
      have d3 : w1.cell? ⟨w.heap.size, k * 4 + 3, none⟩ = some (cur[k * 4 + 3]'(by omega)) := by rw [cell_of_block hg1]; exact Array.getElem?_eq_getElem _
      generalize cur[k * 4]'(by omega) = y0 at d0
      generalize cur[k * 4 + 1]'(by omega) = y1 at d1
      generalize cur[k * 4 + 2]'(by omega) = y2 at d2
      generalize cur[k * 4 + 3]'(by omega) = y3 at d3
      have f0 : w1.frozen? ⟨w.heap.size, k * 4, none⟩ = false := unfrozen_of_block hg1 _
      have f1 : w1.frozen? ⟨w.heap.size, k * 4 + 1, none⟩ = false := unfrozen_of_block hg1 _
      have f2 : w1.frozen? ⟨w.heap.size, k * 4 + 2, none⟩ = false := unfrozen_of_block hg1 _
      have f3 : w1.frozen? ⟨w.heap.size, k * 4 + 3, none⟩ = false := unfrozen_of_block hg1 _
      have HN := (show Hid (_ ∧ _) from ⟨hn1, hok⟩)
      clear hg1 hn1 hx1 hok b1 HX c0 c1 c2 c3 r1 r2 r3 ht' hcs
      go_wp2
      refine ⟨⟨k + 1, rs ++ [(x, .slice ka' x.kids.length kc')], by omega, by go_num, by rw [List.length_append, HH.out.2.2.2]; rfl, by rw [List.map_append, HH.out.2.1, HH.out.1]; rfl, HN.out.1, ?_⟩, by simp [intOf]; omega⟩
      exact (((B1.setCell (p := ⟨w.heap.size, k * 4, none⟩) (Nat.le_refl _) _).setCell (p := ⟨w.heap.size, k * 4 + 1, none⟩) (Nat.le_refl _) _).setCell (p := ⟨w.heap.size, k * 4 + 2, none⟩) (Nat.le_refl _) _).setCell (p := ⟨w.heap.size, k * 4 + 3, none⟩) (Nat.le_refl _) _
    · obtain rfl : k = es.length := by omega
      rw [List.take_length] at hmap
      have HF := (show Hid (_ ∧ _ ∧ _) from ⟨hrow, hmap, hbw⟩)
      clear hrow hmap HC hbw
      go_wp2
      go_ret
      exact ⟨_, rs, rfl, HF.out.1, HF.out.2.1, HF.out.2.2⟩
end Go.Proofs.Ythjpmdoljceaiaa
