/-
  Copies of links' rows, as rows of a call's own that share nothing.
-/
import Derived.Test.YtbaakhpmfljgnaaDoorLinkOne
import Derived.Test.YtbaakhpmfljgnaaDoorLinkOwn
namespace Go.Proofs.YtbaakhpmfljgnaaDoor
open Go.RowKit Go.Joins

set_option maxRecDepth 100000

theorem make_sents (n : Nat) (hn : n ≤ 1048576) (w : World) : (Instr.makeSlice 28 (.int .i64 (n : Int)) (.int .i64 (n : Int))).run Tryd.prog w = .ok (.slice (some ⟨w.heap.size, 0, none⟩) n n) (w.alloc (.cells (madeCells #[.int .i64 0, .int .i64 0, .string ByteArray.empty] (n * 3)) 39)) := by
  obtain ⟨i0, hi, hz0, hz1, hz2⟩ := info_parts infoSent
  have h := run_make (P := Tryd.prog) w 28 39 i0 _ Tryd.underlying28 hi hz0 .i64 .i64 (n : Int) (n : Int) (by omega) (by omega) (by rw [hz2]; omega) (by omega)
  rw [h, hz1]
  rfl
theorem make_seens (n : Nat) (hn : n ≤ 1048576) (w : World) : (Instr.makeSlice 29 (.int .i64 (n : Int)) (.int .i64 (n : Int))).run Tryd.prog w = .ok (.slice (some ⟨w.heap.size, 0, none⟩) n n) (w.alloc (.cells (madeCells #[.int .i64 0, .slice none 0 0] (n * 2)) 48)) := by
  obtain ⟨i0, hi, hz0, hz1, hz2⟩ := info_parts infoSeen
  have h := run_make (P := Tryd.prog) w 29 48 i0 _ Tryd.underlying29 hi hz0 .i64 .i64 (n : Int) (n : Int) (by omega) (by omega) (by rw [hz2]; omega) (by omega)
  rw [h, hz1]
  rfl

set_option maxHeartbeats 6400000 in
theorem toSentS_any (v : Value) (es : List Sn) (S : Nat → Prop) (w : World) (h : SentsAt w S v es) (hb : bulkO es ≤ 1048576) :
    Calls Tryd.prog 13 #[v] w fun e w' => ∃ v', e = .returned v' ∧ SnOwn w' w.heap.size v' es ∧ Below w.heap.size w w' := by
  have hlen : es.length ≤ bulkO es := Nat.le_add_right _ _
  obtain ⟨a, cap, rfl, hl, hc⟩ := h
  clear hl
  have HC := (show Hid (_ ∧ True) from ⟨hc, trivial⟩)
  have hmk := make_sents es.length (by omega)
  clear hc
  have hms : (madeCells #[.int .i64 0, .int .i64 0, .string ByteArray.empty] (es.length * 3)).size = es.length * 3 := size_madeCells _ _
  have R0 : (w.alloc (.cells (madeCells #[.int .i64 0, .int .i64 0, .string ByteArray.empty] (es.length * 3)) 39)).ownsRow w.heap.size 39 3 (.slice (some ⟨w.heap.size, 0, none⟩) 0 es.length) 0 [] :=
    ⟨rfl, .inr ⟨_, _, _, rfl, Nat.le_refl _, (MapKept.heap_alloc w _).1, Nat.zero_le _, by unfold maxLen; omega, hms, rfl⟩⟩
  have B0 : Below w.heap.size w (w.alloc (.cells (madeCells #[.int .i64 0, .int .i64 0, .string ByteArray.empty] (es.length * 3)) 39)) := (Below.refl _ w).alloc (Nat.le_refl _) _
  generalize madeCells #[.int .i64 0, .int .i64 0, .string ByteArray.empty] (es.length * 3) = c0 at *
  clear hms
  go_enter Tryd.func13, Tryd.ntmps13
  go_wp2
  clear hmk
  go_loopw [4] (fun i wr => ∃ (k : Nat), k ≤ es.length ∧ i = .int .i64 k ∧ (∀ s ∈ es.take k, SnOk s) ∧ wr.ownsRow w.heap.size 39 3 (.slice (some ⟨w.heap.size, 0, none⟩) k es.length) k ((es.take k).flatMap snCells) ∧ Below w.heap.size w wr) (fun i _ => es.length - (intOf i).toNat)
  case atStart => exact ⟨0, Nat.zero_le _, rfl, fun s hs => by simp at hs, R0, B0⟩
  case round =>
    clear R0 B0
    obtain ⟨k, hk, rfl, hoks, hrow, hbw⟩ := hrel
    by_cases hkl : k < es.length
    · have he := List.getElem?_eq_getElem hkl
      have htk : es.take (k + 1) = es.take k ++ [es[k]] := List.take_succ_eq_append_getElem hkl
      generalize es[k] = x at *
      obtain ⟨b, off, rfl, hSb, hlt2, c0, c1, c2, r1, r2, r3⟩ := HC.out.1 k x he
      rw [← hbw.cell (by exact hlt2)] at c0 c1 c2
      have HH := (show Hid (_ ∧ _ ∧ _ ∧ _) from ⟨htk, hoks, hrow, (⟨r1, r2, r3⟩ : SnOk x)⟩)
      have hsz := hbw.size
      clear he HC htk hoks hrow r1 r2 r3
      have hlt' : ((k : Nat) : Int) < ((es.length : Nat) : Int) := by omega
      go_wp2_with fail
      refine (toSent_any x _).mono ?_
      rintro e w1 ⟨rfl, b1⟩
      have hrow1 := own_moved HH.out.2.2.1 (fun g hg => b1.block g (own_lt HH.out.2.2.1 g hg))
      have hn1 := own_next3 hrow1 hkl (.int .i64 x.seq) (.int .i64 x.dst) (.string x.body)
      have B1 : Below w.heap.size w w1 := hbw.trans (b1.mono hsz)
      rcases hrow1.2 with ⟨h', _⟩ | ⟨g', cap', cur, h', hb', hg1, hn', hm', hcs, ht'⟩
      · simp at h'
      simp only [Value.slice.injEq, Option.some.injEq, Addr.mk.injEq, and_true] at h'
      obtain ⟨rfl, hkr, hcc⟩ := h'
      rw [← hcc] at hcs
      clear hkr hcc hn' hm'
      have d0 : w1.cell? ⟨w.heap.size, k * 3, none⟩ = some (cur[k * 3]'(by omega)) := by rw [cell_of_block hg1]; exact Array.getElem?_eq_getElem _
      have d1 : w1.cell? ⟨w.heap.size, k * 3 + 1, none⟩ = some (cur[k * 3 + 1]'(by omega)) := by rw [cell_of_block hg1]; exact Array.getElem?_eq_getElem _
      have d2 : w1.cell? ⟨w.heap.size, k * 3 + 2, none⟩ = some (cur[k * 3 + 2]'(by omega)) := by rw [cell_of_block hg1]; exact Array.getElem?_eq_getElem _
      generalize cur[k * 3]'(by omega) = y0 at d0
      generalize cur[k * 3 + 1]'(by omega) = y1 at d1
      generalize cur[k * 3 + 2]'(by omega) = y2 at d2
      have f0 : w1.frozen? ⟨w.heap.size, k * 3, none⟩ = false := unfrozen_of_block hg1 _
      have f1 : w1.frozen? ⟨w.heap.size, k * 3 + 1, none⟩ = false := unfrozen_of_block hg1 _
      have f2 : w1.frozen? ⟨w.heap.size, k * 3 + 2, none⟩ = false := unfrozen_of_block hg1 _
      have HN := (show Hid (_ ∧ True) from ⟨hn1, trivial⟩)
      clear hg1 hn1 hrow1 b1 c0 c1 c2 ht' hcs
      go_wp2
      refine ⟨⟨k + 1, by omega, by go_num, ?_, ?_, ?_⟩, by simp [intOf]; omega⟩
      · rw [HH.out.1]
        intro s hs
        rcases List.mem_append.1 hs with hs | hs
        · exact HH.out.2.1 s hs
        · rw [List.mem_singleton.1 hs]; exact HH.out.2.2.2
      · rw [HH.out.1, List.flatMap_append]
        simpa [snCells] using HN.out.1
      · exact ((B1.setCell (p := ⟨w.heap.size, k * 3, none⟩) (Nat.le_refl _) _).setCell (p := ⟨w.heap.size, k * 3 + 1, none⟩) (Nat.le_refl _) _).setCell (p := ⟨w.heap.size, k * 3 + 2, none⟩) (Nat.le_refl _) _
    · obtain rfl : k = es.length := by omega
      rw [List.take_length] at hoks hrow
      have HF := (show Hid (_ ∧ _) from ⟨(⟨hrow, hoks⟩ : SnOwn wr w.heap.size _ es), hbw⟩)
      clear hrow hoks HC hbw
      go_wp2
      go_ret
      exact ⟨_, rfl, HF.out.1, HF.out.2⟩

set_option maxHeartbeats 6400000 in
theorem toSeenS_any (v : Value) (es : List Se) (S : Nat → Prop) (w : World) (h : SeensAt w S v es) (hb : bulkN es ≤ 1048576) :
    Calls Tryd.prog 14 #[v] w fun e w' => ∃ v' rs, e = .returned v' ∧ SeOwn w' w.heap.size v' rs ∧ rs.map Prod.fst = es ∧ Below w.heap.size w w' := by
  have hlen : es.length ≤ bulkN es := Nat.le_add_right _ _
  have hBA := @bulkN_at es
  obtain ⟨a, cap, rfl, hl, hc⟩ := h
  clear hl
  have HC := (show Hid (_ ∧ True) from ⟨hc, trivial⟩)
  have hmk := make_seens es.length (by omega)
  clear hc
  have hms : (madeCells #[.int .i64 0, .slice none 0 0] (es.length * 2)).size = es.length * 2 := size_madeCells _ _
  have R0 : SeOwn (w.alloc (.cells (madeCells #[.int .i64 0, .slice none 0 0] (es.length * 2)) 48)) w.heap.size (.slice (some ⟨w.heap.size, 0, none⟩) 0 es.length) [] :=
    ⟨⟨rfl, .inr ⟨_, _, _, rfl, Nat.le_refl _, (MapKept.heap_alloc w _).1, Nat.zero_le _, by unfold maxLen; omega, hms, rfl⟩⟩, fun r hr => by simp at hr, by simp⟩
  have B0 : Below w.heap.size w (w.alloc (.cells (madeCells #[.int .i64 0, .slice none 0 0] (es.length * 2)) 48)) := (Below.refl _ w).alloc (Nat.le_refl _) _
  generalize madeCells #[.int .i64 0, .slice none 0 0] (es.length * 2) = c0 at *
  clear hms
  go_enter Tryd.func14, Tryd.ntmps14
  go_wp2
  clear hmk
  go_loopw [4] (fun i wr => ∃ (k : Nat) (rs : List (Se × Value)), k ≤ es.length ∧ i = .int .i64 k ∧ rs.length = k ∧ rs.map Prod.fst = es.take k ∧ SeOwn wr w.heap.size (.slice (some ⟨w.heap.size, 0, none⟩) k es.length) rs ∧ Below w.heap.size w wr) (fun i _ => es.length - (intOf i).toNat)
  case atStart => exact ⟨0, [], Nat.zero_le _, rfl, rfl, by simp, R0, B0⟩
  case round =>
    clear R0 B0
    obtain ⟨k, rs, hk, rfl, hrl, hmap, hrow, hbw⟩ := hrel
    by_cases hkl : k < es.length
    · have he := List.getElem?_eq_getElem hkl
      have hbk := hBA he
      have htk : es.take (k + 1) = es.take k ++ [es[k]] := List.take_succ_eq_append_getElem hkl
      generalize es[k] = x at *
      obtain ⟨b, off, kv, rfl, hSb, hlt2, c0, c1, r1, hkk⟩ := HC.out.1 k x he
      rw [← hbw.cell (by exact hlt2)] at c0 c1
      have HX : Hid (IntsAt wr S kv x.ids) := hkk.below hbw
      obtain ⟨ka, kc, rfl⟩ := hkk.form
      have HH := (show Hid (_ ∧ _ ∧ _ ∧ _ ∧ _) from ⟨htk, hmap, hrow, hrl, r1⟩)
      have hsz := hbw.size
      have hgl := own_lt hrow.cells w.heap.size rfl
      clear hkk he HC hBA htk hmap hrow hrl r1
      have hlt' : ((k : Nat) : Int) < ((es.length : Nat) : Int) := by omega
      go_wp2_with fail
      refine (toSeenO_any _ x S _ HX.out (by omega)).mono ?_
      rintro e w1 ⟨kv', rfl, hx1, hok, b1⟩
      obtain ⟨ka', kc', rfl⟩ := own_form hx1
      have hn1 := HH.out.2.2.1.next HH.out.2.2.2.1 hkl b1 hx1 ⟨HH.out.2.2.2.2, hok⟩ hsz
      have B1 : Below w.heap.size w w1 := hbw.trans (b1.mono hsz)
      rcases (HH.out.2.2.1.below b1).cells.2 with ⟨h', _⟩ | ⟨g', cap', cur, h', hb', hg1, hn', hm', hcs, ht'⟩
      · simp at h'
      simp only [Value.slice.injEq, Option.some.injEq, Addr.mk.injEq, and_true] at h'
      obtain ⟨rfl, hkr, hcc⟩ := h'
      rw [← hcc] at hcs
      clear hkr hcc hn' hm'
      have d0 : w1.cell? ⟨w.heap.size, k * 2, none⟩ = some (cur[k * 2]'(by omega)) := by rw [cell_of_block hg1]; exact Array.getElem?_eq_getElem _
      have d1 : w1.cell? ⟨w.heap.size, k * 2 + 1, none⟩ = some (cur[k * 2 + 1]'(by omega)) := by rw [cell_of_block hg1]; exact Array.getElem?_eq_getElem _
      generalize cur[k * 2]'(by omega) = y0 at d0
      generalize cur[k * 2 + 1]'(by omega) = y1 at d1
      have f0 : w1.frozen? ⟨w.heap.size, k * 2, none⟩ = false := unfrozen_of_block hg1 _
      have f1 : w1.frozen? ⟨w.heap.size, k * 2 + 1, none⟩ = false := unfrozen_of_block hg1 _
      have HN := (show Hid (_ ∧ True) from ⟨hn1, trivial⟩)
      clear hg1 hn1 hx1 hok b1 HX c0 c1 ht' hcs
      go_wp2
      refine ⟨⟨k + 1, rs ++ [(x, .slice ka' x.ids.length kc')], by omega, by go_num, by rw [List.length_append, HH.out.2.2.2.1]; rfl, by rw [List.map_append, HH.out.2.1, HH.out.1]; rfl, HN.out.1, ?_⟩, by simp [intOf]; omega⟩
      exact (B1.setCell (p := ⟨w.heap.size, k * 2, none⟩) (Nat.le_refl _) _).setCell (p := ⟨w.heap.size, k * 2 + 1, none⟩) (Nat.le_refl _) _
    · obtain rfl : k = es.length := by omega
      rw [List.take_length] at hmap
      have HF := (show Hid (_ ∧ _ ∧ _) from ⟨hrow, hmap, hbw⟩)
      clear hrow hmap HC hbw
      go_wp2
      go_ret
      exact ⟨_, rs, rfl, HF.out.1, HF.out.2.1, HF.out.2.2⟩
end Go.Proofs.YtbaakhpmfljgnaaDoor
