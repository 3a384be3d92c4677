/-
  The program's endsOf: where each place leads to.
-/
import Derived.Test.YthjpmdoljceaiaaSettleEnds
import Derived.Laws.MakeOwn
namespace Go.Proofs.Ythjpmdoljceaiaa
open Go.RowKit Go.Joins

set_option maxRecDepth 100000

theorem made_row (w : World) (base : Nat) (e : TypeId) (zc : Array Value) (size n : Nat) (hb : base ≤ w.heap.size) (hn : n ≤ maxLen) : (w.alloc (.cells (madeCells zc (n * size)) e)).ownsRow base e size (.slice (some ⟨w.heap.size, 0, none⟩) n n) n (madeCells zc (n * size)).toList := by
  have hs : (madeCells zc (n * size)).size = n * size := size_madeCells _ _
  refine ⟨by rw [Array.length_toList, hs], .inr ⟨w.heap.size, n, _, rfl, hb, (MapKept.heap_alloc w _).1, Nat.le_refl _, hn, hs, ?_⟩⟩
  exact List.take_of_length_le (by rw [Array.length_toList, hs]; exact Nat.le_refl _)
theorem makeI_row (n : Nat) (hn : n ≤ 4194304) (w : World) : (Instr.makeSlice 30 (.int .i64 (n : Int)) (.int .i64 (n : Int))).run Try.prog w = .ok (.slice (some ⟨w.heap.size, 0, none⟩) n n) (w.alloc (.cells (madeCells #[.int .i64 0] n) 3)) := by
  obtain ⟨i0, hi, hz0, hz1, hz2⟩ := info_parts infoCdI
  have h := run_make (P := Try.prog) w 30 3 i0 (.int .i64 0) Try.underlying30 hi hz0 .i64 .i64 n n (by omega) (Int.le_refl _) (by rw [hz2]; omega) (by omega)
  rw [hz1] at h
  simp only [Int.toNat_natCast, Nat.mul_one] at h
  exact h
theorem follow_in {es : List Ce} (hl : es.length ≤ 4194304) : ∀ z ∈ endsL es, inI64 z := by
  intro z hz
  obtain ⟨i, _, rfl⟩ := List.mem_map.1 hz
  rcases followN_in es (es.length + 1) (i : Int) with h | h
  · exact ⟨by unfold follow; omega, by unfold follow; omega⟩
  · exact ⟨by unfold follow; omega, by unfold follow; omega⟩

set_option maxHeartbeats 12800000 in
theorem endsOf_any (v : Value) (es : List Ce) (S : Nat → Prop) (w : World) (h : CellsAt w S v es) (hn : es.length ≤ 2000000) :
    Calls Try.prog 39 #[v] w fun e w' => e = .returned (.slice (some ⟨w.heap.size, 0, none⟩) es.length es.length) ∧ w'.ownsRow w.heap.size 3 1 (.slice (some ⟨w.heap.size, 0, none⟩) es.length es.length) es.length (intVs (endsL es)) ∧ Below w.heap.size w w' := by
  obtain ⟨a, cap, hv⟩ := h.form
  have hmk := makeI_row es.length (by omega)
  have HC := (show Hid (_ ∧ _ ∧ _) from ⟨h, (by have := made_row w w.heap.size 3 #[.int .i64 0] 1 es.length (Nat.le_refl _) (by unfold maxLen; omega); rw [Nat.mul_one] at this; exact this : (w.alloc (.cells (madeCells #[.int .i64 0] es.length) 3)).ownsRow w.heap.size 3 1 (.slice (some ⟨w.heap.size, 0, none⟩) es.length es.length) es.length (madeCells #[.int .i64 0] es.length).toList), ((Below.refl w.heap.size w).alloc (Nat.le_refl _) (.cells (madeCells #[.int .i64 0] es.length) 3))⟩)
  clear h
  subst hv
  go_enter Try.func39, Try.ntmps39
  go_wp2
  clear hmk
  go_loopw [12] (fun i wr => ∃ (k : Nat) (xs : List Value), k ≤ es.length ∧ i = .int .i64 k ∧ (∀ (j : Nat) (c : Ce), j < k → es[j]? = some c → xs[j]? = some (.int .i64 (end0 j c))) ∧ wr.ownsRow w.heap.size 3 1 (.slice (some ⟨w.heap.size, 0, none⟩) es.length es.length) es.length xs ∧ Below w.heap.size w wr) (fun i _ => es.length - (intOf i).toNat)
  case atStart => exact ⟨0, _, Nat.zero_le _, rfl, fun j c hj => by omega, HC.out.2.1, HC.out.2.2⟩
  case round =>
    obtain ⟨k, xs, hk, rfl, hxs, hrow, hbw⟩ := hrel
    have hszw := hbw.size
    have hxl := hrow.1
    rw [Nat.mul_one] at hxl
    by_cases hkl : k < es.length
    · have he := List.getElem?_eq_getElem hkl
      generalize es[k] = x at *
      obtain ⟨a', cap', hcv, -, hcc⟩ := HC.out.1
      simp only [Value.slice.injEq, true_and] at hcv
      obtain ⟨rfl, rfl⟩ := hcv
      obtain ⟨b, off, kv, rfl, hSb, hlt2, c0, c1, c2, c3, r1, r2, r3, hkk⟩ := hcc k x he
      rw [← hbw.cell (by exact hlt2)] at c0 c1 c2 c3
      obtain ⟨ka, kc, rfl⟩ := hkk.form
      have hbl : b < wr.heap.size := by omega
      have hbn : ¬ b = wr.heap.size := by omega
      have hgl : w.heap.size < wr.heap.size := own_lt hrow _ rfl
      have hgn : ¬ w.heap.size = wr.heap.size := by omega
      have d0 : ∃ u, wr.cell? ⟨w.heap.size, k, none⟩ = some u := by
        rw [hrow.cellAt k (by omega)]
        exact ⟨_, List.getElem?_eq_getElem (by omega)⟩
      obtain ⟨u0, d0⟩ := d0
      have f0 := row_frozen hrow k
      have hst := (hrow.stored k (.int .i64 (-2))).1.alloc (.cells #[.int .i64 x.kind, .int .i64 x.n, .int .i64 x.pos, .slice ka x.kids.length kc] 42)
      have hb1 : Below w.heap.size w (wr.setCell ⟨w.heap.size, k, none⟩ (.int .i64 (-2))) := hbw.setCell (p := ⟨w.heap.size, k, none⟩) (Nat.le_refl _) _
      have hb2 : Below w.heap.size w ((wr.setCell ⟨w.heap.size, k, none⟩ (.int .i64 (-2))).alloc (.cells #[.int .i64 x.kind, .int .i64 x.n, .int .i64 x.pos, .slice ka x.kids.length kc] 42)) := hb1.alloc (by simp; omega) _
      have hce : CeAt ((wr.setCell ⟨w.heap.size, k, none⟩ (.int .i64 (-2))).alloc (.cells #[.int .i64 x.kind, .int .i64 x.n, .int .i64 x.pos, .slice ka x.kids.length kc] 42)) S (.agg #[.int .i64 x.kind, .int .i64 x.n, .int .i64 x.pos, .slice ka x.kids.length kc]) x := ⟨_, rfl, r1, r2, r3, hkk.below hb2⟩
      have hE := isEnd_any _ x S _ hce
      have hlt' : ((k : Nat) : Int) < ((es.length : Nat) : Int) := by omega
      have HN := (show Hid (_ ∧ _ ∧ _ ∧ _ ∧ _ ∧ _) from ⟨hst, hb2, hE, hxs, he, hxl⟩)
      clear hrow hst hb1 hb2 hce hE hxs he hcc hkk hbw r1 r2 r3 HC
      cases hen : x.isEnd with
      | true =>
        go_wp2_with (go_at_call 32; refine HN.out.2.2.1.mono ?_; rintro e w3 ⟨rfl, b3⟩; rw [hen]; have hr3 := own_moved HN.out.1 (fun g hg => b3.block g (own_lt HN.out.1 g hg)); have hw3 : Below w.heap.size w w3 := HN.out.2.1.trans (b3.mono (by simp; omega)); have d3 : w3.cell? ⟨w.heap.size, k, none⟩ = some (.int .i64 (-2)) := (by rw [hr3.cellAt k (by omega), List.getElem?_set_self (by have := HN.out.2.2.2.2.2; omega)]); have f3 := row_frozen hr3 k)
        have hst3 := hr3.stored k (.int .i64 (k : Int))
        refine ⟨⟨k + 1, _, by omega, by go_num, fun j c hj hc => ?_, hst3.1, hw3.setCell (p := ⟨w.heap.size, k, none⟩) (Nat.le_refl _) _⟩, by simp [intOf]; omega⟩
        have hxl := HN.out.2.2.2.2.2
        by_cases hjk : j = k
        · subst hjk
          rw [List.getElem?_set_self (by rw [List.length_set]; omega)]
          obtain rfl : x = c := Option.some.inj (HN.out.2.2.2.2.1.symm.trans hc)
          unfold end0
          rw [if_pos hen]
        · rw [List.getElem?_set_ne (by omega), List.getElem?_set_ne (by omega)]
          exact HN.out.2.2.2.1 j c (by omega) hc
      | false =>
        go_wp2_with (go_at_call 32; refine HN.out.2.2.1.mono ?_; rintro e w3 ⟨rfl, b3⟩; rw [hen])
        have hr3 := own_moved HN.out.1 (fun g hg => b3.block g (own_lt HN.out.1 g hg))
        have hw3 : Below w.heap.size w w3 := HN.out.2.1.trans (b3.mono (by simp; omega))
        refine ⟨⟨k + 1, _, by omega, by go_num, fun j c hj hc => ?_, hr3, hw3⟩, by simp [intOf]; omega⟩
        have hxl := HN.out.2.2.2.2.2
        by_cases hjk : j = k
        · subst hjk
          rw [List.getElem?_set_self (by omega)]
          obtain rfl : x = c := Option.some.inj (HN.out.2.2.2.2.1.symm.trans hc)
          unfold end0
          rw [if_neg (by rw [hen]; exact Bool.false_ne_true)]
        · rw [List.getElem?_set_ne (by omega)]
          exact HN.out.2.2.2.1 j c (by omega) hc
    · obtain rfl : k = es.length := by omega
      obtain ⟨E, hE, hKn⟩ : ∃ E : List Int, xs = intVs E ∧ Known es E := by
        refine ⟨(List.range es.length).map (fun j => match es[j]? with | some c => end0 j c | none => 0), ?_, ?_⟩
        · refine List.ext_getElem? fun j => ?_
          by_cases hj : j < es.length
          · have hc := List.getElem?_eq_getElem hj
            rw [hxs j _ hj hc, List.getElem?_map, List.getElem?_map, List.getElem?_range hj]
            simp only [Option.map_some, hc]
          · rw [List.getElem?_eq_none (by omega), List.getElem?_eq_none (by simp; omega)]
        · refine Known.first (by simp) fun j c hc => ?_
          have hj := (List.getElem?_eq_some_iff.1 hc).1
          rw [List.getElem?_map, List.getElem?_range hj]
          simp only [Option.map_some, hc]
      subst hE
      have HN := (show Hid (_ ∧ _ ∧ _) from ⟨hrow, hKn, hbw⟩)
      clear hrow hKn hbw hxs hxl
      go_wp2
      go_loopw [29] (fun i wr2 => ∃ (k : Nat) (E2 : List Int), k ≤ es.length ∧ i = .int .i64 k ∧ Known es E2 ∧ (∀ j : Nat, j < k → E2[j]? ≠ some (-2)) ∧ wr2.ownsRow w.heap.size 3 1 (.slice (some ⟨w.heap.size, 0, none⟩) es.length es.length) es.length (intVs E2) ∧ Below w.heap.size w wr2) (fun i _ => es.length - (intOf i).toNat)
      case atStart => exact ⟨0, E, Nat.zero_le _, rfl, HN.out.2.1, fun j hj => by omega, HN.out.1, HN.out.2.2⟩
      case round =>
        clear HN
        obtain ⟨k, E2, hk, rfl, hKn, hne, hrow, hbw⟩ := hrel
        by_cases hkl : k < es.length
        · have hgl : w.heap.size < wr.heap.size := own_lt hrow _ rfl
          have hcs : CellsAt wr (fun q => q < w.heap.size) (.slice a es.length cap) es := HC.out.1.kept (fun q _ hlt => hbw.block q hlt) hbw.size (fun q _ hlt => hlt)
          have hse := settleEnds_any es E2 k w.heap.size es.length w.heap.size cap a (fun q => q < w.heap.size) wr hcs (fun q hq => by omega) hkl hrow hKn hn
          have HS := (show Hid (_ ∧ _ ∧ _) from ⟨hse, hne, hbw⟩)
          have hlt' : ((k : Nat) : Int) < ((es.length : Nat) : Int) := by omega
          clear hKn hne hrow hbw hcs hse
          go_wp2_with (go_at_call 53; refine HS.out.1.mono ?_; rintro e w3 ⟨rfl, E3, hK3, hk3, hold3, hr3, ho3⟩)
          refine ⟨⟨k + 1, E3, by omega, by go_num, hK3, fun j hj => ?_, hr3, ?_⟩, by simp [intOf]; omega⟩
          · by_cases hjk : j = k
            · rw [hjk]; exact hk3
            · exact hold3 j (HS.out.2.1 j (by omega))
          · have hb0 := HS.out.2.2
            exact ⟨ho3.os.trans hb0.os, ho3.tape.trans hb0.tape, ho3.output.trans hb0.output, Nat.le_trans hb0.size ho3.size, fun q hq => (ho3.out q (by have := hb0.size; omega) (fun h => by rcases h with h | h <;> omega)).trans (hb0.block q hq)⟩
        · obtain rfl : k = es.length := by omega
          have hall := hKn.all (fun j hj => hne j hj)
          have HS := (show Hid (_ ∧ _ ∧ _) from ⟨hall, hrow, hbw⟩)
          clear hKn hne hrow hbw hall
          go_wp2
          go_ret
          exact ⟨rfl, by rw [← HS.out.1]; exact HS.out.2.1, HS.out.2.2⟩
end Go.Proofs.Ythjpmdoljceaiaa
