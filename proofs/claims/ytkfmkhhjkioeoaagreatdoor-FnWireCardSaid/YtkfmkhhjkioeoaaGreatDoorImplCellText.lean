/-
  The program's CellText.
-/
import Derived.Test.YtkfmkhhjkioeoaaGreatDoorMN
import Derived.Test.YtkfmkhhjkioeoaaGreatDoorImplDec
import Derived.Test.YtkfmkhhjkioeoaaGreatDoorMD
import Derived.BigQuiet
import Derived.Deep.QuietTactic
import Derived.Lib.Join
namespace Go.Proofs.YtkfmkhhjkioeoaaGreatDoor
open Go.RowKit Go.Joins

set_option maxRecDepth 100000

theorem infoStr : (Tryz.prog.info? 9).map (fun i => (i.zero, i.size, i.bytes)) = some (some (.string ⟨#[]⟩), 1, 16) := by kernel_rfl
/-- The words of a cell's text. -/
def wordsOf (l : ByteArray) (zs : List Int) : List ByteArray := l :: zs.map (fun z => (⟨(Lib.itoa z).toArray⟩ : ByteArray))
abbrev strVs (ts : List ByteArray) : List Value := ts.map Value.string
theorem wordsOf_len (l : ByteArray) (zs : List Int) : (wordsOf l zs).length = zs.length + 1 := by simp [wordsOf]
theorem wordsOf_take (l : ByteArray) (zs : List Int) (k : Nat) {z : Int} (h : zs[k]? = some z) : wordsOf l (zs.take (k + 1)) = wordsOf l (zs.take k) ++ [⟨(Lib.itoa z).toArray⟩] := by
  have hk := (List.getElem?_eq_some_iff.1 h).1
  unfold wordsOf
  rw [List.take_succ_eq_append_getElem hk, List.map_append, (List.getElem?_eq_some_iff.1 h).2]
  rfl
theorem str_one (s : ByteArray) : ∀ u ∈ [Value.string s], u.oneCell' = true := by
  intro u hu
  rw [List.mem_singleton.1 hu]
  rfl
theorem join_words (l : ByteArray) (n p : Int) (ks : List Int) : Lib.join ((wordsOf l (n :: p :: ks)).map (·.data.toList)) [32] = l.data.toList ++ 32 :: Lib.itoa n ++ 32 :: Lib.itoa p ++ lineL ks := by
  unfold wordsOf
  rw [List.map_cons, Lib.join_cons]
  unfold Lib.joinTail lineL
  simp [List.flatMap, Function.comp_def]

theorem tabC_below {w w' : World} (h : Lib.TabIs Tryz.prog w "internal/strconv.uint64pow10" .u64 Lib.pow10Tab) (hb : Below w.heap.size w w') : Lib.TabIs Tryz.prog w' "internal/strconv.uint64pow10" .u64 Lib.pow10Tab := Lib.tabBelow_of_tabIs h w' hb

set_option maxHeartbeats 6400000 in
theorem implCellText_any (v : Value) (c : Ce) (S : Nat → Prop) (w : World) (htab : Lib.TabIs Tryz.prog w "internal/strconv.uint64pow10" .u64 Lib.pow10Tab) (h : CeAt w S v c) (hl : c.kids.length ≤ 2000000) :
    Calls Tryz.prog 54 #[v] w fun e w' => e = .returned (.string ⟨c.textOf.toArray⟩) ∧ Below w.heap.size w w' := by
  obtain ⟨kv, rfl, r1, r2, r3, hk⟩ := h
  obtain ⟨a, cap, rfl⟩ := hk.form
  have B0 : Below w.heap.size w (w.alloc (.cells #[.int .i64 c.kind, .int .i64 c.n, .int .i64 c.pos, .slice a c.kids.length cap] 26)) := (Below.refl _ w).alloc (Nat.le_refl _) _
  cases hin : inB c.kind 0 7 with
  | false =>
    have ht : c.textOf = [] := by unfold Ce.textOf; rw [hin]; rfl
    rw [ht]
    clear hk htab
    go_enter Tryz.func54, Tryz.ntmps54
    go_wp2_with (go_at_call 49; refine (within_any _ _ _ _).mono ?_; rintro e w1 ⟨rfl, rfl⟩; rw [hin])
    go_ret
    exact ⟨rfl, B0⟩
  | true =>
    obtain ⟨d, hd, hd8⟩ : ∃ d : Nat, c.kind = d ∧ d < 8 := by
      unfold inB at hin
      simp at hin
      exact ⟨c.kind.toNat, by omega, by omega⟩
    have ht : c.textOf = (⟨#[cellLetters.data[d]!]⟩ : ByteArray).data.toList ++ 32 :: Lib.itoa c.n ++ 32 :: Lib.itoa c.pos ++ lineL c.kids := by
      unfold Ce.textOf
      rw [hin, if_pos rfl, hd, Int.toNat_natCast, letter_ext d hd8]
    rw [ht]
    have hls := fun w => letter_slice d hd8 w
    have hLl : (⟨#[cellLetters.data[d]!]⟩ : ByteArray).data.toList.length = 1 := rfl
    generalize hLt : (⟨#[cellLetters.data[d]!]⟩ : ByteArray) = lt at *
    have HK := (show Hid (_ ∧ _ ∧ _ ∧ _) from ⟨hk, htab, r2, r3⟩)
    obtain ⟨kind, n, pos, kids⟩ := c
    simp only [] at *
    subst hd
    clear hk htab r1 r2 r3 ht hLt
    have hs1 : (w.alloc (.cells #[.int .i64 (d : Int), .int .i64 n, .int .i64 pos, .slice a kids.length cap] 26)).heap.size = w.heap.size + 1 := by simp
    have hs2 : ((w.alloc (.cells #[.int .i64 (d : Int), .int .i64 n, .int .i64 pos, .slice a kids.length cap] 26)).alloc (.cells #[.string lt] 9)).heap.size = w.heap.size + 2 := by simp
    have hs3 : (((w.alloc (.cells #[.int .i64 (d : Int), .int .i64 n, .int .i64 pos, .slice a kids.length cap] 26)).alloc (.cells #[.string lt] 9)).alloc (.cells #[.int .i64 n, .int .i64 pos] 3)).heap.size = w.heap.size + 3 := by simp
    have hB3 : Below w.heap.size w (((w.alloc (.cells #[.int .i64 (d : Int), .int .i64 n, .int .i64 pos, .slice a kids.length cap] 26)).alloc (.cells #[.string lt] 9)).alloc (.cells #[.int .i64 n, .int .i64 pos] 3)) := (B0.alloc (by simp) _).alloc (by simp; omega) _
    have hO1 : ((w.alloc (.cells #[.int .i64 (d : Int), .int .i64 n, .int .i64 pos, .slice a kids.length cap] 26)).alloc (.cells #[.string lt] 9)).heap[w.heap.size + 1]? = some (.cells #[.string lt] 9 (0, 0)) := by
      have := (MapKept.heap_alloc (w.alloc (.cells #[.int .i64 (d : Int), .int .i64 n, .int .i64 pos, .slice a kids.length cap] 26)) (.cells #[.string lt] 9)).1
      rw [hs1] at this
      exact this
    have hw0 : (((w.alloc (.cells #[.int .i64 (d : Int), .int .i64 n, .int .i64 pos, .slice a kids.length cap] 26)).alloc (.cells #[.string lt] 9)).alloc (.cells #[.int .i64 n, .int .i64 pos] 3)).ownsRow w.heap.size 9 1 (.slice (some ⟨w.heap.size + 1, 0, none⟩) 1 1) 1 (strVs (wordsOf lt [])) := by
      refine ⟨rfl, .inr ⟨w.heap.size + 1, 1, #[.string lt], rfl, by omega, (Below.heap_alloc _ _ _ (by rw [hs2]; omega)).trans hO1, Nat.le_refl _, by unfold maxLen; omega, rfl, rfl⟩⟩
    have hO2 : (((w.alloc (.cells #[.int .i64 (d : Int), .int .i64 n, .int .i64 pos, .slice a kids.length cap] 26)).alloc (.cells #[.string lt] 9)).alloc (.cells #[.int .i64 n, .int .i64 pos] 3)).heap[w.heap.size + 2]? = some (.cells #[.int .i64 n, .int .i64 pos] 3 (0, 0)) := by
      have := (MapKept.heap_alloc ((w.alloc (.cells #[.int .i64 (d : Int), .int .i64 n, .int .i64 pos, .slice a kids.length cap] 26)).alloc (.cells #[.string lt] 9)) (.cells #[.int .i64 n, .int .i64 pos] 3)).1
      rw [hs2] at this
      exact this
    have hi0 : (((w.alloc (.cells #[.int .i64 (d : Int), .int .i64 n, .int .i64 pos, .slice a kids.length cap] 26)).alloc (.cells #[.string lt] 9)).alloc (.cells #[.int .i64 n, .int .i64 pos] 3)).ownsRow w.heap.size 3 1 (.slice (some ⟨w.heap.size + 2, 0, none⟩) 2 2) 2 [.int .i64 n, .int .i64 pos] := by
      refine ⟨rfl, .inr ⟨w.heap.size + 2, 2, #[.int .i64 n, .int .i64 pos], rfl, by omega, hO2, Nat.le_refl _, by unfold maxLen; omega, rfl, rfl⟩⟩
    have HW := (show Hid (_ ∧ _ ∧ _ ∧ _) from ⟨hw0, hi0, HK.out.1.below hB3, hB3⟩)
    have hsz : w.heap.size ≤ (((w.alloc (.cells #[.int .i64 (d : Int), .int .i64 n, .int .i64 pos, .slice a kids.length cap] 26)).alloc (.cells #[.string lt] 9)).alloc (.cells #[.int .i64 n, .int .i64 pos] 3)).heap.size := by rw [hs3]; omega
    clear hs1 hs2 hs3 hB3 hO1 hO2 hw0 hi0
    go_enter Tryz.func54, Tryz.ntmps54
    go_wp2_with (first
      | (go_at_call 49; refine (within_any _ _ _ _).mono ?_; rintro e w1 ⟨rfl, rfl⟩; rw [hin])
      | (at_builtin; refine wpList_append_ints rfl _ _ rfl w.heap.size _ 2 [.int .i64 n, .int .i64 pos] rfl HW.out.2.1 _ kids S rfl HW.out.2.2.1 (by omega) hsz ?_; intro v2 w2 hown2 hgrow2 hat2; obtain ⟨vl, va, vc, hvl, rfl⟩ := own_formN hown2; have H2 := (show Hid (_ ∧ _ ∧ _) from ⟨hown2, hgrow2, hvl⟩); clear hown2 hgrow2 hat2 hvl))
    obtain ⟨i0, hi, hz0, hz1, hz2⟩ := info_parts infoStr
    have hgb : Below w.heap.size w w2 := HW.out.2.2.2.grown H2.out.2.1 hsz (fun q hq => (own_type HW.out.2.1 q hq).1)
    have hwr2 := HW.out.1.kept H2.out.2.1 (ow_apart HW.out.1 HW.out.2.1 (by decide))
    have hir2 : w2.ownsRow w.heap.size 3 1 (.slice va vl vc) (2 + kids.length) (intVs (n :: pos :: kids)) := H2.out.1
    have hnl : (n :: pos :: kids).length = 2 + kids.length := by simp; omega
    have hn64 : ∀ z ∈ n :: pos :: kids, inI64 z := by
      intro z hz
      rcases List.mem_cons.1 hz with rfl | hz
      · exact HK.out.2.2.1
      · rcases List.mem_cons.1 hz with rfl | hz
        · exact HK.out.2.2.2
        · obtain ⟨i, hi⟩ := List.getElem?_of_mem hz
          obtain ⟨_, _, _, _, hic⟩ := HK.out.1
          obtain ⟨_, _, _, _, _, _, h64⟩ := hic i z hi
          exact h64
    have hjw := join_words lt n pos kids
    have hvl := H2.out.2.2
    subst hvl
    have HR := (show Hid (_ ∧ _ ∧ _ ∧ _ ∧ _) from ⟨hwr2, hir2, hgb, hn64, hjw⟩)
    clear hwr2 hir2 hgb hn64 hjw HW H2
    generalize hns : n :: pos :: kids = ns at *
    have HNS := (show Hid (_ ∧ True) from ⟨hns, trivial⟩)
    clear hns
    generalize hvl2 : 2 + kids.length = N at *
    have hNb : N ≤ 2000002 := by omega
    have HNL := (show Hid (_ ∧ True) from ⟨hnl, trivial⟩)
    clear hvl2 hnl
    go_loopw [3, 26] (fun wv i wr => ∃ k : Nat, k ≤ N ∧ i = .int .i64 k ∧ wr.ownsRow w.heap.size 9 1 wv (k + 1) (strVs (wordsOf lt (ns.take k))) ∧ wr.ownsRow w.heap.size 3 1 (.slice va N vc) N (intVs ns) ∧ Below w.heap.size w wr) (fun _ i _ => N - (intOf i).toNat)
    case atStart => exact ⟨0, Nat.zero_le _, rfl, HR.out.1, HR.out.2.1, HR.out.2.2.1⟩
    case round =>
      obtain ⟨k, hk, rfl, hwr, hir, hbw⟩ := hrel
      have hszw := hbw.size
      have hnl := HNL.out.1
      by_cases hkl : k < N
      · have he := List.getElem?_eq_getElem (l := ns) (i := k) (by omega)
        have htk := wordsOf_take lt ns k he
        have hz64 := HR.out.2.2.2.1 ns[k] (List.getElem_mem _)
        generalize ns[k] = z at *
        obtain ⟨g, gc, hgv, hg1, hg2, hg3⟩ := ow_some hir (by omega)
        simp only [Value.slice.injEq, true_and] at hgv
        obtain ⟨rfl, rfl⟩ := hgv
        have c0 : wr.cell? ⟨g, k, none⟩ = some (.int .i64 z) := by
          rw [hir.cellAt k (by omega), List.getElem?_map, he]
          rfl
        obtain ⟨wl, wa, wc, hwl, rfl⟩ := own_formN hwr
        have hdt := DecText_any z wr hz64.1 hz64.2 (tabC_below HK.out.2.1 hbw)
        have hlt' : ((k : Nat) : Int) < ((N : Nat) : Int) := by omega
        have HX := (show Hid (_ ∧ _ ∧ _ ∧ _ ∧ _ ∧ _) from ⟨hdt, hwr, hir, hbw, htk, hwl⟩)
        clear hdt hwr hir hbw htk hwl he hz64 hnl
        go_wp2_with (first
          | (go_at_call 53; refine HX.out.1.mono ?_; rintro e w4 ⟨rfl, b4⟩; have hw4 := own_moved HX.out.2.1 (fun q hq => b4.block q (own_lt HX.out.2.1 q hq)); have hi4 := own_moved HX.out.2.2.1 (fun q hq => b4.block q (own_lt HX.out.2.2.1 q hq)); have hb4 : Below w.heap.size w w4 := HX.out.2.2.2.1.trans (b4.mono hszw); have hs4 := hb4.size; have H4 := (show Hid (_ ∧ _ ∧ _) from ⟨hw4.alloc (.cells #[.string ⟨(Lib.itoa z).toArray⟩] 9), hi4.alloc (.cells #[.string ⟨(Lib.itoa z).toArray⟩] 9), hb4.alloc hs4 (.cells #[.string ⟨(Lib.itoa z).toArray⟩] 9)⟩); clear hw4 hi4 hb4 b4)
          | (at_builtin; refine wpList_append_own_at _ rfl _ _ 86 rfl w.heap.size 9 i0 (.string ⟨#[]⟩) 1 16 Tryz.underlying86 hi hz0 hz1 hz2 rfl (by decide) _ (k + 1) _ rfl H4.out.1 ⟨w4.heap.size, 0, none⟩ 1 1 [.string ⟨(Lib.itoa z).toArray⟩] rfl rfl (cell_one_new _ _ _) (str_one _) (by unfold maxLen; omega) (by omega) (by simp; omega) ?_; intro v5 w5 hown5 hgrow5 hnil5 hat5))
        refine ⟨⟨k + 1, by omega, by go_num, ?_, H4.out.2.1.kept hgrow5 (ow_apart H4.out.2.1 H4.out.1 (by decide)), H4.out.2.2.grown hgrow5 (by simp; omega) (fun q hq => (own_type H4.out.1 q hq).1)⟩, by simp [intOf]; omega⟩
        rw [HX.out.2.2.2.2.1]
        unfold strVs
        rw [List.map_append]
        exact hown5
      · obtain rfl : k = N := by omega
        rw [List.take_of_length_le (by omega)] at hwr
        obtain ⟨g, gc, rfl, hg1, hg2, hg3⟩ := ow_some hwr (by omega)
        have hwl : (wordsOf lt ns).length = k + 1 := by rw [wordsOf_len]; omega
        have hsp : ∀ ts : List Int, (∀ z ∈ ts, inI64 z) → (lineL ts).length ≤ 22 * ts.length := by
          intro ts
          induction ts with
          | nil => intro _; simp [lineL]
          | cons t ts ih =>
            intro h
            have h1 := itoa_len t (h t (by simp))
            have h2 := ih (fun z hz => h z (by simp [hz]))
            unfold lineL at h2 ⊢
            rw [List.flatMap_cons, List.length_append, List.length_cons, List.length_cons]
            omega
        have hjl : (Lib.join ((wordsOf lt ns).map (·.data.toList)) [32]).length ≤ 140737488355328 := by
          have hj := HR.out.2.2.2.2
          have h64 := HR.out.2.2.2.1
          rw [hj]
          rw [← HNS.out.1] at h64
          have h1 := itoa_len n (h64 n (by simp))
          have h2 := itoa_len pos (h64 pos (by simp))
          have h3 := hsp kids (fun z hz => h64 z (by simp [hz]))
          simp only [List.length_append, List.length_cons]
          omega
        have hjo := Tryz.strings_Join g 0 gc (wordsOf lt ns) ⟨#[32]⟩ wr (fun j x hj => by
          rw [Nat.zero_add, hwr.cellAt j (by have := (List.getElem?_eq_some_iff.1 hj).1; omega), List.getElem?_map, hj]
          rfl) hg1 (by omega) (by omega) hjl
        rw [hwl] at hjo
        have HX := (show Hid (_ ∧ _) from ⟨hjo, hbw⟩)
        clear hjo hwr hir hbw hsp hjl hwl
        go_wp2_with (go_at_call 55; refine HX.out.1.mono ?_; rintro e w6 ⟨rfl, b6⟩)
        go_ret
        refine ⟨?_, HX.out.2.trans (b6.mono hszw)⟩
        have hj := HR.out.2.2.2.2
        exact congrArg (fun l : List UInt8 => Ending.returned (.string ⟨l.toArray⟩)) hj
end Go.Proofs.YtkfmkhhjkioeoaaGreatDoor
