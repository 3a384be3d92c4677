/-
  The program's namesOk.
-/
import Derived.Test.YtkhkmmjollcfaaaGreatDoorMD
namespace Go.Proofs.YtkhkmmjollcfaaaGreatDoor
open Go.RowKit Go.Joins Go.Maps Go.WideMaps

set_option maxRecDepth 100000

theorem setK_snoc (ts : List ByteArray) (k : Nat) (t : ByteArray) (h : ts[k]? = some t) : setOf (H := Unit) (.agg []) ((keysS (ts.take (k + 1))).map Lit.string) = (setOf (.agg []) ((keysS (ts.take k)).map Lit.string)).put (.string t.data.toList) (.agg []) := by
  have hk := (List.getElem?_eq_some_iff.1 h).1
  rw [← setOf_snoc, List.take_succ_eq_append_getElem hk, (List.getElem?_eq_some_iff.1 h).2]
  simp [keysS]

theorem makeMap_hint (n : Int) (w : World) : (Instr.makeMap 134 (some (.int .i64 n))).run Tryz.prog w = .ok (.map (some w.heap.size)) (w.alloc (.map #[] 0)) := by
  have := Tryz.underlying134
  simp [Instr.makeMap, run_underlying this, asInt]
  rfl

theorem owns_one {w : World} {b n n' : Nat} {D D' : DataW Unit} (h : w.ownsMap Tryz.prog 9 unitElem b n D) (h' : w.ownsMap Tryz.prog 9 (unitElem (H := Unit)) b n' D') : D = D' := by
  obtain ⟨es, clock, hb, -, -, rfl⟩ := h
  obtain ⟨es', clock', hb', -, -, rfl⟩ := h'
  rw [hb] at hb'
  cases hb'
  rfl

/-- The book's own words are not the map of names that are right. -/
theorem book_apart {w : World} {b m n : Nat} {ts : List ByteArray} (hd : Done w b) (hm : w.ownsMap Tryz.prog 9 (unitElem (H := Unit)) m n (setOf (.agg []) ((keysS ts).map Lit.string))) (hall : ∀ t ∈ ts, nameOk t = true) :
    ∃ m', m' ≠ b ∧ m' ≠ m ∧ w.heap[b]? = some (.cells #[.int .u32 1, .int .i32 0, .int .u32 0, .map (some m')] 136) ∧ w.ownsMap Tryz.prog 9 unitElem m' 8 wordsD := by
  obtain ⟨m', h1, h2, h3⟩ := hd
  refine ⟨m', h1, ?_, h2, h3⟩
  rintro rfl
  have he := owns_one h3 hm
  have hw : Maps.has wordsD (.string [108, 101, 116]) = true := (has_wordsD ⟨#[108, 101, 116]⟩).trans (by decide)
  rw [he, has_setOf _ _ _ (fun y hy => by obtain ⟨_, _, rfl⟩ := List.mem_map.1 hy; trivial), List.any_map, List.any_eq_true] at hw
  obtain ⟨k, hk, hs⟩ := hw
  obtain ⟨t, ht, rfl⟩ := List.mem_map.1 hk
  have hs' : t.data.toList = [108, 101, 116] := by
    have : (t.data.toList == [108, 101, 116]) = true := hs
    simpa using this
  have hn := hall t ht
  simp [nameOk, isW, words, hs'] at hn

theorem book_kept {w w' : World} {b m n : Nat} {ts : List ByteArray} (hd : Fresh w b ∨ Done w b) (hbm : b ≠ m) (hm : w.ownsMap Tryz.prog 9 (unitElem (H := Unit)) m n (setOf (.agg []) ((keysS ts).map Lit.string))) (hall : ∀ t ∈ ts, nameOk t = true) (hg : w.grownBy w' (some m)) : Fresh w' b ∨ Done w' b := by
  rcases hd with h | h
  · exact .inl ((hg.block b (Array.getElem?_eq_some_iff.1 h).1 (by simpa using hbm)).trans h)
  · obtain ⟨m', h1, h2, h3, h4⟩ := book_apart h hm hall
    exact .inr ⟨m', h1, (hg.block b (Array.getElem?_eq_some_iff.1 h3).1 (by simpa using hbm)).trans h3, h4.kept hg (by simpa using h2)⟩

theorem ret_b {a b : Bool} (h : a = b) : Ending.returned (.bool a) = .returned (.bool b) := by rw [h]

set_option maxHeartbeats 3200000 in
theorem namesOk_any (v : Value) (ts : List ByteArray) (S : Nat → Prop) (w : World) (h : StrsAt w S v ts) (hn : ts.length ≤ 30) :
    Calls Tryz.prog 51 #[v] w fun e w' => e = .returned (.bool (ts.all nameOk && decide (keysS ts).Nodup)) ∧ Below w.heap.size w w' := by
  have hmm := makeMap_hint
  obtain ⟨a, cap, rfl, hl, hc⟩ := h
  clear hl
  have HC := (show Hid (_ ∧ True) from ⟨hc, trivial⟩)
  have I0 : (Fresh ((w.alloc (.cells #[.int .u32 0, .int .i32 0, .int .u32 0, .map none] 136)).alloc (.map #[] 0)) w.heap.size ∨ Done ((w.alloc (.cells #[.int .u32 0, .int .i32 0, .int .u32 0, .map none] 136)).alloc (.map #[] 0)) w.heap.size) ∧ ((w.alloc (.cells #[.int .u32 0, .int .i32 0, .int .u32 0, .map none] 136)).alloc (.map #[] 0)).ownsMap Tryz.prog 9 (unitElem (H := Unit)) (w.heap.size + 1) 0 (setOf (.agg []) ((keysS (ts.take 0)).map Lit.string)) ∧ Below w.heap.size w ((w.alloc (.cells #[.int .u32 0, .int .i32 0, .int .u32 0, .map none] 136)).alloc (.map #[] 0)) := by
    refine ⟨.inl ((Below.heap_alloc _ _ _ (by simp)).trans (fresh_new w)), ?_, ((Below.refl _ w).alloc (Nat.le_refl _) _).alloc (by simp) _⟩
    have := World.ownsMap_made (w.alloc (.cells #[.int .u32 0, .int .i32 0, .int .u32 0, .map none] 136)) Tryz.prog 9 (unitElem (H := Unit))
    have e : (w.alloc (.cells #[.int .u32 0, .int .i32 0, .int .u32 0, .map none] 136)).heap.size = w.heap.size + 1 := by simp
    rw [e] at this
    exact this
  have HI := (show Hid (_ ∧ _ ∧ _) from I0)
  clear hc I0
  go_enter Tryz.func51, Tryz.ntmps51
  go_wp2
  clear hmm
  go_loopw [12] (fun i wr => ∃ k : Nat, k ≤ ts.length ∧ i = .int .i64 k ∧ (∀ t ∈ ts.take k, nameOk t = true) ∧ (Fresh wr w.heap.size ∨ Done wr w.heap.size) ∧ wr.ownsMap Tryz.prog 9 (unitElem (H := Unit)) (w.heap.size + 1) k (setOf (.agg []) ((keysS (ts.take k)).map Lit.string)) ∧ Below w.heap.size w wr) (fun i _ => ts.length - (intOf i).toNat)
  case atStart => exact ⟨0, Nat.zero_le _, rfl, fun t ht => by simp at ht, HI.out.1, HI.out.2.1, HI.out.2.2⟩
  case round =>
    obtain ⟨k, hk, rfl, hall, hbook, hown, hbw⟩ := hrel
    have HA := (show Hid (_ ∧ _ ∧ _ ∧ _) from ⟨hall, hbook, hown, hbw⟩)
    have hnot : ∀ (x : Bool) (w : World), (Op.unary .not (.bool x)).run Tryz.prog w = .ok (.bool (!x)) w := fun _ _ => rfl
    by_cases hlt : k < ts.length
    · have he := List.getElem?_eq_getElem hlt
      have hmem : ts[k] ∈ ts := List.getElem_mem hlt
      have hst : ts.take (k + 1) = ts.take k ++ [ts[k]] := List.take_succ_eq_append_getElem hlt
      generalize ts[k] = x at *
      obtain ⟨b, off, rfl, -, hl1, c0, hxs⟩ := HC.out.1 k x he
      rw [← hbw.cell (by exact hl1)] at c0
      have HEx := (show Hid (_ ∧ _ ∧ _) from ⟨he, hmem, hst⟩)
      clear hall hbook hown hbw he hmem hst HC
      have hlt' : ((k : Nat) : Int) < ((ts.length : Nat) : Int) := by omega
      cases hx : nameOk x with
      | false =>
        have hres : (ts.all nameOk && decide (keysS ts).Nodup) = false := by
          have : ts.all nameOk = false := by rw [List.all_eq_false]; exact ⟨x, HEx.out.2.1, by simp [hx]⟩
          rw [this]; rfl
        have HR : Hid ((ts.all nameOk && decide (keysS ts).Nodup) = false) := hres
        clear hres
        go_wp2_with (go_at_call 67; refine (isName_any w.heap.size x _ hxs HA.out.2.1).mono ?_; rintro e w1 ⟨rfl, hb1, hg1⟩; rw [hx])
        go_ret
        exact ⟨ret_b HR.out.symm, Below.grown HA.out.2.2.2 hg1 (fun k hk => by cases hk; exact Nat.le_refl _) HA.out.2.2.2.size⟩
      | true =>
        go_wp2_with (first
          | (go_at_call 67; refine (isName_any w.heap.size x _ hxs HA.out.2.1).mono ?_; rintro e w1 ⟨rfl, hb1, hg1⟩; rw [hx]; have hown1 := HA.out.2.2.1.kept hg1 (by simp))
          | (refine wpList_mapUpdate_own _ rfl _ _ _ 134 rfl 9 67 lawS Tryz.underlying134 (unitElem (H := Unit)) (w.heap.size + 1) k _ rfl hown1 (by unfold maxLen; omega) _ _ (.string x.data.toList) rfl rfl (keyOf_string_mk Tryz.underlying9 hxs) (.agg []) [] unitElem_mk ?_; intro w2 hown2 hg2))
        refine ⟨⟨k + 1, by omega, by go_num, ?_, book_kept hb1 (by omega) hown1 HA.out.1 hg2, ?_, ?_⟩, by simp [intOf]; omega⟩
        · intro t ht
          rw [HEx.out.2.2, List.mem_append] at ht
          rcases ht with ht | ht
          · exact HA.out.1 t ht
          · simp at ht; subst ht; exact hx
        · rw [setK_snoc ts k x HEx.out.1]; exact hown2
        · have b1 := Below.grown HA.out.2.2.2 hg1 (fun k hk => by cases hk; exact Nat.le_refl _) HA.out.2.2.2.size
          exact Below.grown b1 hg2 (fun k hk => by cases hk; omega) b1.size
    · obtain rfl : k = ts.length := by omega
      rw [List.take_of_length_le (Nat.le_refl _)] at hall hown
      have hall' : ts.all nameOk = true := by rw [List.all_eq_true]; exact hall
      have hsz := size_names (.agg []) ts
      have hle := hown.size_le
      generalize hD : setOf (.agg []) ((keysS ts).map Lit.string) = D at *
      have HF : Hid ((((Maps.size D : Nat) : Int) == ((ts.length : Nat) : Int)) = (ts.all nameOk && decide (keysS ts).Nodup)) := by
        show (((Maps.size D : Nat) : Int) == ((ts.length : Nat) : Int)) = (ts.all nameOk && decide (keysS ts).Nodup)
        rw [hall', Bool.true_and]
        by_cases hz : Maps.size D = ts.length
        · rw [hz]; simp [hsz.1 hz]
        · have : ¬ (keysS ts).Nodup := fun h => hz (hsz.2 h)
          simp [this]; omega
      have HBW : Hid (Below w.heap.size w wr) := hbw
      clear hall hall' hsz HA HC HI hbook hbw hD
      go_wp2_with (refine wpList_len_own _ rfl _ 134 rfl 9 67 Tryz.underlying134 _ _ _ _ rfl hown ?_)
      go_ret
      exact ⟨ret_b HF.out, HBW.out⟩
end Go.Proofs.YtkhkmmjollcfaaaGreatDoor
