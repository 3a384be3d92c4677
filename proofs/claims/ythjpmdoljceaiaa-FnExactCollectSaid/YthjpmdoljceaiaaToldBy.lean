/-
  The program's lists of a collection: places told by their ends, and new places.
-/
import Derived.Test.YthjpmdoljceaiaaEndsOf
import Derived.Test.YthjpmdoljceaiaaComePure
import Derived.Lib.SliceRun
namespace Go.Proofs.Ythjpmdoljceaiaa
open Go.RowKit Go.Joins Go.Maps

set_option maxRecDepth 100000

set_option maxHeartbeats 1600000 in
theorem cloneI_any (v : Value) (zs : List Int) (S : Nat → Prop) (w : World) (h : IntsAt w S v zs) (hn : zs.length ≤ 10000000) :
    Calls Try.prog 54 #[v] w fun e w' => ∃ gv, e = .returned gv ∧ w'.ownsRow w.heap.size 3 1 gv zs.length (intVs zs) ∧ Below w.heap.size w w' := by
  have qT : ∀ (w : World) (a : Option Addr) (n c n' c' : Nat), (binOp .eql 30 (.slice a n c) (.slice none n' c')).run Try.prog w = .ok (.bool a.isNone) w := fun w a n c n' c' => Lib.run_eql_slice_nil w _ _ a n c n' c' Try.underlying30
  obtain ⟨a, cap, hv⟩ := h.form
  cases a with
  | none =>
    subst hv
    have hz : zs = [] := by
      obtain ⟨a', c', hv', _, hc⟩ := h
      cases zs with
      | nil => rfl
      | cons z zs =>
        obtain ⟨b, off, he, _⟩ := hc 0 z rfl
        subst he
        cases hv'
    subst hz
    clear h
    go_enter Try.func54, Try.ntmps54
    go_wp2
    go_ret
    exact ⟨_, rfl, ⟨rfl, .inl ⟨rfl, rfl⟩⟩, Below.refl _ _⟩
  | some ad =>
    have EI := ow_empty w w.heap.size 3 (Nat.le_refl _)
    have B0 : Below w.heap.size w (w.alloc (.cells #[] 3)) := (Below.refl _ w).alloc (Nat.le_refl _) _
    have HI := (show Hid (_ ∧ _ ∧ _) from ⟨h.below B0, EI, B0⟩)
    clear h EI B0
    subst hv
    go_enter Try.func54, Try.ntmps54
    go_wp2_with (at_builtin; refine wpList_append_ints rfl _ _ rfl w.heap.size _ 0 [] rfl HI.out.2.1 _ zs S rfl HI.out.1 (by omega) (by simp) ?_; intro v2 w2 hown2 hgrow2 hat2)
    go_ret
    rw [List.nil_append, Nat.zero_add] at hown2
    exact ⟨v2, rfl, hown2, HI.out.2.2.grown hgrow2 (by simp) (fun k hk => (own_type HI.out.2.1 k hk).1)⟩

theorem infoC4 : (Try.prog.info? 42).map (fun i => i.size) = some 4 := by kernel_rfl
set_option maxHeartbeats 3200000 in
theorem withKids_any (c : Ce) (kv nv : Value) (w : World) (ka na : Option Addr) (kl kc nl nc : Nat) (hk : kv = .slice ka kl kc) (hnv : nv = .slice na nl nc) :
    Calls Try.prog 40 #[.agg #[.int .i64 c.kind, .int .i64 c.n, .int .i64 c.pos, kv], nv] w fun e w' => e = .returned (.agg #[.int .i64 c.kind, .int .i64 c.n, .int .i64 c.pos, nv]) ∧ Below w.heap.size w w' := by
  subst hk hnv
  have B1 : Below w.heap.size w ((w.alloc (.cells #[.int .i64 c.kind, .int .i64 c.n, .int .i64 c.pos, .slice na nl nc] 42)).alloc (.cells #[.int .i64 c.kind, .int .i64 c.n, .int .i64 c.pos, .slice na nl nc] 42)) := ((Below.refl _ w).alloc (Nat.le_refl _) _).alloc (by simp) _
  have O1 := (MapKept.heap_alloc (w.alloc (.cells #[.int .i64 c.kind, .int .i64 c.n, .int .i64 c.pos, .slice na nl nc] 42)) (.cells #[.int .i64 c.kind, .int .i64 c.n, .int .i64 c.pos, .slice na nl nc] 42)).1
  have hs : (w.alloc (.cells #[.int .i64 c.kind, .int .i64 c.n, .int .i64 c.pos, .slice na nl nc] 42)).heap.size = w.heap.size + 1 := by simp
  rw [hs] at O1
  have HO := (show Hid (_ ∧ _) from ⟨O1, B1⟩)
  clear O1 B1 hs
  go_enter Try.func40, Try.ntmps40
  go_wp2
  refine bodyPost_ret (results_cell_row rfl _ _ (w.heap.size + 1) 42 _ (0, 0) _ rfl HO.out.1 Try.underlying42 rfl infoC4) rfl ?_
  exact ⟨rfl, HO.out.2⟩

theorem set_same {α : Type} {l : List α} {k : Nat} {x : α} (h : l[k]? = some x) : l.set k x = l := by
  refine List.ext_getElem? fun j => ?_
  by_cases hj : k = j
  · subst hj
    rw [List.getElem?_set_self (List.getElem?_eq_some_iff.1 h).1, h]
  · rw [List.getElem?_set_ne hj]
/-- A place, told by the ends. -/
theorem short_at (es : List Ce) (z : Int) : shortZ es z = (if (inB z 0 ((es.length : Int) - 1) && (((endsL es)[z.toNat]?).getD (-1) != -1)) = true then ((endsL es)[z.toNat]?).getD (-1) else z) := by
  unfold shortZ
  by_cases hin : inB z 0 ((es.length : Int) - 1) = true
  · obtain ⟨k, c, rfl, hk, he, hca⟩ := cellAt_some hin
    rw [hin, Int.toNat_natCast, endsL_at es k hk, Option.getD_some, Bool.true_and]
    have hg := follow_ge es (k : Int)
    by_cases h1 : follow es (k : Int) = -1
    · rw [if_pos (by omega), h1]; rfl
    · rw [if_neg (by omega), if_pos (by simpa using h1)]
  · have hin' : inB z 0 ((es.length : Int) - 1) = false := by simpa using hin
    rw [hin', Bool.false_and, if_neg Bool.false_ne_true, follow_none (cellAt_none hin'), if_pos (by omega)]

set_option maxHeartbeats 6400000 in
theorem toldBy_any (v : Value) (es : List Ce) (zs : List Int) (S : Nat → Prop) (w : World) (B g cap : Nat) (hE : w.ownsRow B 3 1 (.slice (some ⟨g, 0, none⟩) es.length cap) es.length (intVs (endsL es))) (h : IntsAt w S v zs) (hn : es.length ≤ 2000000) (hz : zs.length ≤ 10000000) :
    Calls Try.prog 41 #[.slice (some ⟨g, 0, none⟩) es.length cap, v] w fun e w' => ∃ gv, e = .returned gv ∧ w'.ownsRow w.heap.size 3 1 gv zs.length (intVs (shortL es zs)) ∧ Below w.heap.size w w' := by
  have hgl : g < w.heap.size := own_lt hE g rfl
  have hcl := cloneI_any v zs S w h hz
  have HC := (show Hid (_ ∧ _) from ⟨hcl, hE⟩)
  obtain ⟨va, vc, rfl⟩ := h.form
  clear hcl hE h
  go_enter Try.func41, Try.ntmps41
  go_wp2_with (go_at_call 54; refine HC.out.1.mono ?_; rintro e w1 ⟨tv, rfl, ht1, hb1⟩; have HT := (show Hid (_ ∧ _) from ⟨ht1, hb1⟩); obtain ⟨tl, ta, tc, htl, rfl⟩ := own_formN ht1; have HTL := (show Hid (_ ∧ True) from ⟨htl, trivial⟩); clear ht1 hb1 htl)
  go_loopw [12] (fun i wr => ∃ (k : Nat) (ys : List Int), k ≤ zs.length ∧ i = .int .i64 k ∧ ys.length = zs.length ∧ (∀ (j : Nat) (z : Int), zs[j]? = some z → ys[j]? = some (if j < k then shortZ es z else z)) ∧ wr.ownsRow w.heap.size 3 1 (.slice ta tl tc) zs.length (intVs ys) ∧ Below w.heap.size w wr) (fun i _ => zs.length - (intOf i).toNat)
  case atStart => exact ⟨0, zs, Nat.zero_le _, rfl, rfl, fun j z hj => by rw [hj, if_neg (by omega)], HT.out.1, HT.out.2⟩
  case round =>
    clear HT
    obtain ⟨k, ys, hk, rfl, hyl, hys, hrow, hbw⟩ := hrel
    have htl := HTL.out.1
    subst htl
    by_cases hkl : k < zs.length
    · have he := List.getElem?_eq_getElem hkl
      have hyk := hys k _ he
      rw [if_neg (by omega)] at hyk
      have hsh := short_at es zs[k]
      generalize zs[k] = z at *
      obtain ⟨sg, scap, hsv, hsg1, hsg2, hsg3⟩ := ow_some hrow (by omega)
      simp only [Value.slice.injEq, true_and] at hsv
      obtain ⟨rfl, rfl⟩ := hsv
      have c0 := row_cell hrow hyk hkl
      have f0 := row_frozen hrow k
      have hE2 := own_moved HC.out.2 (fun b hb => hbw.block b (by have h1 : g = b := by simpa [Value.ownBlock] using hb
                                                                  omega))
      have hlt' : ((k : Nat) : Int) < ((zs.length : Nat) : Int) := by omega
      have hend : ∀ (ys' : List Int), ys' = ys.set k (shortZ es z) → ys'.length = zs.length ∧ ∀ (j : Nat) (y : Int), zs[j]? = some y → ys'[j]? = some (if j < k + 1 then shortZ es y else y) := by
        rintro ys' rfl
        refine ⟨by rw [List.length_set]; exact hyl, fun j y hj => ?_⟩
        by_cases hjk : k = j
        · subst hjk
          rw [List.getElem?_set_self (by omega), if_pos (by omega)]
          rw [he] at hj
          rw [Option.some.inj hj]
        · rw [List.getElem?_set_ne hjk, hys j y hj]
          by_cases hjl : j < k
          · rw [if_pos hjl, if_pos (by omega)]
          · rw [if_neg hjl, if_neg (by omega)]
      by_cases hin : inB z 0 ((es.length : Int) - 1) = true
      · obtain ⟨q, c, rfl, hq, hec, hca⟩ := cellAt_some hin
        have d0 := row_cell hE2 (endsL_at es q hq) hq
        rw [hin, Int.toNat_natCast, endsL_at es q hq, Option.getD_some, Bool.true_and] at hsh
        generalize follow es (q : Int) = x at *
        have hqlt : ((q : Nat) : Int) < ((es.length : Nat) : Int) := by omega
        cases hx : (x != -1) with
        | true =>
          rw [hx, if_pos rfl] at hsh
          have hst := hrow.stored k (.int .i64 x)
          have HN := (show Hid (_ ∧ _ ∧ _) from ⟨hend _ rfl, hst.1, hbw.setCell (p := ⟨sg, k, none⟩) hsg2 (.int .i64 x)⟩)
          have HSH := (show Hid (_ ∧ True) from ⟨hsh, trivial⟩)
          clear hend hst hbw hrow hys hE2 HC hca hec he hyk hsh
          go_wp2_with (go_at_call 44; refine (within_r _ _ _ true hin _).mono ?_; rintro e w2 ⟨rfl, rfl⟩)
          refine ⟨⟨k + 1, ys.set k (shortZ es (q : Int)), by omega, by go_num, HN.out.1.1, HN.out.1.2, by rw [HSH.out.1, intVs_set]; exact HN.out.2.1, HN.out.2.2⟩, by simp [intOf]; omega⟩
        | false =>
          rw [hx, if_neg Bool.false_ne_true] at hsh
          have HN := (show Hid (_ ∧ _ ∧ _ ∧ _ ∧ _) from ⟨hend _ rfl, hrow, hbw, hyk, hsh⟩)
          clear hend hbw hrow hys hE2 HC hca hec he hyk hsh
          go_wp2_with (go_at_call 44; refine (within_r _ _ _ true hin _).mono ?_; rintro e w2 ⟨rfl, rfl⟩)
          have hset : ys.set k (shortZ es (q : Int)) = ys := by
            rw [HN.out.2.2.2.2]
            exact set_same HN.out.2.2.2.1
          refine ⟨⟨k + 1, ys.set k (shortZ es (q : Int)), by omega, by go_num, HN.out.1.1, HN.out.1.2, by rw [hset]; exact HN.out.2.1, HN.out.2.2.1⟩, by simp [intOf]; omega⟩
      · have hin' : inB z 0 ((es.length : Int) - 1) = false := by simpa using hin
        rw [hin', Bool.false_and, if_neg Bool.false_ne_true] at hsh
        have HN := (show Hid (_ ∧ _ ∧ _ ∧ _ ∧ _) from ⟨hend _ rfl, hrow, hbw, hyk, hsh⟩)
        clear hend hbw hrow hys hE2 HC he hyk hsh hin
        go_wp2_with (go_at_call 44; refine (within_r _ _ _ false hin' _).mono ?_; rintro e w2 ⟨rfl, rfl⟩)
        have hset : ys.set k (shortZ es z) = ys := by
          rw [HN.out.2.2.2.2]
          exact set_same HN.out.2.2.2.1
        refine ⟨⟨k + 1, ys.set k (shortZ es z), by omega, by go_num, HN.out.1.1, HN.out.1.2, by rw [hset]; exact HN.out.2.1, HN.out.2.2.1⟩, by simp [intOf]; omega⟩
    · obtain rfl : k = zs.length := by omega
      have hys2 : ys = shortL es zs := by
        refine List.ext_getElem? fun j => ?_
        by_cases hj : j < zs.length
        · rw [hys j _ (List.getElem?_eq_getElem hj), if_pos hj]
          unfold shortL
          rw [List.getElem?_map, List.getElem?_eq_getElem hj]
          rfl
        · rw [List.getElem?_eq_none (by omega), List.getElem?_eq_none (by rw [shortL_len]; omega)]
      have HN := (show Hid (_ ∧ _ ∧ _) from ⟨hys2, hrow, hbw⟩)
      clear hys2 hrow hbw hys
      go_wp2
      go_ret
      exact ⟨_, rfl, by rw [← HN.out.1]; exact HN.out.2.1, HN.out.2.2⟩

set_option maxHeartbeats 6400000 in
theorem newPlaces_any (v : Value) (zs : List Int) (S : Nat → Prop) (w : World) (M n : Nat) (bs : List Bool) (hm : IMap w M n (fAlive bs)) (h : IntsAt w S v zs) (hz : zs.length ≤ 10000000) :
    Calls Try.prog 42 #[.map (some M), v] w fun e w' => ∃ gv, e = .returned gv ∧ w'.ownsRow w.heap.size 3 1 gv zs.length (intVs (movedL (toOf 0 bs) zs)) ∧ Below w.heap.size w w' := by
  obtain ⟨va, vc, hv, hvl, hvc⟩ := h
  subst hv
  unfold maxLen at hvl
  obtain ⟨i0, hi, hz0, hz1, hz2⟩ := info_parts infoCdI
  have HC := (show Hid (_ ∧ _) from ⟨hvc, hm⟩)
  clear hvc hm
  go_enter Try.func42, Try.ntmps42
  go_wp2
  go_loopw [5, 12] (fun pv i wr => ∃ k : Nat, k ≤ zs.length ∧ i = .int .i64 k ∧ wr.ownsRow w.heap.size 3 1 pv k (intVs (movedL (toOf 0 bs) (zs.take k))) ∧ Below w.heap.size w wr) (fun _ i _ => zs.length - (intOf i).toNat)
  case atStart => exact ⟨0, Nat.zero_le _, rfl, ⟨rfl, .inl ⟨rfl, rfl⟩⟩, Below.refl _ _⟩
  case round =>
    obtain ⟨k, hk, rfl, hrow, hbw⟩ := hrel
    have hszw := hbw.size
    obtain ⟨pl, pa, pc, hpl, rfl⟩ := own_formN hrow
    by_cases hkl : k < zs.length
    · have he := List.getElem?_eq_getElem hkl
      generalize zs[k] = z at *
      obtain ⟨zb, zoff, rfl, hSz, hzlt, c0, hz64⟩ := HC.out.1 k z he
      rw [← hbw.cell (by exact hzlt)] at c0
      have hml := HC.out.2.lt
      have hlk := (HC.out.2.block (hbw.block M hml)).look_ok hz64
      have hmv := fAlive_moved bs z
      have hmt := movedL_take (toOf 0 bs) zs k he
      have hlt' : ((k : Nat) : Int) < ((zs.length : Nat) : Int) := by omega
      have HR := (show Hid (_ ∧ _ ∧ _) from ⟨fun x => hrow.alloc (.cells #[.int .i64 x] 3), hbw, hmt⟩)
      clear hrow hbw hmt he HC
      generalize movedZ (toOf 0 bs) z = y at *
      cases hf : fAlive bs z with
      | none =>
        rw [hf] at hlk hmv
        simp only [Option.isSome_none, Option.getD_none] at hlk hmv
        subst hmv
        go_wp2_with (at_builtin; refine wpList_append_own_at _ rfl _ _ 30 rfl w.heap.size 3 i0 (.int .i64 0) 1 8 Try.underlying30 hi hz0 hz1 hz2 rfl (by decide) _ k _ rfl (HR.out.1 _) ⟨wr.heap.size, 0, none⟩ 1 1 [.int .i64 (-1)] rfl rfl (cell_one_new _ _ _) (int_one _) (by unfold maxLen; omega) (by omega) (by simp; omega) ?_; intro v2 w2 hown2 hgrow2 hnil2 hat2)
        refine ⟨⟨k + 1, by omega, by go_num, by rw [HR.out.2.2, intVs_snoc2]; exact hown2, (HR.out.2.1.alloc hszw _).grown hgrow2 (by simp; omega) (fun j hj => (own_type (HR.out.1 0) j hj).1)⟩, by simp [intOf]; omega⟩
      | some x =>
        rw [hf] at hlk hmv
        simp only [Option.isSome_some, Option.getD_some] at hlk hmv
        subst hmv
        go_wp2_with (at_builtin; refine wpList_append_own_at _ rfl _ _ 30 rfl w.heap.size 3 i0 (.int .i64 0) 1 8 Try.underlying30 hi hz0 hz1 hz2 rfl (by decide) _ k _ rfl (HR.out.1 _) ⟨wr.heap.size, 0, none⟩ 1 1 [.int .i64 x] rfl rfl (cell_one_new _ _ _) (int_one _) (by unfold maxLen; omega) (by omega) (by simp; omega) ?_; intro v2 w2 hown2 hgrow2 hnil2 hat2)
        refine ⟨⟨k + 1, by omega, by go_num, by rw [HR.out.2.2, intVs_snoc2]; exact hown2, (HR.out.2.1.alloc hszw _).grown hgrow2 (by simp; omega) (fun j hj => (own_type (HR.out.1 0) j hj).1)⟩, by simp [intOf]; omega⟩
    · obtain rfl : k = zs.length := by omega
      rw [List.take_length] at hrow
      have HR := (show Hid (_ ∧ _) from ⟨hrow, hbw⟩)
      clear hrow hbw HC
      go_wp2
      go_ret
      exact ⟨_, rfl, HR.out.1, HR.out.2⟩
end Go.Proofs.Ythjpmdoljceaiaa
