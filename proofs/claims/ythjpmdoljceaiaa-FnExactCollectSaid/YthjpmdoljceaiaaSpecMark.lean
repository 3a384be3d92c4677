/-
  The specification's marking of what one comes to.
-/
import Derived.Test.YthjpmdoljceaiaaReachPure
import Derived.Test.YthjpmdoljceaiaaOwnInts
import Derived.Test.YthjpmdoljceaiaaNode
namespace Go.Proofs.Ythjpmdoljceaiaa
open Go.RowKit Go.Joins

set_option maxRecDepth 100000

theorem infoB : (Try.prog.info? 4).map (fun i => (i.zero, i.size, i.bytes)) = some (some (.bool false), 1, 1) := by kernel_rfl
theorem bool_one (z : Bool) : ∀ u ∈ [Value.bool z], u.oneCell' = true := by
  intro u hu
  rw [List.mem_singleton.1 hu]
  rfl
/-- The marking under way. -/
def MarkRel (w : World) (es : List Ce) (rs : List Int) (m : Nat) (sv tv : Value) (wr : World) : Prop :=
  ∃ (bs : List Bool) (todo : List Int), MarkInv es rs bs todo ∧ m = todo.length + leftOf es bs ∧ (∀ z ∈ todo, inI64 z) ∧ wr.ownsRow w.heap.size 4 1 sv bs.length (bs.map Value.bool) ∧ wr.ownsRow w.heap.size 3 1 tv todo.length (todo.map (fun z => Value.int .i64 z)) ∧ Below w.heap.size w wr

set_option maxHeartbeats 12800000 in
theorem l05Mark_any (v rv : Value) (es : List Ce) (rs : List Int) (S S2 : Nat → Prop) (w : World) (h : CellsAt w S v es) (h2 : IntsAt w S2 rv rs) (hn : bulkL es + rs.length ≤ 100000000) :
    Calls Try.prog 33 #[v, rv] w fun e w' => ∃ sv, e = .returned sv ∧ w'.ownsRow w.heap.size 4 1 sv es.length ((marksOf es rs).map Value.bool) ∧ Below w.heap.size w w' := by
  have hlen : es.length ≤ bulkL es := Nat.le_add_right _ _
  have hleft := leftOf_bulk es
  obtain ⟨i0, hi, hz0, hz1, hz2⟩ := info_parts infoB
  obtain ⟨a, cap, rfl, hl, hc⟩ := h
  obtain ⟨ra, rcap, hrv⟩ := h2.form
  clear hl
  have HC := (show Hid (_ ∧ _) from ⟨hc, h2⟩)
  clear hc h2
  subst hrv
  have E0 := ow_empty w w.heap.size 4 (Nat.le_refl _)
  have B0 : Below w.heap.size w (w.alloc (.cells #[] 4)) := (Below.refl _ w).alloc (Nat.le_refl _) _
  have HE := (show Hid (_ ∧ _) from ⟨E0, B0⟩)
  clear E0 B0
  go_enter Try.func33, Try.ntmps33
  go_wp2
  go_loopw [5, 6] (fun sv i wr => ∃ k : Nat, k ≤ es.length ∧ i = .int .i64 k ∧ wr.ownsRow w.heap.size 4 1 sv k ((List.replicate k false).map Value.bool) ∧ Below w.heap.size w wr) (fun _ i _ => es.length - (intOf i).toNat)
  case atStart => exact ⟨0, Nat.zero_le _, rfl, HE.out.1, HE.out.2⟩
  case round =>
    obtain ⟨k, hk, rfl, hrow, hbw⟩ := hrel
    clear HE
    have hsz := hbw.size
    obtain ⟨sa, scap, rfl⟩ := own_form hrow
    by_cases hkl : k < es.length
    · have hlt' : ((k : Nat) : Int) < ((es.length : Nat) : Int) := by omega
      have HR := (show Hid (_ ∧ _) from ⟨hrow.alloc (.cells #[.bool false] 4), hbw⟩)
      clear hrow hbw HC
      go_wp2_with (at_builtin; refine wpList_append_own_at _ rfl _ _ 49 rfl w.heap.size 4 i0 (.bool false) 1 1 Try.underlying49 hi hz0 hz1 hz2 rfl (by decide) _ k _ rfl HR.out.1 ⟨wr.heap.size, 0, none⟩ 1 1 [.bool false] rfl rfl (cell_one_new _ _ _) (bool_one _) (by unfold maxLen; omega) (by omega) (by simp; omega) ?_; intro v2 w2 hown2 hgrow2 hnil2 hat2)
      refine ⟨⟨k + 1, by omega, by go_num, by rw [List.replicate_succ', List.map_append]; exact hown2, Below.grown (HR.out.2.alloc hsz _) hgrow2 (fun j hj => (HR.out.1.lt j hj).1) (by simp; omega)⟩, by simp [intOf]; omega⟩
    · obtain rfl : k = es.length := by omega
      have EI := ow_empty wr w.heap.size 3 hsz
      have GA := World.grownBy_alloc wr (.cells #[] 3) none
      have hb1 : Below w.heap.size w (wr.alloc (.cells #[] 3)) := hbw.alloc hsz _
      have HR := (show Hid (_ ∧ _ ∧ _) from ⟨hrow.alloc (.cells #[] 3), hb1, EI⟩)
      have HI := (show Hid (_ ∧ True) from ⟨HC.out.2.below hb1, trivial⟩)
      have hs1 : (wr.alloc (.cells #[] 3)).heap.size = wr.heap.size + 1 := by simp
      clear hrow hbw EI GA hb1 hi hz0 hz1 hz2
      go_wp2_with (at_builtin; refine wpList_append_ints rfl _ _ rfl w.heap.size _ 0 [] rfl HR.out.2.2 _ rs S2 rfl HI.out.1 (by omega) (by omega) ?_; intro v2 w2 hown2 hgrow2 hat2)
      rw [List.nil_append, Nat.zero_add] at hown2
      have R0 : MarkRel w es rs (rs.length + leftOf es (List.replicate es.length false)) (.slice sa es.length scap) v2 w2 := by
        refine ⟨List.replicate es.length false, rs, MarkInv.start es rs, rfl, fun z hz => ?_, ?_, hown2, ?_⟩
        · obtain ⟨_, _, _, _, hii⟩ := HI.out.1
          obtain ⟨i, hi⟩ := List.getElem?_of_mem hz
          obtain ⟨_, _, _, _, _, _, hin⟩ := hii i z hi
          exact hin
        · have := HR.out.1.kept hgrow2 (ow_apart HR.out.1 HR.out.2.2 (by decide))
          simpa using this
        · exact Below.grown HR.out.2.1 hgrow2 (fun j hj => (HR.out.2.2.lt j hj).1) (by simp; omega)
      have HR0 := (show Hid (_ ∧ True) from ⟨R0, trivial⟩)
      obtain ⟨ta, tcap, rfl⟩ := own_form hown2
      clear R0 hown2 hgrow2 hat2 HR HI
      generalize hSV : Value.slice sa es.length scap = SV at *
      go_loopw [7] (fun tv wr => ∃ m, MarkRel w es rs m SV tv wr ∧ m ≤ 100000000) (fun tv wr => leastM (fun m => MarkRel w es rs m SV tv wr))
      case atStart => exact ⟨_, HR0.out.1, by omega⟩
      case round =>
        clear HR0
        have hR := leastM_spec (p := fun m => MarkRel w es rs m SV u7 wr) (hrel.elim fun m h => ⟨m, h.1⟩)
        have hM : leastM (fun m => MarkRel w es rs m SV u7 wr) ≤ 100000000 := hrel.elim fun m h => Nat.le_trans (leastM_le h.1) h.2
        clear hrel
        generalize hm0 : leastM (fun m => MarkRel w es rs m SV u7 wr) = m0 at *
        have HM0 := (show Hid (_ ∧ True) from ⟨hm0, trivial⟩)
        clear hm0
        obtain ⟨bs, todo, hinv, hm, hz, hS, hT, hbw⟩ := hR
        have hbl := hinv.len
        have hsz := hbw.size
        rcases List.eq_nil_or_concat todo with rfl | ⟨t, z, rfl⟩
        · obtain ⟨ta', tc', rfl⟩ := own_form hT
          have HD := (show Hid (_ ∧ _) from ⟨hinv.done, hS⟩)
          clear hinv hT hz hS hm HC
          go_wp2
          go_ret
          refine ⟨_, rfl, ?_, hbw⟩
          rw [← HD.out.1, ← hbl]
          exact HD.out.2
        · rw [List.concat_eq_append] at *
          rw [List.length_append, List.length_singleton, List.map_append, List.map_singleton] at hT
          rw [List.length_append, List.length_singleton] at hm
          obtain ⟨g, tc', rfl, hg1, hg2, hg3⟩ := ow_some hT (by omega)
          have c0 : wr.cell? ⟨g, t.length, none⟩ = some (.int .i64 z) := by
            rw [hT.cellAt t.length (by omega), List.getElem?_append_right (by simp)]
            simp
          have hT1 := ow_pop hT
          have hzz := hz z (by simp)
          have HZ := (show Hid (_ ∧ True) from ⟨fun y (hy : y ∈ t) => hz y (by simp [hy]), trivial⟩)
          clear hz
          by_cases hin : inB z 0 ((es.length : Int) - 1) = true
          · obtain ⟨k, c, rfl, hk, he, hca⟩ := cellAt_some hin
            clear hca
            rw [← hSV, hbl] at hS
            obtain ⟨gs, sc', hs', hgs1, hgs2, hgs3⟩ := ow_some hS (by omega)
            simp only [Value.slice.injEq, true_and] at hs'
            obtain ⟨rfl, rfl⟩ := hs'
            subst hSV
            have hbk : k < bs.length := by omega
            have s0 : wr.cell? ⟨gs, k, none⟩ = some (.bool bs[k]) := by
              rw [hS.cellAt k (by omega)]
              simp [hbk]
            have hb0 := List.getElem?_eq_getElem hbk
            have hklt : ((k : Nat) : Int) < ((es.length : Nat) : Int) := by omega
            have hS2 : wr.ownsRow w.heap.size 4 1 (.slice (some ⟨gs, 0, none⟩) es.length scap) bs.length (bs.map Value.bool) := by rw [hbl]; exact hS
            cases hbv : bs[k] with
            | true =>
              rw [hbv] at s0 hb0
              have HN := (show Hid (_ ∧ True) from ⟨hinv.skip (fun i hi hl => by
                have hik : k = i := by omega
                subst hik; exact hb0), trivial⟩)
              have HW := (show Hid (_ ∧ _ ∧ _) from ⟨hS2, hT1, hbw⟩)
              clear hinv hS hS2 hT hT1 hbw HC he hb0 hbv
              go_wp2_with fail
              refine (specIn_is _ _ _ true hin _).mono ?_
              rintro e w1 ⟨rfl, rfl⟩
              go_wp2
              have S' : MarkRel w es rs (t.length + leftOf es bs) (.slice (some ⟨gs, 0, none⟩) es.length scap) (.slice (some ⟨g, 0, none⟩) t.length tc') w1 := ⟨bs, t, HN.out.1, rfl, HZ.out.1, HW.out.1, HW.out.2.1, HW.out.2.2⟩
              exact ⟨⟨_, S', by omega⟩, Nat.lt_of_le_of_lt (leastM_le S') (by rw [HM0.out.1]; omega)⟩
            | false =>
              rw [hbv] at s0 hb0
              have f0 : wr.frozen? ⟨gs, k, none⟩ = false := by
                rcases hS.2 with ⟨h', _⟩ | ⟨g', cap', cur, h', _, hc', _⟩
                · simp at h'
                · simp only [Value.slice.injEq, Option.some.injEq, Addr.mk.injEq, and_true, true_and] at h'
                  obtain ⟨rfl, rfl⟩ := h'
                  exact unfrozen_of_block hc' _
              have hls := leftOf_set es bs k c he hb0
              have HN := (show Hid (_ ∧ True) from ⟨hinv.mark he, trivial⟩)
              have hst := hS.stored k (.bool true)
              have hT2 := hT1.kept hst.2 (ow_apart hT1 hS (by decide))
              have hbw2 : Below w.heap.size w (wr.setCell ⟨gs, k, none⟩ (.bool true)) := hbw.setCell (p := ⟨gs, k, none⟩) hgs2 _
              obtain ⟨b, off, kv, rfl, -, hlt2, -, -, -, d3, -, -, -, hkk⟩ := HC.out.1 k c he
              rw [← hbw.cell (by exact hlt2)] at d3
              have hne : ¬ b = gs := by omega
              have HK := (show Hid (_ ∧ True) from ⟨hkk.below hbw2, trivial⟩)
              obtain ⟨ka, kc, rfl⟩ := hkk.form
              have HW := (show Hid (_ ∧ _ ∧ _) from ⟨hst.1, hT2, hbw2⟩)
              have hsz2 : (wr.setCell ⟨gs, k, none⟩ (.bool true)).heap.size = wr.heap.size := by simp
              clear hinv hS hS2 hT hT1 hT2 hbw hbw2 HC he hb0 hbv hst hkk
              go_wp2_with fail
              refine (specIn_is _ _ _ true hin _).mono ?_
              rintro e w1 ⟨rfl, rfl⟩
              go_wp2_with (at_builtin; refine wpList_append_ints rfl _ _ rfl w.heap.size _ t.length _ rfl HW.out.2.1 _ c.kids S rfl HK.out.1 (by omega) (by omega) ?_; intro v2 w2 hown2 hgrow2 hat2)
              rw [← List.map_append, ← List.length_append] at hown2
              have S' : MarkRel w es rs ((t ++ c.kids).length + leftOf es (bs.set k true)) (.slice (some ⟨gs, 0, none⟩) es.length scap) v2 w2 := by
                refine ⟨bs.set k true, t ++ c.kids, HN.out.1, rfl, fun y hy => ?_, ?_, hown2, ?_⟩
                · rw [List.mem_append] at hy
                  rcases hy with hy | hy
                  · exact HZ.out.1 y hy
                  · obtain ⟨_, _, _, _, hii⟩ := HK.out.1
                    obtain ⟨i, hi⟩ := List.getElem?_of_mem hy
                    obtain ⟨_, _, _, _, _, _, hin⟩ := hii i y hi
                    exact hin
                · have := HW.out.1.kept hgrow2 (ow_apart HW.out.1 HW.out.2.1 (by decide))
                  rw [List.length_set, hbl, List.map_set]
                  exact this
                · exact Below.grown HW.out.2.2 hgrow2 (fun j hj => (HW.out.2.1.lt j hj).1) (by omega)
              rw [List.length_append] at S'
              exact ⟨⟨_, S', by omega⟩, Nat.lt_of_le_of_lt (leastM_le S') (by rw [HM0.out.1]; omega)⟩
          · have hin' : inB z 0 ((es.length : Int) - 1) = false := by simpa using hin
            have HN := (show Hid (_ ∧ True) from ⟨hinv.skip (fun i hi hl => by
              subst hi
              unfold inB at hin'
              simp at hin'
              omega), trivial⟩)
            have HW := (show Hid (_ ∧ _ ∧ _) from ⟨hS, hT1, hbw⟩)
            clear hin hinv hS hT hT1 hbw HC
            go_wp2_with fail
            refine (specIn_is _ _ _ false hin' _).mono ?_
            rintro e w1 ⟨rfl, rfl⟩
            go_wp2
            have S' : MarkRel w es rs (t.length + leftOf es bs) SV (.slice (some ⟨g, 0, none⟩) t.length tc') w1 := ⟨bs, t, HN.out.1, rfl, HZ.out.1, HW.out.1, HW.out.2.1, HW.out.2.2⟩
            exact ⟨⟨_, S', by omega⟩, Nat.lt_of_le_of_lt (leastM_le S') (by rw [HM0.out.1]; omega)⟩
end Go.Proofs.Ythjpmdoljceaiaa
