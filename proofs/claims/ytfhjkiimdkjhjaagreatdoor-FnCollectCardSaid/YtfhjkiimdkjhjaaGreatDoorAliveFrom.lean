/-
  The program's aliveFrom: the places that one comes to, each with its number among them.
-/
import Derived.Test.YtfhjkiimdkjhjaaGreatDoorComeTo
import Derived.Test.YtfhjkiimdkjhjaaGreatDoorNode
namespace Go.Proofs.YtfhjkiimdkjhjaaGreatDoor
open Go.RowKit Go.Joins Go.Maps

set_option maxRecDepth 100000

theorem makeI_hint (n : Int) (w : World) : (Instr.makeMap 48 (some (.int .i64 n))).run Tryz.prog w = .ok (.map (some w.heap.size)) (w.alloc (.map #[] 0)) := by
  have := Tryz.underlying48
  simp [Instr.makeMap, run_underlying this, asInt]
  rfl

/-- The walk under way. -/
def AliveRel (W0 : World) (es : List Ce) (rs : List Int) (b M m : Nat) (wr : World) : Prop :=
  ∃ (bs : List Bool) (todo : List Int) (sv : Value) (n : Nat), Mi es rs bs todo ∧ m = todo.length + countF bs ∧ PQ wr b M sv todo ∧ IMap wr M n (fOf bs) ∧ n + countF bs = 2 * es.length ∧ OutsP (Wk b M) W0 wr

set_option maxHeartbeats 12800000 in
theorem aliveFrom_any (v rv : Value) (es : List Ce) (rs : List Int) (S S2 : Nat → Prop) (w : World) (h : CellsAt w S v es) (h2 : IntsAt w S2 rv rs) (hn : es.length ≤ 2000000) :
    Calls Tryz.prog 29 #[v, rv] w fun e w' => ∃ M n, e = .returned (.map (some M)) ∧ w.heap.size ≤ M ∧ n ≤ 10000000 ∧ IMap w' M n (fAlive (marksOf es rs)) ∧ Below w.heap.size w w' := by
  have hmm := makeI_hint
  obtain ⟨a, cap, hv⟩ := h.form
  obtain ⟨ra, rcap, hrv⟩ := h2.form
  have HC := (show Hid (_ ∧ _) from ⟨h, h2⟩)
  clear h h2
  subst hv hrv
  have E0 := IMap.made w
  have B0 : Below w.heap.size w (w.alloc (.map #[] 0)) := (Below.refl _ w).alloc (Nat.le_refl _) _
  have HE := (show Hid (_ ∧ _) from ⟨E0, B0⟩)
  clear E0 B0
  go_enter Tryz.func29, Tryz.ntmps29
  go_wp2
  clear hmm
  go_loopw [15] (fun i wr => ∃ k : Nat, k ≤ es.length ∧ i = .int .i64 k ∧ IMap wr w.heap.size k (fOf (List.replicate k false)) ∧ Below w.heap.size w wr) (fun i _ => es.length - (intOf i).toNat)
  case atStart => exact ⟨0, Nat.zero_le _, rfl, by have := HE.out.1; exact (show fOf (List.replicate 0 false) = fun _ => none by funext z; simp [fOf]) ▸ this, HE.out.2⟩
  case round =>
    clear HE
    obtain ⟨k, hk, rfl, hm, hbw⟩ := hrel
    by_cases hkl : k < es.length
    · have hlt' : ((k : Nat) : Int) < ((es.length : Nat) : Int) := by omega
      have HM := (show Hid (_ ∧ _) from ⟨hm, hbw⟩)
      clear hm hbw HC
      go_wp2_with (at_mapUpdate; refine wpList_update_im _ rfl _ _ _ rfl w.heap.size k _ rfl HM.out.1 (by omega) _ _ rfl rfl (inI64_small (by omega) (by omega)) (inI64_small (by omega) (by omega)) ?_; intro w1 hm1 hg1)
      refine ⟨⟨k + 1, by omega, by go_num, by rw [← fOf_push]; exact hm1, HM.out.2.grown hg1 HM.out.2.size (fun j hj => by cases hj; exact Nat.le_refl _)⟩, by simp [intOf]; omega⟩
    · obtain rfl : k = es.length := by omega
      have HM := (show Hid (_ ∧ _) from ⟨hm, hbw⟩)
      clear hm hbw
      go_wp2_with fail
      have hM : w.heap.size < wr.heap.size := HM.out.1.lt
      have hb0 : Below w.heap.size w (wr.alloc (.cells #[.map (some w.heap.size), .slice none 0 0] 76)) := HM.out.2.alloc HM.out.2.size _
      have hq0 : PQ (wr.alloc (.cells #[.map (some w.heap.size), .slice none 0 0] 76)) wr.heap.size w.heap.size (.slice none 0 0) [] :=
        ⟨(MapKept.heap_alloc wr _).1, ⟨rfl, .inl ⟨rfl, rfl⟩⟩, fun z hz => by simp at hz⟩
      have hz0 : IntsAt (wr.alloc (.cells #[.map (some w.heap.size), .slice none 0 0] 76)) (fun k => k < w.heap.size) (.slice ra rs.length rcap) rs := HC.out.2.kept (fun k _ hlt => hb0.block k hlt) hb0.size (fun k _ hlt => hlt)
      have hc0 : CellsAt (wr.alloc (.cells #[.map (some w.heap.size), .slice none 0 0] 76)) (fun k => k < w.heap.size) (.slice a es.length cap) es := HC.out.1.kept (fun k _ hlt => hb0.block k hlt) hb0.size (fun k _ hlt => hlt)
      have hS0 : ∀ k, k < w.heap.size → k < wr.heap.size ∧ k ≠ w.heap.size := fun k hk => ⟨by omega, by omega⟩
      have hcF : countF (List.replicate es.length false) = es.length := by
        have : ∀ m, countF (List.replicate m false) = m := by
          intro m
          induction m with
          | zero => rfl
          | succ m ih => rw [List.replicate_succ, countF, ih]
        exact this _
      have hct := comeTo_any hq0 (HM.out.1.alloc _) hM hz0 hS0 (by rw [hcF]; simp; omega) (by rw [hcF]; omega)
      have HCT := (show Hid (_ ∧ _ ∧ _ ∧ _ ∧ _ ∧ _) from ⟨hct, hb0, hc0, hS0, hM, hcF⟩)
      clear hct hb0 hq0 hz0 hc0 hS0 hM hcF HM HC
      refine HCT.out.1.mono ?_
      rintro e w1 ⟨rfl, bs, new, sv, ys, hcome, hp, hq, hm, ho⟩
      have hR1 : AliveRel (wr.alloc (.cells #[.map (some w.heap.size), .slice none 0 0] 76)) es rs wr.heap.size w.heap.size (ys.length + countF bs) w1 := by
        have hc := hcome.count
        rw [HCT.out.2.2.2.2.2] at hc
        rw [List.nil_append] at hp
        exact ⟨bs, ys, sv, _, (Mi.start hcome).perm hp, rfl, hq, hm, by omega, ho⟩
      have hmx : ys.length + countF bs ≤ 2000000 := by
        have hc := hcome.count
        rw [HCT.out.2.2.2.2.2] at hc
        rw [List.nil_append] at hp
        have := hp.length_eq
        omega
      have HR1 := (show Hid (_ ∧ _) from ⟨hR1, hmx⟩)
      clear hR1 hmx hcome hp hq hm ho
      generalize hW0 : wr.alloc (.cells #[.map (some w.heap.size), .slice none 0 0] 76) = W0 at *
      have HW0 := (show Hid (_ ∧ _) from ⟨hW0, HCT.out.2⟩)
      clear hW0 HCT
      generalize hb : wr.heap.size = b at *
      have Hb := (show Hid (_ ∧ True) from ⟨hb, trivial⟩)
      clear hb
      generalize hMM : w.heap.size = M at *
      have HMM := (show Hid (_ ∧ True) from ⟨hMM, trivial⟩)
      clear hMM
      go_wp2
      go_loopw [] (fun wr => ∃ m, AliveRel W0 es rs b M m wr ∧ m ≤ 2000000) (fun wr => leastM (fun m => AliveRel W0 es rs b M m wr))
      case atStart => exact ⟨_, HR1.out.1, HR1.out.2⟩
      case round =>
        clear HR1
        have hR := leastM_spec (p := fun m => AliveRel W0 es rs b M m wr) (hrel.elim fun m h => ⟨m, h.1⟩)
        have hMx : leastM (fun m => AliveRel W0 es rs b M m wr) ≤ 2000000 := hrel.elim fun m h => Nat.le_trans (leastM_le h.1) h.2
        clear hrel
        generalize hm0 : leastM (fun m => AliveRel W0 es rs b M m wr) = m0 at *
        have HM0 := (show Hid (_ ∧ True) from ⟨hm0, trivial⟩)
        clear hm0
        obtain ⟨bs, todo, sv, n, hmi, hm, hq, him, hcn, ho⟩ := hR
        obtain ⟨tl, ta, tc, htl, rfl⟩ := own_formN hq.row
        have c1 := hq.cell
        have hln := hmi.len
        rcases Nat.eq_zero_or_pos todo.length with ht0 | ht0
        · obtain rfl : todo = [] := List.length_eq_zero_iff.1 ht0
          have htl0 : tl = 0 := htl
          subst htl0
          have hdone := hmi.done
          have HD := (show Hid (_ ∧ _ ∧ _ ∧ _) from ⟨hdone, him, ho, hln⟩)
          clear hmi hm hq him ho hdone hln htl ht0
          go_wp2_with (go_at_call 53; refine (len_is _ _ _ _).mono ?_; rintro e w2 ⟨rfl, rfl⟩)
          go_loopw [8, 37] (fun nv i wr => ∃ k : Nat, k ≤ es.length ∧ i = .int .i64 k ∧ nv = .int .i64 (countT (bs.take k) : Int) ∧ IMap wr M (n + k) (fPart bs k) ∧ OutsP (Wk b M) W0 wr) (fun _ i _ => es.length - (intOf i).toNat)
          case atStart => exact ⟨0, Nat.zero_le _, rfl, rfl, by rw [fPart_zero]; exact HD.out.2.1, HD.out.2.2.1⟩
          case round =>
            obtain ⟨k, hk, rfl, rfl, him, ho⟩ := hrel
            by_cases hkl : k < es.length
            · have hkb : k < bs.length := by have := HD.out.2.2.2; omega
              have hbk := List.getElem?_eq_getElem hkb
              generalize bs[k] = x at *
              have hct := countT_take bs k x hbk
              have hcl := countT_take_le bs k
              have hlk := him.look (z := (k : Int)) (inI64_small (by omega) (by omega))
              rw [fPart_here, hbk] at hlk
              have hlt' : ((k : Nat) : Int) < ((es.length : Nat) : Int) := by omega
              have hkin : inI64 (k : Int) := inI64_small (by omega) (by omega)
              have hcin : inI64 (countT (bs.take k) : Int) := inI64_small (by omega) (by omega)
              have hnk : n + k ≤ 1000000000 := by omega
              have HS := (show Hid (_ ∧ _ ∧ _ ∧ _) from ⟨him, ho, hbk, hct⟩)
              clear him ho hbk hct HD HW0 hkb
              generalize hC : countT (bs.take k) = C at *
              have HCC := (show Hid (_ ∧ True) from ⟨hC, trivial⟩)
              clear hC
              cases x with
              | false =>
                simp only [Option.map_some, Option.getD_some, if_neg Bool.false_ne_true] at hlk
                go_wp2_with (at_delete; refine wpList_delete_im _ rfl _ _ rfl M _ _ rfl HS.out.1 _ rfl hkin ?_; intro w5 hm5 hg5)
                refine ⟨⟨k + 1, by omega, by go_num, by rw [HS.out.2.2.2]; rfl, by rw [← fPart_no bs k HS.out.2.2.1]; exact hm5.mono (by omega), HS.out.2.1.trans (OutsP.of_grown hg5 (fun g hg => by cases hg; exact .inl rfl))⟩, by simp [intOf]; omega⟩
              | true =>
                simp only [Option.map_some, Option.getD_some, if_true] at hlk
                go_wp2_with (at_mapUpdate; refine wpList_update_im _ rfl _ _ _ rfl M _ _ rfl HS.out.1 hnk _ _ rfl rfl hkin hcin ?_; intro w5 hm5 hg5)
                refine ⟨⟨k + 1, by omega, by go_num, by rw [HS.out.2.2.2]; go_num, ?_, HS.out.2.1.trans (OutsP.of_grown hg5 (fun g hg => by cases hg; exact .inl rfl))⟩, by simp [intOf]; omega⟩
                have hy := fPart_yes bs k HS.out.2.2.1
                rw [HCC.out.1] at hy
                rw [← hy]
                exact hm5
            · obtain rfl : k = es.length := by omega
              have HS := (show Hid (_ ∧ _) from ⟨him, ho⟩)
              clear him ho
              go_wp2
              go_ret
              refine ⟨M, n + es.length, rfl, Nat.le_of_eq HMM.out.1, by omega, ?_, ?_⟩
              · rw [← HD.out.1, ← fPart_all, HD.out.2.2.2]
                exact HS.out.1
              · rw [HMM.out.1]
                have hb0 := HW0.out.2.1
                refine ⟨HS.out.2.os.trans hb0.os, HS.out.2.tape.trans hb0.tape, HS.out.2.output.trans hb0.output, Nat.le_trans hb0.size HS.out.2.size, fun q hq => (HS.out.2.out q ?_ ?_).trans (hb0.block q hq)⟩
                · have := hb0.size
                  have := HMM.out.1
                  omega
                · rintro (h | h)
                  · omega
                  · have := HW0.out.2.2.2.2.1; omega
        · have hnx := next_any hq (by omega) (by omega)
          have HD := (show Hid (_ ∧ _ ∧ _ ∧ _ ∧ _) from ⟨hnx, hmi, him, ho, hm⟩)
          have hgt : (0 : Int) < (tl : Int) := by omega
          clear hnx hmi hm hq him ho htl
          go_wp2_with (go_at_call 53; refine (len_is _ _ _ _).mono ?_; rintro e w2 ⟨rfl, rfl⟩)
          refine HD.out.1.mono ?_
          rintro e w3 ⟨z, t, sv3, rfl, hp3, hq3, hb3⟩
          have hmi3 := HD.out.2.1.perm hp3
          obtain ⟨k, rfl, hbk⟩ := hmi3.wait z (by simp)
          have hkl : k < es.length := by have := (List.getElem?_eq_some_iff.1 hbk).1; omega
          have he := List.getElem?_eq_getElem hkl
          generalize es[k] = c at *
          have ho3 := HD.out.2.2.2.1.trans (outs_below (M := M) hb3)
          obtain ⟨ca, ccap, hcv, hcl, hcc⟩ := cells_outs HW0.out.2.2.1 HW0.out.2.2.2.1 ho3
          simp only [Value.slice.injEq, true_and] at hcv
          obtain ⟨rfl, rfl⟩ := hcv
          obtain ⟨cb, coff, kv, rfl, hSb, hlt3, d0, d1, d2, d3, r1, r2, r3, hkk⟩ := hcc k c he
          obtain ⟨ka, kc, rfl⟩ := hkk.form
          have hcc' := hp3.length_eq
          rw [List.length_append, List.length_singleton] at hcc'
          have hct := comeTo_any hq3 (HD.out.2.2.1.below hb3 HW0.out.2.2.2.2.1) HW0.out.2.2.2.2.1 hkk HW0.out.2.2.2.1 (by have := HD.out.2.2.2.2; omega) (by omega)
          have HT := (show Hid (_ ∧ _ ∧ _ ∧ _ ∧ _) from ⟨hct, hmi3, ho3, he, hcc'⟩)
          have hltk : ((k : Nat) : Int) < ((es.length : Nat) : Int) := by omega
          clear hp3 hq3 hb3 hmi3 ho3 hkk hct he hcc hcc' hbk d0 d1 d2 c1
          go_wp2_with fail
          refine HT.out.1.mono ?_
          rintro e w4 ⟨rfl, bs4, new4, sv4, ys4, hcome, hp4, hq4, hm4, ho4⟩
          have S' : AliveRel W0 es rs b M (ys4.length + countF bs4) w4 := by
            have h1 := hcome.count
            exact ⟨bs4, ys4, sv4, _, (HT.out.2.1.step HT.out.2.2.2.1 hcome).perm hp4, rfl, hq4, hm4, by omega, HT.out.2.2.1.trans ho4⟩
          have hlen : ys4.length + countF bs4 < m0 := by
            have h1 := hcome.count
            have h2 := hp4.length_eq
            rw [List.length_append] at h2
            have h3 := HT.out.2.2.2.2
            have h4 := HD.out.2.2.2.2
            omega
          have HS' := (show Hid (_ ∧ _) from ⟨S', hlen⟩)
          clear S' hcome hp4 hq4 hm4 ho4 hlen
          go_wp2
          exact ⟨⟨_, HS'.out.1, by have := HS'.out.2; omega⟩, Nat.lt_of_le_of_lt (leastM_le HS'.out.1) HS'.out.2⟩
end Go.Proofs.YtfhjkiimdkjhjaaGreatDoor
