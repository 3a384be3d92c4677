/-
  The program's ProgramOk.
-/
import Derived.Test.YtkhkmmjollcfaaaGreatDoorExpOk
import Derived.Test.YtkhkmmjollcfaaaGreatDoorNamesOk
namespace Go.Proofs.YtkhkmmjollcfaaaGreatDoor
open Go.RowKit Go.Joins

set_option maxRecDepth 100000

theorem retB {a b : Bool} (h : a = b) : Ending.returned (.bool a) = .returned (.bool b) := by rw [h]

set_option maxHeartbeats 1600000 in
theorem progOk_any (d : Nat) (v : Value) (p : Pr) (w : World) (h : PrAt w (Pl w) d v p) :
    Calls Tryz.prog 37 #[v] w fun e w' => e = .returned (.bool p.ok) ∧ Below w.heap.size w w' := by
  have hnot : ∀ (x : Bool) (w : World), (Op.unary .not (.bool x)).run Tryz.prog w = .ok (.bool (!x)) w := fun _ _ => rfl
  have hok := p.ok_iff
  obtain ⟨nv, bv, rfl, hn, hk⟩ := h
  have HN := (show Hid (_ ∧ True) from ⟨hn, trivial⟩)
  obtain ⟨a1, cap1, rfl, hl1, -⟩ := hn
  cases d with
  | zero => exact hk.elim
  | succ d =>
  obtain ⟨a, cap, rfl, hl, hc⟩ := hk
  unfold maxLen at hl hl1
  have HOK := (show Hid (_ ∧ True) from ⟨hok, trivial⟩)
  have HNode : Hid (∀ (i : Nat) (e : Ex), p.bodies[i]? = some e → ∃ b o, a = some ⟨b, o, none⟩ ∧ NodeAt w d ⟨b, o + i * 4, none⟩ e) := fun i e he => by
    obtain ⟨b, off, kv, ha, hp, hl1, c0, c1, c2, c3, r1, r2, r3, kk⟩ := hc i e he
    exact ⟨b, off, ha, b, off + i * 4, kv, rfl, hp, c0, c1, c2, c3, r1, r2, r3, kk⟩
  have B0 : Below w.heap.size w (w.alloc (.cells #[.slice a1 p.names.length cap1, .slice a p.bodies.length cap] 31)) := (Below.refl _ w).alloc (Nat.le_refl _) _
  have O0 : (w.alloc (.cells #[.slice a1 p.names.length cap1, .slice a p.bodies.length cap] 31)).heap[w.heap.size]? = some (.cells #[.slice a1 p.names.length cap1, .slice a p.bodies.length cap] 31) := (MapKept.heap_alloc w _).1
  have P3 : (w.alloc (.cells #[.slice a1 p.names.length cap1, .slice a p.bodies.length cap] 31)).heap.size = w.heap.size + 1 := by simp
  have HBx : Hid (∀ wk : World, Below (w.alloc (.cells #[.slice a1 p.names.length cap1, .slice a p.bodies.length cap] 31)).heap.size (w.alloc (.cells #[.slice a1 p.names.length cap1, .slice a p.bodies.length cap] 31)) wk → Below w.heap.size w wk ∧ wk.heap[w.heap.size]? = some (.cells #[.slice a1 p.names.length cap1, .slice a p.bodies.length cap] 31)) := fun wk hb => ⟨B0.trans (hb.mono B0.size), (hb.block _ (by rw [P3]; omega)).trans O0⟩
  have hmm := @run_makeMap Tryz.prog
  clear hc hok O0
  by_cases hlen : p.names.length = p.bodies.length
  case neg =>
    have gl : (((p.names.length : Nat) : Int) != ((p.bodies.length : Nat) : Int)) = true := by simp; omega
    have hr : p.ok = false := Pr.ok_false fun h => hlen h.1
    rw [hr]
    go_enter Tryz.func37, Tryz.ntmps37
    go_wp2_with fail
    go_ret
    exact ⟨rfl, B0⟩
  have gl : (((p.names.length : Nat) : Int) != ((p.bodies.length : Nat) : Int)) = false := by simp [hlen]
  by_cases hin : 1 ≤ p.names.length
  case neg =>
    have g1 : decide (((p.names.length : Nat) : Int) < 1) = true := by simp; omega
    have hr : p.ok = false := Pr.ok_false fun h => hin h.2.1
    rw [hr]
    have HLN := (show Hid (_ ∧ True) from ⟨hlen, trivial⟩)
    clear hlen
    go_enter Tryz.func37, Tryz.ntmps37
    go_wp2_with fail
    go_ret
    exact ⟨rfl, B0⟩
  have g1 : decide (((p.names.length : Nat) : Int) < 1) = false := by simp; omega
  by_cases hin2 : p.names.length ≤ 30
  case neg =>
    have g2 : decide (30 < ((p.names.length : Nat) : Int)) = true := by simp; omega
    have hr : p.ok = false := Pr.ok_false fun h => hin2 h.2.2.1
    rw [hr]
    have HLN := (show Hid (_ ∧ True) from ⟨hlen, trivial⟩)
    clear hlen
    go_enter Tryz.func37, Tryz.ntmps37
    go_wp2_with fail
    go_ret
    exact ⟨rfl, B0⟩
  have g2 : decide (30 < ((p.names.length : Nat) : Int)) = false := by simp; omega
  have HLN := (show Hid (_ ∧ _ ∧ _) from ⟨hlen, hin, hin2⟩)
  cases hnm : (p.names.all nameOk && decide (keysS p.names).Nodup) with
  | false =>
    have hr : p.ok = false := by unfold Pr.ok; rw [Bool.and_assoc (_ && _) (p.names.all nameOk), hnm]; simp
    rw [hr]
    clear hlen
    go_enter Tryz.func37, Tryz.ntmps37
    go_wp2_with (go_at_call 51; refine (namesOk_any _ p.names _ _ (HN.out.1.below B0) hin2).mono ?_; rintro e w1 ⟨rfl, b1⟩; rw [hnm])
    go_ret
    exact ⟨rfl, B0.trans (b1.mono B0.size)⟩
  | true =>
    clear hlen
    go_enter Tryz.func37, Tryz.ntmps37
    go_wp2_with (go_at_call 51; refine (namesOk_any _ p.names _ _ (HN.out.1.below B0) hin2).mono ?_; rintro e w1 ⟨rfl, b1⟩; rw [hnm]; have Y0 : w1.cell? ⟨w.heap.size, 0, none⟩ = some (.slice a1 p.names.length cap1) := (by rw [cell_of_block (HBx.out _ b1).2]; rfl); have hlt1 : w.heap.size < w1.heap.size := (Array.getElem?_eq_some_iff.1 (HBx.out _ b1).2).1; have O2 : ((w1.alloc (.map #[] 0)).alloc (.cells #[.int .i64 p.names.length, .map (some w1.heap.size)] 96)).heap[w.heap.size]? = some (.cells #[.slice a1 p.names.length cap1, .slice a p.bodies.length cap] 31) := (Below.heap_alloc _ _ _ (by simp; omega)).trans ((Below.heap_alloc _ _ _ hlt1).trans (HBx.out _ b1).2); have Y2 : ((w1.alloc (.map #[] 0)).alloc (.cells #[.int .i64 p.names.length, .map (some w1.heap.size)] 96)).cell? ⟨w.heap.size, 1, none⟩ = some (.slice a p.bodies.length cap) := (by rw [cell_of_block O2]; rfl); have HO2 := (show Hid (_ ∧ _) from ⟨O2, (HBx.out _ b1).1⟩); clear O2 b1)
    have hch : Chk ((w1.alloc (.map #[] 0)).alloc (.cells #[.int .i64 p.names.length, .map (some w1.heap.size)] 96)) (w1.heap.size + 1) w1.heap.size p.names.length := by
      have := (MapKept.heap_alloc (w1.alloc (.map #[] 0)) (.cells #[.int .i64 p.names.length, .map (some w1.heap.size)] 96)).1
      rw [show (w1.alloc (.map #[] 0)).heap.size = w1.heap.size + 1 by simp] at this
      exact this
    have hpm : PtMap (PtrIntN w.heap.size) ((w1.alloc (.map #[] 0)).alloc (.cells #[.int .i64 p.names.length, .map (some w1.heap.size)] 96)) w1.heap.size (fun _ => none) := by
      have := PtMap.made (Kd := PtrIntN w.heap.size) w1
      exact ptiKept this (Below.heap_alloc _ _ _ (by simp)) (fun c hc => Below.heap_alloc _ _ _ (by simp; omega))
    have HCH := (show Hid (_ ∧ _ ∧ _) from ⟨hpm, hch, (HO2.out.2.alloc HO2.out.2.size (.map #[] 0)).alloc (HO2.out.2.alloc HO2.out.2.size (.map #[] 0)).size (.cells #[.int .i64 p.names.length, .map (some w1.heap.size)] 96)⟩)
    clear hch hpm Y0 Y2 hmm HBx P3 B0
    go_loopw [36] (fun i wr => ∃ k : Nat, k ≤ p.bodies.length ∧ i = .int .i64 k ∧ (∀ (j : Nat) (y : Ex), j < k → p.bodies[j]? = some y → y.right 0 (p.names.length : Int) 60 = true) ∧ ∃ f, PtMap (PtrIntN w.heap.size) wr w1.heap.size f ∧ RFin w (p.names.length : Int) f ∧ Chk wr (w1.heap.size + 1) w1.heap.size (p.names.length : Int) ∧ wr.heap[w.heap.size]? = some (.cells #[.slice a1 p.names.length cap1, .slice a p.bodies.length cap] 31) ∧ Below w.heap.size w wr) (fun i _ => p.bodies.length - (intOf i).toNat)
    case atStart => exact ⟨0, Nat.zero_le _, rfl, fun j _ h => by omega, _, HCH.out.1, fun k u h => (by cases h), HCH.out.2.1, HO2.out.1, HCH.out.2.2⟩
    case round =>
      obtain ⟨k, hk, rfl, hall, f, hmap, hfin, hchk, hO, hbw⟩ := hrel
      have P1r : wr.cell? ⟨w.heap.size, 1, none⟩ = some (.slice a p.bodies.length cap) := by rw [cell_of_block hO]; rfl
      have HS := (show Hid (_ ∧ _ ∧ _ ∧ _ ∧ _ ∧ _) from ⟨hall, hmap, hfin, hchk, hO, hbw⟩)
      have hcl : w1.heap.size + 1 < wr.heap.size := (Array.getElem?_eq_some_iff.1 hchk).1
      by_cases hkl : k < p.bodies.length
      · have he := List.getElem?_eq_getElem hkl
        generalize p.bodies[k] = y at *
        obtain ⟨b, o, rfl, hnode⟩ := HNode.out k y he
        have HEK := (show Hid (_ ∧ _) from ⟨he, hnode⟩)
        have hlt' : ((k : Nat) : Int) < ((p.bodies.length : Nat) : Int) := by omega
        clear he hnode hall hmap hfin hchk hO hbw
        have hx := fun (r : Bool) (hr : y.right 0 (p.names.length : Int) 60 = r) => hr ▸ expOk_any w d ⟨b, o + k * 4, none⟩ y 0 0 (p.names.length : Int) (w1.heap.size + 1) w1.heap.size f wr HS.out.2.2.2.2.2 (by omega) (by omega) HEK.out.2 HS.out.2.2.2.1 HS.out.2.1 HS.out.2.2.1 ⟨by omega, by omega⟩ ⟨by omega, by omega⟩ ⟨by omega, by omega⟩
        have HX := (show Hid (_ ∧ True) from ⟨hx, trivial⟩)
        clear hx
        cases hrt : y.right 0 (p.names.length : Int) 60 with
        | false =>
          have hr : p.ok = false := Pr.ok_false fun h => by have := h.2.2.2.2.2 y (List.mem_of_getElem? HEK.out.1); rw [hrt] at this; cases this
          have HR : Hid (p.ok = false) := hr
          clear hr
          go_wp2_with (go_at_call 52; refine (HX.out.1 _ hrt).mono ?_; rintro r w5 ⟨rfl, f5, hm5, hf5, hg5⟩)
          go_ret
          exact ⟨retB HR.out.symm, Below.grown HS.out.2.2.2.2.2 hg5 (fun k hk => by cases hk; omega) HS.out.2.2.2.2.2.size⟩
        | true =>
          go_wp2_with (go_at_call 52; refine (HX.out.1 _ hrt).mono ?_; rintro r w5 ⟨rfl, f5, hm5, hf5, hg5⟩; have HR5 := (show Hid (_ ∧ _ ∧ _) from ⟨hm5, hf5, hg5⟩); clear hm5 hf5 hg5)
          refine ⟨⟨k + 1, by omega, by go_num, ?_, f5, HR5.out.1, HR5.out.2.1, ?_, ?_, Below.grown HS.out.2.2.2.2.2 HR5.out.2.2 (fun k hk => by cases hk; omega) HS.out.2.2.2.2.2.size⟩, by simp [intOf]; omega⟩
          · intro j z hj hz
            by_cases hjk : j < k
            · exact HS.out.1 j z hjk hz
            · obtain rfl : j = k := by omega
              rw [HEK.out.1] at hz
              cases hz
              exact hrt
          · exact (HR5.out.2.2.block _ hcl (by simp)).trans HS.out.2.2.2.1
          · exact (HR5.out.2.2.block _ (by omega) (by simp; omega)).trans HS.out.2.2.2.2.1
      · obtain rfl : k = p.bodies.length := by omega
        have hr : p.ok = true := by
          rw [Bool.and_eq_true, List.all_eq_true, decide_eq_true_eq] at hnm
          refine p.ok_iff.2 ⟨HLN.out.1, HLN.out.2.1, HLN.out.2.2, hnm.1, hnm.2, fun y hy => ?_⟩
          obtain ⟨i, hi, rfl⟩ := List.getElem_of_mem hy
          exact hall i _ hi (List.getElem?_eq_getElem hi)
        have HR : Hid (p.ok = true) := hr
        clear hr hall hmap hfin hchk hO hbw HNode
        go_wp2
        go_ret
        exact ⟨retB HR.out.symm, HS.out.2.2.2.2.2⟩
end Go.Proofs.YtkhkmmjollcfaaaGreatDoor
