/-
  The program's reader of bytes: numbers into their places, and a message's kids.
-/
import Derived.Test.YtnehfjnanffjeaaGreatDoorMD
namespace Go.Proofs.YtnehfjnanffjeaaGreatDoor
open Go.RowKit Go.Joins

set_option maxRecDepth 100000

theorem Wr.grown {w w' : World} {row : Option Nat} {b g cap : Nat} {l : List UInt8} {p : Nat} (h : Wr w b g cap l p) (hg : w.grownBy w' row) (hb : ∀ k, row = some k → k ≠ b ∧ k ≠ g) : Wr w' b g cap l p := by
  obtain ⟨cs, fz, h1, h2⟩ := h.bytes
  refine ⟨(hg.block _ (lt_heap h.box) (fun e => (hb _ e.symm).1 rfl)).trans h.box, ⟨cs, fz, (hg.block _ (lt_heap h1) (fun e => (hb _ e.symm).2 rfl)).trans h1, h2⟩, h.ne, h.len, h.cap, h.at_⟩
/-- Pointers to the first so many places of a block. -/
def ptrsTo (n fb : Nat) : Array Value := ((List.range n).map (fun j => Value.pointer (some ⟨fb, j, none⟩))).toArray
theorem ptrsTo_at {n fb j : Nat} (h : j < n) : (ptrsTo n fb)[j]? = some (.pointer (some ⟨fb, j, none⟩)) := by simp [ptrsTo, h]
/-- Cells of which the first so many got the numbers from a place on. -/
def putN (cs : Array Value) (l : List UInt8) (p : Nat) : Nat → Array Value
  | 0 => cs
  | k + 1 => (putN cs l p k).setIfInBounds k (.int .i64 (numL l (p + 8 * k)))
theorem putN_size (cs : Array Value) (l : List UInt8) (p : Nat) : ∀ k, (putN cs l p k).size = cs.size
  | 0 => rfl
  | k + 1 => by rw [putN, Array.size_setIfInBounds, putN_size cs l p k]

set_option maxHeartbeats 3200000 in
theorem fill_any (b g cap gf fb n : Nat) (l : List UInt8) (p : Nat) (cs : Array Value) (T : TypeId) (c2 : Nat) (w : World) (h : Wr w b g cap l p) (hr : w.heap[gf]? = some (.cells (ptrsTo n fb) 168)) (hf : w.heap[fb]? = some (.cells cs T)) (hn : n ≤ cs.size) (hn2 : n ≤ 100)
    (n1 : fb ≠ b) (n2 : fb ≠ g) (n3 : gf ≠ b) (n4 : gf ≠ fb) :
    Calls Tryz.prog 124 #[.pointer (some ⟨b, 0, none⟩), .slice (some ⟨gf, 0, none⟩) n c2] w fun e w' =>
      (p + 8 * n ≤ l.length ∧ e = .returned .nilIface ∧ Wr w' b g cap l (p + 8 * n) ∧ w'.heap[fb]? = some (.cells (putN cs l p n) T) ∧ KB (fun k => k = b ∨ k = fb) w w') ∨
      (¬ p + 8 * n ≤ l.length ∧ ∃ z, e = .returned (.iface 185 (.agg #[.int .i64 z])) ∧ KB (fun k => k = b ∨ k = fb) w w') := by
  have H0 := (show Hid (_ ∧ _ ∧ _) from ⟨h, hr, hf⟩)
  clear h hr hf
  go_enter Tryz.func124, Tryz.ntmps124
  go_wp2_with fail
  go_loopw [11] (fun iv wr => ∃ k : Nat, k ≤ n ∧ iv = .int .i64 k ∧ (k = 0 ∨ p + 8 * k ≤ l.length) ∧ Wr wr b g cap l (p + 8 * k) ∧ wr.heap[fb]? = some (.cells (putN cs l p k) T) ∧ KB (fun k => k = b ∨ k = fb) w wr) (fun iv _ => n - (intOf iv).toNat)
  case atStart => exact ⟨0, Nat.zero_le _, rfl, .inl rfl, H0.out.1, H0.out.2.2, KB.refl _ _⟩
  case round =>
    obtain ⟨k, hk, rfl, hfit, hW, hF, hK⟩ := hrel
    have hl := hW.len
    by_cases hkn : k < n
    · have hkn' : ((k : Nat) : Int) < ((n : Nat) : Int) := by omega
      have hgf := hK.heap H0.out.2.1 (by omega)
      have c1 : wr.cell? ⟨gf, k, none⟩ = some (.pointer (some ⟨fb, k, none⟩)) := by rw [cell_of_block hgf]; exact ptrsTo_at hkn
      by_cases hin : p + 8 * k + 8 ≤ l.length
      · have hN := num_ok b g cap l (p + 8 * k) wr hW hin
        have HH := (show Hid (_ ∧ _ ∧ _) from ⟨hN, hF, hK⟩)
        clear hN hF hK hW hgf
        go_wp2_with fail
        refine HH.out.1.mono ?_
        rintro e w1 ⟨rfl, h1, k1⟩
        have f1 := k1.heap HH.out.2.1 n1
        obtain ⟨old, ho⟩ : ∃ old, (putN cs l p k)[k]? = some old := ⟨_, Array.getElem?_eq_getElem (by rw [putN_size]; omega)⟩
        have d1 : w1.cell? ⟨fb, k, none⟩ = some old := by rw [cell_of_block f1]; exact ho
        have e1 : w1.frozen? ⟨fb, k, none⟩ = false := unfrozen_of_block f1 k
        have H1 := (show Hid (_ ∧ _ ∧ _) from ⟨h1, f1, HH.out.2.2.trans (k1.more (fun _ _ h => .inl h))⟩)
        clear h1 f1 k1 ho
        go_wp2
        refine ⟨⟨k + 1, by omega, by go_num, .inr (by omega), ?_, ?_, H1.out.2.2.setCell (.inr rfl) _⟩, by simp [intOf]; omega⟩
        · have := H1.out.1.kept (X := fun j => j = fb) (KB.setCell (X := fun j => j = fb) (KB.refl _ w1) (p := ⟨fb, k, none⟩) rfl (.int .i64 (numL l (p + 8 * k)))) (Ne.symm n1) (Ne.symm n2)
          rwa [show p + 8 * k + 8 = p + 8 * (k + 1) by omega] at this
        · rw [block_setCell H1.out.2.1]; rfl
      · have hN := num_no b g cap l (p + 8 * k) wr hW hin
        have HH := (show Hid (_ ∧ _ ∧ _) from ⟨hN, hF, hK⟩)
        clear hN hF hK hW hgf
        go_wp2_with fail
        refine HH.out.1.mono ?_
        rintro e w1 ⟨rfl, b1⟩
        have HB := (show Hid (_ ∧ True) from ⟨b1, trivial⟩)
        clear b1
        go_wp2
        go_ret
        exact .inr ⟨by omega, _, rfl, HH.out.2.2.trans (KB.of_below HB.out.1)⟩
    · obtain rfl : k = n := by omega
      have HH := (show Hid (_ ∧ _ ∧ _) from ⟨hW, hF, hK⟩)
      have hat := hW.at_
      clear hW hF hK
      go_wp2
      go_ret
      exact .inl ⟨hat, rfl, HH.out.1, HH.out.2.1, HH.out.2.2⟩

/-- The numbers from a place on. -/
def numsL (l : List UInt8) (p n : Nat) : List Int := (List.range n).map (fun k => numL l (p + 8 * k))
theorem numsL_more (l : List UInt8) (p k : Nat) : numsL l p (k + 1) = numsL l p k ++ [numL l (p + 8 * k)] := by simp [numsL, List.range_succ]
theorem numsL_len (l : List UInt8) (p n : Nat) : (numsL l p n).length = n := by simp [numsL]
/-- Whether the kids are there, from a place on. -/
def kidsFit (l : List UInt8) (p : Nat) : Prop := p + 8 ≤ l.length ∧ inB (numL l p) 0 100 = true ∧ p + 8 + 8 * (numL l p).toNat ≤ l.length

set_option maxHeartbeats 3200000 in
theorem kids_any (b g cap : Nat) (l : List UInt8) (p : Nat) (w : World) (h : Wr w b g cap l p) :
    Calls Tryz.prog 125 #[.pointer (some ⟨b, 0, none⟩)] w fun e w' =>
      (kidsFit l p ∧ ∃ kv, e = .returned (.tuple #[kv, .nilIface]) ∧ w'.ownsRow w.heap.size 3 1 kv (numL l p).toNat ((numsL l (p + 8) (numL l p).toNat).map (fun z => Value.int .i64 z)) ∧ Wr w' b g cap l (p + 8 + 8 * (numL l p).toNat) ∧ KB (fun k => k = b) w w') ∨
      (¬ kidsFit l p ∧ ∃ z, e = .returned (.tuple #[.slice none 0 0, .iface 185 (.agg #[.int .i64 z])]) ∧ KB (fun k => k = b) w w') := by
  obtain ⟨i0, hi, hz0, hz1, hz2⟩ := info_parts infoCdI
  have hnot := ex_not
  have hl := h.len
  obtain ⟨-, cc1, -⟩ := h.cells
  have lb := lt_heap h.box
  obtain ⟨gcs, gfz, hg1, -⟩ := h.bytes
  have lg := lt_heap hg1
  clear hg1
  by_cases hin : p + 8 ≤ l.length
  · have hN := num_ok b g cap l p w h hin
    have HH := (show Hid (_ ∧ _) from ⟨hN, numL_fit l p⟩)
    clear hN h
    have HKF : Hid (∀ (x : Bool), inB (numL l p) 0 100 = x → (kidsFit l p ↔ (x = true ∧ p + 8 + 8 * (numL l p).toNat ≤ l.length))) := fun x hx => by
      unfold kidsFit; rw [hx]; exact ⟨fun h => h.2, fun h => ⟨hin, h⟩⟩
    have HSN := (show Hid (_ ∧ _) from ⟨numsL_more l (p + 8), numsL_len l (p + 8)⟩)
    go_enter Tryz.func125, Tryz.ntmps125
    go_wp2_with fail
    refine HH.out.1.mono ?_
    rintro e w1 ⟨rfl, h1, k1⟩
    have H1 := (show Hid (_ ∧ _) from ⟨h1, k1⟩)
    clear h1 k1 cc1
    have hfit := HH.out.2
    unfold inI64 at hfit
    generalize hce : numL l p = c at *
    have HCE := (show Hid (_ ∧ True) from ⟨hce, trivial⟩)
    clear hce
    cases hc : inB c 0 100 with
    | false =>
      go_wp2_with (go_at_call 91; refine (within_r _ _ _ false hc _).mono ?_; rintro e w2 ⟨rfl, rfl⟩)
      go_ret2
      exact .inr ⟨fun hh => absurd ((HKF.out _ hc).1 hh).1 (by decide), _, rfl, H1.out.2⟩
    | true =>
      have hcc : 0 ≤ c ∧ c ≤ 100 := by unfold inB at hc; simpa using hc
      obtain ⟨n, rfl⟩ := Int.eq_ofNat_of_zero_le hcc.1
      have hn100 : n ≤ 100 := by omega
      have HK2 := (show Hid (_ ∧ True) from ⟨HKF.out _ hc, trivial⟩)
      clear HKF hcc
      go_wp2_with (go_at_call 91; refine (within_r _ _ _ true hc _).mono ?_; rintro e w2 ⟨rfl, rfl⟩)
      clear hc
      have hsz1 := H1.out.2.size
      go_loopw [7, 29] (fun ov iv wr => ∃ k : Nat, k ≤ n ∧ iv = .int .i64 k ∧ wr.ownsRow w.heap.size 3 1 ov k ((numsL l (p + 8) k).map (fun z => Value.int .i64 z)) ∧ Wr wr b g cap l (p + 8 + 8 * k) ∧ KB (fun k => k = b) w wr) (fun _ iv _ => n - (intOf iv).toNat)
      case atStart => exact ⟨0, Nat.zero_le _, rfl, World.ownsRow_nil _ _ _ _, H1.out.1, H1.out.2⟩
      case round =>
        obtain ⟨k, hk, rfl, hO, hW, hK⟩ := hrel
        obtain ⟨oa, oc, rfl⟩ := own_form hO
        have hsr := hK.size
        by_cases hkn : k < n
        · have hkn' : ((k : Nat) : Int) < ((n : Nat) : Int) := by omega
          by_cases hin2 : p + 8 + 8 * k + 8 ≤ l.length
          · have hN := num_ok b g cap l (p + 8 + 8 * k) wr hW hin2
            have HR := (show Hid (_ ∧ _ ∧ _) from ⟨hN, hO, hK⟩)
            clear hN hO hK hW
            go_wp2_with fail
            refine HR.out.1.mono ?_
            rintro e w3 ⟨rfl, h3, k3⟩
            have hne : ∀ j, Value.ownBlock (.slice oa k oc) = some j → w.heap.size ≤ j := fun j hj => (own_type HR.out.2.1 j hj).1
            have O3 := own_moved HR.out.2.1 (fun j hj => k3.block j (own_lt HR.out.2.1 j hj) (fun e => by have := hne j hj; omega))
            have K3 := HR.out.2.2.trans k3
            have HSM := HSN.out.1 k
            generalize numL l (p + 8 + 8 * k) = x at *
            have hO4 := O3.alloc (.cells #[.int .i64 x] 3)
            have hK4 : KB (fun k => k = b) w (w3.alloc (.cells #[.int .i64 x] 3)) := K3.trans (KB.of_below ((Below.refl _ w3).alloc (Nat.le_refl _) _))
            have hW4 := h3.below ((Below.refl _ w3).alloc (Nat.le_refl _) (.cells #[.int .i64 x] 3))
            have H4 := (show Hid (_ ∧ _ ∧ _ ∧ _) from ⟨hO4, hK4, hW4, HSM⟩)
            have hs3 := K3.size
            clear hO4 hK4 hW4 HSM O3 K3 h3 k3 hne
            go_wp2_with (at_builtin; refine wpList_append_own_at _ rfl _ _ 26 rfl w.heap.size 3 i0 (.int .i64 0) 1 8 Tryz.underlying26 hi hz0 hz1 hz2 rfl (by decide) _ k _ rfl H4.out.1 ⟨w3.heap.size, 0, none⟩ 1 1 [.int .i64 x] rfl rfl (cell_one_new _ _ _) (int_one _) (by unfold maxLen; omega) (by omega) (by simp; omega) ?_; intro v5 w5 hown5 hgrow5 hnil5 hat5)
            have hne5 : ∀ j, Value.ownBlock (.slice oa k oc) = some j → w.heap.size ≤ j := fun j hj => (own_type H4.out.1 j hj).1
            refine ⟨⟨k + 1, by omega, by go_num, ?_, ?_, H4.out.2.1.grown hgrow5 hne5⟩, by simp [intOf]; omega⟩
            · rw [H4.out.2.2.2, List.map_append]
              exact hown5
            · have := H4.out.2.2.1.grown hgrow5 (fun j hj => by have := hne5 j hj; omega)
              rwa [show p + 8 + 8 * k + 8 = p + 8 + 8 * (k + 1) by omega] at this
          · have hN := num_no b g cap l (p + 8 + 8 * k) wr hW hin2
            have HR := (show Hid (_ ∧ _) from ⟨hN, hK⟩)
            clear hN hO hK hW
            go_wp2_with fail
            refine HR.out.1.mono ?_
            rintro e w3 ⟨rfl, b3⟩
            have HB := (show Hid (_ ∧ True) from ⟨b3, trivial⟩)
            clear b3
            go_wp2
            go_ret2
            exact .inr ⟨fun hh => by have := (HK2.out.1.1 hh).2; simp only [Int.toNat_natCast] at this; omega, _, rfl, HR.out.2.trans (KB.of_below HB.out.1)⟩
        · obtain rfl : k = n := by omega
          have HR := (show Hid (_ ∧ _ ∧ _) from ⟨hO, hW, hK⟩)
          have hat := hW.at_
          clear hO hW hK
          go_wp2
          go_ret2
          rw [HCE.out.1, Int.toNat_natCast]
          exact .inl ⟨HK2.out.1.2 ⟨by trivial, by simpa using hat⟩, _, rfl, HR.out.1, HR.out.2.1, HR.out.2.2⟩
  · have hN := num_no b g cap l p w h hin
    have HH := (show Hid (_ ∧ True) from ⟨hN, trivial⟩)
    clear hN h
    go_enter Tryz.func125, Tryz.ntmps125
    go_wp2_with fail
    refine HH.out.1.mono ?_
    rintro e w1 ⟨rfl, b1⟩
    have HB := (show Hid (_ ∧ True) from ⟨b1, trivial⟩)
    clear b1
    go_wp2
    go_ret2
    exact .inr ⟨fun hh => hin hh.1, _, rfl, KB.of_below HB.out.1⟩
end Go.Proofs.YtnehfjnanffjeaaGreatDoor
