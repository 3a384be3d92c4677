/-
  The program's within.
  The program's Mean: slices.Index at texts, canReckon.
-/
import Derived.Test.YtkhkmmjollcfaaaGreatDoorMM
import Derived.Test.YtkhkmmjollcfaaaGreatDoorMB
import Derived.Test.YtkhkmmjollcfaaaGreatDoorMeanTop
import Derived.Test.YtkhkmmjollcfaaaGreatDoorMY
import Derived.Test.YtkhkmmjollcfaaaGreatDoorImplProg
namespace Go.Proofs.YtkhkmmjollcfaaaGreatDoor
open Go.RowKit Go.Joins

set_option maxRecDepth 100000

theorem within_any (n a b : Int) (w : World) : Calls Tryz.prog 36 #[.int .i64 n, .int .i64 a, .int .i64 b] w fun e w' => e = .returned (.bool (inB n a b)) ∧ w' = w := by
  unfold inB
  by_cases h1 : a ≤ n
  · have d1 : decide (a ≤ n) = true := by simpa using h1
    go_enter Tryz.func36, Tryz.ntmps36
    go_wp2
    go_ret
    exact ⟨by simp [h1], rfl⟩
  · have d1 : decide (a ≤ n) = false := by simpa using h1
    go_enter Tryz.func36, Tryz.ntmps36
    go_wp2
    go_ret
    exact ⟨by simp, rfl⟩
theorem within_r (n a b : Int) (r : Bool) (h : inB n a b = r) (w : World) : Calls Tryz.prog 36 #[.int .i64 n, .int .i64 a, .int .i64 b] w fun e w' => e = .returned (.bool r) ∧ w' = w := by
  rw [← h]; exact within_any n a b w
end Go.Proofs.YtkhkmmjollcfaaaGreatDoor

namespace Go.Proofs.YtkhkmmjollcfaaaGreatDoor
open Go.RowKit Go.Joins

set_option maxRecDepth 100000

theorem prAt_pl {w w' : World} {d : Nat} {v : Value} {p : Pr} (h : PrAt w (Pl w) d v p) (hb : Below w.heap.size w w') : PrAt w' (Pl w') d v p := by
  obtain ⟨nv, bv, hv, h1, h2⟩ := h
  exact ⟨nv, bv, hv, h1.kept (fun b _ hlt => hb.block b hlt) hb.size (fun _ h _ => h.below hb), h2.belowPl hb⟩
/-- The first place of a text. -/
def firstIs (ts : List ByteArray) (s : ByteArray) (z : Int) : Prop := (z = -1 ∧ ∀ i, i < ts.length → (ts.getD i ByteArray.empty).toList ≠ s.toList) ∨ ∃ k : Nat, z = (k : Int) ∧ k < ts.length ∧ (ts.getD k ByteArray.empty).toList = s.toList
theorem first_last {ts : List ByteArray} {s : ByteArray} {z : Int} (h : firstIs ts s z) (hn : (keysS ts).Nodup) : z = lastN ts s ts.length := by
  rcases h with ⟨rfl, h⟩ | ⟨k, rfl, hk, he⟩
  · have : ∀ n, n ≤ ts.length → lastN ts s n = -1 := by
      intro n
      induction n with
      | zero => intro _; rfl
      | succ n ih =>
        intro hl
        rw [lastN, if_neg (by simpa using h n (by omega))]
        exact ih (by omega)
    exact (this _ (Nat.le_refl _)).symm
  · have h1 := (nodup_last ts).1 hn k hk
    have h2 := (lastN_is ts _ k ts.length hk rfl).1 h1
    exact ((lastN_is ts s k ts.length hk he).2 (fun j h3 h4 => by rw [← he]; exact h2 j h3 h4)).symm
set_option maxHeartbeats 3200000 in
theorem index_any (v : Value) (ts : List ByteArray) (s : ByteArray) (S : Nat → Prop) (w : World) (h : StrsAt w S v ts) :
    Calls Tryz.prog 24 #[v, .string s] w fun e w' => (∃ z, e = .returned (.int .i64 z) ∧ firstIs ts s z) ∧ w' = w := by
  obtain ⟨a, cap, rfl, hl, hc⟩ := h
  unfold maxLen at hl
  have HC := (show Hid (_ ∧ True) from ⟨hc, trivial⟩)
  clear hc
  go_enter Tryz.func24, Tryz.ntmps24
  go_wp2
  go_loopw [8] (fun i wr => ∃ k : Nat, k ≤ ts.length ∧ i = .int .i64 k ∧ (∀ i, i < k → (ts.getD i ByteArray.empty).toList ≠ s.toList) ∧ wr = w) (fun i _ => ts.length - (intOf i).toNat)
  case atStart => exact ⟨0, Nat.zero_le _, rfl, fun i hi => by omega, rfl⟩
  case round =>
    obtain ⟨k, hk, rfl, hno, rfl⟩ := hrel
    by_cases hkl : k < ts.length
    · have he := List.getElem?_eq_getElem hkl
      have hgd : ts.getD k ByteArray.empty = ts[k] := by rw [List.getD_eq_getElem?_getD, he]; rfl
      generalize ts[k] = x at *
      obtain ⟨b', off, rfl, -, -, c0, -⟩ := HC.out.1 k x he
      have hlt' : ((k : Nat) : Int) < ((ts.length : Nat) : Int) := by omega
      have HX := (show Hid (_ ∧ _) from ⟨hno, hgd⟩)
      clear hno hgd he
      by_cases hd : x.toList = s.toList
      · have g1 : (s.toList == x.toList) = true := by simp [hd]
        have HF := (show Hid (_ ∧ True) from ⟨hd, trivial⟩)
        clear hd
        go_wp2_with fail
        go_ret
        exact ⟨⟨k, rfl, Or.inr ⟨k, rfl, hkl, by rw [HX.out.2]; exact HF.out.1⟩⟩, rfl⟩
      · have g1 : (s.toList == x.toList) = false := by simp; exact fun e => hd e.symm
        have HF := (show Hid (_ ∧ True) from ⟨hd, trivial⟩)
        clear hd
        go_wp2_with fail
        refine ⟨⟨k + 1, by omega, by go_num, fun i hi => ?_, by first | rfl | trivial⟩, by simp [intOf]; omega⟩
        by_cases hik : i = k
        · subst hik
          rw [HX.out.2]
          exact HF.out.1
        · exact HX.out.1 i (by omega)
    · obtain rfl : k = ts.length := by omega
      have HX := (show Hid (_ ∧ True) from ⟨hno, trivial⟩)
      clear hno
      go_wp2_with fail
      go_ret
      exact ⟨⟨-1, rfl, Or.inl ⟨rfl, HX.out.1⟩⟩, rfl⟩

set_option maxHeartbeats 3200000 in
theorem canReckon_any (d : Nat) (v : Value) (p : Pr) (F : Int) (w : World) (h : PrAt w (Pl w) d v p) :
    Calls Tryz.prog 25 #[v, .int .i64 F] w fun r w' => r = .returned (.bool (inB F 0 100000 && p.ok)) ∧ Below w.heap.size w w' := by
  have H0 := (show Hid (PrAt w (Pl w) d v p ∧ True) from ⟨h, trivial⟩)
  obtain ⟨nv, bv, rfl, hn, hk⟩ := h
  obtain ⟨a1, cap1, rfl⟩ := hn.form
  obtain ⟨a2, cap2, rfl⟩ := hk.form
  obtain ⟨W1, hW1⟩ : ∃ W1, W1 = w.alloc (.cells #[.slice a1 p.names.length cap1, .slice a2 p.bodies.length cap2] 31) := ⟨_, rfl⟩
  have b1 : Below w.heap.size w W1 := by rw [hW1]; exact (Below.refl _ w).alloc (Nat.le_refl _) _
  have q1 : W1.heap[w.heap.size]? = some (.cells #[.slice a1 p.names.length cap1, .slice a2 p.bodies.length cap2] 31) := by rw [hW1]; exact block_alloc
  have hpr := progOk_any d _ p W1 (prAt_pl H0.out.1 b1)
  have x0 : W1.cell? ⟨w.heap.size, 0, none⟩ = some (.slice a1 p.names.length cap1) := by rw [cell_of_block q1]; rfl
  have x1 : W1.cell? ⟨w.heap.size, 1, none⟩ = some (.slice a2 p.bodies.length cap2) := by rw [cell_of_block q1]; rfl
  have HK := (show Hid (_ ∧ _) from ⟨hpr, b1⟩)
  have hwi := fun w => within_any F 0 100000 w
  have HW := (show Hid (_ ∧ _) from ⟨hwi, hW1⟩)
  clear hpr b1 q1 hn hk H0 hwi hW1
  cases hi : inB F 0 100000 with
  | false =>
    go_enter Tryz.func25, Tryz.ntmps25
    go_upto_region 1 with fail
    rw [← HW.out.2]
    go_wp2_with fail
    refine (HW.out.1 _).mono ?_
    rw [hi]
    rintro r w1 ⟨rfl, rfl⟩
    go_wp2_with fail
    go_ret
    exact ⟨rfl, HK.out.2⟩
  | true =>
    rw [Bool.true_and]
    go_enter Tryz.func25, Tryz.ntmps25
    go_upto_region 1 with fail
    rw [← HW.out.2]
    go_wp2_with fail
    refine (HW.out.1 _).mono ?_
    rw [hi]
    rintro r w1 ⟨rfl, rfl⟩
    go_wp2_with fail
    refine HK.out.1.mono ?_
    rintro r w2 ⟨rfl, b2⟩
    have B2 := (show Hid _ from b2)
    clear b2
    go_wp2_with fail
    go_ret
    exact ⟨rfl, HK.out.2.trans (B2.out.mono HK.out.2.size)⟩

set_option maxHeartbeats 3200000 in
theorem implMean_any (d : Nat) (v : Value) (p : Pr) (F : Int) (w : World) (h : PrAt w (Pl w) d v p) (htab : Lib.TabIs Tryz.prog w "internal/strconv.uint64pow10" .u64 Lib.pow10Tab) :
    Calls Tryz.prog 8 #[v, .int .i64 F] w fun r w' => r = .returned (.tuple #[.string (mB p F), .int .i64 (mC p F)]) ∧ Below w.heap.size w w' := by
  have H0 := (show Hid (PrAt w (Pl w) d v p ∧ True) from ⟨h, trivial⟩)
  obtain ⟨nv, bv, rfl, hn, hk⟩ := h
  obtain ⟨a1, cap1, rfl⟩ := hn.form
  obtain ⟨a2, cap2, rfl⟩ := hk.form
  obtain ⟨W1, hW1⟩ : ∃ W1, W1 = w.alloc (.cells #[.slice a1 p.names.length cap1, .slice a2 p.bodies.length cap2] 31) := ⟨_, rfl⟩
  have b1 : Below w.heap.size w W1 := by rw [hW1]; exact (Below.refl _ w).alloc (Nat.le_refl _) _
  have q1 : W1.heap[w.heap.size]? = some (.cells #[.slice a1 p.names.length cap1, .slice a2 p.bodies.length cap2] 31) := by rw [hW1]; exact block_alloc
  have hix := index_any _ p.names mainB (Pl w) W1 (hn.below b1)
  have hcan := canReckon_any d _ p F W1 (prAt_pl H0.out.1 b1)
  have hof := fun (w2 : World) (hb : Below W1.heap.size W1 w2) (ho : mOk p F) => meanOf_any p.bodies (mainN p).toNat F.toNat d (Pl w) a1 p.names.length cap1 (.slice a2 p.bodies.length cap2) w2 (ok_bodies ho.1) (main_lt ho.1 ho.2.1) (by have := ho.2.2; omega) ((hk.below b1).below hb) (Lib.tabBelow_of_tabIs htab w2 (b1.trans (hb.mono b1.size)))
  have x0 : W1.cell? ⟨w.heap.size, 0, none⟩ = some (.slice a1 p.names.length cap1) := by rw [cell_of_block q1]; rfl
  have x1 : W1.cell? ⟨w.heap.size, 1, none⟩ = some (.slice a2 p.bodies.length cap2) := by rw [cell_of_block q1]; rfl
  unfold mainB at hix
  have HK := (show Hid (_ ∧ _ ∧ _ ∧ _ ∧ _) from ⟨hix, hcan, hof, b1, q1⟩)
  have HW := (show Hid (_ ∧ True) from ⟨hW1, trivial⟩)
  clear hix hcan hof b1 q1 hn hk H0 hW1 htab
  obtain ⟨t0, ht0⟩ : ∃ t0, mB p F = t0 := ⟨_, rfl⟩
  obtain ⟨c0, hc0⟩ : ∃ c0, mC p F = c0 := ⟨_, rfl⟩
  rw [ht0, hc0]
  have HT := (show Hid (_ ∧ _) from ⟨ht0, hc0⟩)
  clear ht0 hc0
  go_enter Tryz.func8, Tryz.ntmps8
  go_upto_region 1 with fail
  rw [← HW.out.1]
  go_wp2_with fail
  refine HK.out.1.mono ?_
  rintro r w1 ⟨⟨z, rfl, hfi⟩, rfl⟩
  have HF := (show Hid (_ ∧ True) from ⟨hfi, trivial⟩)
  clear hfi
  by_cases hz : z < 0
  · have hz0 : decide (z < 0) = true := by simpa using hz
    have hno : ¬ mOk p F := fun ho => by
      have := first_last HF.out.1 ((p.ok_iff.1 ho.1).2.2.2.2.1)
      have h2 := ho.2.1
      unfold mainN mainB at h2
      omega
    obtain ⟨e1, e2⟩ := mB_no hno
    have HE := (show Hid (_ ∧ _) from ⟨HT.out.1.symm.trans e1, HT.out.2.symm.trans e2⟩)
    clear hz hno e1 e2
    go_wp2_with fail
    refine bodyPost_ret (v := .tuple #[.string ⟨#[]⟩, .int .i64 3]) (by simp [results, Tryz.results8, go_sem]) rfl ?_
    rw [HE.out.1, HE.out.2]
    exact ⟨rfl, HK.out.2.2.2.1⟩
  · have hz0 : decide (z < 0) = false := by simpa using hz
    obtain ⟨zi, hzi⟩ : ∃ zi : Nat, z = (zi : Int) := ⟨z.toNat, by omega⟩
    subst hzi
    clear hz
    go_wp2_with fail
    refine HK.out.2.1.mono ?_
    rintro r w2 ⟨rfl, b2⟩
    cases hcn : (inB F 0 100000 && p.ok) with
    | false =>
      have hno : ¬ mOk p F := fun ho => by
        have h2 := ho.2.2
        rw [ho.1] at hcn
        unfold inB at hcn
        simp [h2.1, h2.2] at hcn
      obtain ⟨e1, e2⟩ := mB_no hno
      have HE := (show Hid (_ ∧ _ ∧ _) from ⟨HT.out.1.symm.trans e1, HT.out.2.symm.trans e2, b2⟩)
      clear hno e1 e2 b2 hcn
      go_wp2_with fail
      refine bodyPost_ret (v := .tuple #[.string ⟨#[]⟩, .int .i64 3]) (by simp [results, Tryz.results8, go_sem]) rfl ?_
      rw [HE.out.1, HE.out.2.1]
      exact ⟨rfl, HK.out.2.2.2.1.trans (HE.out.2.2.mono HK.out.2.2.2.1.size)⟩
    | true =>
      rw [Bool.and_eq_true] at hcn
      have hinF : 0 ≤ F ∧ F ≤ 100000 := by have := hcn.1; unfold inB at this; simpa using this
      have hmz : mainN p = (zi : Int) := by unfold mainN; exact (first_last HF.out.1 ((p.ok_iff.1 hcn.2).2.2.2.2.1)).symm
      have ho : mOk p F := ⟨hcn.2, by rw [hmz]; omega, hinF⟩
      obtain ⟨e1, e2⟩ := mB_ok ho
      have hof := HK.out.2.2.1 w2 b2 ho
      obtain ⟨Fi, hFi⟩ : ∃ Fi : Nat, F = (Fi : Int) := ⟨F.toNat, by omega⟩
      rw [hmz] at hof e1 e2
      have HE := (show Hid (_ ∧ _ ∧ _ ∧ _) from ⟨HT.out.1.symm.trans e1, HT.out.2.symm.trans e2, b2, hof⟩)
      have y0 := (b2.cell (p := ⟨w.heap.size, 0, none⟩) (lt_heap HK.out.2.2.2.2)).trans x0
      have y1 := (b2.cell (p := ⟨w.heap.size, 1, none⟩) (lt_heap HK.out.2.2.2.2)).trans x1
      clear e1 e2 b2 hcn hinF hmz ho hof x0 x1
      subst hFi
      go_wp2_with fail
      have hc := HE.out.2.2.2
      simp only [Int.toNat_natCast] at hc
      refine hc.mono ?_
      rintro r w3 ⟨rfl, b3⟩
      have B3 := (show Hid _ from b3)
      clear b3 hc
      go_wp2_with fail
      refine bodyPost_ret (v := .tuple #[.string (ofB p.bodies zi Fi), .int .i64 (ofC p.bodies zi Fi)]) (by simp [results, Tryz.results8, go_sem]) rfl ?_
      rw [HE.out.1, HE.out.2.1]
      simp only [Int.toNat_natCast]
      exact ⟨trivial, HK.out.2.2.2.1.trans ((HE.out.2.2.1.trans (B3.out.mono HE.out.2.2.1.size)).mono HK.out.2.2.2.1.size)⟩
end Go.Proofs.YtkhkmmjollcfaaaGreatDoor
