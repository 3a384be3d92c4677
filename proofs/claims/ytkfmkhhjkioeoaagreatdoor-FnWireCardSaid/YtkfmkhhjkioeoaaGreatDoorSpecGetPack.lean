/-
  The specification's GetPack.
-/
import Derived.Test.YtkfmkhhjkioeoaaGreatDoorML
import Derived.Test.YtkfmkhhjkioeoaaGreatDoorSpecPutPack
import Derived.Deep.RegionHeld3
namespace Go.Proofs.YtkfmkhhjkioeoaaGreatDoor
open Go.RowKit Go.Joins

set_option maxRecDepth 100000

set_option maxHeartbeats 1600000 in
theorem specGetPack_any (s : ByteArray) (w : World) (hs : s.size ≤ 1048576) :
    Calls Tryz.prog 14 #[.string s] w fun e w' => e = .returned (.tuple #[.agg (packRes s.data.toList).row, .bool (packFit s.data.toList)]) ∧ Below w.heap.size w w' := by
  have hnot := ex_not
  obtain ⟨W0, hW0⟩ : ∃ W0, W0 = w.alloc (.cells zero6 35) := ⟨_, rfl⟩
  have B0 : Below w.heap.size w W0 := by rw [hW0]; exact (Below.refl _ w).alloc (Nat.le_refl _) _
  have R0 : W0.heap[w.heap.size]? = some (.cells zero6 35) := by rw [hW0]; exact (MapKept.heap_alloc w _).1
  have hG := l07Get_any s 0 6 W0 hs (by decide) (by decide) (by decide)
  have hs0 : w.heap.size + 1 ≤ W0.heap.size := lt_heap R0
  have hlen : s.data.toList.length = s.size := by simp
  have H0 := (show Hid (_ ∧ _ ∧ _ ∧ _ ∧ _) from ⟨hG, B0, R0, hlen, hW0⟩)
  clear hG B0 R0 hlen hW0
  go_enter Tryz.func14, Tryz.ntmps14
  go_wp2_with fail
  rw [← (show W0 = _ from H0.out.2.2.2.2)]
  refine H0.out.1.mono ?_
  rintro e w1 ⟨v1, zs, b, rfl, (⟨hfit, rfl, rfl⟩ | ⟨hfit, rfl, rfl⟩), O1, b1⟩
  case inr =>
    have R1 := (b1.block _ (lt_heap H0.out.2.2.1)).trans H0.out.2.2.1
    obtain ⟨d0, d1, d2, d3, d4, d5⟩ := zbox6 R1
    obtain ⟨f0, f1, f2, f3, f4, f5⟩ := fbox6 R1
    obtain ⟨oa, oc, rfl⟩ := own_form O1
    have HE := (show Hid (_ ∧ _) from ⟨H0.out.2.1.trans (b1.mono (by omega)), pfit_off (l := s.data.toList) (fun h => hfit (.inr (by have := h.1; have := H0.out.2.2.2.1; omega)))⟩)
    clear R1 b1 O1 H0 hfit
    go_wp2
    all_goals (refine bodyPost_ret (v := .tuple #[.agg zero6, .bool false]) (by simp [results, Tryz.results14, go_sem, d0, d1, d2, d3, d4, d5]) rfl ?_)
    all_goals (rw [pres_no HE.out.2, HE.out.2])
    all_goals (refine ⟨rfl, ?_⟩)
    all_goals (iterate 6 refine Below.setCell ?_ (by simp) _)
    all_goals (exact HE.out.1)
  have h48 : 48 ≤ s.data.toList.length := by have := H0.out.2.2.2.1; omega
  have h48s : 48 ≤ s.size := by omega
  have hnums : numsAt s 0 6 = numsL s.data.toList 0 6 := numsAt_is (i := 0) (n := 6) (by omega)
  rw [hnums, numsL_len] at O1
  obtain ⟨g, cap, rfl, hc⟩ := own_nums O1 (by decide)
  have c0 : w1.cell? ⟨g, 0, none⟩ = some (.int .i64 (numL s.data.toList 0)) := hc 0 (by decide)
  have c1 : w1.cell? ⟨g, 1, none⟩ = some (.int .i64 (numL s.data.toList 8)) := hc 1 (by decide)
  have c2 : w1.cell? ⟨g, 2, none⟩ = some (.int .i64 (numL s.data.toList 16)) := hc 2 (by decide)
  have c3 : w1.cell? ⟨g, 3, none⟩ = some (.int .i64 (numL s.data.toList 24)) := hc 3 (by decide)
  have c4 : w1.cell? ⟨g, 4, none⟩ = some (.int .i64 (numL s.data.toList 32)) := hc 4 (by decide)
  have hgl := lt_cell c0
  have hgn : ¬ g = w1.heap.size := by omega
  have hsl : ∀ wx, (Instr.slice 9 (.string s) (some (.int .i64 48)) none none).run Tryz.prog wx = .ok (.string (packL s.data.toList).body) wx := fun wx => by
    have h := run_slice_string_l (P := Tryz.prog) wx 9 s Tryz.underlying9 .i64 48 (by decide) (by omega)
    have e : s.extract (48 : Int).toNat s.size = (packL s.data.toList).body := by
      apply ByteArray.ext
      unfold packL
      rw [ByteArray.data_extract, show (48 : Int).toNat = 48 from rfl]
      apply Array.ext'
      rw [Array.toList_extract, List.extract_eq_take_drop]
      show _ = s.data.toList.drop 48
      rw [List.take_of_length_le (by rw [List.length_drop]; have := H0.out.2.2.2.1; omega)]
    rw [e] at h
    exact h
  have hbs : (packL s.data.toList).body.size ≤ 1048576 := by
    have : (packL s.data.toList).body.size = (packL s.data.toList).body.data.toList.length := by simp
    rw [this, packL_body, List.length_drop]
    have := H0.out.2.2.2.1
    omega
  have R1 := (b1.block _ (lt_heap H0.out.2.2.1)).trans H0.out.2.2.1
  have B1 := H0.out.2.1.trans (b1.mono (by omega))
  have hs1 : W0.heap.size ≤ w1.heap.size := b1.size
  obtain ⟨W4, hW4⟩ : ∃ W4, W4 = (w1.alloc (.cells (packL s.data.toList).row 35)).drew := ⟨_, rfl⟩
  have b4 : Below w1.heap.size w1 W4 := by rw [hW4]; exact ((Below.refl _ w1).alloc (Nat.le_refl _) _).drew
  have M4 : W4.heap[w1.heap.size]? = some (.cells (packL s.data.toList).row 35) := by rw [hW4]; exact (MapKept.heap_alloc w1 _).1
  have R4 := (b4.block _ (lt_heap R1)).trans R1
  have hP := specPutPack_any (packL s.data.toList) W4 hbs (packL_fits _)
  have hs4 : w1.heap.size + 1 ≤ W4.heap.size := lt_heap M4
  have H4 := (show Hid (_ ∧ _ ∧ _ ∧ _ ∧ _ ∧ _) from ⟨hP, B1.trans (b4.mono (by omega)), R4, M4, hW4, h48⟩)
  have hx : (packL s.data.toList).kind = numL s.data.toList 0 ∧ (packL s.data.toList).frm = numL s.data.toList 8 ∧ (packL s.data.toList).dst = numL s.data.toList 16 ∧ (packL s.data.toList).seq = numL s.data.toList 24 ∧ (packL s.data.toList).low = numL s.data.toList 32 := ⟨rfl, rfl, rfl, rfl, rfl⟩
  rw [← hx.1] at c0
  rw [← hx.2.1] at c1
  rw [← hx.2.2.1] at c2
  rw [← hx.2.2.2.1] at c3
  rw [← hx.2.2.2.2] at c4
  clear hx hP R1 B1 b1 b4 M4 R4 hW4 hc O1 hnums H0 hfit hbs h48 hs
  have HF := (show Hid (_ ∧ _ ∧ _ ∧ _) from ⟨fun h => packFit_yes (l := s.data.toList) h, fun h => packFit_no (l := s.data.toList) h H4.out.2.2.2.2.2, fun h => pres_yes (l := s.data.toList) h, fun h => pres_no (l := s.data.toList) h⟩)
  generalize hpp : packL s.data.toList = p at *
  go_wp2_with fail
  go_region_held3 (fun w' => w'.cell? ⟨g, 0, none⟩ = some (.int .i64 p.kind) ∧ w'.cell? ⟨g, 1, none⟩ = some (.int .i64 p.frm) ∧ w'.cell? ⟨g, 2, none⟩ = some (.int .i64 p.dst) ∧ w'.cell? ⟨g, 3, none⟩ = some (.int .i64 p.seq) ∧ w'.cell? ⟨g, 4, none⟩ = some (.int .i64 p.low)) (go_keep) (fail)
  rw [← (show W4 = (w1.alloc (.cells #[.int .i64 p.kind, .int .i64 p.frm, .int .i64 p.dst, .int .i64 p.seq, .int .i64 p.low, .string p.body] 35)).drew from H4.out.2.2.2.2.1)]
  obtain ⟨y0, y1, y2, y3, y4, y5⟩ := pbox6 H4.out.2.2.2.1
  cases hfit : packFit s.data.toList with
  | true =>
    have hse := str_eq (HF.out.1 hfit)
    have hne : (s.toList != s.toList) = false := by simp
    have HSE := (show Hid (_ ∧ _) from ⟨hse, hfit⟩)
    clear hse hfit
    go_wp2_with (go_at_call 21; refine H4.out.1.mono ?_; rw [HSE.out.1]; rintro e w5 ⟨rfl, b5⟩; obtain ⟨⟨y0', y1', y2', y3', y4', y5'⟩, ⟨z0', z1', z2', z3', z4', z5'⟩, ⟨u0', u1', u2', u3', u4', u5'⟩⟩ := hold18 ((b5.block _ (lt_heap H4.out.2.2.2.1)).trans H4.out.2.2.2.1) ((b5.block _ (lt_heap H4.out.2.2.1)).trans H4.out.2.2.1))
    all_goals (refine bodyPost_ret (v := .tuple #[.agg p.row, .bool true]) (by simp [results, Tryz.results14, go_sem, z0', z1', z2', z3', z4', z5']) rfl ?_)
    all_goals (rw [HF.out.2.2.1 HSE.out.2, HSE.out.2])
    all_goals (refine ⟨rfl, ?_⟩)
    all_goals (iterate 6 refine Below.setCell ?_ (by simp) _)
    all_goals (exact H4.out.2.1.trans (b5.mono (by omega)))
  | false =>
    have hne := str_ne (HF.out.2.1 hfit)
    have HSE := (show Hid (_ ∧ True) from ⟨hfit, trivial⟩)
    clear hfit
    generalize (⟨p.bytes.toArray⟩ : ByteArray) = t at *
    go_wp2_with (go_at_call 21; refine H4.out.1.mono ?_; rintro e w5 ⟨rfl, b5⟩; obtain ⟨⟨y0', y1', y2', y3', y4', y5'⟩, ⟨z0', z1', z2', z3', z4', z5'⟩, ⟨u0', u1', u2', u3', u4', u5'⟩⟩ := hold18 ((b5.block _ (lt_heap H4.out.2.2.2.1)).trans H4.out.2.2.2.1) ((b5.block _ (lt_heap H4.out.2.2.1)).trans H4.out.2.2.1))
    all_goals (refine bodyPost_ret (v := .tuple #[.agg zero6, .bool false]) (by simp [results, Tryz.results14, go_sem, z0', z1', z2', z3', z4', z5']) rfl ?_)
    all_goals (rw [HF.out.2.2.2 HSE.out.1, HSE.out.1])
    all_goals (refine ⟨rfl, ?_⟩)
    all_goals (iterate 6 refine Below.setCell ?_ (by simp) _)
    all_goals (exact H4.out.2.1.trans (b5.mono (by omega)))
end Go.Proofs.YtkfmkhhjkioeoaaGreatDoor
