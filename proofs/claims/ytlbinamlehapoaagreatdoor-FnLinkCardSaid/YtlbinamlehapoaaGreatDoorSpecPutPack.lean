/-
  The specification's PutPack.
-/
import Derived.Test.YtlbinamlehapoaaGreatDoorMI
import Derived.Deep.RegionHeld3
namespace Go.Proofs.YtlbinamlehapoaaGreatDoor
open Go.RowKit Go.Joins

set_option maxRecDepth 100000

set_option maxHeartbeats 1600000 in
theorem specPutPack_any (p : Pa) (w : World) (hs : p.body.size ≤ 1048576) (hp : p.fits) :
    Calls Tryz.prog 67 #[.agg p.row] w fun e w' => e = .returned (.string ⟨p.bytes.toArray⟩) ∧ Below w.heap.size w w' := by
  obtain ⟨W0, hW0⟩ : ∃ W0, W0 = w.alloc (.cells p.row 38) := ⟨_, rfl⟩
  have B0 : Below w.heap.size w W0 := by rw [hW0]; exact (Below.refl _ w).alloc (Nat.le_refl _) _
  have O0 : W0.heap[w.heap.size]? = some (.cells p.row 38) := by rw [hW0]; exact (MapKept.heap_alloc w _).1
  have H0 := (show Hid (_ ∧ _ ∧ _) from ⟨B0, O0, hW0⟩)
  clear B0 O0 hW0
  have hnot := ex_not
  go_enter Tryz.func67, Tryz.ntmps67
  go_wp2_with fail
  rw [← (show W0 = _ from H0.out.2.2)]
  refine (specPackOk_any p W0 hs).mono ?_
  rintro e w1 ⟨rfl, b1⟩
  have o1 := (b1.block _ (lt_heap H0.out.2.1)).trans H0.out.2.1
  have hs1 : w.heap.size + 1 ≤ w1.heap.size := lt_heap o1
  have H1 := (show Hid (_ ∧ _) from ⟨H0.out.1.trans (b1.mono H0.out.1.size), o1⟩)
  clear b1 o1 H0
  cases hok : p.ok with
  | false =>
    have HB : Hid (p.bytes = []) := by unfold Pa.bytes; rw [hok]; exact rfl
    clear hok
    go_wp2
    all_goals (go_ret; exact ⟨by rw [HB.out]; exact rfl, H1.out.1⟩)
  | true =>
    have HB : Hid (p.bytes = numsB p.nums ++ p.body.data.toList) := by unfold Pa.bytes; rw [hok]; exact rfl
    clear hok
    have hcl := crcSum_lt p.body.data.toList
    have hcw : IntKind.i64.wrap ((crcSum p.body.data.toList : Nat) : Int) = ((crcSum p.body.data.toList : Nat) : Int) := by rw [IntKind.wrap_i64]; omega
    obtain ⟨y0, y1, y2, y3, y4, y5⟩ := pbox6 H1.out.2
    have hin : ∀ z ∈ p.nums, inI64 z := by
      intro z hz
      unfold Pa.nums at hz
      simp only [List.mem_cons, List.not_mem_nil, or_false] at hz
      rcases hz with rfl | rfl | rfl | rfl | rfl | rfl
      · exact hp.1
      · exact hp.2.1
      · exact hp.2.2.1
      · exact hp.2.2.2.1
      · exact hp.2.2.2.2
      · unfold inI64; omega
    have hlit : IntsAt (w1.drew.alloc (.cells #[.int .i64 p.kind, .int .i64 p.frm, .int .i64 p.dst, .int .i64 p.seq, .int .i64 p.low, .int .i64 ((crcSum p.body.data.toList : Nat) : Int)] 3)) (fun _ => True) (.slice (some ⟨w1.heap.size, 0, none⟩) 6 6) p.nums := lit_ints p.nums w1.drew hin (by show 6 ≤ maxLen; unfold maxLen; omega) 6 rfl _ rfl _
    have hbA : Below w1.heap.size w1 (w1.drew.alloc (.cells #[.int .i64 p.kind, .int .i64 p.frm, .int .i64 p.dst, .int .i64 p.seq, .int .i64 p.low, .int .i64 ((crcSum p.body.data.toList : Nat) : Int)] 3)) := ((Below.refl _ w1).drew).alloc (Nat.le_refl _) _
    have hoA : (w1.drew.alloc (.cells #[.int .i64 p.kind, .int .i64 p.frm, .int .i64 p.dst, .int .i64 p.seq, .int .i64 p.low, .int .i64 ((crcSum p.body.data.toList : Nat) : Int)] 3)).heap[w.heap.size]? = some (.cells p.row 38) := box_alloc H1.out.2 _
    have HA := (show Hid (_ ∧ _ ∧ _) from ⟨hlit, hbA, hoA⟩)
    clear hlit hbA hoA hin
    have hs1' : ((⟨(numsB p.nums).toArray⟩ : ByteArray)).size = 48 := by show (numsB p.nums).toArray.size = _; simp [numsB_len]; rfl
    have hadd : ∀ wx : World, (Op.stringOp .add ⟨(numsB p.nums).toArray⟩ p.body).run Tryz.prog wx = .ok (.string (⟨(numsB p.nums).toArray⟩ ++ p.body)) wx := fun wx => run_string_add_sum wx _ _ (by rw [hs1']; omega)
    have HCat : Hid ((⟨(numsB p.nums).toArray⟩ : ByteArray) ++ p.body = ⟨(numsB p.nums ++ p.body.data.toList).toArray⟩) := by
      have := cat_bytes (numsB p.nums) p.body.data.toList
      rwa [show (⟨p.body.data.toList.toArray⟩ : ByteArray) = p.body from str_eq rfl] at this
    have HC := (show Hid (_ ∧ True) from ⟨fun wx => specCrc_any p.body wx (by unfold maxLen; omega), trivial⟩)
    clear hs1'
    generalize crcSum p.body.data.toList = c at *
    go_wp2_with fail
    go_region_held3 (fun w' => w'.cell? ⟨w.heap.size, 0, none⟩ = some (.int .i64 p.kind) ∧ w'.cell? ⟨w.heap.size, 1, none⟩ = some (.int .i64 p.frm) ∧ w'.cell? ⟨w.heap.size, 2, none⟩ = some (.int .i64 p.dst) ∧ w'.cell? ⟨w.heap.size, 3, none⟩ = some (.int .i64 p.seq) ∧ w'.cell? ⟨w.heap.size, 4, none⟩ = some (.int .i64 p.low) ∧ w'.cell? ⟨w.heap.size, 5, none⟩ = some (.string p.body)) (first | exact pbox6 H3.out.2 | go_keep) (first
      | (go_at_call 98; refine (HC.out.1 _).mono ?_; rintro e w2 ⟨rfl, rfl⟩)
      | (go_at_call 66; refine (l07Nums_any _ p.nums (fun _ => True) _ HA.out.1 (by show 6 ≤ 100000000; omega)).mono ?_; rintro e w3 ⟨rfl, b3⟩; have o3 := (b3.block _ (lt_heap HA.out.2.2)).trans HA.out.2.2; have H3 := (show Hid (_ ∧ _) from ⟨HA.out.2.1.trans (b3.mono HA.out.2.1.size), o3⟩); clear o3 b3))
    all_goals go_wp2
    all_goals (go_ret; exact ⟨by rw [HB.out, ← HCat.out]; exact rfl, H1.out.1.trans (H3.out.1.mono H1.out.1.size)⟩)
end Go.Proofs.YtlbinamlehapoaaGreatDoor
