/-
  The specification's PutMsg.
-/
import Derived.Test.YtlbinamlehapoaaGreatDoorMR
import Derived.Test.YtlbinamlehapoaaGreatDoorMF
import Derived.Deep.RegionHeld3
namespace Go.Proofs.YtlbinamlehapoaaGreatDoor
open Go.RowKit Go.Joins

set_option maxRecDepth 100000

/-- The numbers of a message. -/
def Ms.nums (m : Ms) : List Int := [m.kind, m.frm, m.dst, m.id, m.want, m.cell.kind, m.cell.n, m.cell.pos, (m.cell.kids.length : Int)]
/-- The bytes of a message; none where it is not right. -/
def Ms.bytes (m : Ms) : List UInt8 := if m.ok then numsB m.nums ++ numsB m.cell.kids else []
theorem lit_ints (zs : List Int) (w : World) (hz : ∀ z ∈ zs, inI64 z) (hl : zs.length ≤ maxLen) (n : Nat) (hn : n = zs.length) (vs : Array Value) (hvs : vs = (zs.map (fun z => Value.int .i64 z)).toArray) (t : TypeId) : IntsAt (w.alloc (.cells vs t)) (fun _ => True) (.slice (some ⟨w.heap.size, 0, none⟩) n n) zs := by
  subst hn hvs
  refine ⟨_, _, rfl, hl, fun i z hi => ⟨w.heap.size, 0, rfl, trivial, by simp, ?_, hz z (List.mem_of_getElem? hi)⟩⟩
  rw [cell_of_block (MapKept.heap_alloc w _).1, Nat.zero_add]
  simp [hi]

set_option maxHeartbeats 6400000 in
theorem specPutMsg_any (v : Value) (m : Ms) (S : Nat → Prop) (w : World) (h : MsAt w S v m) (hl : m.cell.kids.length ≤ 4194304) :
    Calls Tryz.prog 34 #[v] w fun e w' => e = .returned (.string ⟨m.bytes.toArray⟩) ∧ Below w.heap.size w w' := by
  have HR := (show Hid (_ ∧ True) from ⟨h, trivial⟩)
  obtain ⟨a, c, rfl⟩ := h.form
  obtain ⟨W0, hW0⟩ : ∃ W0, W0 = w.alloc (.cells (m.row (.slice a m.cell.kids.length c)) 32) := ⟨_, rfl⟩
  have B0 : Below w.heap.size w W0 := by rw [hW0]; exact (Below.refl _ w).alloc (Nat.le_refl _) _
  have O0 : W0.heap[w.heap.size]? = some (.cells (m.row (.slice a m.cell.kids.length c)) 32) := by rw [hW0]; exact (MapKept.heap_alloc w _).1
  have H0 := (show Hid (_ ∧ _ ∧ _ ∧ _) from ⟨h.below B0, B0, O0, hW0⟩)
  clear h B0 O0 hW0
  have hnot := ex_not
  go_enter Tryz.func34, Tryz.ntmps34
  go_wp2_with fail
  rw [← H0.out.2.2.2]
  refine (specMsgOk_any _ m S W0 H0.out.1 hl).mono ?_
  rintro e w1 ⟨rfl, b1⟩
  have o1 := (b1.block _ (Array.getElem?_eq_some_iff.1 H0.out.2.2.1).1).trans H0.out.2.2.1
  have H1 := (show Hid (_ ∧ _ ∧ _) from ⟨H0.out.1.below b1, H0.out.2.1.trans (b1.mono H0.out.2.1.size), o1⟩)
  clear b1 o1 H0
  cases hok : m.ok with
  | false =>
    have HB : Hid (m.bytes = []) := by unfold Ms.bytes; rw [hok]; exact rfl
    clear hok
    go_wp2
    go_ret
    exact ⟨by rw [HB.out]; exact rfl, H1.out.2.1⟩
  | true =>
    have HB : Hid (m.bytes = numsB m.nums ++ numsB m.cell.kids) := by unfold Ms.bytes; rw [hok]; exact rfl
    have h100 := ok_len hok
    clear hok
    have y0 : w1.cell? ⟨w.heap.size, 0, none⟩ = some (.int .i64 m.kind) := (cell_of_block H1.out.2.2 0).trans rfl
    have y1 : w1.cell? ⟨w.heap.size, 1, none⟩ = some (.int .i64 m.frm) := (cell_of_block H1.out.2.2 1).trans rfl
    have y2 : w1.cell? ⟨w.heap.size, 2, none⟩ = some (.int .i64 m.dst) := (cell_of_block H1.out.2.2 2).trans rfl
    have y3 : w1.cell? ⟨w.heap.size, 3, none⟩ = some (.int .i64 m.id) := (cell_of_block H1.out.2.2 3).trans rfl
    have y4 : w1.cell? ⟨w.heap.size, 4, none⟩ = some (.int .i64 m.want) := (cell_of_block H1.out.2.2 4).trans rfl
    have y5 : w1.cell? ⟨w.heap.size, 5, none⟩ = some (.int .i64 m.cell.kind) := (cell_of_block H1.out.2.2 5).trans rfl
    have y6 : w1.cell? ⟨w.heap.size, 6, none⟩ = some (.int .i64 m.cell.n) := (cell_of_block H1.out.2.2 6).trans rfl
    have y7 : w1.cell? ⟨w.heap.size, 7, none⟩ = some (.int .i64 m.cell.pos) := (cell_of_block H1.out.2.2 7).trans rfl
    have y8 : w1.cell? ⟨w.heap.size, 8, none⟩ = some (.slice a m.cell.kids.length c) := (cell_of_block H1.out.2.2 8).trans rfl
    obtain ⟨kv, hkv, ⟨i0, i1, i2, i3, i4⟩, i5, i6, i7, hk⟩ := H1.out.1
    have : kv = .slice a m.cell.kids.length c := by simp [Ms.row] at hkv; exact hkv.symm
    subst this
    have hin : ∀ z ∈ m.nums, inI64 z := by
      intro z hz
      unfold Ms.nums at hz
      simp only [List.mem_cons, List.not_mem_nil, or_false] at hz
      rcases hz with rfl | rfl | rfl | rfl | rfl | rfl | rfl | rfl | rfl
      · exact i0
      · exact i1
      · exact i2
      · exact i3
      · exact i4
      · exact i5
      · exact i6
      · exact i7
      · unfold inI64; omega
    have hlit : IntsAt (w1.drew.alloc (.cells #[.int .i64 m.kind, .int .i64 m.frm, .int .i64 m.dst, .int .i64 m.id, .int .i64 m.want, .int .i64 m.cell.kind, .int .i64 m.cell.n, .int .i64 m.cell.pos, .int .i64 ((m.cell.kids.length : Nat) : Int)] 3)) (fun _ => True) (.slice (some ⟨w1.heap.size, 0, none⟩) 9 9) m.nums := lit_ints m.nums w1.drew hin (by show 9 ≤ maxLen; unfold maxLen; omega) 9 rfl _ rfl _
    have hbA : Below w1.heap.size w1 (w1.drew.alloc (.cells #[.int .i64 m.kind, .int .i64 m.frm, .int .i64 m.dst, .int .i64 m.id, .int .i64 m.want, .int .i64 m.cell.kind, .int .i64 m.cell.n, .int .i64 m.cell.pos, .int .i64 ((m.cell.kids.length : Nat) : Int)] 3)) := ((Below.refl _ w1).drew).alloc (Nat.le_refl _) _
    have hoA : (w1.drew.alloc (.cells #[.int .i64 m.kind, .int .i64 m.frm, .int .i64 m.dst, .int .i64 m.id, .int .i64 m.want, .int .i64 m.cell.kind, .int .i64 m.cell.n, .int .i64 m.cell.pos, .int .i64 ((m.cell.kids.length : Nat) : Int)] 3)).heap[w.heap.size]? = some (.cells (m.row (.slice a m.cell.kids.length c)) 32) := box_alloc H1.out.2.2 _
    have HA := (show Hid (_ ∧ _ ∧ _) from ⟨hlit, hbA, hoA⟩)
    clear hlit hbA hoA
    have HL := (show Hid (_ ∧ _) from ⟨hin, hk⟩)
    clear hin hk i0 i1 i2 i3 i4 i5 i6 i7 hkv
    have hn1 := numsB_len m.nums
    have hn2 := numsB_len m.cell.kids
    have hn3 : m.nums.length = 9 := rfl
    rw [hn3] at hn1
    have hcat := cat_bytes (numsB m.nums) (numsB m.cell.kids)
    have hs1 : ((⟨(numsB m.nums).toArray⟩ : ByteArray)).size = 72 := by show (numsB m.nums).toArray.size = _; simp [hn1]
    have hs2 : ((⟨(numsB m.cell.kids).toArray⟩ : ByteArray)).size = 8 * m.cell.kids.length := by show (numsB m.cell.kids).toArray.size = _; simp [hn2]
    have hadd : ∀ wx : World, (Op.stringOp .add ⟨(numsB m.nums).toArray⟩ ⟨(numsB m.cell.kids).toArray⟩).run Tryz.prog wx = .ok (.string (⟨(numsB m.nums).toArray⟩ ++ ⟨(numsB m.cell.kids).toArray⟩)) wx := fun wx => run_string_add_sum wx _ _ (by rw [hs1, hs2]; omega)
    clear hs1 hs2 hn1 hn2 hn3 hcat
    have HCat := (show Hid (_ ∧ True) from ⟨cat_bytes (numsB m.nums) (numsB m.cell.kids), trivial⟩)
    go_wp2_with fail
    go_region_held3 (fun w' => w'.cell? ⟨w.heap.size, 0, none⟩ = some (.int .i64 m.kind) ∧ w'.cell? ⟨w.heap.size, 1, none⟩ = some (.int .i64 m.frm) ∧ w'.cell? ⟨w.heap.size, 2, none⟩ = some (.int .i64 m.dst) ∧ w'.cell? ⟨w.heap.size, 3, none⟩ = some (.int .i64 m.id) ∧ w'.cell? ⟨w.heap.size, 4, none⟩ = some (.int .i64 m.want) ∧ w'.cell? ⟨w.heap.size, 5, none⟩ = some (.int .i64 m.cell.kind) ∧ w'.cell? ⟨w.heap.size, 6, none⟩ = some (.int .i64 m.cell.n) ∧ w'.cell? ⟨w.heap.size, 7, none⟩ = some (.int .i64 m.cell.pos) ∧ w'.cell? ⟨w.heap.size, 8, none⟩ = some (.slice a m.cell.kids.length c)) (first | exact boxM H3.out.2 | exact boxM H2.out.2 | go_keep) (first
      | (go_at_call_of 66 (Value.slice (some ⟨w1.heap.size, 0, none⟩) 9 9); refine (l07Nums_any _ m.nums (fun _ => True) _ HA.out.1 (by show 9 ≤ 100000000; omega)).mono ?_; rintro e w2 ⟨rfl, b2⟩; have o2 := (b2.block _ (Array.getElem?_eq_some_iff.1 HA.out.2.2).1).trans HA.out.2.2; have H2 := (show Hid (_ ∧ _) from ⟨HA.out.2.1.trans (b2.mono HA.out.2.1.size), o2⟩); clear o2 b2)
      | (go_at_call_of 66 (Value.slice a m.cell.kids.length c); refine (l07Nums_any _ m.cell.kids S _ (HL.out.2.below H2.out.1) (by omega)).mono ?_; rintro e w3 ⟨rfl, b3⟩; have o3 := (b3.block _ (Array.getElem?_eq_some_iff.1 H2.out.2).1).trans H2.out.2; have H3 := (show Hid (_ ∧ _) from ⟨H2.out.1.trans (b3.mono H2.out.1.size), o3⟩); clear o3 b3))
    go_wp2
    go_ret
    exact ⟨by rw [HB.out, ← HCat.out.1]; exact rfl, H1.out.2.1.trans (H3.out.1.mono H1.out.2.1.size)⟩
end Go.Proofs.YtlbinamlehapoaaGreatDoor
