/-
  The program's GetMsg.
-/
import Derived.Test.YtlbinamlehapoaaGreatDoorReadMsg
import Derived.Test.YtlbinamlehapoaaGreatDoorMX
import Derived.Lib.ConvBytes
import Derived.Deep.RegionHeld3
namespace Go.Proofs.YtlbinamlehapoaaGreatDoor
open Go.RowKit Go.Joins

set_option maxRecDepth 100000

theorem bytes_below (w : World) (e : TypeId) (s : ByteArray) : Below w.heap.size w (Lib.bytesWorld w e s) :=
  ⟨rfl, rfl, rfl, by rw [Lib.bytesWorld_size]; omega, fun k hk => Lib.bytesWorld_at_old w e s k hk⟩
theorem bytes_row (w : World) (e : TypeId) (s : ByteArray) : ∃ cs fz, (Lib.bytesWorld w e s).heap[w.heap.size]? = some (.cells cs e fz) ∧ ∀ (j : Nat) (x : UInt8), s.data.toList[j]? = some x → cs[j]? = some (.int .u8 ((x.toNat : Nat) : Int)) := by
  refine ⟨_, _, Lib.bytesWorld_at_new w e s, fun j x hx => ?_⟩
  have hj : j < s.size := by have := (List.getElem?_eq_some_iff.1 hx).1; simpa using this
  have := Lib.bytesWorld_cell w e s j hj
  simp only [World.cell?, Lib.bytesWorld_at_new] at this
  rw [show s.data.toList.getD j 0 = x by simp [List.getD, hx]] at this
  simpa using this
theorem set9_end {w w4 : World} {v : Value} {m : Ms} (h : OwnMs w4 (w.heap.size + 1) v m) (hb : Below w.heap.size w w4) (x0 x1 x2 x3 x4 x5 x6 x7 x8 : Value) :
    OwnMs (((((((((w4.setCell ⟨w.heap.size, 0, none⟩ x0).setCell ⟨w.heap.size, 1, none⟩ x1).setCell ⟨w.heap.size, 2, none⟩ x2).setCell ⟨w.heap.size, 3, none⟩ x3).setCell ⟨w.heap.size, 4, none⟩ x4).setCell ⟨w.heap.size, 5, none⟩ x5).setCell ⟨w.heap.size, 6, none⟩ x6).setCell ⟨w.heap.size, 7, none⟩ x7).setCell ⟨w.heap.size, 8, none⟩ x8) w.heap.size v m ∧
    Below w.heap.size w (((((((((w4.setCell ⟨w.heap.size, 0, none⟩ x0).setCell ⟨w.heap.size, 1, none⟩ x1).setCell ⟨w.heap.size, 2, none⟩ x2).setCell ⟨w.heap.size, 3, none⟩ x3).setCell ⟨w.heap.size, 4, none⟩ x4).setCell ⟨w.heap.size, 5, none⟩ x5).setCell ⟨w.heap.size, 6, none⟩ x6).setCell ⟨w.heap.size, 7, none⟩ x7).setCell ⟨w.heap.size, 8, none⟩ x8) := by
  constructor
  · refine (OwnMs.kept (B := w.heap.size + 1) h (w' := _) (X := fun k => k = w.heap.size) ?_ (fun k hk hx => by omega)).base (by omega)
    iterate 9 refine KB.setCell (X := fun k => k = w.heap.size) ?_ rfl _
    exact KB.refl _ _
  · iterate 9 refine Below.setCell ?_ (by simp) _
    exact hb
theorem hold27 {W : World} {b r : Nat} {m : Ms} {kv : Value} {t t' : TypeId} (h1 : W.heap[b]? = some (.cells (m.row kv) t)) (h2 : W.heap[r]? = some (.cells zero9 t')) : (W.cell? ⟨b, 0, none⟩ = some (.int .i64 m.kind) ∧ W.cell? ⟨b, 1, none⟩ = some (.int .i64 m.frm) ∧ W.cell? ⟨b, 2, none⟩ = some (.int .i64 m.dst) ∧ W.cell? ⟨b, 3, none⟩ = some (.int .i64 m.id) ∧ W.cell? ⟨b, 4, none⟩ = some (.int .i64 m.want) ∧ W.cell? ⟨b, 5, none⟩ = some (.int .i64 m.cell.kind) ∧ W.cell? ⟨b, 6, none⟩ = some (.int .i64 m.cell.n) ∧ W.cell? ⟨b, 7, none⟩ = some (.int .i64 m.cell.pos) ∧ W.cell? ⟨b, 8, none⟩ = some (kv)) ∧ (W.cell? ⟨r, 0, none⟩ = some (.int .i64 0) ∧ W.cell? ⟨r, 1, none⟩ = some (.int .i64 0) ∧ W.cell? ⟨r, 2, none⟩ = some (.int .i64 0) ∧ W.cell? ⟨r, 3, none⟩ = some (.int .i64 0) ∧ W.cell? ⟨r, 4, none⟩ = some (.int .i64 0) ∧ W.cell? ⟨r, 5, none⟩ = some (.int .i64 0) ∧ W.cell? ⟨r, 6, none⟩ = some (.int .i64 0) ∧ W.cell? ⟨r, 7, none⟩ = some (.int .i64 0) ∧ W.cell? ⟨r, 8, none⟩ = some (.slice none 0 0)) ∧ (W.frozen? ⟨r, 0, none⟩ = false ∧ W.frozen? ⟨r, 1, none⟩ = false ∧ W.frozen? ⟨r, 2, none⟩ = false ∧ W.frozen? ⟨r, 3, none⟩ = false ∧ W.frozen? ⟨r, 4, none⟩ = false ∧ W.frozen? ⟨r, 5, none⟩ = false ∧ W.frozen? ⟨r, 6, none⟩ = false ∧ W.frozen? ⟨r, 7, none⟩ = false ∧ W.frozen? ⟨r, 8, none⟩ = false) := ⟨boxM h1, zbox h2, fbox h2⟩

set_option maxHeartbeats 800000 in
theorem implGetMsg_any (s : ByteArray) (w : World) (hs : s.size ≤ 1048576) (hg : ET w) :
    Calls Tryz.prog 76 #[.string s] w fun e w' => ∃ mv, e = .returned (.tuple #[mv, .bool (msgFit s.data.toList)]) ∧ OwnMs w' w.heap.size mv (msgRes s.data.toList) ∧ Below w.heap.size w w' := by
  have hnot := ex_not
  obtain ⟨W0, hW0⟩ : ∃ W0, W0 = w.alloc (.cells zero9 32) := ⟨_, rfl⟩
  have B0 : Below w.heap.size w W0 := by rw [hW0]; exact (Below.refl _ w).alloc (Nat.le_refl _) _
  have R0 : W0.heap[w.heap.size]? = some (.cells zero9 32) := by rw [hW0]; exact (MapKept.heap_alloc w _).1
  have hlen : s.data.toList.length = s.size := by simp
  have hcv : (convert 9 22 (.string s)).run Tryz.prog W0 = .ok (.slice (some ⟨W0.heap.size, 0, none⟩) s.size (grownCap W0 s.size 0 5)) (Lib.bytesWorld W0 5 s) :=
    Lib.run_convert_string_bytes (P := Tryz.prog) W0 9 22 5 s Tryz.underlying9 Tryz.underlying22 Tryz.underlying5
  have hcap := grownCap_ge W0 s.size 0 5
  have b1 := bytes_below W0 5 s
  have hR := readMsg_any W0.heap.size (grownCap W0 s.size 0 5) s.data.toList (Lib.bytesWorld W0 5 s) (bytes_row W0 5 s) (by rw [hlen]; exact hs) (by rw [hlen]; exact hcap)
  rw [hlen, show W0.heap.size = w.heap.size + 1 by rw [hW0]; simp] at hR
  have H0 := (show Hid (_ ∧ _ ∧ _ ∧ _ ∧ _) from ⟨hR, B0.trans (b1.mono B0.size), (b1.block _ (lt_heap R0)).trans R0, (hg.below B0).below b1, hW0⟩)
  have hsb : W0.heap.size ≤ (Lib.bytesWorld W0 5 s).heap.size := b1.size
  have hs0 : w.heap.size + 1 ≤ W0.heap.size := lt_heap R0
  subst hW0
  clear hR B0 R0 hg b1 hcap hlen
  go_enter Tryz.func76, Tryz.ntmps76
  go_wp2_with fail
  refine H0.out.1.mono ?_
  rintro e w2 ⟨mv, ev, rfl, A2, hev, b2⟩
  obtain ⟨kv, rfl, h2, h3⟩ := A2
  obtain ⟨oa, oc, rfl⟩ := own_form h2
  have A2 : OwnMs w2 (Lib.bytesWorld (w.alloc (.cells zero9 32)) 5 s).heap.size (.agg ((msgRes s.data.toList).row (.slice oa (msgRes s.data.toList).cell.kids.length oc))) (msgRes s.data.toList) := ⟨_, rfl, h2, h3⟩
  have A3 := A2.base (B' := w.heap.size + 1) (by omega)
  have R2 := (b2.block _ (lt_heap H0.out.2.2.1)).trans H0.out.2.2.1
  have B2 := H0.out.2.1.trans (b2.mono (by omega))
  have hs2 : w.heap.size + 1 ≤ w2.heap.size := by have := b2.size; omega
  have E2 := H0.out.2.2.2.1.below b2
  generalize hm : msgRes s.data.toList = m at *
  obtain ⟨W3, hW3⟩ : ∃ W3, W3 = w2.alloc (.cells (m.row (.slice oa m.cell.kids.length oc)) 32) := ⟨_, rfl⟩
  have b3 : Below w2.heap.size w2 W3 := by rw [hW3]; exact (Below.refl _ w2).alloc (Nat.le_refl _) _
  have M3 : W3.heap[w2.heap.size]? = some (.cells (m.row (.slice oa m.cell.kids.length oc)) 32) := by rw [hW3]; exact (MapKept.heap_alloc w2 _).1
  have R3 := (b3.block _ (lt_heap R2)).trans R2
  have H3 := (show Hid (_ ∧ _ ∧ _ ∧ _ ∧ _ ∧ _ ∧ _) from ⟨A3.below b3, B2.trans (b3.mono (by omega)), R3, M3, E2.below b3, hm, hW3⟩)
  have hs3 : w2.heap.size + 1 ≤ W3.heap.size := lt_heap M3
  clear A2 A3 R2 B2 E2 b3 M3 R3 hm hW3 h2 h3 b2 H0
  go_wp2_with fail
  rw [← (show W3 = w2.alloc (.cells #[.int .i64 m.kind, .int .i64 m.frm, .int .i64 m.dst, .int .i64 m.id, .int .i64 m.want, .int .i64 m.cell.kind, .int .i64 m.cell.n, .int .i64 m.cell.pos, .slice oa m.cell.kids.length oc] 32) from H3.out.2.2.2.2.2.2)]
  obtain ⟨⟨y0, y1, y2, y3, y4, y5, y6, y7, y8⟩, ⟨z0, z1, z2, z3, z4, z5, z6, z7, z8⟩, ⟨u0, u1, u2, u3, u4, u5, u6, u7, u8⟩⟩ := hold27 H3.out.2.2.2.1 H3.out.2.2.1
  have hne : ¬ w2.heap.size = w.heap.size := by omega
  have hne' : ¬ w.heap.size = w2.heap.size := by omega
  rcases hev with ⟨hf, rfl⟩ | ⟨hf, z, rfl⟩
  · have HI := (show Hid (_ ∧ _) from ⟨isNone_nil, hf⟩)
    clear hf
    go_region_with (first
      | (go_at_call 103; refine (HI.out.1 _).mono ?_; rintro e w4 ⟨rfl, b4'⟩; have b4 : Below W3.heap.size W3 w4 := (((Below.refl _ W3).drew).trans b4'); clear b4'; obtain ⟨⟨y0', y1', y2', y3', y4', y5', y6', y7', y8'⟩, ⟨z0', z1', z2', z3', z4', z5', z6', z7', z8'⟩, ⟨u0', u1', u2', u3', u4', u5', u6', u7', u8'⟩⟩ := hold27 ((b4.block _ (lt_heap H3.out.2.2.2.1)).trans H3.out.2.2.2.1) ((b4.block _ (lt_heap H3.out.2.2.1)).trans H3.out.2.2.1)))
    all_goals go_wp2
    all_goals (refine bodyPost_ret (v := .tuple #[.agg (m.row (.slice oa m.cell.kids.length oc)), .bool true]) (by simp [results, Tryz.results76, go_sem, z0', z1', z2', z3', z4', z5', z6', z7', z8']) rfl ?_)
    all_goals (rw [H3.out.2.2.2.2.2.1])
    all_goals (exact ⟨_, by rw [HI.out.2], (set9_end (H3.out.1.below b4) (H3.out.2.1.trans (b4.mono (by omega))) _ _ _ _ _ _ _ _ _).1, (set9_end (H3.out.1.below b4) (H3.out.2.1.trans (b4.mono (by omega))) _ _ _ _ _ _ _ _ _).2⟩)
  · have HI := (show Hid (_ ∧ _) from ⟨fun wx (hx : ET wx) => isNone_err z wx hx, hf⟩)
    clear hf
    go_region_with (first
      | (go_at_call 103; refine (HI.out.1 _ (H3.out.2.2.2.2.1.below ((Below.refl _ W3).drew))).mono ?_; rintro e w4 ⟨rfl, b4'⟩; have b4 : Below W3.heap.size W3 w4 := (((Below.refl _ W3).drew).trans b4'); clear b4'; obtain ⟨⟨y0', y1', y2', y3', y4', y5', y6', y7', y8'⟩, ⟨z0', z1', z2', z3', z4', z5', z6', z7', z8'⟩, ⟨u0', u1', u2', u3', u4', u5', u6', u7', u8'⟩⟩ := hold27 ((b4.block _ (lt_heap H3.out.2.2.2.1)).trans H3.out.2.2.2.1) ((b4.block _ (lt_heap H3.out.2.2.1)).trans H3.out.2.2.1)))
    all_goals go_wp2
    all_goals (refine bodyPost_ret (v := .tuple #[.agg (m.row (.slice oa m.cell.kids.length oc)), .bool false]) (by simp [results, Tryz.results76, go_sem, z0', z1', z2', z3', z4', z5', z6', z7', z8']) rfl ?_)
    all_goals (rw [H3.out.2.2.2.2.2.1])
    all_goals (exact ⟨_, by rw [HI.out.2], (set9_end (H3.out.1.below b4) (H3.out.2.1.trans (b4.mono (by omega))) _ _ _ _ _ _ _ _ _).1, (set9_end (H3.out.1.below b4) (H3.out.2.1.trans (b4.mono (by omega))) _ _ _ _ _ _ _ _ _).2⟩)
end Go.Proofs.YtlbinamlehapoaaGreatDoor
