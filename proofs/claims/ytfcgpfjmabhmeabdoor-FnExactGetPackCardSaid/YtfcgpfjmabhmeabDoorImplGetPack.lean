/-
  The program's GetPack.
-/
import Derived.Test.YtfcgpfjmabhmeabDoorReadPack
import Derived.Lib.ConvBytes
namespace Go.Proofs.YtfcgpfjmabhmeabDoor
open Go.RowKit Go.Joins

set_option maxRecDepth 100000

theorem hold18 {W : World} {b r : Nat} {p : Pa} {t t' : TypeId} (h1 : W.heap[b]? = some (.cells p.row t)) (h2 : W.heap[r]? = some (.cells zero6 t')) : (W.cell? ⟨b, 0, none⟩ = some (.int .i64 p.kind) ∧ W.cell? ⟨b, 1, none⟩ = some (.int .i64 p.frm) ∧ W.cell? ⟨b, 2, none⟩ = some (.int .i64 p.dst) ∧ W.cell? ⟨b, 3, none⟩ = some (.int .i64 p.seq) ∧ W.cell? ⟨b, 4, none⟩ = some (.int .i64 p.low) ∧ W.cell? ⟨b, 5, none⟩ = some (.string p.body)) ∧ (W.cell? ⟨r, 0, none⟩ = some (.int .i64 0) ∧ W.cell? ⟨r, 1, none⟩ = some (.int .i64 0) ∧ W.cell? ⟨r, 2, none⟩ = some (.int .i64 0) ∧ W.cell? ⟨r, 3, none⟩ = some (.int .i64 0) ∧ W.cell? ⟨r, 4, none⟩ = some (.int .i64 0) ∧ W.cell? ⟨r, 5, none⟩ = some (.string ⟨#[]⟩)) ∧ (W.frozen? ⟨r, 0, none⟩ = false ∧ W.frozen? ⟨r, 1, none⟩ = false ∧ W.frozen? ⟨r, 2, none⟩ = false ∧ W.frozen? ⟨r, 3, none⟩ = false ∧ W.frozen? ⟨r, 4, none⟩ = false ∧ W.frozen? ⟨r, 5, none⟩ = false) := ⟨pbox6 h1, zbox6 h2, fbox6 h2⟩

set_option maxHeartbeats 1600000 in
theorem implGetPack_any (s : ByteArray) (w : World) (hs : s.size ≤ 1048576) (hg : ET w) :
    Calls Tryd.prog 11 #[.string s] w fun e w' => e = .returned (.tuple #[.agg (packRes s.data.toList).row, .bool (packFit s.data.toList)]) ∧ Below w.heap.size w w' := by
  have hnot := ex_not
  obtain ⟨W0, hW0⟩ : ∃ W0, W0 = w.alloc (.cells zero6 26) := ⟨_, rfl⟩
  have B0 : Below w.heap.size w W0 := by rw [hW0]; exact (Below.refl _ w).alloc (Nat.le_refl _) _
  have R0 : W0.heap[w.heap.size]? = some (.cells zero6 26) := by rw [hW0]; exact (MapKept.heap_alloc w _).1
  have hlen : s.data.toList.length = s.size := by simp
  have hcv : (convert 9 51 (.string s)).run Tryd.prog W0 = .ok (.slice (some ⟨W0.heap.size, 0, none⟩) s.size (grownCap W0 s.size 0 5)) (Lib.bytesWorld W0 5 s) :=
    Lib.run_convert_string_bytes (P := Tryd.prog) W0 9 51 5 s Tryd.underlying9 Tryd.underlying51 Tryd.underlying5
  have hcap := grownCap_ge W0 s.size 0 5
  have b1 := bytes_below W0 5 s
  have hR := readPack_any W0.heap.size (grownCap W0 s.size 0 5) s.data.toList (Lib.bytesWorld W0 5 s) ((hg.below B0).below b1) (bytes_row W0 5 s) (by rw [hlen]; exact hs) (by rw [hlen]; exact hcap)
  rw [hlen, show W0.heap.size = w.heap.size + 1 by rw [hW0]; simp] at hR
  have H0 := (show Hid (_ ∧ _ ∧ _ ∧ _ ∧ _) from ⟨hR, B0.trans (b1.mono B0.size), (b1.block _ (lt_heap R0)).trans R0, (hg.below B0).below b1, hW0⟩)
  have hsb : W0.heap.size ≤ (Lib.bytesWorld W0 5 s).heap.size := b1.size
  have hs0 : w.heap.size + 1 ≤ W0.heap.size := lt_heap R0
  subst hW0
  clear hR B0 R0 hg b1 hcap hlen
  go_enter Tryd.func11, Tryd.ntmps11
  go_wp2_with fail
  refine H0.out.1.mono ?_
  rintro e w2 ⟨ev, rfl, hev, b2⟩
  have R2 := (b2.block _ (lt_heap H0.out.2.2.1)).trans H0.out.2.2.1
  have B2 := H0.out.2.1.trans (b2.mono (by omega))
  have hs2 : w.heap.size + 1 ≤ w2.heap.size := by have := b2.size; omega
  have E2 := H0.out.2.2.2.1.below b2
  generalize hm : packRes s.data.toList = p at *
  obtain ⟨W3, hW3⟩ : ∃ W3, W3 = w2.alloc (.cells p.row 26) := ⟨_, rfl⟩
  have b3 : Below w2.heap.size w2 W3 := by rw [hW3]; exact (Below.refl _ w2).alloc (Nat.le_refl _) _
  have M3 : W3.heap[w2.heap.size]? = some (.cells p.row 26) := by rw [hW3]; exact (MapKept.heap_alloc w2 _).1
  have R3 := (b3.block _ (lt_heap R2)).trans R2
  have H3 := (show Hid (_ ∧ _ ∧ _ ∧ _ ∧ _ ∧ _) from ⟨B2.trans (b3.mono (by omega)), R3, M3, E2.below b3, hm, hW3⟩)
  have hs3 : w2.heap.size + 1 ≤ W3.heap.size := lt_heap M3
  clear R2 B2 E2 b3 M3 R3 hm hW3 b2 H0
  go_wp2_with fail
  rw [← (show W3 = w2.alloc (.cells #[.int .i64 p.kind, .int .i64 p.frm, .int .i64 p.dst, .int .i64 p.seq, .int .i64 p.low, .string p.body] 26) from H3.out.2.2.2.2.2)]
  obtain ⟨⟨y0, y1, y2, y3, y4, y5⟩, ⟨z0, z1, z2, z3, z4, z5⟩, ⟨u0, u1, u2, u3, u4, u5⟩⟩ := hold18 H3.out.2.2.1 H3.out.2.1
  have hne : ¬ w2.heap.size = w.heap.size := by omega
  have hne' : ¬ w.heap.size = w2.heap.size := by omega
  rcases hev with ⟨hf, rfl⟩ | ⟨hf, z, rfl⟩
  · have HI := (show Hid (_ ∧ _) from ⟨isNone_nil, hf⟩)
    clear hf
    go_region_with (first
      | (go_at_call 30; refine (HI.out.1 _).mono ?_; rintro e w4 ⟨rfl, b4'⟩; have b4 : Below W3.heap.size W3 w4 := (((Below.refl _ W3).drew).trans b4'); clear b4'; obtain ⟨⟨y0', y1', y2', y3', y4', y5'⟩, ⟨z0', z1', z2', z3', z4', z5'⟩, ⟨u0', u1', u2', u3', u4', u5'⟩⟩ := hold18 ((b4.block _ (lt_heap H3.out.2.2.1)).trans H3.out.2.2.1) ((b4.block _ (lt_heap H3.out.2.1)).trans H3.out.2.1)))
    all_goals go_wp2
    all_goals (refine bodyPost_ret (v := .tuple #[.agg p.row, .bool true]) (by simp [results, Tryd.results11, go_sem, z0', z1', z2', z3', z4', z5']) rfl ?_)
    all_goals (rw [H3.out.2.2.2.2.1, HI.out.2])
    all_goals (refine ⟨rfl, ?_⟩)
    all_goals (iterate 6 refine Below.setCell ?_ (by simp) _)
    all_goals (exact H3.out.1.trans (b4.mono (by omega)))
  · have HI := (show Hid (_ ∧ _) from ⟨fun wx (hx : ET wx) => isNone_err z wx hx, hf⟩)
    clear hf
    go_region_with (first
      | (go_at_call 30; refine (HI.out.1 _ (H3.out.2.2.2.1.below ((Below.refl _ W3).drew))).mono ?_; rintro e w4 ⟨rfl, b4'⟩; have b4 : Below W3.heap.size W3 w4 := (((Below.refl _ W3).drew).trans b4'); clear b4'; obtain ⟨⟨y0', y1', y2', y3', y4', y5'⟩, ⟨z0', z1', z2', z3', z4', z5'⟩, ⟨u0', u1', u2', u3', u4', u5'⟩⟩ := hold18 ((b4.block _ (lt_heap H3.out.2.2.1)).trans H3.out.2.2.1) ((b4.block _ (lt_heap H3.out.2.1)).trans H3.out.2.1)))
    all_goals go_wp2
    all_goals (refine bodyPost_ret (v := .tuple #[.agg p.row, .bool false]) (by simp [results, Tryd.results11, go_sem, z0', z1', z2', z3', z4', z5']) rfl ?_)
    all_goals (rw [H3.out.2.2.2.2.1, HI.out.2])
    all_goals (refine ⟨rfl, ?_⟩)
    all_goals (iterate 6 refine Below.setCell ?_ (by simp) _)
    all_goals (exact H3.out.1.trans (b4.mono (by omega)))
end Go.Proofs.YtfcgpfjmabhmeabDoor
