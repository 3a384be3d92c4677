/-
  The program's copyEach at rows of Frame.
-/
import Derived.Test.YtlgnklpaebgnlaaMC
import Derived.Test.YtlgnklpaebgnlaaCpFrame
namespace Go.Proofs.Ytlgnklpaebgnlaa
open Go.RowKit Go.Joins

set_option maxRecDepth 100000

set_option maxHeartbeats 6400000 in
theorem copyEachFrame_dt : CpS 96 97 66 4 FrameR := by
  intro v xs S w hP h hb
  have hlen := bulkS_len xs
  have hBA := @bulkS_at xs
  have hc := cloneFrame_dt v xs S w hP h (by omega)
  have HP := (show Hid (_ ∧ _) from ⟨hP, hP.len FrameR.len⟩)
  obtain ⟨a, cap, rfl⟩ := h.form
  have HC := (show Hid (_ ∧ True) from ⟨hc, trivial⟩)
  clear hc h hP
  go_enter Try.func96, Try.ntmps96
  go_wp2_with fail
  refine HC.out.1.mono ?_
  rintro e w1 ⟨u, rfl, hcl, b1⟩
  clear HC
  rcases hcl with ⟨rfl, rfl⟩ | ⟨g, cap1, cur, rfl, hg0, hg, hl, hm, hs, hraw⟩
  · go_wp2
    refine wp_loop_rounds 1 ?_
    rw [rounds_succ]
    go_wp2
    go_ret
    exact ⟨_, rfl, .nil _, ⟨[], rfl, .inl ⟨rfl, rfl⟩⟩, b1⟩
  · have H1 := (show Hid (_ ∧ _) from ⟨RowC.start hg hs hraw, b1⟩)
    clear hg hs hraw b1
    go_wp2
    go_loopw [12] (fun i wr => ∃ k : Nat, k ≤ xs.length ∧ i = .int .i64 k ∧ Hid (RowC w wr S 66 g 4 cap1 k xs) ∧ Below w.heap.size w wr) (fun i _ => xs.length - (intOf i).toNat)
    case atStart => exact ⟨0, Nat.zero_le _, rfl, H1.out.1, H1.out.2⟩
    case round =>
      clear H1
      obtain ⟨k, hk, rfl, HR, hbw⟩ := hrel
      by_cases hkl : k < xs.length
      · have he := List.getElem?_eq_getElem hkl
        have hbk := hBA he
        generalize xs[k] = r at *
        obtain ⟨z0, z1, z2, x3, rfl, q3⟩ := HP.out.1 k r he
        obtain ⟨cur', vs', Y', hgk, hsk, hck, hrk, hYk, hdk⟩ := HR.out
        obtain ⟨r0, cc0, a0⟩ := hrk k 0 _ _ (Nat.le_refl _) he rfl
        obtain ⟨rfl, ir0⟩ := a0.ofInt
        have c0 : wr.cell? ⟨g, k * 4, none⟩ = some (.int .i64 z0) := by rw [cell_of_block hgk]; exact cc0
        obtain ⟨r1, cc1, a1⟩ := hrk k 1 _ _ (Nat.le_refl _) he rfl
        obtain ⟨rfl, ir1⟩ := a1.ofInt
        have c1 : wr.cell? ⟨g, k * 4 + 1, none⟩ = some (.int .i64 z1) := by rw [cell_of_block hgk]; exact cc1
        obtain ⟨r2, cc2, a2⟩ := hrk k 2 _ _ (Nat.le_refl _) he rfl
        obtain ⟨rfl, ir2⟩ := a2.ofInt
        have c2 : wr.cell? ⟨g, k * 4 + 2, none⟩ = some (.int .i64 z2) := by rw [cell_of_block hgk]; exact cc2
        obtain ⟨r3, cc3, a3⟩ := hrk k 3 _ _ (Nat.le_refl _) he rfl
        obtain ⟨p3, d3, rfl⟩ := a3.form
        have c3 : wr.cell? ⟨g, k * 4 + 3, none⟩ = some (.slice p3 x3.length d3) := by rw [cell_of_block hgk]; exact cc3
        have hgl := lt_heap hgk
        have HX := (show Hid (_ ∧ _ ∧ _ ∧ _ ∧ _) from ⟨(show FsAt wr S [.int .i64 z0, .int .i64 z1, .int .i64 z2, .slice p3 x3.length d3] [.int z0, .int z1, .int z2, .row x3] from ⟨a0.up hbw, a1.up hbw, a2.up hbw, a3.up hbw, trivial⟩), HP.out.1 k _ he, he, hgk, hbw⟩)
        have BA : Below wr.heap.size wr (wr.alloc (.cells #[.int .i64 z0, .int .i64 z1, .int .i64 z2, .slice p3 x3.length d3] 66)) := (Below.refl _ wr).alloc (Nat.le_refl _) _
        have hsA : (wr.alloc (.cells #[.int .i64 z0, .int .i64 z1, .int .i64 z2, .slice p3 x3.length d3] 66)).heap.size = wr.heap.size + 1 := by simp
        have HB := (show Hid (_ ∧ _) from ⟨BA, hsA⟩)
        have hlt' : ((k : Nat) : Int) < ((xs.length : Nat) : Int) := by omega
        clear he hBA hgk hsk hck hrk hYk hdk BA hsA cc0 a0 cc1 a1 cc2 a2 cc3 a3 ir0 ir1 ir2
        go_wp2_with fail
        refine (copyFrame_dt [.int .i64 z0, .int .i64 z1, .int .i64 z2, .slice p3 x3.length d3] [.int z0, .int z1, .int z2, .row x3] S _ HX.out.2.1 (HX.out.1.up HB.out.1) (by omega)).mono ?_
        rintro e w3 ⟨us, rfl, o3, b3⟩
        obtain ⟨v0, v1, v2, v3, rfl, k0, k1, k2, k3⟩ := fs4 o3.at
        obtain ⟨rfl, -⟩ := k0.ofInt
        obtain ⟨rfl, -⟩ := k1.ofInt
        obtain ⟨rfl, -⟩ := k2.ofInt
        obtain ⟨s3, t3, rfl⟩ := k3.form
        have bA : Below wr.heap.size wr w3 := HB.out.1.trans (b3.mono HB.out.1.size)
        have o3' := o3.mono (X' := Btw wr.heap.size w3.heap.size) (fun b hb => ⟨Nat.le_trans HB.out.1.size hb.1, hb.2⟩)
        have HN := (show Hid (_ ∧ _) from ⟨RowC.next HR.out hbw.size hl bA HX.out.2.2.1 HP.out.2 o3', hbw.trans (bA.mono hbw.size)⟩)
        have hg3 := (bA.block _ hgl).trans HX.out.2.2.2.1
        have y0 : w3.cell? ⟨g, k * 4, none⟩ = some (.int .i64 z0) := (bA.cell (p := ⟨g, k * 4, none⟩) hgl).trans c0
        have f0 : w3.frozen? ⟨g, k * 4, none⟩ = false := unfrozen_of_block hg3 _
        have y1 : w3.cell? ⟨g, k * 4 + 1, none⟩ = some (.int .i64 z1) := (bA.cell (p := ⟨g, k * 4 + 1, none⟩) hgl).trans c1
        have f1 : w3.frozen? ⟨g, k * 4 + 1, none⟩ = false := unfrozen_of_block hg3 _
        have y2 : w3.cell? ⟨g, k * 4 + 2, none⟩ = some (.int .i64 z2) := (bA.cell (p := ⟨g, k * 4 + 2, none⟩) hgl).trans c2
        have f2 : w3.frozen? ⟨g, k * 4 + 2, none⟩ = false := unfrozen_of_block hg3 _
        have y3 : w3.cell? ⟨g, k * 4 + 3, none⟩ = some (.slice p3 x3.length d3) := (bA.cell (p := ⟨g, k * 4 + 3, none⟩) hgl).trans c3
        have f3 : w3.frozen? ⟨g, k * 4 + 3, none⟩ = false := unfrozen_of_block hg3 _
        clear hbw HX HR HB bA o3 o3' b3 hg3 k0 k1 k2 k3 c0 c1 c2 c3
        go_wp2
        refine ⟨⟨k + 1, by omega, by go_num, HN.out.1, ((((HN.out.2.setCell (p := ⟨g, k * 4, none⟩) hg0 _).setCell (p := ⟨g, k * 4 + 1, none⟩) hg0 _).setCell (p := ⟨g, k * 4 + 2, none⟩) hg0 _).setCell (p := ⟨g, k * 4 + 3, none⟩) hg0 _)⟩, by simp [intOf]; omega⟩
      · obtain rfl : k = xs.length := by omega
        have HF := (show Hid (_ ∧ _) from ⟨RowC.done HR.out HP.out.2 hl hm hg0, RowC.typed HR.out hl hm hg0⟩)
        clear HR
        go_wp2
        go_ret
        exact ⟨_, rfl, HF.out.1, HF.out.2, hbw⟩

end Go.Proofs.Ytlgnklpaebgnlaa
