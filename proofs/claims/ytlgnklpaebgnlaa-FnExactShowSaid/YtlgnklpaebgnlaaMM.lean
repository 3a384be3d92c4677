/-
  The laws' marking of Int.
  The laws' marking of Code.
  The laws' marking of Table.
  The laws' marking of Cell.
  The laws' marking of Frame.
  The laws' marking of Thread.
  The laws' marking of Msg.
  The laws' marking of Machine.
-/
import Derived.Test.YtlgnklpaebgnlaaDtMark
namespace Go.Proofs.Ytlgnklpaebgnlaa
open Go.RowKit Go.Joins

set_option maxRecDepth 100000

set_option maxHeartbeats 12800000 in
theorem markIntS_dt : MkSl 39 IntR := by
  intro v xs X w k0 hP h h0 hb
  rw [cntS_eq] at hb ⊢
  have hL := preC_le xs
  have hl := h.at.len
  unfold maxLen at hl
  obtain ⟨a, cap, rfl⟩ := h.form
  have HC : Hid (AllR IntR xs) := hP
  have HO : Hid (Own w (.slice a xs.length cap) (.row (mids xs k0 0)) X) := h
  clear h hP
  go_enter Try.func39, Try.ntmps39
  go_wp2
  go_loopw [1, 5] (fun kv i wr => ∃ j : Nat, j ≤ xs.length ∧ i = .int .i64 j ∧ kv = .int .i64 (k0 + (preC xs j : Int)) ∧ Hid (Own wr (.slice a xs.length cap) (.row (mids xs k0 j)) X) ∧ Hid (KB X w wr)) (fun _ i _ => xs.length - (intOf i).toNat)
  case atStart => exact ⟨0, Nat.zero_le _, rfl, by simp [preC], HO, KB.refl _ _⟩
  case round =>
    clear HO
    obtain ⟨k, hk, rfl, rfl, HO, HKB⟩ := hrel
    by_cases hkl : k < xs.length
    · have he := List.getElem?_eq_getElem hkl
      have hps := preC_succ he
      have hpk := hL (k + 1)
      generalize xs[k] = r at *
      obtain ⟨z0, rfl⟩ := HC.out k r he
      have hsh := mids_succ k0 he
      have hM := (mids_later xs k0 k k (Nat.le_refl _)).trans he
      have hkM : k < (mids xs k0 k).length := by rw [mids_len]; exact hkl
      rw [show Dt.cntR [.int z0] = 1 from by simp [Dt.cntR, Dt.cnt]; try omega] at hps
      obtain ⟨K, hK⟩ : ∃ K : Int, K = k0 + (preC xs k : Int) := ⟨_, rfl⟩
      rw [← hK] at hsh ⊢
      have hKb : 0 ≤ K ∧ K + ((1 : Nat) : Int) ≤ 100000000 := by omega
      have hO := HO.out
      have hKB := HKB.out
      obtain ⟨M, hMe⟩ : ∃ M, M = mids xs k0 k := ⟨_, rfl⟩
      rw [← hMe] at hsh hM hO hkM
      have hfin : ∀ W : World, Own W (.slice a xs.length cap) (.row (M.set k [.int (K)])) X → Own W (.slice a xs.length cap) (.row (mids xs k0 (k + 1))) X := fun W hW => by rw [hsh]; exact hW
      have HK : Hid (K = k0 + (preC xs k : Int)) := hK
      have hlt' : ((k : Nat) : Int) < ((xs.length : Nat) : Int) := by omega
      clear HO HKB hK hMe hsh HC he
      obtain ⟨g0, hg0, hX0, cur, te, hblk⟩ := Own.head hO hM
      obtain rfl := hg0
      have hXg := hX0
      clear hX0
      obtain ⟨u0, Y0, c0', f0', o0, -, -, -⟩ := Own.slotAt hO hM (j := 0) rfl
      have c0 : wr.cell? ⟨g0, k, none⟩ = some u0 := by have := c0'; simpa using this
      have f0 : wr.frozen? ⟨g0, k, none⟩ = false := by have := f0'; simpa using this
      clear c0' f0' o0
      obtain ⟨_, _, -, -, -, -, pt, -⟩ := Own.slotAt hO hM (j := 0) rfl
      have h1 : Own (wr.setCell ⟨g0, k, none⟩ (.int .i64 (K))) (.slice (some ⟨g0, 0, none⟩) xs.length cap) (.row (M.set k [.int (K)])) X := by have := pt (.int .i64 (K)) (.int (K)) (fun _ => .int _ ⟨by omega, by omega⟩ _); simpa using this
      have hM1 : (M.set k [.int (K)])[k]? = some [.int (K)] := List.getElem?_set_self hkM
      have kb1 : KB X w (wr.setCell ⟨g0, k, none⟩ (.int .i64 (K))) := hKB.setCell (p := ⟨g0, k, none⟩) hXg _
      have HX1 := (show Hid (_ ∧ _) from ⟨hfin _ h1, kb1⟩)
      clear hfin hblk pt h1 hM1 kb1 hO hKB hM
      go_wp2
      refine ⟨⟨k + 1, by omega, by go_num, int_val (by have := HK.out; omega), HX1.out.1, HX1.out.2⟩, by simp [intOf]; omega⟩
    · obtain rfl : k = xs.length := by omega
      have HF := (show Hid (_ ∧ _) from ⟨HO.out, HKB.out⟩)
      clear HO HKB HC
      go_wp2
      go_ret
      exact ⟨rfl, by rw [← mids_all]; exact HF.out.1, HF.out.2⟩

end Go.Proofs.Ytlgnklpaebgnlaa

namespace Go.Proofs.Ytlgnklpaebgnlaa
open Go.RowKit Go.Joins

set_option maxRecDepth 100000

set_option maxHeartbeats 12800000 in
theorem markCodeS_dt : MkSl 78 CodeR := by
  intro v xs X w k0 hP h h0 hb
  rw [cntS_eq] at hb ⊢
  have hL := preC_le xs
  have hl := h.at.len
  unfold maxLen at hl
  obtain ⟨a, cap, rfl⟩ := h.form
  have HC : Hid (AllR CodeR xs) := hP
  have HO : Hid (Own w (.slice a xs.length cap) (.row (mids xs k0 0)) X) := h
  clear h hP
  go_enter Try.func78, Try.ntmps78
  go_wp2
  go_loopw [1, 5] (fun kv i wr => ∃ j : Nat, j ≤ xs.length ∧ i = .int .i64 j ∧ kv = .int .i64 (k0 + (preC xs j : Int)) ∧ Hid (Own wr (.slice a xs.length cap) (.row (mids xs k0 j)) X) ∧ Hid (KB X w wr)) (fun _ i _ => xs.length - (intOf i).toNat)
  case atStart => exact ⟨0, Nat.zero_le _, rfl, by simp [preC], HO, KB.refl _ _⟩
  case round =>
    clear HO
    obtain ⟨k, hk, rfl, rfl, HO, HKB⟩ := hrel
    by_cases hkl : k < xs.length
    · have he := List.getElem?_eq_getElem hkl
      have hps := preC_succ he
      have hpk := hL (k + 1)
      generalize xs[k] = r at *
      obtain ⟨z0, z1, b2, x3, rfl, q3⟩ := HC.out k r he
      have hsh := mids_succ k0 he
      have hM := (mids_later xs k0 k k (Nat.le_refl _)).trans he
      have hkM : k < (mids xs k0 k).length := by rw [mids_len]; exact hkl
      rw [show Dt.cntR [.int z0, .int z1, .str b2, .row x3] = 1 + 1 + 1 + Dt.cntS x3 from by simp [Dt.cntR, Dt.cnt]; try omega] at hps
      obtain ⟨K, hK⟩ : ∃ K : Int, K = k0 + (preC xs k : Int) := ⟨_, rfl⟩
      rw [← hK] at hsh ⊢
      have hKb : 0 ≤ K ∧ K + ((1 + 1 + 1 + Dt.cntS x3 : Nat) : Int) ≤ 100000000 := by omega
      have hO := HO.out
      have hKB := HKB.out
      obtain ⟨M, hMe⟩ : ∃ M, M = mids xs k0 k := ⟨_, rfl⟩
      rw [← hMe] at hsh hM hO hkM
      have hfin : ∀ W : World, Own W (.slice a xs.length cap) (.row (M.set k [.int (K), .int (K + 1), .str (markT (K + 1 + 1)), .row (Dt.mkS x3 (K + 1 + 1 + 1))])) X → Own W (.slice a xs.length cap) (.row (mids xs k0 (k + 1))) X := fun W hW => by rw [hsh]; exact hW
      have HK : Hid (K = k0 + (preC xs k : Int)) := hK
      have hlt' : ((k : Nat) : Int) < ((xs.length : Nat) : Int) := by omega
      clear HO HKB hK hMe hsh HC he
      obtain ⟨g0, hg0, hX0, cur, te, hblk⟩ := Own.head hO hM
      obtain rfl := hg0
      have hXg := hX0
      clear hX0
      obtain ⟨u0, Y0, c0', f0', o0, -, -, -⟩ := Own.slotAt hO hM (j := 0) rfl
      have c0 : wr.cell? ⟨g0, k * 4, none⟩ = some u0 := c0'
      have f0 : wr.frozen? ⟨g0, k * 4, none⟩ = false := f0'
      clear c0' f0' o0
      obtain ⟨u1, Y1, c1', f1', o1, -, -, -⟩ := Own.slotAt hO hM (j := 1) rfl
      have c1 : wr.cell? ⟨g0, k * 4 + 1, none⟩ = some u1 := c1'
      have f1 : wr.frozen? ⟨g0, k * 4 + 1, none⟩ = false := f1'
      clear c1' f1' o1
      obtain ⟨_, _, -, -, -, -, pt, -⟩ := Own.slotAt hO hM (j := 0) rfl
      have h1 : Own (wr.setCell ⟨g0, k * 4, none⟩ (.int .i64 (K))) (.slice (some ⟨g0, 0, none⟩) xs.length cap) (.row (M.set k [.int (K), .int z1, .str b2, .row x3])) X := by have := pt (.int .i64 (K)) (.int (K)) (fun _ => .int _ ⟨by omega, by omega⟩ _); exact this
      have hM1 : (M.set k [.int (K), .int z1, .str b2, .row x3])[k]? = some [.int (K), .int z1, .str b2, .row x3] := List.getElem?_set_self hkM
      have kb1 : KB X w (wr.setCell ⟨g0, k * 4, none⟩ (.int .i64 (K))) := hKB.setCell (p := ⟨g0, k * 4, none⟩) hXg _
      obtain ⟨_, _, -, -, -, -, pt, -⟩ := Own.slotAt h1 hM1 (j := 1) rfl
      have h2 : Own ((wr.setCell ⟨g0, k * 4, none⟩ (.int .i64 (K))).setCell ⟨g0, k * 4 + 1, none⟩ (.int .i64 (K + 1))) (.slice (some ⟨g0, 0, none⟩) xs.length cap) (.row (M.set k [.int (K), .int (K + 1), .str b2, .row x3])) X := by have := pt (.int .i64 (K + 1)) (.int (K + 1)) (fun _ => .int _ ⟨by omega, by omega⟩ _); rw [List.set_set] at this; exact this
      have hM2 : (M.set k [.int (K), .int (K + 1), .str b2, .row x3])[k]? = some [.int (K), .int (K + 1), .str b2, .row x3] := List.getElem?_set_self hkM
      have kb2 : KB X w ((wr.setCell ⟨g0, k * 4, none⟩ (.int .i64 (K))).setCell ⟨g0, k * 4 + 1, none⟩ (.int .i64 (K + 1))) := kb1.setCell (p := ⟨g0, k * 4 + 1, none⟩) hXg _
      have HX1 := (show Hid (_ ∧ _) from ⟨h2, kb2⟩)
      clear hblk pt h1 hM1 kb1 h2 hM2 kb2 hO hKB
      go_wp2_with fail
      refine (markText_any _ _ (by omega)).mono ?_
      rintro e w1 ⟨rfl, b1⟩
      have g_1 := HX1.out.1.up b1
      have gM_1 : (M.set k [.int (K), .int (K + 1), .str b2, .row x3])[k]? = some [.int (K), .int (K + 1), .str b2, .row x3] := List.getElem?_set_self hkM
      have gk_1 : KB X w w1 := HX1.out.2.trans (KB.of_below b1)
      clear b1 HX1 c0 f0 c1 f1
      obtain ⟨g1, hg1, hX1, cur, te, hblk⟩ := Own.head g_1 gM_1
      obtain rfl : g0 = g1 := by simpa using hg1
      clear hX1 hg1
      obtain ⟨u2, Y2, c2', f2', o2, -, -, -⟩ := Own.slotAt g_1 gM_1 (j := 2) rfl
      have c2 : w1.cell? ⟨g0, k * 4 + 2, none⟩ = some u2 := c2'
      have f2 : w1.frozen? ⟨g0, k * 4 + 2, none⟩ = false := f2'
      clear c2' f2' o2
      obtain ⟨u3, Y3, c3', f3', o3, -, -, -⟩ := Own.slotAt g_1 gM_1 (j := 3) rfl
      have c3 : w1.cell? ⟨g0, k * 4 + 3, none⟩ = some u3 := c3'
      have f3 : w1.frozen? ⟨g0, k * 4 + 3, none⟩ = false := f3'
      obtain ⟨s3, t3, rfl⟩ := o3.form
      clear c3' f3' o3
      obtain ⟨_, _, -, -, -, -, pt, -⟩ := Own.slotAt g_1 gM_1 (j := 2) rfl
      have h3 : Own (w1.setCell ⟨g0, k * 4 + 2, none⟩ (.string (markT (K + 1 + 1)))) (.slice (some ⟨g0, 0, none⟩) xs.length cap) (.row (M.set k [.int (K), .int (K + 1), .str (markT (K + 1 + 1)), .row x3])) X := by have := pt (.string (markT (K + 1 + 1))) (.str (markT (K + 1 + 1))) (fun _ => .str _ (markT_len _ (by omega)) _); rw [List.set_set] at this; exact this
      have hM3 : (M.set k [.int (K), .int (K + 1), .str (markT (K + 1 + 1)), .row x3])[k]? = some [.int (K), .int (K + 1), .str (markT (K + 1 + 1)), .row x3] := List.getElem?_set_self hkM
      have kb3 : KB X w (w1.setCell ⟨g0, k * 4 + 2, none⟩ (.string (markT (K + 1 + 1)))) := gk_1.setCell (p := ⟨g0, k * 4 + 2, none⟩) hXg _
      obtain ⟨u', Y', c', -, o', ys', -, kd⟩ := Own.slotAt h3 hM3 (j := 3) rfl
      obtain rfl : u' = .slice s3 x3.length t3 := by
        have e1 := c3
        rw [cell_of_block hblk] at e1
        have e2 : (w1.setCell ⟨g0, k * 4 + 2, none⟩ (.string (markT (K + 1 + 1)))).cell? ⟨g0, k * 4 + 3, none⟩ = some u' := c'
        rw [cell_of_block (block_setCell hblk _), Array.getElem?_setIfInBounds_ne (by omega), e1] at e2
        exact (Option.some.inj e2).symm
      have HX2 := (show Hid (_ ∧ _ ∧ _ ∧ _) from ⟨o', ys', kd, kb3⟩)
      clear c' o' ys' kd hblk pt h3 hM3 kb3 g_1 gk_1 gM_1
      go_wp2_with fail
      refine (markIntS_dt _ x3 Y' _ _ q3 HX2.out.1 (by omega) (by omega)).mono ?_
      rintro e w2 ⟨rfl, o1, kb1⟩
      have g_2 : Own w2 (.slice (some ⟨g0, 0, none⟩) xs.length cap) (.row (M.set k [.int (K), .int (K + 1), .str (markT (K + 1 + 1)), .row (Dt.mkS x3 (K + 1 + 1 + 1))])) X := by have := HX2.out.2.2.1 w2 (.row (Dt.mkS x3 (K + 1 + 1 + 1))) kb1 o1; rw [List.set_set] at this; exact this
      have gM_2 : (M.set k [.int (K), .int (K + 1), .str (markT (K + 1 + 1)), .row (Dt.mkS x3 (K + 1 + 1 + 1))])[k]? = some [.int (K), .int (K + 1), .str (markT (K + 1 + 1)), .row (Dt.mkS x3 (K + 1 + 1 + 1))] := List.getElem?_set_self hkM
      have gk_2 : KB X w w2 := HX2.out.2.2.2.trans (kb1.more (fun b _ hy => (HX2.out.2.1 b hy).1))
      clear o1 kb1 HX2 c2 f2 c3 f3
      have HX := (show Hid (_ ∧ _) from ⟨hfin _ g_2, gk_2⟩)
      clear hfin g_2 gk_2 gM_2
      go_wp2
      refine ⟨⟨k + 1, by omega, by go_num, int_val (by have := HK.out; omega), HX.out.1, HX.out.2⟩, by simp [intOf]; omega⟩
    · obtain rfl : k = xs.length := by omega
      have HF := (show Hid (_ ∧ _) from ⟨HO.out, HKB.out⟩)
      clear HO HKB HC
      go_wp2
      go_ret
      exact ⟨rfl, by rw [← mids_all]; exact HF.out.1, HF.out.2⟩

end Go.Proofs.Ytlgnklpaebgnlaa

namespace Go.Proofs.Ytlgnklpaebgnlaa
open Go.RowKit Go.Joins

set_option maxRecDepth 100000

set_option maxHeartbeats 6400000 in
theorem markTable_dt : MkC 36 TableR := by
  rintro vs r X w k ⟨x0, x1, rfl, q0, q1⟩ h h0 hb
  have hat := h.at
  obtain ⟨v0, v1, rfl, a0, a1⟩ := fs2 hat
  obtain ⟨p0, c0, rfl⟩ := a0.form
  obtain ⟨p1, c1, rfl⟩ := a1.form
  rw [show tcnt [.row x0, .row x1] = Dt.cntS x0 + Dt.cntS x1 from by simp [tcnt]; try omega] at hb ⊢
  rw [show tmk [.row x0, .row x1] k = [.row (Dt.mkS x0 (k)), .row (Dt.mkS x1 (k + (Dt.cntS x0 : Int)))] from rfl]
  clear hat a0 a1
  have h := h.dom
  obtain ⟨X', hX'⟩ : ∃ X' : Nat → Prop, X' = fun b => X b ∧ b < w.heap.size := ⟨_, rfl⟩
  rw [← hX'] at h
  have HN : Hid (¬ X' w.heap.size ∧ ∀ b, X' b → X b) := by rw [hX']; exact ⟨fun hx => Nat.lt_irrefl _ hx.2, fun b hx => hx.1⟩
  clear hX'
  obtain ⟨Z0, R0, z0, r0, d0, o0, h⟩ := h
  obtain ⟨Z1, R1, z1, r1, d1, o1, h⟩ := h
  have B0 : Below w.heap.size w (w.alloc (.cells #[.slice p0 x0.length c0, .slice p1 x1.length c1] 34)) := (Below.refl _ w).alloc (Nat.le_refl _) _
  have O0 : (w.alloc (.cells #[.slice p0 x0.length c0, .slice p1 x1.length c1] 34)).heap[w.heap.size]? = some (.cells #[.slice p0 x0.length c0, .slice p1 x1.length c1] 34) := (MapKept.heap_alloc w _).1
  have o0 := Own.up o0 B0
  have o1 := Own.up o1 B0
  have KB0 : KB X' w (w.alloc (.cells #[.slice p0 x0.length c0, .slice p1 x1.length c1] 34)) := KB.of_below B0
  have HS := (show Hid (_ ∧ _ ∧ _ ∧ _ ∧ _) from ⟨O0, KB0, o0, o1, trivial⟩)
  have HT := (show Hid (_ ∧ _ ∧ _ ∧ _ ∧ _ ∧ _ ∧ _) from ⟨z0, r0, d0, z1, r1, d1, h⟩)
  clear B0 O0 KB0 h o0 z0 r0 d0 o1 z1 r1 d1
  go_enter Try.func36, Try.ntmps36
  go_wp2_with fail
  refine (markCodeS_dt _ x0 Z0 _ _ q0 HS.out.2.2.1 (by omega) (by omega)).mono ?_
  rintro e w1 ⟨rfl, n0, kb⟩
  obtain ⟨O0, KB0, o0, o1, -⟩ := HS.out
  obtain ⟨z0, r0, d0, z1, r1, d1, hE⟩ := HT.out
  have hzx : ∀ b, Z0 b → X' b := fun b hb => (z0 b hb)
  have o1 := Own.moved o1 (fun b hb hlt => kb.block b hlt (fun hy => d0 b hy (z1 b hb)))
  have o0 := n0
  clear n0
  have O0 := (kb.block _ (lt_heap O0) (fun hy => HN.out.1 (hzx _ hy))).trans O0
  have KB0 := KB0.trans (kb.more (fun b _ hy => hzx b hy))
  have y1 : w1.cell? ⟨w.heap.size, 1, none⟩ = some (.slice p1 x1.length c1) := by rw [cell_of_block O0]; rfl
  have HU := (show Hid (_ ∧ _ ∧ _ ∧ _ ∧ _) from ⟨O0, KB0, o0, o1, trivial⟩)
  clear HS kb hzx O0 KB0 hE o0 z0 r0 d0 o1 z1 r1 d1
  have HS := HU
  clear HU
  go_wp2_with fail
  refine (markIntS_dt _ x1 Z1 _ _ q1 HS.out.2.2.2.1 (by omega) (by omega)).mono ?_
  rintro e w2 ⟨rfl, n1, kb⟩
  obtain ⟨O0, KB0, o0, o1, -⟩ := HS.out
  obtain ⟨z0, r0, d0, z1, r1, d1, hE⟩ := HT.out
  have hzx : ∀ b, Z1 b → X' b := fun b hb => (r0 b (z1 b hb))
  have o0 := Own.moved o0 (fun b hb hlt => kb.block b hlt (fun hy => d0 b hb (z1 b hy)))
  have o1 := n1
  clear n1
  have O0 := (kb.block _ (lt_heap O0) (fun hy => HN.out.1 (hzx _ hy))).trans O0
  have KB0 := KB0.trans (kb.more (fun b _ hy => hzx b hy))
  clear y1
  have HU := (show Hid (_ ∧ _ ∧ _ ∧ _ ∧ _) from ⟨O0, KB0, o0, o1, trivial⟩)
  clear HS kb hzx O0 KB0 hE o0 z0 r0 d0 o1 z1 r1 d1
  have HS := HU
  clear HU
  go_wp2
  go_ret
  obtain ⟨O0, KB0, o0, o1, -⟩ := HS.out
  obtain ⟨z0, r0, d0, z1, r1, d1, hE⟩ := HT.out
  have hfin : OFs _ [.slice p0 x0.length c0, .slice p1 x1.length c1] [.row (Dt.mkS x0 (k)), .row (Dt.mkS x1 (k + (Dt.cntS x0 : Int)))] X' := ⟨Z0, R0, z0, r0, d0, o0, ⟨Z1, R1, z1, r1, d1, o1, hE⟩⟩
  exact ⟨int_ret (by omega), hfin.mono HN.out.2, KB0.more (fun b _ hb => HN.out.2 b hb)⟩

end Go.Proofs.Ytlgnklpaebgnlaa

namespace Go.Proofs.Ytlgnklpaebgnlaa
open Go.RowKit Go.Joins

set_option maxRecDepth 100000

set_option maxHeartbeats 12800000 in
theorem markCellS_dt : MkSl 37 CellR := by
  intro v xs X w k0 hP h h0 hb
  rw [cntS_eq] at hb ⊢
  have hL := preC_le xs
  have hl := h.at.len
  unfold maxLen at hl
  obtain ⟨a, cap, rfl⟩ := h.form
  have HC : Hid (AllR CellR xs) := hP
  have HO : Hid (Own w (.slice a xs.length cap) (.row (mids xs k0 0)) X) := h
  clear h hP
  go_enter Try.func37, Try.ntmps37
  go_wp2
  go_loopw [1, 5] (fun kv i wr => ∃ j : Nat, j ≤ xs.length ∧ i = .int .i64 j ∧ kv = .int .i64 (k0 + (preC xs j : Int)) ∧ Hid (Own wr (.slice a xs.length cap) (.row (mids xs k0 j)) X) ∧ Hid (KB X w wr)) (fun _ i _ => xs.length - (intOf i).toNat)
  case atStart => exact ⟨0, Nat.zero_le _, rfl, by simp [preC], HO, KB.refl _ _⟩
  case round =>
    clear HO
    obtain ⟨k, hk, rfl, rfl, HO, HKB⟩ := hrel
    by_cases hkl : k < xs.length
    · have he := List.getElem?_eq_getElem hkl
      have hps := preC_succ he
      have hpk := hL (k + 1)
      generalize xs[k] = r at *
      obtain ⟨z0, z1, z2, x3, rfl, q3⟩ := HC.out k r he
      have hsh := mids_succ k0 he
      have hM := (mids_later xs k0 k k (Nat.le_refl _)).trans he
      have hkM : k < (mids xs k0 k).length := by rw [mids_len]; exact hkl
      rw [show Dt.cntR [.int z0, .int z1, .int z2, .row x3] = 1 + 1 + 1 + Dt.cntS x3 from by simp [Dt.cntR, Dt.cnt]; try omega] at hps
      obtain ⟨K, hK⟩ : ∃ K : Int, K = k0 + (preC xs k : Int) := ⟨_, rfl⟩
      rw [← hK] at hsh ⊢
      have hKb : 0 ≤ K ∧ K + ((1 + 1 + 1 + Dt.cntS x3 : Nat) : Int) ≤ 100000000 := by omega
      have hO := HO.out
      have hKB := HKB.out
      obtain ⟨M, hMe⟩ : ∃ M, M = mids xs k0 k := ⟨_, rfl⟩
      rw [← hMe] at hsh hM hO hkM
      have hfin : ∀ W : World, Own W (.slice a xs.length cap) (.row (M.set k [.int (K), .int (K + 1), .int (K + 1 + 1), .row (Dt.mkS x3 (K + 1 + 1 + 1))])) X → Own W (.slice a xs.length cap) (.row (mids xs k0 (k + 1))) X := fun W hW => by rw [hsh]; exact hW
      have HK : Hid (K = k0 + (preC xs k : Int)) := hK
      have hlt' : ((k : Nat) : Int) < ((xs.length : Nat) : Int) := by omega
      clear HO HKB hK hMe hsh HC he
      obtain ⟨g0, hg0, hX0, cur, te, hblk⟩ := Own.head hO hM
      obtain rfl := hg0
      have hXg := hX0
      clear hX0
      obtain ⟨u0, Y0, c0', f0', o0, -, -, -⟩ := Own.slotAt hO hM (j := 0) rfl
      have c0 : wr.cell? ⟨g0, k * 4, none⟩ = some u0 := c0'
      have f0 : wr.frozen? ⟨g0, k * 4, none⟩ = false := f0'
      clear c0' f0' o0
      obtain ⟨u1, Y1, c1', f1', o1, -, -, -⟩ := Own.slotAt hO hM (j := 1) rfl
      have c1 : wr.cell? ⟨g0, k * 4 + 1, none⟩ = some u1 := c1'
      have f1 : wr.frozen? ⟨g0, k * 4 + 1, none⟩ = false := f1'
      clear c1' f1' o1
      obtain ⟨u2, Y2, c2', f2', o2, -, -, -⟩ := Own.slotAt hO hM (j := 2) rfl
      have c2 : wr.cell? ⟨g0, k * 4 + 2, none⟩ = some u2 := c2'
      have f2 : wr.frozen? ⟨g0, k * 4 + 2, none⟩ = false := f2'
      clear c2' f2' o2
      obtain ⟨u3, Y3, c3', f3', o3, -, -, -⟩ := Own.slotAt hO hM (j := 3) rfl
      have c3 : wr.cell? ⟨g0, k * 4 + 3, none⟩ = some u3 := c3'
      have f3 : wr.frozen? ⟨g0, k * 4 + 3, none⟩ = false := f3'
      obtain ⟨s3, t3, rfl⟩ := o3.form
      clear c3' f3' o3
      obtain ⟨_, _, -, -, -, -, pt, -⟩ := Own.slotAt hO hM (j := 0) rfl
      have h1 : Own (wr.setCell ⟨g0, k * 4, none⟩ (.int .i64 (K))) (.slice (some ⟨g0, 0, none⟩) xs.length cap) (.row (M.set k [.int (K), .int z1, .int z2, .row x3])) X := by have := pt (.int .i64 (K)) (.int (K)) (fun _ => .int _ ⟨by omega, by omega⟩ _); exact this
      have hM1 : (M.set k [.int (K), .int z1, .int z2, .row x3])[k]? = some [.int (K), .int z1, .int z2, .row x3] := List.getElem?_set_self hkM
      have kb1 : KB X w (wr.setCell ⟨g0, k * 4, none⟩ (.int .i64 (K))) := hKB.setCell (p := ⟨g0, k * 4, none⟩) hXg _
      obtain ⟨_, _, -, -, -, -, pt, -⟩ := Own.slotAt h1 hM1 (j := 1) rfl
      have h2 : Own ((wr.setCell ⟨g0, k * 4, none⟩ (.int .i64 (K))).setCell ⟨g0, k * 4 + 1, none⟩ (.int .i64 (K + 1))) (.slice (some ⟨g0, 0, none⟩) xs.length cap) (.row (M.set k [.int (K), .int (K + 1), .int z2, .row x3])) X := by have := pt (.int .i64 (K + 1)) (.int (K + 1)) (fun _ => .int _ ⟨by omega, by omega⟩ _); rw [List.set_set] at this; exact this
      have hM2 : (M.set k [.int (K), .int (K + 1), .int z2, .row x3])[k]? = some [.int (K), .int (K + 1), .int z2, .row x3] := List.getElem?_set_self hkM
      have kb2 : KB X w ((wr.setCell ⟨g0, k * 4, none⟩ (.int .i64 (K))).setCell ⟨g0, k * 4 + 1, none⟩ (.int .i64 (K + 1))) := kb1.setCell (p := ⟨g0, k * 4 + 1, none⟩) hXg _
      obtain ⟨_, _, -, -, -, -, pt, -⟩ := Own.slotAt h2 hM2 (j := 2) rfl
      have h3 : Own (((wr.setCell ⟨g0, k * 4, none⟩ (.int .i64 (K))).setCell ⟨g0, k * 4 + 1, none⟩ (.int .i64 (K + 1))).setCell ⟨g0, k * 4 + 2, none⟩ (.int .i64 (K + 1 + 1))) (.slice (some ⟨g0, 0, none⟩) xs.length cap) (.row (M.set k [.int (K), .int (K + 1), .int (K + 1 + 1), .row x3])) X := by have := pt (.int .i64 (K + 1 + 1)) (.int (K + 1 + 1)) (fun _ => .int _ ⟨by omega, by omega⟩ _); rw [List.set_set] at this; exact this
      have hM3 : (M.set k [.int (K), .int (K + 1), .int (K + 1 + 1), .row x3])[k]? = some [.int (K), .int (K + 1), .int (K + 1 + 1), .row x3] := List.getElem?_set_self hkM
      have kb3 : KB X w (((wr.setCell ⟨g0, k * 4, none⟩ (.int .i64 (K))).setCell ⟨g0, k * 4 + 1, none⟩ (.int .i64 (K + 1))).setCell ⟨g0, k * 4 + 2, none⟩ (.int .i64 (K + 1 + 1))) := kb2.setCell (p := ⟨g0, k * 4 + 2, none⟩) hXg _
      obtain ⟨u', Y', c', -, o', ys', -, kd⟩ := Own.slotAt h3 hM3 (j := 3) rfl
      obtain rfl : u' = .slice s3 x3.length t3 := by
        have e1 := c3
        rw [cell_of_block hblk] at e1
        have e2 : (((wr.setCell ⟨g0, k * 4, none⟩ (.int .i64 (K))).setCell ⟨g0, k * 4 + 1, none⟩ (.int .i64 (K + 1))).setCell ⟨g0, k * 4 + 2, none⟩ (.int .i64 (K + 1 + 1))).cell? ⟨g0, k * 4 + 3, none⟩ = some u' := c'
        rw [cell_of_block (block_setCell (block_setCell (block_setCell hblk _) _) _), Array.getElem?_setIfInBounds_ne (by omega), Array.getElem?_setIfInBounds_ne (by omega), Array.getElem?_setIfInBounds_ne (by omega), e1] at e2
        exact (Option.some.inj e2).symm
      have HX1 := (show Hid (_ ∧ _ ∧ _ ∧ _) from ⟨o', ys', kd, kb3⟩)
      clear c' o' ys' kd hblk pt h1 hM1 kb1 h2 hM2 kb2 h3 hM3 kb3 hO hKB
      go_wp2_with fail
      refine (markIntS_dt _ x3 Y' _ _ q3 HX1.out.1 (by omega) (by omega)).mono ?_
      rintro e w1 ⟨rfl, o1, kb1⟩
      have g_1 : Own w1 (.slice (some ⟨g0, 0, none⟩) xs.length cap) (.row (M.set k [.int (K), .int (K + 1), .int (K + 1 + 1), .row (Dt.mkS x3 (K + 1 + 1 + 1))])) X := by have := HX1.out.2.2.1 w1 (.row (Dt.mkS x3 (K + 1 + 1 + 1))) kb1 o1; rw [List.set_set] at this; exact this
      have gM_1 : (M.set k [.int (K), .int (K + 1), .int (K + 1 + 1), .row (Dt.mkS x3 (K + 1 + 1 + 1))])[k]? = some [.int (K), .int (K + 1), .int (K + 1 + 1), .row (Dt.mkS x3 (K + 1 + 1 + 1))] := List.getElem?_set_self hkM
      have gk_1 : KB X w w1 := HX1.out.2.2.2.trans (kb1.more (fun b _ hy => (HX1.out.2.1 b hy).1))
      clear o1 kb1 HX1 c0 f0 c1 f1 c2 f2 c3 f3
      have HX := (show Hid (_ ∧ _) from ⟨hfin _ g_1, gk_1⟩)
      clear hfin g_1 gk_1 gM_1
      go_wp2
      refine ⟨⟨k + 1, by omega, by go_num, int_val (by have := HK.out; omega), HX.out.1, HX.out.2⟩, by simp [intOf]; omega⟩
    · obtain rfl : k = xs.length := by omega
      have HF := (show Hid (_ ∧ _) from ⟨HO.out, HKB.out⟩)
      clear HO HKB HC
      go_wp2
      go_ret
      exact ⟨rfl, by rw [← mids_all]; exact HF.out.1, HF.out.2⟩

end Go.Proofs.Ytlgnklpaebgnlaa

namespace Go.Proofs.Ytlgnklpaebgnlaa
open Go.RowKit Go.Joins

set_option maxRecDepth 100000

set_option maxHeartbeats 12800000 in
theorem markFrameS_dt : MkSl 79 FrameR := by
  intro v xs X w k0 hP h h0 hb
  rw [cntS_eq] at hb ⊢
  have hL := preC_le xs
  have hl := h.at.len
  unfold maxLen at hl
  obtain ⟨a, cap, rfl⟩ := h.form
  have HC : Hid (AllR FrameR xs) := hP
  have HO : Hid (Own w (.slice a xs.length cap) (.row (mids xs k0 0)) X) := h
  clear h hP
  go_enter Try.func79, Try.ntmps79
  go_wp2
  go_loopw [1, 5] (fun kv i wr => ∃ j : Nat, j ≤ xs.length ∧ i = .int .i64 j ∧ kv = .int .i64 (k0 + (preC xs j : Int)) ∧ Hid (Own wr (.slice a xs.length cap) (.row (mids xs k0 j)) X) ∧ Hid (KB X w wr)) (fun _ i _ => xs.length - (intOf i).toNat)
  case atStart => exact ⟨0, Nat.zero_le _, rfl, by simp [preC], HO, KB.refl _ _⟩
  case round =>
    clear HO
    obtain ⟨k, hk, rfl, rfl, HO, HKB⟩ := hrel
    by_cases hkl : k < xs.length
    · have he := List.getElem?_eq_getElem hkl
      have hps := preC_succ he
      have hpk := hL (k + 1)
      generalize xs[k] = r at *
      obtain ⟨z0, z1, z2, x3, rfl, q3⟩ := HC.out k r he
      have hsh := mids_succ k0 he
      have hM := (mids_later xs k0 k k (Nat.le_refl _)).trans he
      have hkM : k < (mids xs k0 k).length := by rw [mids_len]; exact hkl
      rw [show Dt.cntR [.int z0, .int z1, .int z2, .row x3] = 1 + 1 + 1 + Dt.cntS x3 from by simp [Dt.cntR, Dt.cnt]; try omega] at hps
      obtain ⟨K, hK⟩ : ∃ K : Int, K = k0 + (preC xs k : Int) := ⟨_, rfl⟩
      rw [← hK] at hsh ⊢
      have hKb : 0 ≤ K ∧ K + ((1 + 1 + 1 + Dt.cntS x3 : Nat) : Int) ≤ 100000000 := by omega
      have hO := HO.out
      have hKB := HKB.out
      obtain ⟨M, hMe⟩ : ∃ M, M = mids xs k0 k := ⟨_, rfl⟩
      rw [← hMe] at hsh hM hO hkM
      have hfin : ∀ W : World, Own W (.slice a xs.length cap) (.row (M.set k [.int (K), .int (K + 1), .int (K + 1 + 1), .row (Dt.mkS x3 (K + 1 + 1 + 1))])) X → Own W (.slice a xs.length cap) (.row (mids xs k0 (k + 1))) X := fun W hW => by rw [hsh]; exact hW
      have HK : Hid (K = k0 + (preC xs k : Int)) := hK
      have hlt' : ((k : Nat) : Int) < ((xs.length : Nat) : Int) := by omega
      clear HO HKB hK hMe hsh HC he
      obtain ⟨g0, hg0, hX0, cur, te, hblk⟩ := Own.head hO hM
      obtain rfl := hg0
      have hXg := hX0
      clear hX0
      obtain ⟨u0, Y0, c0', f0', o0, -, -, -⟩ := Own.slotAt hO hM (j := 0) rfl
      have c0 : wr.cell? ⟨g0, k * 4, none⟩ = some u0 := c0'
      have f0 : wr.frozen? ⟨g0, k * 4, none⟩ = false := f0'
      clear c0' f0' o0
      obtain ⟨u1, Y1, c1', f1', o1, -, -, -⟩ := Own.slotAt hO hM (j := 1) rfl
      have c1 : wr.cell? ⟨g0, k * 4 + 1, none⟩ = some u1 := c1'
      have f1 : wr.frozen? ⟨g0, k * 4 + 1, none⟩ = false := f1'
      clear c1' f1' o1
      obtain ⟨u2, Y2, c2', f2', o2, -, -, -⟩ := Own.slotAt hO hM (j := 2) rfl
      have c2 : wr.cell? ⟨g0, k * 4 + 2, none⟩ = some u2 := c2'
      have f2 : wr.frozen? ⟨g0, k * 4 + 2, none⟩ = false := f2'
      clear c2' f2' o2
      obtain ⟨u3, Y3, c3', f3', o3, -, -, -⟩ := Own.slotAt hO hM (j := 3) rfl
      have c3 : wr.cell? ⟨g0, k * 4 + 3, none⟩ = some u3 := c3'
      have f3 : wr.frozen? ⟨g0, k * 4 + 3, none⟩ = false := f3'
      obtain ⟨s3, t3, rfl⟩ := o3.form
      clear c3' f3' o3
      obtain ⟨_, _, -, -, -, -, pt, -⟩ := Own.slotAt hO hM (j := 0) rfl
      have h1 : Own (wr.setCell ⟨g0, k * 4, none⟩ (.int .i64 (K))) (.slice (some ⟨g0, 0, none⟩) xs.length cap) (.row (M.set k [.int (K), .int z1, .int z2, .row x3])) X := by have := pt (.int .i64 (K)) (.int (K)) (fun _ => .int _ ⟨by omega, by omega⟩ _); exact this
      have hM1 : (M.set k [.int (K), .int z1, .int z2, .row x3])[k]? = some [.int (K), .int z1, .int z2, .row x3] := List.getElem?_set_self hkM
      have kb1 : KB X w (wr.setCell ⟨g0, k * 4, none⟩ (.int .i64 (K))) := hKB.setCell (p := ⟨g0, k * 4, none⟩) hXg _
      obtain ⟨_, _, -, -, -, -, pt, -⟩ := Own.slotAt h1 hM1 (j := 1) rfl
      have h2 : Own ((wr.setCell ⟨g0, k * 4, none⟩ (.int .i64 (K))).setCell ⟨g0, k * 4 + 1, none⟩ (.int .i64 (K + 1))) (.slice (some ⟨g0, 0, none⟩) xs.length cap) (.row (M.set k [.int (K), .int (K + 1), .int z2, .row x3])) X := by have := pt (.int .i64 (K + 1)) (.int (K + 1)) (fun _ => .int _ ⟨by omega, by omega⟩ _); rw [List.set_set] at this; exact this
      have hM2 : (M.set k [.int (K), .int (K + 1), .int z2, .row x3])[k]? = some [.int (K), .int (K + 1), .int z2, .row x3] := List.getElem?_set_self hkM
      have kb2 : KB X w ((wr.setCell ⟨g0, k * 4, none⟩ (.int .i64 (K))).setCell ⟨g0, k * 4 + 1, none⟩ (.int .i64 (K + 1))) := kb1.setCell (p := ⟨g0, k * 4 + 1, none⟩) hXg _
      obtain ⟨_, _, -, -, -, -, pt, -⟩ := Own.slotAt h2 hM2 (j := 2) rfl
      have h3 : Own (((wr.setCell ⟨g0, k * 4, none⟩ (.int .i64 (K))).setCell ⟨g0, k * 4 + 1, none⟩ (.int .i64 (K + 1))).setCell ⟨g0, k * 4 + 2, none⟩ (.int .i64 (K + 1 + 1))) (.slice (some ⟨g0, 0, none⟩) xs.length cap) (.row (M.set k [.int (K), .int (K + 1), .int (K + 1 + 1), .row x3])) X := by have := pt (.int .i64 (K + 1 + 1)) (.int (K + 1 + 1)) (fun _ => .int _ ⟨by omega, by omega⟩ _); rw [List.set_set] at this; exact this
      have hM3 : (M.set k [.int (K), .int (K + 1), .int (K + 1 + 1), .row x3])[k]? = some [.int (K), .int (K + 1), .int (K + 1 + 1), .row x3] := List.getElem?_set_self hkM
      have kb3 : KB X w (((wr.setCell ⟨g0, k * 4, none⟩ (.int .i64 (K))).setCell ⟨g0, k * 4 + 1, none⟩ (.int .i64 (K + 1))).setCell ⟨g0, k * 4 + 2, none⟩ (.int .i64 (K + 1 + 1))) := kb2.setCell (p := ⟨g0, k * 4 + 2, none⟩) hXg _
      obtain ⟨u', Y', c', -, o', ys', -, kd⟩ := Own.slotAt h3 hM3 (j := 3) rfl
      obtain rfl : u' = .slice s3 x3.length t3 := by
        have e1 := c3
        rw [cell_of_block hblk] at e1
        have e2 : (((wr.setCell ⟨g0, k * 4, none⟩ (.int .i64 (K))).setCell ⟨g0, k * 4 + 1, none⟩ (.int .i64 (K + 1))).setCell ⟨g0, k * 4 + 2, none⟩ (.int .i64 (K + 1 + 1))).cell? ⟨g0, k * 4 + 3, none⟩ = some u' := c'
        rw [cell_of_block (block_setCell (block_setCell (block_setCell hblk _) _) _), Array.getElem?_setIfInBounds_ne (by omega), Array.getElem?_setIfInBounds_ne (by omega), Array.getElem?_setIfInBounds_ne (by omega), e1] at e2
        exact (Option.some.inj e2).symm
      have HX1 := (show Hid (_ ∧ _ ∧ _ ∧ _) from ⟨o', ys', kd, kb3⟩)
      clear c' o' ys' kd hblk pt h1 hM1 kb1 h2 hM2 kb2 h3 hM3 kb3 hO hKB
      go_wp2_with fail
      refine (markIntS_dt _ x3 Y' _ _ q3 HX1.out.1 (by omega) (by omega)).mono ?_
      rintro e w1 ⟨rfl, o1, kb1⟩
      have g_1 : Own w1 (.slice (some ⟨g0, 0, none⟩) xs.length cap) (.row (M.set k [.int (K), .int (K + 1), .int (K + 1 + 1), .row (Dt.mkS x3 (K + 1 + 1 + 1))])) X := by have := HX1.out.2.2.1 w1 (.row (Dt.mkS x3 (K + 1 + 1 + 1))) kb1 o1; rw [List.set_set] at this; exact this
      have gM_1 : (M.set k [.int (K), .int (K + 1), .int (K + 1 + 1), .row (Dt.mkS x3 (K + 1 + 1 + 1))])[k]? = some [.int (K), .int (K + 1), .int (K + 1 + 1), .row (Dt.mkS x3 (K + 1 + 1 + 1))] := List.getElem?_set_self hkM
      have gk_1 : KB X w w1 := HX1.out.2.2.2.trans (kb1.more (fun b _ hy => (HX1.out.2.1 b hy).1))
      clear o1 kb1 HX1 c0 f0 c1 f1 c2 f2 c3 f3
      have HX := (show Hid (_ ∧ _) from ⟨hfin _ g_1, gk_1⟩)
      clear hfin g_1 gk_1 gM_1
      go_wp2
      refine ⟨⟨k + 1, by omega, by go_num, int_val (by have := HK.out; omega), HX.out.1, HX.out.2⟩, by simp [intOf]; omega⟩
    · obtain rfl : k = xs.length := by omega
      have HF := (show Hid (_ ∧ _) from ⟨HO.out, HKB.out⟩)
      clear HO HKB HC
      go_wp2
      go_ret
      exact ⟨rfl, by rw [← mids_all]; exact HF.out.1, HF.out.2⟩

end Go.Proofs.Ytlgnklpaebgnlaa

namespace Go.Proofs.Ytlgnklpaebgnlaa
open Go.RowKit Go.Joins

set_option maxRecDepth 100000

set_option maxHeartbeats 12800000 in
theorem markThreadS_dt : MkSl 38 ThreadR := by
  intro v xs X w k0 hP h h0 hb
  rw [cntS_eq] at hb ⊢
  have hL := preC_le xs
  have hl := h.at.len
  unfold maxLen at hl
  obtain ⟨a, cap, rfl⟩ := h.form
  have HC : Hid (AllR ThreadR xs) := hP
  have HO : Hid (Own w (.slice a xs.length cap) (.row (mids xs k0 0)) X) := h
  clear h hP
  go_enter Try.func38, Try.ntmps38
  go_wp2
  go_loopw [1, 5] (fun kv i wr => ∃ j : Nat, j ≤ xs.length ∧ i = .int .i64 j ∧ kv = .int .i64 (k0 + (preC xs j : Int)) ∧ Hid (Own wr (.slice a xs.length cap) (.row (mids xs k0 j)) X) ∧ Hid (KB X w wr)) (fun _ i _ => xs.length - (intOf i).toNat)
  case atStart => exact ⟨0, Nat.zero_le _, rfl, by simp [preC], HO, KB.refl _ _⟩
  case round =>
    clear HO
    obtain ⟨k, hk, rfl, rfl, HO, HKB⟩ := hrel
    by_cases hkl : k < xs.length
    · have he := List.getElem?_eq_getElem hkl
      have hps := preC_succ he
      have hpk := hL (k + 1)
      generalize xs[k] = r at *
      obtain ⟨z0, z1, x2, x3, b4, rfl, q2, q3⟩ := HC.out k r he
      have hsh := mids_succ k0 he
      have hM := (mids_later xs k0 k k (Nat.le_refl _)).trans he
      have hkM : k < (mids xs k0 k).length := by rw [mids_len]; exact hkl
      rw [show Dt.cntR [.int z0, .int z1, .row x2, .row x3, .str b4] = 1 + 1 + Dt.cntS x2 + Dt.cntS x3 + 1 from by simp [Dt.cntR, Dt.cnt]; try omega] at hps
      obtain ⟨K, hK⟩ : ∃ K : Int, K = k0 + (preC xs k : Int) := ⟨_, rfl⟩
      rw [← hK] at hsh ⊢
      have hKb : 0 ≤ K ∧ K + ((1 + 1 + Dt.cntS x2 + Dt.cntS x3 + 1 : Nat) : Int) ≤ 100000000 := by omega
      have hO := HO.out
      have hKB := HKB.out
      obtain ⟨M, hMe⟩ : ∃ M, M = mids xs k0 k := ⟨_, rfl⟩
      rw [← hMe] at hsh hM hO hkM
      have hfin : ∀ W : World, Own W (.slice a xs.length cap) (.row (M.set k [.int (K), .int (K + 1), .row (Dt.mkS x2 (K + 1 + 1)), .row (Dt.mkS x3 (K + 1 + 1 + (Dt.cntS x2 : Int))), .str (markT (K + 1 + 1 + (Dt.cntS x2 : Int) + (Dt.cntS x3 : Int)))])) X → Own W (.slice a xs.length cap) (.row (mids xs k0 (k + 1))) X := fun W hW => by rw [hsh]; exact hW
      have HK : Hid (K = k0 + (preC xs k : Int)) := hK
      have hlt' : ((k : Nat) : Int) < ((xs.length : Nat) : Int) := by omega
      clear HO HKB hK hMe hsh HC he
      obtain ⟨g0, hg0, hX0, cur, te, hblk⟩ := Own.head hO hM
      obtain rfl := hg0
      have hXg := hX0
      clear hX0
      obtain ⟨u0, Y0, c0', f0', o0, -, -, -⟩ := Own.slotAt hO hM (j := 0) rfl
      have c0 : wr.cell? ⟨g0, k * 5, none⟩ = some u0 := c0'
      have f0 : wr.frozen? ⟨g0, k * 5, none⟩ = false := f0'
      clear c0' f0' o0
      obtain ⟨u1, Y1, c1', f1', o1, -, -, -⟩ := Own.slotAt hO hM (j := 1) rfl
      have c1 : wr.cell? ⟨g0, k * 5 + 1, none⟩ = some u1 := c1'
      have f1 : wr.frozen? ⟨g0, k * 5 + 1, none⟩ = false := f1'
      clear c1' f1' o1
      obtain ⟨u2, Y2, c2', f2', o2, -, -, -⟩ := Own.slotAt hO hM (j := 2) rfl
      have c2 : wr.cell? ⟨g0, k * 5 + 2, none⟩ = some u2 := c2'
      have f2 : wr.frozen? ⟨g0, k * 5 + 2, none⟩ = false := f2'
      obtain ⟨s2, t2, rfl⟩ := o2.form
      clear c2' f2' o2
      obtain ⟨_, _, -, -, -, -, pt, -⟩ := Own.slotAt hO hM (j := 0) rfl
      have h1 : Own (wr.setCell ⟨g0, k * 5, none⟩ (.int .i64 (K))) (.slice (some ⟨g0, 0, none⟩) xs.length cap) (.row (M.set k [.int (K), .int z1, .row x2, .row x3, .str b4])) X := by have := pt (.int .i64 (K)) (.int (K)) (fun _ => .int _ ⟨by omega, by omega⟩ _); exact this
      have hM1 : (M.set k [.int (K), .int z1, .row x2, .row x3, .str b4])[k]? = some [.int (K), .int z1, .row x2, .row x3, .str b4] := List.getElem?_set_self hkM
      have kb1 : KB X w (wr.setCell ⟨g0, k * 5, none⟩ (.int .i64 (K))) := hKB.setCell (p := ⟨g0, k * 5, none⟩) hXg _
      obtain ⟨_, _, -, -, -, -, pt, -⟩ := Own.slotAt h1 hM1 (j := 1) rfl
      have h2 : Own ((wr.setCell ⟨g0, k * 5, none⟩ (.int .i64 (K))).setCell ⟨g0, k * 5 + 1, none⟩ (.int .i64 (K + 1))) (.slice (some ⟨g0, 0, none⟩) xs.length cap) (.row (M.set k [.int (K), .int (K + 1), .row x2, .row x3, .str b4])) X := by have := pt (.int .i64 (K + 1)) (.int (K + 1)) (fun _ => .int _ ⟨by omega, by omega⟩ _); rw [List.set_set] at this; exact this
      have hM2 : (M.set k [.int (K), .int (K + 1), .row x2, .row x3, .str b4])[k]? = some [.int (K), .int (K + 1), .row x2, .row x3, .str b4] := List.getElem?_set_self hkM
      have kb2 : KB X w ((wr.setCell ⟨g0, k * 5, none⟩ (.int .i64 (K))).setCell ⟨g0, k * 5 + 1, none⟩ (.int .i64 (K + 1))) := kb1.setCell (p := ⟨g0, k * 5 + 1, none⟩) hXg _
      obtain ⟨u', Y', c', -, o', ys', -, kd⟩ := Own.slotAt h2 hM2 (j := 2) rfl
      obtain rfl : u' = .slice s2 x2.length t2 := by
        have e1 := c2
        rw [cell_of_block hblk] at e1
        have e2 : ((wr.setCell ⟨g0, k * 5, none⟩ (.int .i64 (K))).setCell ⟨g0, k * 5 + 1, none⟩ (.int .i64 (K + 1))).cell? ⟨g0, k * 5 + 2, none⟩ = some u' := c'
        rw [cell_of_block (block_setCell (block_setCell hblk _) _), Array.getElem?_setIfInBounds_ne (by omega), Array.getElem?_setIfInBounds_ne (by omega), e1] at e2
        exact (Option.some.inj e2).symm
      have HX1 := (show Hid (_ ∧ _ ∧ _ ∧ _) from ⟨o', ys', kd, kb2⟩)
      clear c' o' ys' kd hblk pt h1 hM1 kb1 h2 hM2 kb2 hO hKB
      go_wp2_with fail
      refine (markIntS_dt _ x2 Y' _ _ q2 HX1.out.1 (by omega) (by omega)).mono ?_
      rintro e w1 ⟨rfl, o1, kb1⟩
      have g_1 : Own w1 (.slice (some ⟨g0, 0, none⟩) xs.length cap) (.row (M.set k [.int (K), .int (K + 1), .row (Dt.mkS x2 (K + 1 + 1)), .row x3, .str b4])) X := by have := HX1.out.2.2.1 w1 (.row (Dt.mkS x2 (K + 1 + 1))) kb1 o1; rw [List.set_set] at this; exact this
      have gM_1 : (M.set k [.int (K), .int (K + 1), .row (Dt.mkS x2 (K + 1 + 1)), .row x3, .str b4])[k]? = some [.int (K), .int (K + 1), .row (Dt.mkS x2 (K + 1 + 1)), .row x3, .str b4] := List.getElem?_set_self hkM
      have gk_1 : KB X w w1 := HX1.out.2.2.2.trans (kb1.more (fun b _ hy => (HX1.out.2.1 b hy).1))
      clear o1 kb1 HX1 c0 f0 c1 f1 c2 f2
      obtain ⟨g1, hg1, hX1, cur, te, hblk⟩ := Own.head g_1 gM_1
      obtain rfl : g0 = g1 := by simpa using hg1
      clear hX1 hg1
      obtain ⟨u3, Y3, c3', f3', o3, -, -, -⟩ := Own.slotAt g_1 gM_1 (j := 3) rfl
      have c3 : w1.cell? ⟨g0, k * 5 + 3, none⟩ = some u3 := c3'
      have f3 : w1.frozen? ⟨g0, k * 5 + 3, none⟩ = false := f3'
      obtain ⟨s3, t3, rfl⟩ := o3.form
      clear c3' f3' o3
      obtain ⟨u', Y', c', -, o', ys', -, kd⟩ := Own.slotAt g_1 gM_1 (j := 3) rfl
      obtain rfl : u' = .slice s3 x3.length t3 := Option.some.inj ((show w1.cell? ⟨g0, k * 5 + 3, none⟩ = some u' from (c')).symm.trans c3)
      have HX2 := (show Hid (_ ∧ _ ∧ _ ∧ _) from ⟨o', ys', kd, gk_1⟩)
      clear c' o' ys' kd hblk  g_1 gk_1 gM_1
      go_wp2_with fail
      refine (markFrameS_dt _ x3 Y' _ _ q3 HX2.out.1 (by omega) (by omega)).mono ?_
      rintro e w2 ⟨rfl, o1, kb1⟩
      have g_2 : Own w2 (.slice (some ⟨g0, 0, none⟩) xs.length cap) (.row (M.set k [.int (K), .int (K + 1), .row (Dt.mkS x2 (K + 1 + 1)), .row (Dt.mkS x3 (K + 1 + 1 + (Dt.cntS x2 : Int))), .str b4])) X := by have := HX2.out.2.2.1 w2 (.row (Dt.mkS x3 (K + 1 + 1 + (Dt.cntS x2 : Int)))) kb1 o1; rw [List.set_set] at this; exact this
      have gM_2 : (M.set k [.int (K), .int (K + 1), .row (Dt.mkS x2 (K + 1 + 1)), .row (Dt.mkS x3 (K + 1 + 1 + (Dt.cntS x2 : Int))), .str b4])[k]? = some [.int (K), .int (K + 1), .row (Dt.mkS x2 (K + 1 + 1)), .row (Dt.mkS x3 (K + 1 + 1 + (Dt.cntS x2 : Int))), .str b4] := List.getElem?_set_self hkM
      have gk_2 : KB X w w2 := HX2.out.2.2.2.trans (kb1.more (fun b _ hy => (HX2.out.2.1 b hy).1))
      clear o1 kb1 HX2 c3 f3
      obtain ⟨g2, hg2, hX2, cur, te, hblk⟩ := Own.head g_2 gM_2
      obtain rfl : g0 = g2 := by simpa using hg2
      clear hX2 hg2
      have HX3 := (show Hid (_ ∧ _) from ⟨g_2, gk_2⟩)
      clear hblk  g_2 gk_2 gM_2
      go_wp2_with fail
      refine (markText_any _ _ (by omega)).mono ?_
      rintro e w3 ⟨rfl, b1⟩
      have g_3 := HX3.out.1.up b1
      have gM_3 : (M.set k [.int (K), .int (K + 1), .row (Dt.mkS x2 (K + 1 + 1)), .row (Dt.mkS x3 (K + 1 + 1 + (Dt.cntS x2 : Int))), .str b4])[k]? = some [.int (K), .int (K + 1), .row (Dt.mkS x2 (K + 1 + 1)), .row (Dt.mkS x3 (K + 1 + 1 + (Dt.cntS x2 : Int))), .str b4] := List.getElem?_set_self hkM
      have gk_3 : KB X w w3 := HX3.out.2.trans (KB.of_below b1)
      clear b1 HX3 
      obtain ⟨g3, hg3, hX3, cur, te, hblk⟩ := Own.head g_3 gM_3
      obtain rfl : g0 = g3 := by simpa using hg3
      clear hX3 hg3
      obtain ⟨u4, Y4, c4', f4', o4, -, -, -⟩ := Own.slotAt g_3 gM_3 (j := 4) rfl
      have c4 : w3.cell? ⟨g0, k * 5 + 4, none⟩ = some u4 := c4'
      have f4 : w3.frozen? ⟨g0, k * 5 + 4, none⟩ = false := f4'
      clear c4' f4' o4
      obtain ⟨_, _, -, -, -, -, pt, -⟩ := Own.slotAt g_3 gM_3 (j := 4) rfl
      have h3 : Own (w3.setCell ⟨g0, k * 5 + 4, none⟩ (.string (markT (K + 1 + 1 + (Dt.cntS x2 : Int) + (Dt.cntS x3 : Int))))) (.slice (some ⟨g0, 0, none⟩) xs.length cap) (.row (M.set k [.int (K), .int (K + 1), .row (Dt.mkS x2 (K + 1 + 1)), .row (Dt.mkS x3 (K + 1 + 1 + (Dt.cntS x2 : Int))), .str (markT (K + 1 + 1 + (Dt.cntS x2 : Int) + (Dt.cntS x3 : Int)))])) X := by have := pt (.string (markT (K + 1 + 1 + (Dt.cntS x2 : Int) + (Dt.cntS x3 : Int)))) (.str (markT (K + 1 + 1 + (Dt.cntS x2 : Int) + (Dt.cntS x3 : Int)))) (fun _ => .str _ (markT_len _ (by omega)) _); rw [List.set_set] at this; exact this
      have hM3 : (M.set k [.int (K), .int (K + 1), .row (Dt.mkS x2 (K + 1 + 1)), .row (Dt.mkS x3 (K + 1 + 1 + (Dt.cntS x2 : Int))), .str (markT (K + 1 + 1 + (Dt.cntS x2 : Int) + (Dt.cntS x3 : Int)))])[k]? = some [.int (K), .int (K + 1), .row (Dt.mkS x2 (K + 1 + 1)), .row (Dt.mkS x3 (K + 1 + 1 + (Dt.cntS x2 : Int))), .str (markT (K + 1 + 1 + (Dt.cntS x2 : Int) + (Dt.cntS x3 : Int)))] := List.getElem?_set_self hkM
      have kb3 : KB X w (w3.setCell ⟨g0, k * 5 + 4, none⟩ (.string (markT (K + 1 + 1 + (Dt.cntS x2 : Int) + (Dt.cntS x3 : Int))))) := gk_3.setCell (p := ⟨g0, k * 5 + 4, none⟩) hXg _
      have HX4 := (show Hid (_ ∧ _) from ⟨hfin _ h3, kb3⟩)
      clear hfin hblk pt h3 hM3 kb3 g_3 gk_3 gM_3
      go_wp2
      refine ⟨⟨k + 1, by omega, by go_num, int_val (by have := HK.out; omega), HX4.out.1, HX4.out.2⟩, by simp [intOf]; omega⟩
    · obtain rfl : k = xs.length := by omega
      have HF := (show Hid (_ ∧ _) from ⟨HO.out, HKB.out⟩)
      clear HO HKB HC
      go_wp2
      go_ret
      exact ⟨rfl, by rw [← mids_all]; exact HF.out.1, HF.out.2⟩

end Go.Proofs.Ytlgnklpaebgnlaa

namespace Go.Proofs.Ytlgnklpaebgnlaa
open Go.RowKit Go.Joins

set_option maxRecDepth 100000

set_option maxHeartbeats 12800000 in
theorem markMsgS_dt : MkSl 40 MsgR := by
  intro v xs X w k0 hP h h0 hb
  rw [cntS_eq] at hb ⊢
  have hL := preC_le xs
  have hl := h.at.len
  unfold maxLen at hl
  obtain ⟨a, cap, rfl⟩ := h.form
  have HC : Hid (AllR MsgR xs) := hP
  have HO : Hid (Own w (.slice a xs.length cap) (.row (mids xs k0 0)) X) := h
  clear h hP
  go_enter Try.func40, Try.ntmps40
  go_wp2
  go_loopw [1, 5] (fun kv i wr => ∃ j : Nat, j ≤ xs.length ∧ i = .int .i64 j ∧ kv = .int .i64 (k0 + (preC xs j : Int)) ∧ Hid (Own wr (.slice a xs.length cap) (.row (mids xs k0 j)) X) ∧ Hid (KB X w wr)) (fun _ i _ => xs.length - (intOf i).toNat)
  case atStart => exact ⟨0, Nat.zero_le _, rfl, by simp [preC], HO, KB.refl _ _⟩
  case round =>
    clear HO
    obtain ⟨k, hk, rfl, rfl, HO, HKB⟩ := hrel
    by_cases hkl : k < xs.length
    · have he := List.getElem?_eq_getElem hkl
      have hps := preC_succ he
      have hpk := hL (k + 1)
      generalize xs[k] = r at *
      obtain ⟨z0, z1, z2, z3, z4, z5, z6, z7, x8, rfl, q8⟩ := HC.out k r he
      have hsh := mids_succ k0 he
      have hM := (mids_later xs k0 k k (Nat.le_refl _)).trans he
      have hkM : k < (mids xs k0 k).length := by rw [mids_len]; exact hkl
      rw [show Dt.cntR [.int z0, .int z1, .int z2, .int z3, .int z4, .int z5, .int z6, .int z7, .row x8] = 1 + 1 + 1 + 1 + 1 + 1 + 1 + 1 + Dt.cntS x8 from by simp [Dt.cntR, Dt.cnt]; try omega] at hps
      obtain ⟨K, hK⟩ : ∃ K : Int, K = k0 + (preC xs k : Int) := ⟨_, rfl⟩
      rw [← hK] at hsh ⊢
      have hKb : 0 ≤ K ∧ K + ((1 + 1 + 1 + 1 + 1 + 1 + 1 + 1 + Dt.cntS x8 : Nat) : Int) ≤ 100000000 := by omega
      have hO := HO.out
      have hKB := HKB.out
      obtain ⟨M, hMe⟩ : ∃ M, M = mids xs k0 k := ⟨_, rfl⟩
      rw [← hMe] at hsh hM hO hkM
      have hfin : ∀ W : World, Own W (.slice a xs.length cap) (.row (M.set k [.int (K), .int (K + 1), .int (K + 1 + 1), .int (K + 1 + 1 + 1), .int (K + 1 + 1 + 1 + 1), .int (K + 1 + 1 + 1 + 1 + 1), .int (K + 1 + 1 + 1 + 1 + 1 + 1), .int (K + 1 + 1 + 1 + 1 + 1 + 1 + 1), .row (Dt.mkS x8 (K + 1 + 1 + 1 + 1 + 1 + 1 + 1 + 1))])) X → Own W (.slice a xs.length cap) (.row (mids xs k0 (k + 1))) X := fun W hW => by rw [hsh]; exact hW
      have HK : Hid (K = k0 + (preC xs k : Int)) := hK
      have hlt' : ((k : Nat) : Int) < ((xs.length : Nat) : Int) := by omega
      clear HO HKB hK hMe hsh HC he
      obtain ⟨g0, hg0, hX0, cur, te, hblk⟩ := Own.head hO hM
      obtain rfl := hg0
      have hXg := hX0
      clear hX0
      obtain ⟨u0, Y0, c0', f0', o0, -, -, -⟩ := Own.slotAt hO hM (j := 0) rfl
      have c0 : wr.cell? ⟨g0, k * 9, none⟩ = some u0 := c0'
      have f0 : wr.frozen? ⟨g0, k * 9, none⟩ = false := f0'
      clear c0' f0' o0
      obtain ⟨u1, Y1, c1', f1', o1, -, -, -⟩ := Own.slotAt hO hM (j := 1) rfl
      have c1 : wr.cell? ⟨g0, k * 9 + 1, none⟩ = some u1 := c1'
      have f1 : wr.frozen? ⟨g0, k * 9 + 1, none⟩ = false := f1'
      clear c1' f1' o1
      obtain ⟨u2, Y2, c2', f2', o2, -, -, -⟩ := Own.slotAt hO hM (j := 2) rfl
      have c2 : wr.cell? ⟨g0, k * 9 + 2, none⟩ = some u2 := c2'
      have f2 : wr.frozen? ⟨g0, k * 9 + 2, none⟩ = false := f2'
      clear c2' f2' o2
      obtain ⟨u3, Y3, c3', f3', o3, -, -, -⟩ := Own.slotAt hO hM (j := 3) rfl
      have c3 : wr.cell? ⟨g0, k * 9 + 3, none⟩ = some u3 := c3'
      have f3 : wr.frozen? ⟨g0, k * 9 + 3, none⟩ = false := f3'
      clear c3' f3' o3
      obtain ⟨u4, Y4, c4', f4', o4, -, -, -⟩ := Own.slotAt hO hM (j := 4) rfl
      have c4 : wr.cell? ⟨g0, k * 9 + 4, none⟩ = some u4 := c4'
      have f4 : wr.frozen? ⟨g0, k * 9 + 4, none⟩ = false := f4'
      clear c4' f4' o4
      obtain ⟨u5, Y5, c5', f5', o5, -, -, -⟩ := Own.slotAt hO hM (j := 5) rfl
      have c5 : wr.cell? ⟨g0, k * 9 + 5, none⟩ = some u5 := c5'
      have f5 : wr.frozen? ⟨g0, k * 9 + 5, none⟩ = false := f5'
      clear c5' f5' o5
      obtain ⟨u6, Y6, c6', f6', o6, -, -, -⟩ := Own.slotAt hO hM (j := 6) rfl
      have c6 : wr.cell? ⟨g0, k * 9 + 6, none⟩ = some u6 := c6'
      have f6 : wr.frozen? ⟨g0, k * 9 + 6, none⟩ = false := f6'
      clear c6' f6' o6
      obtain ⟨u7, Y7, c7', f7', o7, -, -, -⟩ := Own.slotAt hO hM (j := 7) rfl
      have c7 : wr.cell? ⟨g0, k * 9 + 7, none⟩ = some u7 := c7'
      have f7 : wr.frozen? ⟨g0, k * 9 + 7, none⟩ = false := f7'
      clear c7' f7' o7
      obtain ⟨u8, Y8, c8', f8', o8, -, -, -⟩ := Own.slotAt hO hM (j := 8) rfl
      have c8 : wr.cell? ⟨g0, k * 9 + 8, none⟩ = some u8 := c8'
      have f8 : wr.frozen? ⟨g0, k * 9 + 8, none⟩ = false := f8'
      obtain ⟨s8, t8, rfl⟩ := o8.form
      clear c8' f8' o8
      obtain ⟨_, _, -, -, -, -, pt, -⟩ := Own.slotAt hO hM (j := 0) rfl
      have h1 : Own (wr.setCell ⟨g0, k * 9, none⟩ (.int .i64 (K))) (.slice (some ⟨g0, 0, none⟩) xs.length cap) (.row (M.set k [.int (K), .int z1, .int z2, .int z3, .int z4, .int z5, .int z6, .int z7, .row x8])) X := by have := pt (.int .i64 (K)) (.int (K)) (fun _ => .int _ ⟨by omega, by omega⟩ _); exact this
      have hM1 : (M.set k [.int (K), .int z1, .int z2, .int z3, .int z4, .int z5, .int z6, .int z7, .row x8])[k]? = some [.int (K), .int z1, .int z2, .int z3, .int z4, .int z5, .int z6, .int z7, .row x8] := List.getElem?_set_self hkM
      have kb1 : KB X w (wr.setCell ⟨g0, k * 9, none⟩ (.int .i64 (K))) := hKB.setCell (p := ⟨g0, k * 9, none⟩) hXg _
      obtain ⟨_, _, -, -, -, -, pt, -⟩ := Own.slotAt h1 hM1 (j := 1) rfl
      have h2 : Own ((wr.setCell ⟨g0, k * 9, none⟩ (.int .i64 (K))).setCell ⟨g0, k * 9 + 1, none⟩ (.int .i64 (K + 1))) (.slice (some ⟨g0, 0, none⟩) xs.length cap) (.row (M.set k [.int (K), .int (K + 1), .int z2, .int z3, .int z4, .int z5, .int z6, .int z7, .row x8])) X := by have := pt (.int .i64 (K + 1)) (.int (K + 1)) (fun _ => .int _ ⟨by omega, by omega⟩ _); rw [List.set_set] at this; exact this
      have hM2 : (M.set k [.int (K), .int (K + 1), .int z2, .int z3, .int z4, .int z5, .int z6, .int z7, .row x8])[k]? = some [.int (K), .int (K + 1), .int z2, .int z3, .int z4, .int z5, .int z6, .int z7, .row x8] := List.getElem?_set_self hkM
      have kb2 : KB X w ((wr.setCell ⟨g0, k * 9, none⟩ (.int .i64 (K))).setCell ⟨g0, k * 9 + 1, none⟩ (.int .i64 (K + 1))) := kb1.setCell (p := ⟨g0, k * 9 + 1, none⟩) hXg _
      obtain ⟨_, _, -, -, -, -, pt, -⟩ := Own.slotAt h2 hM2 (j := 2) rfl
      have h3 : Own (((wr.setCell ⟨g0, k * 9, none⟩ (.int .i64 (K))).setCell ⟨g0, k * 9 + 1, none⟩ (.int .i64 (K + 1))).setCell ⟨g0, k * 9 + 2, none⟩ (.int .i64 (K + 1 + 1))) (.slice (some ⟨g0, 0, none⟩) xs.length cap) (.row (M.set k [.int (K), .int (K + 1), .int (K + 1 + 1), .int z3, .int z4, .int z5, .int z6, .int z7, .row x8])) X := by have := pt (.int .i64 (K + 1 + 1)) (.int (K + 1 + 1)) (fun _ => .int _ ⟨by omega, by omega⟩ _); rw [List.set_set] at this; exact this
      have hM3 : (M.set k [.int (K), .int (K + 1), .int (K + 1 + 1), .int z3, .int z4, .int z5, .int z6, .int z7, .row x8])[k]? = some [.int (K), .int (K + 1), .int (K + 1 + 1), .int z3, .int z4, .int z5, .int z6, .int z7, .row x8] := List.getElem?_set_self hkM
      have kb3 : KB X w (((wr.setCell ⟨g0, k * 9, none⟩ (.int .i64 (K))).setCell ⟨g0, k * 9 + 1, none⟩ (.int .i64 (K + 1))).setCell ⟨g0, k * 9 + 2, none⟩ (.int .i64 (K + 1 + 1))) := kb2.setCell (p := ⟨g0, k * 9 + 2, none⟩) hXg _
      obtain ⟨_, _, -, -, -, -, pt, -⟩ := Own.slotAt h3 hM3 (j := 3) rfl
      have h4 : Own ((((wr.setCell ⟨g0, k * 9, none⟩ (.int .i64 (K))).setCell ⟨g0, k * 9 + 1, none⟩ (.int .i64 (K + 1))).setCell ⟨g0, k * 9 + 2, none⟩ (.int .i64 (K + 1 + 1))).setCell ⟨g0, k * 9 + 3, none⟩ (.int .i64 (K + 1 + 1 + 1))) (.slice (some ⟨g0, 0, none⟩) xs.length cap) (.row (M.set k [.int (K), .int (K + 1), .int (K + 1 + 1), .int (K + 1 + 1 + 1), .int z4, .int z5, .int z6, .int z7, .row x8])) X := by have := pt (.int .i64 (K + 1 + 1 + 1)) (.int (K + 1 + 1 + 1)) (fun _ => .int _ ⟨by omega, by omega⟩ _); rw [List.set_set] at this; exact this
      have hM4 : (M.set k [.int (K), .int (K + 1), .int (K + 1 + 1), .int (K + 1 + 1 + 1), .int z4, .int z5, .int z6, .int z7, .row x8])[k]? = some [.int (K), .int (K + 1), .int (K + 1 + 1), .int (K + 1 + 1 + 1), .int z4, .int z5, .int z6, .int z7, .row x8] := List.getElem?_set_self hkM
      have kb4 : KB X w ((((wr.setCell ⟨g0, k * 9, none⟩ (.int .i64 (K))).setCell ⟨g0, k * 9 + 1, none⟩ (.int .i64 (K + 1))).setCell ⟨g0, k * 9 + 2, none⟩ (.int .i64 (K + 1 + 1))).setCell ⟨g0, k * 9 + 3, none⟩ (.int .i64 (K + 1 + 1 + 1))) := kb3.setCell (p := ⟨g0, k * 9 + 3, none⟩) hXg _
      obtain ⟨_, _, -, -, -, -, pt, -⟩ := Own.slotAt h4 hM4 (j := 4) rfl
      have h5 : Own (((((wr.setCell ⟨g0, k * 9, none⟩ (.int .i64 (K))).setCell ⟨g0, k * 9 + 1, none⟩ (.int .i64 (K + 1))).setCell ⟨g0, k * 9 + 2, none⟩ (.int .i64 (K + 1 + 1))).setCell ⟨g0, k * 9 + 3, none⟩ (.int .i64 (K + 1 + 1 + 1))).setCell ⟨g0, k * 9 + 4, none⟩ (.int .i64 (K + 1 + 1 + 1 + 1))) (.slice (some ⟨g0, 0, none⟩) xs.length cap) (.row (M.set k [.int (K), .int (K + 1), .int (K + 1 + 1), .int (K + 1 + 1 + 1), .int (K + 1 + 1 + 1 + 1), .int z5, .int z6, .int z7, .row x8])) X := by have := pt (.int .i64 (K + 1 + 1 + 1 + 1)) (.int (K + 1 + 1 + 1 + 1)) (fun _ => .int _ ⟨by omega, by omega⟩ _); rw [List.set_set] at this; exact this
      have hM5 : (M.set k [.int (K), .int (K + 1), .int (K + 1 + 1), .int (K + 1 + 1 + 1), .int (K + 1 + 1 + 1 + 1), .int z5, .int z6, .int z7, .row x8])[k]? = some [.int (K), .int (K + 1), .int (K + 1 + 1), .int (K + 1 + 1 + 1), .int (K + 1 + 1 + 1 + 1), .int z5, .int z6, .int z7, .row x8] := List.getElem?_set_self hkM
      have kb5 : KB X w (((((wr.setCell ⟨g0, k * 9, none⟩ (.int .i64 (K))).setCell ⟨g0, k * 9 + 1, none⟩ (.int .i64 (K + 1))).setCell ⟨g0, k * 9 + 2, none⟩ (.int .i64 (K + 1 + 1))).setCell ⟨g0, k * 9 + 3, none⟩ (.int .i64 (K + 1 + 1 + 1))).setCell ⟨g0, k * 9 + 4, none⟩ (.int .i64 (K + 1 + 1 + 1 + 1))) := kb4.setCell (p := ⟨g0, k * 9 + 4, none⟩) hXg _
      obtain ⟨_, _, -, -, -, -, pt, -⟩ := Own.slotAt h5 hM5 (j := 5) rfl
      have h6 : Own ((((((wr.setCell ⟨g0, k * 9, none⟩ (.int .i64 (K))).setCell ⟨g0, k * 9 + 1, none⟩ (.int .i64 (K + 1))).setCell ⟨g0, k * 9 + 2, none⟩ (.int .i64 (K + 1 + 1))).setCell ⟨g0, k * 9 + 3, none⟩ (.int .i64 (K + 1 + 1 + 1))).setCell ⟨g0, k * 9 + 4, none⟩ (.int .i64 (K + 1 + 1 + 1 + 1))).setCell ⟨g0, k * 9 + 5, none⟩ (.int .i64 (K + 1 + 1 + 1 + 1 + 1))) (.slice (some ⟨g0, 0, none⟩) xs.length cap) (.row (M.set k [.int (K), .int (K + 1), .int (K + 1 + 1), .int (K + 1 + 1 + 1), .int (K + 1 + 1 + 1 + 1), .int (K + 1 + 1 + 1 + 1 + 1), .int z6, .int z7, .row x8])) X := by have := pt (.int .i64 (K + 1 + 1 + 1 + 1 + 1)) (.int (K + 1 + 1 + 1 + 1 + 1)) (fun _ => .int _ ⟨by omega, by omega⟩ _); rw [List.set_set] at this; exact this
      have hM6 : (M.set k [.int (K), .int (K + 1), .int (K + 1 + 1), .int (K + 1 + 1 + 1), .int (K + 1 + 1 + 1 + 1), .int (K + 1 + 1 + 1 + 1 + 1), .int z6, .int z7, .row x8])[k]? = some [.int (K), .int (K + 1), .int (K + 1 + 1), .int (K + 1 + 1 + 1), .int (K + 1 + 1 + 1 + 1), .int (K + 1 + 1 + 1 + 1 + 1), .int z6, .int z7, .row x8] := List.getElem?_set_self hkM
      have kb6 : KB X w ((((((wr.setCell ⟨g0, k * 9, none⟩ (.int .i64 (K))).setCell ⟨g0, k * 9 + 1, none⟩ (.int .i64 (K + 1))).setCell ⟨g0, k * 9 + 2, none⟩ (.int .i64 (K + 1 + 1))).setCell ⟨g0, k * 9 + 3, none⟩ (.int .i64 (K + 1 + 1 + 1))).setCell ⟨g0, k * 9 + 4, none⟩ (.int .i64 (K + 1 + 1 + 1 + 1))).setCell ⟨g0, k * 9 + 5, none⟩ (.int .i64 (K + 1 + 1 + 1 + 1 + 1))) := kb5.setCell (p := ⟨g0, k * 9 + 5, none⟩) hXg _
      obtain ⟨_, _, -, -, -, -, pt, -⟩ := Own.slotAt h6 hM6 (j := 6) rfl
      have h7 : Own (((((((wr.setCell ⟨g0, k * 9, none⟩ (.int .i64 (K))).setCell ⟨g0, k * 9 + 1, none⟩ (.int .i64 (K + 1))).setCell ⟨g0, k * 9 + 2, none⟩ (.int .i64 (K + 1 + 1))).setCell ⟨g0, k * 9 + 3, none⟩ (.int .i64 (K + 1 + 1 + 1))).setCell ⟨g0, k * 9 + 4, none⟩ (.int .i64 (K + 1 + 1 + 1 + 1))).setCell ⟨g0, k * 9 + 5, none⟩ (.int .i64 (K + 1 + 1 + 1 + 1 + 1))).setCell ⟨g0, k * 9 + 6, none⟩ (.int .i64 (K + 1 + 1 + 1 + 1 + 1 + 1))) (.slice (some ⟨g0, 0, none⟩) xs.length cap) (.row (M.set k [.int (K), .int (K + 1), .int (K + 1 + 1), .int (K + 1 + 1 + 1), .int (K + 1 + 1 + 1 + 1), .int (K + 1 + 1 + 1 + 1 + 1), .int (K + 1 + 1 + 1 + 1 + 1 + 1), .int z7, .row x8])) X := by have := pt (.int .i64 (K + 1 + 1 + 1 + 1 + 1 + 1)) (.int (K + 1 + 1 + 1 + 1 + 1 + 1)) (fun _ => .int _ ⟨by omega, by omega⟩ _); rw [List.set_set] at this; exact this
      have hM7 : (M.set k [.int (K), .int (K + 1), .int (K + 1 + 1), .int (K + 1 + 1 + 1), .int (K + 1 + 1 + 1 + 1), .int (K + 1 + 1 + 1 + 1 + 1), .int (K + 1 + 1 + 1 + 1 + 1 + 1), .int z7, .row x8])[k]? = some [.int (K), .int (K + 1), .int (K + 1 + 1), .int (K + 1 + 1 + 1), .int (K + 1 + 1 + 1 + 1), .int (K + 1 + 1 + 1 + 1 + 1), .int (K + 1 + 1 + 1 + 1 + 1 + 1), .int z7, .row x8] := List.getElem?_set_self hkM
      have kb7 : KB X w (((((((wr.setCell ⟨g0, k * 9, none⟩ (.int .i64 (K))).setCell ⟨g0, k * 9 + 1, none⟩ (.int .i64 (K + 1))).setCell ⟨g0, k * 9 + 2, none⟩ (.int .i64 (K + 1 + 1))).setCell ⟨g0, k * 9 + 3, none⟩ (.int .i64 (K + 1 + 1 + 1))).setCell ⟨g0, k * 9 + 4, none⟩ (.int .i64 (K + 1 + 1 + 1 + 1))).setCell ⟨g0, k * 9 + 5, none⟩ (.int .i64 (K + 1 + 1 + 1 + 1 + 1))).setCell ⟨g0, k * 9 + 6, none⟩ (.int .i64 (K + 1 + 1 + 1 + 1 + 1 + 1))) := kb6.setCell (p := ⟨g0, k * 9 + 6, none⟩) hXg _
      obtain ⟨_, _, -, -, -, -, pt, -⟩ := Own.slotAt h7 hM7 (j := 7) rfl
      have h8 : Own ((((((((wr.setCell ⟨g0, k * 9, none⟩ (.int .i64 (K))).setCell ⟨g0, k * 9 + 1, none⟩ (.int .i64 (K + 1))).setCell ⟨g0, k * 9 + 2, none⟩ (.int .i64 (K + 1 + 1))).setCell ⟨g0, k * 9 + 3, none⟩ (.int .i64 (K + 1 + 1 + 1))).setCell ⟨g0, k * 9 + 4, none⟩ (.int .i64 (K + 1 + 1 + 1 + 1))).setCell ⟨g0, k * 9 + 5, none⟩ (.int .i64 (K + 1 + 1 + 1 + 1 + 1))).setCell ⟨g0, k * 9 + 6, none⟩ (.int .i64 (K + 1 + 1 + 1 + 1 + 1 + 1))).setCell ⟨g0, k * 9 + 7, none⟩ (.int .i64 (K + 1 + 1 + 1 + 1 + 1 + 1 + 1))) (.slice (some ⟨g0, 0, none⟩) xs.length cap) (.row (M.set k [.int (K), .int (K + 1), .int (K + 1 + 1), .int (K + 1 + 1 + 1), .int (K + 1 + 1 + 1 + 1), .int (K + 1 + 1 + 1 + 1 + 1), .int (K + 1 + 1 + 1 + 1 + 1 + 1), .int (K + 1 + 1 + 1 + 1 + 1 + 1 + 1), .row x8])) X := by have := pt (.int .i64 (K + 1 + 1 + 1 + 1 + 1 + 1 + 1)) (.int (K + 1 + 1 + 1 + 1 + 1 + 1 + 1)) (fun _ => .int _ ⟨by omega, by omega⟩ _); rw [List.set_set] at this; exact this
      have hM8 : (M.set k [.int (K), .int (K + 1), .int (K + 1 + 1), .int (K + 1 + 1 + 1), .int (K + 1 + 1 + 1 + 1), .int (K + 1 + 1 + 1 + 1 + 1), .int (K + 1 + 1 + 1 + 1 + 1 + 1), .int (K + 1 + 1 + 1 + 1 + 1 + 1 + 1), .row x8])[k]? = some [.int (K), .int (K + 1), .int (K + 1 + 1), .int (K + 1 + 1 + 1), .int (K + 1 + 1 + 1 + 1), .int (K + 1 + 1 + 1 + 1 + 1), .int (K + 1 + 1 + 1 + 1 + 1 + 1), .int (K + 1 + 1 + 1 + 1 + 1 + 1 + 1), .row x8] := List.getElem?_set_self hkM
      have kb8 : KB X w ((((((((wr.setCell ⟨g0, k * 9, none⟩ (.int .i64 (K))).setCell ⟨g0, k * 9 + 1, none⟩ (.int .i64 (K + 1))).setCell ⟨g0, k * 9 + 2, none⟩ (.int .i64 (K + 1 + 1))).setCell ⟨g0, k * 9 + 3, none⟩ (.int .i64 (K + 1 + 1 + 1))).setCell ⟨g0, k * 9 + 4, none⟩ (.int .i64 (K + 1 + 1 + 1 + 1))).setCell ⟨g0, k * 9 + 5, none⟩ (.int .i64 (K + 1 + 1 + 1 + 1 + 1))).setCell ⟨g0, k * 9 + 6, none⟩ (.int .i64 (K + 1 + 1 + 1 + 1 + 1 + 1))).setCell ⟨g0, k * 9 + 7, none⟩ (.int .i64 (K + 1 + 1 + 1 + 1 + 1 + 1 + 1))) := kb7.setCell (p := ⟨g0, k * 9 + 7, none⟩) hXg _
      obtain ⟨u', Y', c', -, o', ys', -, kd⟩ := Own.slotAt h8 hM8 (j := 8) rfl
      obtain rfl : u' = .slice s8 x8.length t8 := by
        have e1 := c8
        rw [cell_of_block hblk] at e1
        have e2 : ((((((((wr.setCell ⟨g0, k * 9, none⟩ (.int .i64 (K))).setCell ⟨g0, k * 9 + 1, none⟩ (.int .i64 (K + 1))).setCell ⟨g0, k * 9 + 2, none⟩ (.int .i64 (K + 1 + 1))).setCell ⟨g0, k * 9 + 3, none⟩ (.int .i64 (K + 1 + 1 + 1))).setCell ⟨g0, k * 9 + 4, none⟩ (.int .i64 (K + 1 + 1 + 1 + 1))).setCell ⟨g0, k * 9 + 5, none⟩ (.int .i64 (K + 1 + 1 + 1 + 1 + 1))).setCell ⟨g0, k * 9 + 6, none⟩ (.int .i64 (K + 1 + 1 + 1 + 1 + 1 + 1))).setCell ⟨g0, k * 9 + 7, none⟩ (.int .i64 (K + 1 + 1 + 1 + 1 + 1 + 1 + 1))).cell? ⟨g0, k * 9 + 8, none⟩ = some u' := c'
        rw [cell_of_block (block_setCell (block_setCell (block_setCell (block_setCell (block_setCell (block_setCell (block_setCell (block_setCell hblk _) _) _) _) _) _) _) _), Array.getElem?_setIfInBounds_ne (by omega), Array.getElem?_setIfInBounds_ne (by omega), Array.getElem?_setIfInBounds_ne (by omega), Array.getElem?_setIfInBounds_ne (by omega), Array.getElem?_setIfInBounds_ne (by omega), Array.getElem?_setIfInBounds_ne (by omega), Array.getElem?_setIfInBounds_ne (by omega), Array.getElem?_setIfInBounds_ne (by omega), e1] at e2
        exact (Option.some.inj e2).symm
      have HX1 := (show Hid (_ ∧ _ ∧ _ ∧ _) from ⟨o', ys', kd, kb8⟩)
      clear c' o' ys' kd hblk pt h1 hM1 kb1 h2 hM2 kb2 h3 hM3 kb3 h4 hM4 kb4 h5 hM5 kb5 h6 hM6 kb6 h7 hM7 kb7 h8 hM8 kb8 hO hKB
      go_wp2_with fail
      refine (markIntS_dt _ x8 Y' _ _ q8 HX1.out.1 (by omega) (by omega)).mono ?_
      rintro e w1 ⟨rfl, o1, kb1⟩
      have g_1 : Own w1 (.slice (some ⟨g0, 0, none⟩) xs.length cap) (.row (M.set k [.int (K), .int (K + 1), .int (K + 1 + 1), .int (K + 1 + 1 + 1), .int (K + 1 + 1 + 1 + 1), .int (K + 1 + 1 + 1 + 1 + 1), .int (K + 1 + 1 + 1 + 1 + 1 + 1), .int (K + 1 + 1 + 1 + 1 + 1 + 1 + 1), .row (Dt.mkS x8 (K + 1 + 1 + 1 + 1 + 1 + 1 + 1 + 1))])) X := by have := HX1.out.2.2.1 w1 (.row (Dt.mkS x8 (K + 1 + 1 + 1 + 1 + 1 + 1 + 1 + 1))) kb1 o1; rw [List.set_set] at this; exact this
      have gM_1 : (M.set k [.int (K), .int (K + 1), .int (K + 1 + 1), .int (K + 1 + 1 + 1), .int (K + 1 + 1 + 1 + 1), .int (K + 1 + 1 + 1 + 1 + 1), .int (K + 1 + 1 + 1 + 1 + 1 + 1), .int (K + 1 + 1 + 1 + 1 + 1 + 1 + 1), .row (Dt.mkS x8 (K + 1 + 1 + 1 + 1 + 1 + 1 + 1 + 1))])[k]? = some [.int (K), .int (K + 1), .int (K + 1 + 1), .int (K + 1 + 1 + 1), .int (K + 1 + 1 + 1 + 1), .int (K + 1 + 1 + 1 + 1 + 1), .int (K + 1 + 1 + 1 + 1 + 1 + 1), .int (K + 1 + 1 + 1 + 1 + 1 + 1 + 1), .row (Dt.mkS x8 (K + 1 + 1 + 1 + 1 + 1 + 1 + 1 + 1))] := List.getElem?_set_self hkM
      have gk_1 : KB X w w1 := HX1.out.2.2.2.trans (kb1.more (fun b _ hy => (HX1.out.2.1 b hy).1))
      clear o1 kb1 HX1 c0 f0 c1 f1 c2 f2 c3 f3 c4 f4 c5 f5 c6 f6 c7 f7 c8 f8
      have HX := (show Hid (_ ∧ _) from ⟨hfin _ g_1, gk_1⟩)
      clear hfin g_1 gk_1 gM_1
      go_wp2
      refine ⟨⟨k + 1, by omega, by go_num, int_val (by have := HK.out; omega), HX.out.1, HX.out.2⟩, by simp [intOf]; omega⟩
    · obtain rfl : k = xs.length := by omega
      have HF := (show Hid (_ ∧ _) from ⟨HO.out, HKB.out⟩)
      clear HO HKB HC
      go_wp2
      go_ret
      exact ⟨rfl, by rw [← mids_all]; exact HF.out.1, HF.out.2⟩

end Go.Proofs.Ytlgnklpaebgnlaa

namespace Go.Proofs.Ytlgnklpaebgnlaa
open Go.RowKit Go.Joins

set_option maxRecDepth 100000

set_option maxHeartbeats 6400000 in
theorem markMachine_dt : MkC 10 MachineR := by
  rintro vs r X w k ⟨x0, x1, x2, x3, x4, x5, x6, rfl, q0, q1, q2, q3, q4, q5, q6⟩ h h0 hb
  have hat := h.at
  obtain ⟨v0, v1, v2, v3, v4, v5, v6, rfl, a0, a1, a2, a3, a4, a5, a6⟩ := fs7 hat
  obtain ⟨p0, c0, rfl⟩ := a0.form
  obtain ⟨p1, c1, rfl⟩ := a1.form
  obtain ⟨p2, c2, rfl⟩ := a2.form
  obtain ⟨p3, c3, rfl⟩ := a3.form
  obtain ⟨p4, c4, rfl⟩ := a4.form
  obtain ⟨p5, c5, rfl⟩ := a5.form
  obtain ⟨p6, c6, rfl⟩ := a6.form
  rw [show tcnt [.row x0, .row x1, .row x2, .row x3, .row x4, .row x5, .row x6] = Dt.cntS x0 + Dt.cntS x1 + Dt.cntS x2 + Dt.cntS x3 + Dt.cntS x4 + Dt.cntS x5 + Dt.cntS x6 from by simp [tcnt]; try omega] at hb ⊢
  rw [show tmk [.row x0, .row x1, .row x2, .row x3, .row x4, .row x5, .row x6] k = [.row (Dt.mkS x0 (k)), .row (Dt.mkS x1 (k + (Dt.cntS x0 : Int))), .row (Dt.mkS x2 (k + (Dt.cntS x0 : Int) + (Dt.cntS x1 : Int))), .row (Dt.mkS x3 (k + (Dt.cntS x0 : Int) + (Dt.cntS x1 : Int) + (Dt.cntS x2 : Int))), .row (Dt.mkS x4 (k + (Dt.cntS x0 : Int) + (Dt.cntS x1 : Int) + (Dt.cntS x2 : Int) + (Dt.cntS x3 : Int))), .row (Dt.mkS x5 (k + (Dt.cntS x0 : Int) + (Dt.cntS x1 : Int) + (Dt.cntS x2 : Int) + (Dt.cntS x3 : Int) + (Dt.cntS x4 : Int))), .row (Dt.mkS x6 (k + (Dt.cntS x0 : Int) + (Dt.cntS x1 : Int) + (Dt.cntS x2 : Int) + (Dt.cntS x3 : Int) + (Dt.cntS x4 : Int) + (Dt.cntS x5 : Int)))] from rfl]
  clear hat a0 a1 a2 a3 a4 a5 a6
  have h := h.dom
  obtain ⟨X', hX'⟩ : ∃ X' : Nat → Prop, X' = fun b => X b ∧ b < w.heap.size := ⟨_, rfl⟩
  rw [← hX'] at h
  have HN : Hid (¬ X' w.heap.size ∧ ∀ b, X' b → X b) := by rw [hX']; exact ⟨fun hx => Nat.lt_irrefl _ hx.2, fun b hx => hx.1⟩
  clear hX'
  obtain ⟨Z0, R0, z0, r0, d0, o0, h⟩ := OFs.split (vs := [.slice p0 x0.length c0, .slice p1 x1.length c1]) (us := [.slice p2 x2.length c2, .slice p3 x3.length c3, .slice p4 x4.length c4, .slice p5 x5.length c5, .slice p6 x6.length c6]) (ds := [.row x0, .row x1]) (es := [.row x2, .row x3, .row x4, .row x5, .row x6]) rfl h
  obtain ⟨Z1, R1, z1, r1, d1, o1, h⟩ := h
  obtain ⟨Z2, R2, z2, r2, d2, o2, h⟩ := h
  obtain ⟨Z3, R3, z3, r3, d3, o3, h⟩ := h
  obtain ⟨Z4, R4, z4, r4, d4, o4, h⟩ := h
  obtain ⟨Z5, R5, z5, r5, d5, o5, h⟩ := h
  have B0 : Below w.heap.size w (w.alloc (.cells #[.slice p0 x0.length c0, .slice p1 x1.length c1, .slice p2 x2.length c2, .slice p3 x3.length c3, .slice p4 x4.length c4, .slice p5 x5.length c5, .slice p6 x6.length c6] 39)) := (Below.refl _ w).alloc (Nat.le_refl _) _
  have O0 : (w.alloc (.cells #[.slice p0 x0.length c0, .slice p1 x1.length c1, .slice p2 x2.length c2, .slice p3 x3.length c3, .slice p4 x4.length c4, .slice p5 x5.length c5, .slice p6 x6.length c6] 39)).heap[w.heap.size]? = some (.cells #[.slice p0 x0.length c0, .slice p1 x1.length c1, .slice p2 x2.length c2, .slice p3 x3.length c3, .slice p4 x4.length c4, .slice p5 x5.length c5, .slice p6 x6.length c6] 39) := (MapKept.heap_alloc w _).1
  have o0 := OFs.up o0 B0
  have o1 := Own.up o1 B0
  have o2 := Own.up o2 B0
  have o3 := Own.up o3 B0
  have o4 := Own.up o4 B0
  have o5 := Own.up o5 B0
  have KB0 : KB X' w (w.alloc (.cells #[.slice p0 x0.length c0, .slice p1 x1.length c1, .slice p2 x2.length c2, .slice p3 x3.length c3, .slice p4 x4.length c4, .slice p5 x5.length c5, .slice p6 x6.length c6] 39)) := KB.of_below B0
  have HS := (show Hid (_ ∧ _ ∧ _ ∧ _ ∧ _ ∧ _ ∧ _ ∧ _ ∧ _) from ⟨O0, KB0, o0, o1, o2, o3, o4, o5, trivial⟩)
  have HT := (show Hid (_ ∧ _ ∧ _ ∧ _ ∧ _ ∧ _ ∧ _ ∧ _ ∧ _ ∧ _ ∧ _ ∧ _ ∧ _ ∧ _ ∧ _ ∧ _ ∧ _ ∧ _ ∧ _) from ⟨z0, r0, d0, z1, r1, d1, z2, r2, d2, z3, r3, d3, z4, r4, d4, z5, r5, d5, h⟩)
  clear B0 O0 KB0 h o0 z0 r0 d0 o1 z1 r1 d1 o2 z2 r2 d2 o3 z3 r3 d3 o4 z4 r4 d4 o5 z5 r5 d5
  go_enter Try.func10, Try.ntmps10
  go_wp2_with fail
  refine (markTable_dt [.slice p0 x0.length c0, .slice p1 x1.length c1] [.row x0, .row x1] Z0 _ _ ⟨_, _, rfl, q0, q1⟩ HS.out.2.2.1 (by omega) (by rw [show tcnt [.row x0, .row x1] = Dt.cntS x0 + Dt.cntS x1 from by simp [tcnt]; try omega]; omega)).mono ?_
  rintro e w1 ⟨rfl, n0, kb⟩
  rw [show tcnt [.row x0, .row x1] = Dt.cntS x0 + Dt.cntS x1 from by simp [tcnt]; try omega]
  rw [show k + ((Dt.cntS x0 + Dt.cntS x1 : Nat) : Int) = k + (Dt.cntS x0 : Int) + (Dt.cntS x1 : Int) from by omega]
  obtain ⟨O0, KB0, o0, o1, o2, o3, o4, o5, -⟩ := HS.out
  obtain ⟨z0, r0, d0, z1, r1, d1, z2, r2, d2, z3, r3, d3, z4, r4, d4, z5, r5, d5, hE⟩ := HT.out
  have hzx : ∀ b, Z0 b → X' b := fun b hb => (z0 b hb)
  have o1 := Own.moved o1 (fun b hb hlt => kb.block b hlt (fun hy => d0 b hy (z1 b hb)))
  have o2 := Own.moved o2 (fun b hb hlt => kb.block b hlt (fun hy => d0 b hy (r1 b (z2 b hb))))
  have o3 := Own.moved o3 (fun b hb hlt => kb.block b hlt (fun hy => d0 b hy (r1 b (r2 b (z3 b hb)))))
  have o4 := Own.moved o4 (fun b hb hlt => kb.block b hlt (fun hy => d0 b hy (r1 b (r2 b (r3 b (z4 b hb))))))
  have o5 := Own.moved o5 (fun b hb hlt => kb.block b hlt (fun hy => d0 b hy (r1 b (r2 b (r3 b (r4 b (z5 b hb)))))))
  have o0 := n0
  clear n0
  have O0 := (kb.block _ (lt_heap O0) (fun hy => HN.out.1 (hzx _ hy))).trans O0
  have KB0 := KB0.trans (kb.more (fun b _ hy => hzx b hy))
  have y2 : w1.cell? ⟨w.heap.size, 2, none⟩ = some (.slice p2 x2.length c2) := by rw [cell_of_block O0]; rfl
  have y3 : w1.cell? ⟨w.heap.size, 3, none⟩ = some (.slice p3 x3.length c3) := by rw [cell_of_block O0]; rfl
  have y4 : w1.cell? ⟨w.heap.size, 4, none⟩ = some (.slice p4 x4.length c4) := by rw [cell_of_block O0]; rfl
  have y5 : w1.cell? ⟨w.heap.size, 5, none⟩ = some (.slice p5 x5.length c5) := by rw [cell_of_block O0]; rfl
  have y6 : w1.cell? ⟨w.heap.size, 6, none⟩ = some (.slice p6 x6.length c6) := by rw [cell_of_block O0]; rfl
  have HU := (show Hid (_ ∧ _ ∧ _ ∧ _ ∧ _ ∧ _ ∧ _ ∧ _ ∧ _) from ⟨O0, KB0, o0, o1, o2, o3, o4, o5, trivial⟩)
  clear HS kb hzx O0 KB0 hE o0 z0 r0 d0 o1 z1 r1 d1 o2 z2 r2 d2 o3 z3 r3 d3 o4 z4 r4 d4 o5 z5 r5 d5
  have HS := HU
  clear HU
  go_wp2_with fail
  refine (markCellS_dt _ x2 Z1 _ _ q2 HS.out.2.2.2.1 (by omega) (by omega)).mono ?_
  rintro e w2 ⟨rfl, n1, kb⟩
  obtain ⟨O0, KB0, o0, o1, o2, o3, o4, o5, -⟩ := HS.out
  obtain ⟨z0, r0, d0, z1, r1, d1, z2, r2, d2, z3, r3, d3, z4, r4, d4, z5, r5, d5, hE⟩ := HT.out
  have hzx : ∀ b, Z1 b → X' b := fun b hb => (r0 b (z1 b hb))
  have o0 := OFs.moved o0 (fun b hb hlt => kb.block b hlt (fun hy => d0 b hb (z1 b hy)))
  have o2 := Own.moved o2 (fun b hb hlt => kb.block b hlt (fun hy => d1 b hy (z2 b hb)))
  have o3 := Own.moved o3 (fun b hb hlt => kb.block b hlt (fun hy => d1 b hy (r2 b (z3 b hb))))
  have o4 := Own.moved o4 (fun b hb hlt => kb.block b hlt (fun hy => d1 b hy (r2 b (r3 b (z4 b hb)))))
  have o5 := Own.moved o5 (fun b hb hlt => kb.block b hlt (fun hy => d1 b hy (r2 b (r3 b (r4 b (z5 b hb))))))
  have o1 := n1
  clear n1
  have O0 := (kb.block _ (lt_heap O0) (fun hy => HN.out.1 (hzx _ hy))).trans O0
  have KB0 := KB0.trans (kb.more (fun b _ hy => hzx b hy))
  clear y2 y3 y4 y5 y6
  have y3 : w2.cell? ⟨w.heap.size, 3, none⟩ = some (.slice p3 x3.length c3) := by rw [cell_of_block O0]; rfl
  have y4 : w2.cell? ⟨w.heap.size, 4, none⟩ = some (.slice p4 x4.length c4) := by rw [cell_of_block O0]; rfl
  have y5 : w2.cell? ⟨w.heap.size, 5, none⟩ = some (.slice p5 x5.length c5) := by rw [cell_of_block O0]; rfl
  have y6 : w2.cell? ⟨w.heap.size, 6, none⟩ = some (.slice p6 x6.length c6) := by rw [cell_of_block O0]; rfl
  have HU := (show Hid (_ ∧ _ ∧ _ ∧ _ ∧ _ ∧ _ ∧ _ ∧ _ ∧ _) from ⟨O0, KB0, o0, o1, o2, o3, o4, o5, trivial⟩)
  clear HS kb hzx O0 KB0 hE o0 z0 r0 d0 o1 z1 r1 d1 o2 z2 r2 d2 o3 z3 r3 d3 o4 z4 r4 d4 o5 z5 r5 d5
  have HS := HU
  clear HU
  go_wp2_with fail
  refine (markThreadS_dt _ x3 Z2 _ _ q3 HS.out.2.2.2.2.1 (by omega) (by omega)).mono ?_
  rintro e w3 ⟨rfl, n2, kb⟩
  obtain ⟨O0, KB0, o0, o1, o2, o3, o4, o5, -⟩ := HS.out
  obtain ⟨z0, r0, d0, z1, r1, d1, z2, r2, d2, z3, r3, d3, z4, r4, d4, z5, r5, d5, hE⟩ := HT.out
  have hzx : ∀ b, Z2 b → X' b := fun b hb => (r0 b (r1 b (z2 b hb)))
  have o0 := OFs.moved o0 (fun b hb hlt => kb.block b hlt (fun hy => d0 b hb (r1 b (z2 b hy))))
  have o1 := Own.moved o1 (fun b hb hlt => kb.block b hlt (fun hy => d1 b hb (z2 b hy)))
  have o3 := Own.moved o3 (fun b hb hlt => kb.block b hlt (fun hy => d2 b hy (z3 b hb)))
  have o4 := Own.moved o4 (fun b hb hlt => kb.block b hlt (fun hy => d2 b hy (r3 b (z4 b hb))))
  have o5 := Own.moved o5 (fun b hb hlt => kb.block b hlt (fun hy => d2 b hy (r3 b (r4 b (z5 b hb)))))
  have o2 := n2
  clear n2
  have O0 := (kb.block _ (lt_heap O0) (fun hy => HN.out.1 (hzx _ hy))).trans O0
  have KB0 := KB0.trans (kb.more (fun b _ hy => hzx b hy))
  clear y3 y4 y5 y6
  have y4 : w3.cell? ⟨w.heap.size, 4, none⟩ = some (.slice p4 x4.length c4) := by rw [cell_of_block O0]; rfl
  have y5 : w3.cell? ⟨w.heap.size, 5, none⟩ = some (.slice p5 x5.length c5) := by rw [cell_of_block O0]; rfl
  have y6 : w3.cell? ⟨w.heap.size, 6, none⟩ = some (.slice p6 x6.length c6) := by rw [cell_of_block O0]; rfl
  have HU := (show Hid (_ ∧ _ ∧ _ ∧ _ ∧ _ ∧ _ ∧ _ ∧ _ ∧ _) from ⟨O0, KB0, o0, o1, o2, o3, o4, o5, trivial⟩)
  clear HS kb hzx O0 KB0 hE o0 z0 r0 d0 o1 z1 r1 d1 o2 z2 r2 d2 o3 z3 r3 d3 o4 z4 r4 d4 o5 z5 r5 d5
  have HS := HU
  clear HU
  go_wp2_with fail
  refine (markIntS_dt _ x4 Z3 _ _ q4 HS.out.2.2.2.2.2.1 (by omega) (by omega)).mono ?_
  rintro e w4 ⟨rfl, n3, kb⟩
  obtain ⟨O0, KB0, o0, o1, o2, o3, o4, o5, -⟩ := HS.out
  obtain ⟨z0, r0, d0, z1, r1, d1, z2, r2, d2, z3, r3, d3, z4, r4, d4, z5, r5, d5, hE⟩ := HT.out
  have hzx : ∀ b, Z3 b → X' b := fun b hb => (r0 b (r1 b (r2 b (z3 b hb))))
  have o0 := OFs.moved o0 (fun b hb hlt => kb.block b hlt (fun hy => d0 b hb (r1 b (r2 b (z3 b hy)))))
  have o1 := Own.moved o1 (fun b hb hlt => kb.block b hlt (fun hy => d1 b hb (r2 b (z3 b hy))))
  have o2 := Own.moved o2 (fun b hb hlt => kb.block b hlt (fun hy => d2 b hb (z3 b hy)))
  have o4 := Own.moved o4 (fun b hb hlt => kb.block b hlt (fun hy => d3 b hy (z4 b hb)))
  have o5 := Own.moved o5 (fun b hb hlt => kb.block b hlt (fun hy => d3 b hy (r4 b (z5 b hb))))
  have o3 := n3
  clear n3
  have O0 := (kb.block _ (lt_heap O0) (fun hy => HN.out.1 (hzx _ hy))).trans O0
  have KB0 := KB0.trans (kb.more (fun b _ hy => hzx b hy))
  clear y4 y5 y6
  have y5 : w4.cell? ⟨w.heap.size, 5, none⟩ = some (.slice p5 x5.length c5) := by rw [cell_of_block O0]; rfl
  have y6 : w4.cell? ⟨w.heap.size, 6, none⟩ = some (.slice p6 x6.length c6) := by rw [cell_of_block O0]; rfl
  have HU := (show Hid (_ ∧ _ ∧ _ ∧ _ ∧ _ ∧ _ ∧ _ ∧ _ ∧ _) from ⟨O0, KB0, o0, o1, o2, o3, o4, o5, trivial⟩)
  clear HS kb hzx O0 KB0 hE o0 z0 r0 d0 o1 z1 r1 d1 o2 z2 r2 d2 o3 z3 r3 d3 o4 z4 r4 d4 o5 z5 r5 d5
  have HS := HU
  clear HU
  go_wp2_with fail
  refine (markIntS_dt _ x5 Z4 _ _ q5 HS.out.2.2.2.2.2.2.1 (by omega) (by omega)).mono ?_
  rintro e w5 ⟨rfl, n4, kb⟩
  obtain ⟨O0, KB0, o0, o1, o2, o3, o4, o5, -⟩ := HS.out
  obtain ⟨z0, r0, d0, z1, r1, d1, z2, r2, d2, z3, r3, d3, z4, r4, d4, z5, r5, d5, hE⟩ := HT.out
  have hzx : ∀ b, Z4 b → X' b := fun b hb => (r0 b (r1 b (r2 b (r3 b (z4 b hb)))))
  have o0 := OFs.moved o0 (fun b hb hlt => kb.block b hlt (fun hy => d0 b hb (r1 b (r2 b (r3 b (z4 b hy))))))
  have o1 := Own.moved o1 (fun b hb hlt => kb.block b hlt (fun hy => d1 b hb (r2 b (r3 b (z4 b hy)))))
  have o2 := Own.moved o2 (fun b hb hlt => kb.block b hlt (fun hy => d2 b hb (r3 b (z4 b hy))))
  have o3 := Own.moved o3 (fun b hb hlt => kb.block b hlt (fun hy => d3 b hb (z4 b hy)))
  have o5 := Own.moved o5 (fun b hb hlt => kb.block b hlt (fun hy => d4 b hy (z5 b hb)))
  have o4 := n4
  clear n4
  have O0 := (kb.block _ (lt_heap O0) (fun hy => HN.out.1 (hzx _ hy))).trans O0
  have KB0 := KB0.trans (kb.more (fun b _ hy => hzx b hy))
  clear y5 y6
  have y6 : w5.cell? ⟨w.heap.size, 6, none⟩ = some (.slice p6 x6.length c6) := by rw [cell_of_block O0]; rfl
  have HU := (show Hid (_ ∧ _ ∧ _ ∧ _ ∧ _ ∧ _ ∧ _ ∧ _ ∧ _) from ⟨O0, KB0, o0, o1, o2, o3, o4, o5, trivial⟩)
  clear HS kb hzx O0 KB0 hE o0 z0 r0 d0 o1 z1 r1 d1 o2 z2 r2 d2 o3 z3 r3 d3 o4 z4 r4 d4 o5 z5 r5 d5
  have HS := HU
  clear HU
  go_wp2_with fail
  refine (markMsgS_dt _ x6 Z5 _ _ q6 HS.out.2.2.2.2.2.2.2.1 (by omega) (by omega)).mono ?_
  rintro e w6 ⟨rfl, n5, kb⟩
  obtain ⟨O0, KB0, o0, o1, o2, o3, o4, o5, -⟩ := HS.out
  obtain ⟨z0, r0, d0, z1, r1, d1, z2, r2, d2, z3, r3, d3, z4, r4, d4, z5, r5, d5, hE⟩ := HT.out
  have hzx : ∀ b, Z5 b → X' b := fun b hb => (r0 b (r1 b (r2 b (r3 b (r4 b (z5 b hb))))))
  have o0 := OFs.moved o0 (fun b hb hlt => kb.block b hlt (fun hy => d0 b hb (r1 b (r2 b (r3 b (r4 b (z5 b hy)))))))
  have o1 := Own.moved o1 (fun b hb hlt => kb.block b hlt (fun hy => d1 b hb (r2 b (r3 b (r4 b (z5 b hy))))))
  have o2 := Own.moved o2 (fun b hb hlt => kb.block b hlt (fun hy => d2 b hb (r3 b (r4 b (z5 b hy)))))
  have o3 := Own.moved o3 (fun b hb hlt => kb.block b hlt (fun hy => d3 b hb (r4 b (z5 b hy))))
  have o4 := Own.moved o4 (fun b hb hlt => kb.block b hlt (fun hy => d4 b hb (z5 b hy)))
  have o5 := n5
  clear n5
  have O0 := (kb.block _ (lt_heap O0) (fun hy => HN.out.1 (hzx _ hy))).trans O0
  have KB0 := KB0.trans (kb.more (fun b _ hy => hzx b hy))
  clear y6
  have HU := (show Hid (_ ∧ _ ∧ _ ∧ _ ∧ _ ∧ _ ∧ _ ∧ _ ∧ _) from ⟨O0, KB0, o0, o1, o2, o3, o4, o5, trivial⟩)
  clear HS kb hzx O0 KB0 hE o0 z0 r0 d0 o1 z1 r1 d1 o2 z2 r2 d2 o3 z3 r3 d3 o4 z4 r4 d4 o5 z5 r5 d5
  have HS := HU
  clear HU
  go_wp2
  go_ret
  obtain ⟨O0, KB0, o0, o1, o2, o3, o4, o5, -⟩ := HS.out
  obtain ⟨z0, r0, d0, z1, r1, d1, z2, r2, d2, z3, r3, d3, z4, r4, d4, z5, r5, d5, hE⟩ := HT.out
  have hfin : OFs _ [.slice p0 x0.length c0, .slice p1 x1.length c1, .slice p2 x2.length c2, .slice p3 x3.length c3, .slice p4 x4.length c4, .slice p5 x5.length c5, .slice p6 x6.length c6] [.row (Dt.mkS x0 (k)), .row (Dt.mkS x1 (k + (Dt.cntS x0 : Int))), .row (Dt.mkS x2 (k + (Dt.cntS x0 : Int) + (Dt.cntS x1 : Int))), .row (Dt.mkS x3 (k + (Dt.cntS x0 : Int) + (Dt.cntS x1 : Int) + (Dt.cntS x2 : Int))), .row (Dt.mkS x4 (k + (Dt.cntS x0 : Int) + (Dt.cntS x1 : Int) + (Dt.cntS x2 : Int) + (Dt.cntS x3 : Int))), .row (Dt.mkS x5 (k + (Dt.cntS x0 : Int) + (Dt.cntS x1 : Int) + (Dt.cntS x2 : Int) + (Dt.cntS x3 : Int) + (Dt.cntS x4 : Int))), .row (Dt.mkS x6 (k + (Dt.cntS x0 : Int) + (Dt.cntS x1 : Int) + (Dt.cntS x2 : Int) + (Dt.cntS x3 : Int) + (Dt.cntS x4 : Int) + (Dt.cntS x5 : Int)))] X' := (OFs.join (vs := [.slice p0 x0.length c0, .slice p1 x1.length c1]) (ds := [.row (Dt.mkS x0 (k)), .row (Dt.mkS x1 (k + (Dt.cntS x0 : Int)))]) z0 r0 d0 o0 ⟨Z1, R1, z1, r1, d1, o1, ⟨Z2, R2, z2, r2, d2, o2, ⟨Z3, R3, z3, r3, d3, o3, ⟨Z4, R4, z4, r4, d4, o4, ⟨Z5, R5, z5, r5, d5, o5, hE⟩⟩⟩⟩⟩)
  exact ⟨int_ret (by omega), hfin.mono HN.out.2, KB0.more (fun b _ hb => HN.out.2 b hb)⟩

end Go.Proofs.Ytlgnklpaebgnlaa
