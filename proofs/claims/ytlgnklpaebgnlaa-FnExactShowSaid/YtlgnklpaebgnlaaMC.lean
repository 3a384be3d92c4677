/-
  slices.Clone at rows of Code.
  slices.Clone at rows of Int.
  slices.Clone at rows of Cell.
  slices.Clone at rows of Thread.
  slices.Clone at rows of Frame.
  slices.Clone at rows of Msg.
-/
import Derived.Test.YtlgnklpaebgnlaaDtCopy
import Derived.Lib.SliceRun
namespace Go.Proofs.Ytlgnklpaebgnlaa
open Go.RowKit Go.Joins

set_option maxRecDepth 100000

theorem infoLCode : (Try.prog.info? 145).map (fun i => (i.zero, i.size, i.bytes)) = some (some (.agg #[.int .i64 0, .int .i64 0, .string ⟨#[]⟩, .slice none 0 0]), 4, 56) := by kernel_rfl
set_option maxHeartbeats 1600000 in
theorem cloneCode_dt : ClS 106 145 4 CodeR := by
  intro v xs S w hP h hb
  have qn : ∀ (w : World) (a : Option Addr) (n c n' c' : Nat), (binOp .eql 32 (.slice a n c) (.slice none n' c')).run Try.prog w = .ok (.bool a.isNone) w := fun w a n c n' c' => Lib.run_eql_slice_nil w _ _ a n c n' c' Try.underlying32
  obtain ⟨i0, hi, hz0, hz1, hz2⟩ := info_parts infoLCode
  have hN := hP.len CodeR.len
  obtain ⟨a, cap, rfl⟩ := h.form
  cases a with
  | none =>
    obtain rfl : xs = [] := by
      cases xs with
      | nil => rfl
      | cons x xs => obtain ⟨b, off, he, _⟩ := h.at (k := 0) rfl; cases he
    clear h hP hN
    go_enter Try.func106, Try.ntmps106
    go_wp2
    go_ret
    exact ⟨_, rfl, .inl ⟨rfl, rfl⟩, Below.refl _ _⟩
  | some ad =>
    obtain ⟨flat, hfl, hsrc, hone, hcell⟩ := h.flat hN (by omega)
    have hsrc' : ∀ j u, flat[j]? = some u → (w.alloc (.cells #[] 145)).cell? (ad.add j) = some u := fun j u hj =>
      (World.cell?_of_block (Below.heap_alloc w _ _ (by rw [add_block]; exact (hsrc j u hj).2))).trans (hsrc j u hj).1
    have B0 : Below w.heap.size w (w.alloc (.cells #[] 145)) := (Below.refl _ w).alloc (Nat.le_refl _) _
    have H0 := (show Hid (_ ∧ _ ∧ _ ∧ _ ∧ _ ∧ _) from ⟨World.ownsRow_made (size := 4) (e := 145) w #[] 0 (Nat.le_refl _) (Nat.zero_le _) (by simp), hsrc', B0, hfl, hone, hcell⟩)
    clear h hP hN hsrc hsrc' B0 hfl hone hcell
    go_enter Try.func106, Try.ntmps106
    go_wp2_with (at_builtin; refine wpList_append_own_at _ rfl _ _ 32 rfl w.heap.size 145 i0 (.agg #[.int .i64 0, .int .i64 0, .string ⟨#[]⟩, .slice none 0 0]) 4 56 Try.underlying32 hi hz0 hz1 hz2 rfl (by decide) _ 0 _ rfl H0.out.1 ad xs.length cap flat rfl H0.out.2.2.2.1 H0.out.2.1 H0.out.2.2.2.2.1 (by unfold maxLen; omega) (by omega) (by simp) ?_; intro v5 w5 hown5 hgrow5 hnil5 hat5; have H5 := (show Hid (_ ∧ _) from ⟨hown5, hgrow5⟩); clear hown5 hgrow5 hnil5 hat5)
    go_ret
    refine ⟨_, rfl, Cloned.of_own (flat := flat) ?_ H0.out.2.2.2.2.2, Below.grown H0.out.2.2.1 H5.out.2 (hB := H0.out.2.2.1.size) (hr := fun b hb => (own_type H0.out.1 b hb).1)⟩
    have := H5.out.1
    rw [Nat.zero_add, List.nil_append] at this
    exact this

end Go.Proofs.Ytlgnklpaebgnlaa

namespace Go.Proofs.Ytlgnklpaebgnlaa
open Go.RowKit Go.Joins

set_option maxRecDepth 100000

theorem infoLInt : (Try.prog.info? 3).map (fun i => (i.zero, i.size, i.bytes)) = some (some (.int .i64 0), 1, 8) := by kernel_rfl
set_option maxHeartbeats 1600000 in
theorem cloneInt_dt : ClS 70 3 1 IntR := by
  intro v xs S w hP h hb
  have qn : ∀ (w : World) (a : Option Addr) (n c n' c' : Nat), (binOp .eql 23 (.slice a n c) (.slice none n' c')).run Try.prog w = .ok (.bool a.isNone) w := fun w a n c n' c' => Lib.run_eql_slice_nil w _ _ a n c n' c' Try.underlying23
  obtain ⟨i0, hi, hz0, hz1, hz2⟩ := info_parts infoLInt
  have hN := hP.len IntR.len
  obtain ⟨a, cap, rfl⟩ := h.form
  cases a with
  | none =>
    obtain rfl : xs = [] := by
      cases xs with
      | nil => rfl
      | cons x xs => obtain ⟨b, off, he, _⟩ := h.at (k := 0) rfl; cases he
    clear h hP hN
    go_enter Try.func70, Try.ntmps70
    go_wp2
    go_ret
    exact ⟨_, rfl, .inl ⟨rfl, rfl⟩, Below.refl _ _⟩
  | some ad =>
    obtain ⟨flat, hfl, hsrc, hone, hcell⟩ := h.flat hN (by omega)
    have hsrc' : ∀ j u, flat[j]? = some u → (w.alloc (.cells #[] 3)).cell? (ad.add j) = some u := fun j u hj =>
      (World.cell?_of_block (Below.heap_alloc w _ _ (by rw [add_block]; exact (hsrc j u hj).2))).trans (hsrc j u hj).1
    have B0 : Below w.heap.size w (w.alloc (.cells #[] 3)) := (Below.refl _ w).alloc (Nat.le_refl _) _
    have H0 := (show Hid (_ ∧ _ ∧ _ ∧ _ ∧ _ ∧ _) from ⟨World.ownsRow_made (size := 1) (e := 3) w #[] 0 (Nat.le_refl _) (Nat.zero_le _) (by simp), hsrc', B0, hfl, hone, hcell⟩)
    clear h hP hN hsrc hsrc' B0 hfl hone hcell
    go_enter Try.func70, Try.ntmps70
    go_wp2_with (at_builtin; refine wpList_append_own_at _ rfl _ _ 23 rfl w.heap.size 3 i0 (.int .i64 0) 1 8 Try.underlying23 hi hz0 hz1 hz2 rfl (by decide) _ 0 _ rfl H0.out.1 ad xs.length cap flat rfl H0.out.2.2.2.1 H0.out.2.1 H0.out.2.2.2.2.1 (by unfold maxLen; omega) (by omega) (by simp) ?_; intro v5 w5 hown5 hgrow5 hnil5 hat5; have H5 := (show Hid (_ ∧ _) from ⟨hown5, hgrow5⟩); clear hown5 hgrow5 hnil5 hat5)
    go_ret
    refine ⟨_, rfl, Cloned.of_own (flat := flat) ?_ H0.out.2.2.2.2.2, Below.grown H0.out.2.2.1 H5.out.2 (hB := H0.out.2.2.1.size) (hr := fun b hb => (own_type H0.out.1 b hb).1)⟩
    have := H5.out.1
    rw [Nat.zero_add, List.nil_append] at this
    exact this
theorem cloneIntO_dt : ToS 70 IntR := by
  intro v xs S w hP h hb
  have hlen := bulkS_len xs
  refine (cloneInt_dt v xs S w hP h (by omega)).mono ?_
  rintro e w1 ⟨u, rfl, hc, b1⟩
  exact ⟨u, rfl, hc.own (hP.len IntR.len) (fun i j r d hr hj => (hP i r hr).atoms j d hj), b1⟩

end Go.Proofs.Ytlgnklpaebgnlaa

namespace Go.Proofs.Ytlgnklpaebgnlaa
open Go.RowKit Go.Joins

set_option maxRecDepth 100000

theorem infoLCell : (Try.prog.info? 114).map (fun i => (i.zero, i.size, i.bytes)) = some (some (.agg #[.int .i64 0, .int .i64 0, .int .i64 0, .slice none 0 0]), 4, 48) := by kernel_rfl
set_option maxHeartbeats 1600000 in
theorem cloneCell_dt : ClS 93 114 4 CellR := by
  intro v xs S w hP h hb
  have qn : ∀ (w : World) (a : Option Addr) (n c n' c' : Nat), (binOp .eql 35 (.slice a n c) (.slice none n' c')).run Try.prog w = .ok (.bool a.isNone) w := fun w a n c n' c' => Lib.run_eql_slice_nil w _ _ a n c n' c' Try.underlying35
  obtain ⟨i0, hi, hz0, hz1, hz2⟩ := info_parts infoLCell
  have hN := hP.len CellR.len
  obtain ⟨a, cap, rfl⟩ := h.form
  cases a with
  | none =>
    obtain rfl : xs = [] := by
      cases xs with
      | nil => rfl
      | cons x xs => obtain ⟨b, off, he, _⟩ := h.at (k := 0) rfl; cases he
    clear h hP hN
    go_enter Try.func93, Try.ntmps93
    go_wp2
    go_ret
    exact ⟨_, rfl, .inl ⟨rfl, rfl⟩, Below.refl _ _⟩
  | some ad =>
    obtain ⟨flat, hfl, hsrc, hone, hcell⟩ := h.flat hN (by omega)
    have hsrc' : ∀ j u, flat[j]? = some u → (w.alloc (.cells #[] 114)).cell? (ad.add j) = some u := fun j u hj =>
      (World.cell?_of_block (Below.heap_alloc w _ _ (by rw [add_block]; exact (hsrc j u hj).2))).trans (hsrc j u hj).1
    have B0 : Below w.heap.size w (w.alloc (.cells #[] 114)) := (Below.refl _ w).alloc (Nat.le_refl _) _
    have H0 := (show Hid (_ ∧ _ ∧ _ ∧ _ ∧ _ ∧ _) from ⟨World.ownsRow_made (size := 4) (e := 114) w #[] 0 (Nat.le_refl _) (Nat.zero_le _) (by simp), hsrc', B0, hfl, hone, hcell⟩)
    clear h hP hN hsrc hsrc' B0 hfl hone hcell
    go_enter Try.func93, Try.ntmps93
    go_wp2_with (at_builtin; refine wpList_append_own_at _ rfl _ _ 35 rfl w.heap.size 114 i0 (.agg #[.int .i64 0, .int .i64 0, .int .i64 0, .slice none 0 0]) 4 48 Try.underlying35 hi hz0 hz1 hz2 rfl (by decide) _ 0 _ rfl H0.out.1 ad xs.length cap flat rfl H0.out.2.2.2.1 H0.out.2.1 H0.out.2.2.2.2.1 (by unfold maxLen; omega) (by omega) (by simp) ?_; intro v5 w5 hown5 hgrow5 hnil5 hat5; have H5 := (show Hid (_ ∧ _) from ⟨hown5, hgrow5⟩); clear hown5 hgrow5 hnil5 hat5)
    go_ret
    refine ⟨_, rfl, Cloned.of_own (flat := flat) ?_ H0.out.2.2.2.2.2, Below.grown H0.out.2.2.1 H5.out.2 (hB := H0.out.2.2.1.size) (hr := fun b hb => (own_type H0.out.1 b hb).1)⟩
    have := H5.out.1
    rw [Nat.zero_add, List.nil_append] at this
    exact this

end Go.Proofs.Ytlgnklpaebgnlaa

namespace Go.Proofs.Ytlgnklpaebgnlaa
open Go.RowKit Go.Joins

set_option maxRecDepth 100000

theorem infoLThread : (Try.prog.info? 69).map (fun i => (i.zero, i.size, i.bytes)) = some (some (.agg #[.int .i64 0, .int .i64 0, .slice none 0 0, .slice none 0 0, .string ⟨#[]⟩]), 5, 80) := by kernel_rfl
set_option maxHeartbeats 1600000 in
theorem cloneThread_dt : ClS 95 69 5 ThreadR := by
  intro v xs S w hP h hb
  have qn : ∀ (w : World) (a : Option Addr) (n c n' c' : Nat), (binOp .eql 36 (.slice a n c) (.slice none n' c')).run Try.prog w = .ok (.bool a.isNone) w := fun w a n c n' c' => Lib.run_eql_slice_nil w _ _ a n c n' c' Try.underlying36
  obtain ⟨i0, hi, hz0, hz1, hz2⟩ := info_parts infoLThread
  have hN := hP.len ThreadR.len
  obtain ⟨a, cap, rfl⟩ := h.form
  cases a with
  | none =>
    obtain rfl : xs = [] := by
      cases xs with
      | nil => rfl
      | cons x xs => obtain ⟨b, off, he, _⟩ := h.at (k := 0) rfl; cases he
    clear h hP hN
    go_enter Try.func95, Try.ntmps95
    go_wp2
    go_ret
    exact ⟨_, rfl, .inl ⟨rfl, rfl⟩, Below.refl _ _⟩
  | some ad =>
    obtain ⟨flat, hfl, hsrc, hone, hcell⟩ := h.flat hN (by omega)
    have hsrc' : ∀ j u, flat[j]? = some u → (w.alloc (.cells #[] 69)).cell? (ad.add j) = some u := fun j u hj =>
      (World.cell?_of_block (Below.heap_alloc w _ _ (by rw [add_block]; exact (hsrc j u hj).2))).trans (hsrc j u hj).1
    have B0 : Below w.heap.size w (w.alloc (.cells #[] 69)) := (Below.refl _ w).alloc (Nat.le_refl _) _
    have H0 := (show Hid (_ ∧ _ ∧ _ ∧ _ ∧ _ ∧ _) from ⟨World.ownsRow_made (size := 5) (e := 69) w #[] 0 (Nat.le_refl _) (Nat.zero_le _) (by simp), hsrc', B0, hfl, hone, hcell⟩)
    clear h hP hN hsrc hsrc' B0 hfl hone hcell
    go_enter Try.func95, Try.ntmps95
    go_wp2_with (at_builtin; refine wpList_append_own_at _ rfl _ _ 36 rfl w.heap.size 69 i0 (.agg #[.int .i64 0, .int .i64 0, .slice none 0 0, .slice none 0 0, .string ⟨#[]⟩]) 5 80 Try.underlying36 hi hz0 hz1 hz2 rfl (by decide) _ 0 _ rfl H0.out.1 ad xs.length cap flat rfl H0.out.2.2.2.1 H0.out.2.1 H0.out.2.2.2.2.1 (by unfold maxLen; omega) (by omega) (by simp) ?_; intro v5 w5 hown5 hgrow5 hnil5 hat5; have H5 := (show Hid (_ ∧ _) from ⟨hown5, hgrow5⟩); clear hown5 hgrow5 hnil5 hat5)
    go_ret
    refine ⟨_, rfl, Cloned.of_own (flat := flat) ?_ H0.out.2.2.2.2.2, Below.grown H0.out.2.2.1 H5.out.2 (hB := H0.out.2.2.1.size) (hr := fun b hb => (own_type H0.out.1 b hb).1)⟩
    have := H5.out.1
    rw [Nat.zero_add, List.nil_append] at this
    exact this

end Go.Proofs.Ytlgnklpaebgnlaa

namespace Go.Proofs.Ytlgnklpaebgnlaa
open Go.RowKit Go.Joins

set_option maxRecDepth 100000

theorem infoLFrame : (Try.prog.info? 66).map (fun i => (i.zero, i.size, i.bytes)) = some (some (.agg #[.int .i64 0, .int .i64 0, .int .i64 0, .slice none 0 0]), 4, 48) := by kernel_rfl
set_option maxHeartbeats 1600000 in
theorem cloneFrame_dt : ClS 107 66 4 FrameR := by
  intro v xs S w hP h hb
  have qn : ∀ (w : World) (a : Option Addr) (n c n' c' : Nat), (binOp .eql 67 (.slice a n c) (.slice none n' c')).run Try.prog w = .ok (.bool a.isNone) w := fun w a n c n' c' => Lib.run_eql_slice_nil w _ _ a n c n' c' Try.underlying67
  obtain ⟨i0, hi, hz0, hz1, hz2⟩ := info_parts infoLFrame
  have hN := hP.len FrameR.len
  obtain ⟨a, cap, rfl⟩ := h.form
  cases a with
  | none =>
    obtain rfl : xs = [] := by
      cases xs with
      | nil => rfl
      | cons x xs => obtain ⟨b, off, he, _⟩ := h.at (k := 0) rfl; cases he
    clear h hP hN
    go_enter Try.func107, Try.ntmps107
    go_wp2
    go_ret
    exact ⟨_, rfl, .inl ⟨rfl, rfl⟩, Below.refl _ _⟩
  | some ad =>
    obtain ⟨flat, hfl, hsrc, hone, hcell⟩ := h.flat hN (by omega)
    have hsrc' : ∀ j u, flat[j]? = some u → (w.alloc (.cells #[] 66)).cell? (ad.add j) = some u := fun j u hj =>
      (World.cell?_of_block (Below.heap_alloc w _ _ (by rw [add_block]; exact (hsrc j u hj).2))).trans (hsrc j u hj).1
    have B0 : Below w.heap.size w (w.alloc (.cells #[] 66)) := (Below.refl _ w).alloc (Nat.le_refl _) _
    have H0 := (show Hid (_ ∧ _ ∧ _ ∧ _ ∧ _ ∧ _) from ⟨World.ownsRow_made (size := 4) (e := 66) w #[] 0 (Nat.le_refl _) (Nat.zero_le _) (by simp), hsrc', B0, hfl, hone, hcell⟩)
    clear h hP hN hsrc hsrc' B0 hfl hone hcell
    go_enter Try.func107, Try.ntmps107
    go_wp2_with (at_builtin; refine wpList_append_own_at _ rfl _ _ 67 rfl w.heap.size 66 i0 (.agg #[.int .i64 0, .int .i64 0, .int .i64 0, .slice none 0 0]) 4 48 Try.underlying67 hi hz0 hz1 hz2 rfl (by decide) _ 0 _ rfl H0.out.1 ad xs.length cap flat rfl H0.out.2.2.2.1 H0.out.2.1 H0.out.2.2.2.2.1 (by unfold maxLen; omega) (by omega) (by simp) ?_; intro v5 w5 hown5 hgrow5 hnil5 hat5; have H5 := (show Hid (_ ∧ _) from ⟨hown5, hgrow5⟩); clear hown5 hgrow5 hnil5 hat5)
    go_ret
    refine ⟨_, rfl, Cloned.of_own (flat := flat) ?_ H0.out.2.2.2.2.2, Below.grown H0.out.2.2.1 H5.out.2 (hB := H0.out.2.2.1.size) (hr := fun b hb => (own_type H0.out.1 b hb).1)⟩
    have := H5.out.1
    rw [Nat.zero_add, List.nil_append] at this
    exact this

end Go.Proofs.Ytlgnklpaebgnlaa

namespace Go.Proofs.Ytlgnklpaebgnlaa
open Go.RowKit Go.Joins

set_option maxRecDepth 100000

theorem infoLMsg : (Try.prog.info? 118).map (fun i => (i.zero, i.size, i.bytes)) = some (some (.agg #[.int .i64 0, .int .i64 0, .int .i64 0, .int .i64 0, .int .i64 0, .int .i64 0, .int .i64 0, .int .i64 0, .slice none 0 0]), 9, 88) := by kernel_rfl
set_option maxHeartbeats 1600000 in
theorem cloneMsg_dt : ClS 98 118 9 MsgR := by
  intro v xs S w hP h hb
  have qn : ∀ (w : World) (a : Option Addr) (n c n' c' : Nat), (binOp .eql 37 (.slice a n c) (.slice none n' c')).run Try.prog w = .ok (.bool a.isNone) w := fun w a n c n' c' => Lib.run_eql_slice_nil w _ _ a n c n' c' Try.underlying37
  obtain ⟨i0, hi, hz0, hz1, hz2⟩ := info_parts infoLMsg
  have hN := hP.len MsgR.len
  obtain ⟨a, cap, rfl⟩ := h.form
  cases a with
  | none =>
    obtain rfl : xs = [] := by
      cases xs with
      | nil => rfl
      | cons x xs => obtain ⟨b, off, he, _⟩ := h.at (k := 0) rfl; cases he
    clear h hP hN
    go_enter Try.func98, Try.ntmps98
    go_wp2
    go_ret
    exact ⟨_, rfl, .inl ⟨rfl, rfl⟩, Below.refl _ _⟩
  | some ad =>
    obtain ⟨flat, hfl, hsrc, hone, hcell⟩ := h.flat hN (by omega)
    have hsrc' : ∀ j u, flat[j]? = some u → (w.alloc (.cells #[] 118)).cell? (ad.add j) = some u := fun j u hj =>
      (World.cell?_of_block (Below.heap_alloc w _ _ (by rw [add_block]; exact (hsrc j u hj).2))).trans (hsrc j u hj).1
    have B0 : Below w.heap.size w (w.alloc (.cells #[] 118)) := (Below.refl _ w).alloc (Nat.le_refl _) _
    have H0 := (show Hid (_ ∧ _ ∧ _ ∧ _ ∧ _ ∧ _) from ⟨World.ownsRow_made (size := 9) (e := 118) w #[] 0 (Nat.le_refl _) (Nat.zero_le _) (by simp), hsrc', B0, hfl, hone, hcell⟩)
    clear h hP hN hsrc hsrc' B0 hfl hone hcell
    go_enter Try.func98, Try.ntmps98
    go_wp2_with (at_builtin; refine wpList_append_own_at _ rfl _ _ 37 rfl w.heap.size 118 i0 (.agg #[.int .i64 0, .int .i64 0, .int .i64 0, .int .i64 0, .int .i64 0, .int .i64 0, .int .i64 0, .int .i64 0, .slice none 0 0]) 9 88 Try.underlying37 hi hz0 hz1 hz2 rfl (by decide) _ 0 _ rfl H0.out.1 ad xs.length cap flat rfl H0.out.2.2.2.1 H0.out.2.1 H0.out.2.2.2.2.1 (by unfold maxLen; omega) (by omega) (by simp) ?_; intro v5 w5 hown5 hgrow5 hnil5 hat5; have H5 := (show Hid (_ ∧ _) from ⟨hown5, hgrow5⟩); clear hown5 hgrow5 hnil5 hat5)
    go_ret
    refine ⟨_, rfl, Cloned.of_own (flat := flat) ?_ H0.out.2.2.2.2.2, Below.grown H0.out.2.2.1 H5.out.2 (hB := H0.out.2.2.1.size) (hr := fun b hb => (own_type H0.out.1 b hb).1)⟩
    have := H5.out.1
    rw [Nat.zero_add, List.nil_append] at this
    exact this

end Go.Proofs.Ytlgnklpaebgnlaa
