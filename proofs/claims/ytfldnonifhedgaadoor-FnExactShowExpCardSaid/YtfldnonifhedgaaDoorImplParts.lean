/-
  The program's showParts.
-/
import Derived.Test.YtfldnonifhedgaaDoorShowPure
import Derived.Test.YtfldnonifhedgaaDoorImplDec
import Derived.Test.YtfldnonifhedgaaDoorKidCount
namespace Go.Proofs.YtfldnonifhedgaaDoor
open Go.RowKit Go.Joins

set_option maxRecDepth 100000

def bsOf (l : List UInt8) : ByteArray := ⟨l.toArray⟩
theorem bsOf_app (a b : List UInt8) : bsOf a ++ bsOf b = bsOf (a ++ b) := by
  apply ByteArray.ext
  simp [bsOf, ByteArray.data_append]
theorem bsOf_data (t : ByteArray) : bsOf t.data.toList = t := by unfold bsOf; simp
theorem app3 (a b c : List UInt8) : bsOf a ++ bsOf b ++ bsOf c = bsOf (a ++ b ++ c) := by rw [bsOf_app, bsOf_app]
theorem app3t (a : List UInt8) (t : ByteArray) (c : List UInt8) : bsOf a ++ t ++ bsOf c = bsOf (a ++ t.data.toList ++ c) := by rw [← app3, bsOf_data]
def partsV (k n : Int) (t : ByteArray) : Value := .agg #[.string (bsOf (partN k n t 0)), .string (bsOf (partN k n t 1)), .string (bsOf (partN k n t 2)), .string (bsOf (partN k n t 3))]
theorem parts_ret {a b c d a' b' c' d' : ByteArray} (h1 : a = a') (h2 : b = b') (h3 : c = c') (h4 : d = d') : Ending.returned (.agg #[.string a, .string b, .string c, .string d]) = .returned (.agg #[.string a', .string b', .string c', .string d']) := by rw [h1, h2, h3, h4]

theorem info4 : (Tryd.prog.info? 47).map (·.size) = some 4 := by kernel_rfl
theorem nodePlS {w : World} {d : Nat} {p : Addr} {e : Ex} (h : NodeAt w d p e) : Pl w p.block := by
  obtain ⟨b, o, kv, rfl, hp, _⟩ := h
  exact hp
/-- The table stays through what only makes memory. -/
theorem tab_below {w w' : World} (h : Lib.TabIs Tryd.prog w "internal/strconv.uint64pow10" .u64 Lib.pow10Tab) (hb : Below w.heap.size w w') : Lib.TabIs Tryd.prog w' "internal/strconv.uint64pow10" .u64 Lib.pow10Tab := Lib.tabBelow_of_tabIs h w' hb

set_option maxHeartbeats 1600000 in
theorem showParts_any (p : Addr) (e : Ex) (d : Nat) (w : World) (hn : NodeAt w d p e) (htz : e.text.size ≤ 1048576) (hlen : (e.kids.length : Int) = kidsOf e.kind) (htab : Lib.TabIs Tryd.prog w "internal/strconv.uint64pow10" .u64 Lib.pow10Tab) :
    Calls Tryd.prog 18 #[.pointer (some p)] w fun r w' => r = .returned (partsV e.kind e.n e.text) ∧ Below w.heap.size w w' := by
  have hn' := hn
  obtain ⟨b, o, kv, rfl, -, c0, c1, c2, -, -, hn64, htx, -⟩ := hn
  unfold inI64 at hn64
  have hil := itoa_len e.n hn64
  have hsz : (bsOf (Lib.itoa e.n)).size = (Lib.itoa e.n).length := by simp [bsOf, ByteArray.size]
  have HD : Hid (∀ w : World, Lib.TabIs Tryd.prog w "internal/strconv.uint64pow10" .u64 Lib.pow10Tab → Calls Tryd.prog 21 #[.int .i64 e.n] w fun r w' => r = .returned (.string (bsOf (Lib.itoa e.n))) ∧ Below w.heap.size w w') := fun w ht => DecText_any e.n w hn64.1 hn64.2 ht
  have hk12 : ¬ e.kind = 0 → ¬ e.kind = 1 → ¬ e.kind = 2 → ¬ e.kind = 3 → ¬ e.kind = 5 → ¬ e.kind = 6 → ¬ e.kind = 7 → ¬ e.kind = 8 → ¬ e.kind = 9 → ¬ e.kind = 10 → ¬ e.kind = 11 → e.kind = 4 := by
    intro h0 h1 h2 h3 h5 h6 h7 h8 h9 h10 h11
    have hp : 0 ≤ kidsOf e.kind := by omega
    unfold kidsOf at hp
    repeat' split at hp
    all_goals omega
  clear hlen
  unfold maxLen at htx
  have hlb : b < w.heap.size := (nodePlS hn').lt
  have O0 : (w.alloc (.cells #[.string ⟨#[]⟩, .string ⟨#[]⟩, .string ⟨#[]⟩, .string ⟨#[]⟩] 47)).heap[w.heap.size]? = some (.cells #[.string ⟨#[]⟩, .string ⟨#[]⟩, .string ⟨#[]⟩, .string ⟨#[]⟩] 47) := (MapKept.heap_alloc w _).1
  have P3 : (w.alloc (.cells #[.string ⟨#[]⟩, .string ⟨#[]⟩, .string ⟨#[]⟩, .string ⟨#[]⟩] 47)).heap.size = w.heap.size + 1 := by simp
  have B0 : Below w.heap.size w (w.alloc (.cells #[.string ⟨#[]⟩, .string ⟨#[]⟩, .string ⟨#[]⟩, .string ⟨#[]⟩] 47)) := (Below.refl _ w).alloc (Nat.le_refl _) _
  rw [← B0.cell (by exact hlb)] at c0 c1 c2
  have HB0 := (show Hid (_ ∧ _ ∧ _) from ⟨B0, O0, P3⟩)
  have HT : Hid (Lib.TabIs Tryd.prog (w.alloc (.cells #[.string ⟨#[]⟩, .string ⟨#[]⟩, .string ⟨#[]⟩, .string ⟨#[]⟩] 47)) "internal/strconv.uint64pow10" .u64 Lib.pow10Tab) := tab_below htab B0
  clear O0 B0 P3 htab
  by_cases h0 : e.kind = 0
  · rw [h0] at c0 ⊢
    go_enter Tryd.func18, Tryd.ntmps18
    go_wp2_with (go_at_call 21; refine (HD.out _ HT.out).mono ?_; rintro r w1 ⟨rfl, b1⟩; have O1 := (b1.block _ (by rw [HB0.out.2.2]; omega)).trans HB0.out.2.1; have f0 : w1.frozen? ⟨w.heap.size, 0, none⟩ = false := unfrozen_of_block O1 0; have f1 : w1.frozen? ⟨w.heap.size, 1, none⟩ = false := unfrozen_of_block O1 1; have f2 : w1.frozen? ⟨w.heap.size, 2, none⟩ = false := unfrozen_of_block O1 2; have f3 : w1.frozen? ⟨w.heap.size, 3, none⟩ = false := unfrozen_of_block O1 3; have y0 : w1.cell? ⟨w.heap.size, 0, none⟩ = some (.string ⟨#[]⟩) := (by rw [cell_of_block O1]; rfl); have y1 : w1.cell? ⟨w.heap.size, 1, none⟩ = some (.string ⟨#[]⟩) := (by rw [cell_of_block O1]; rfl); have y2 : w1.cell? ⟨w.heap.size, 2, none⟩ = some (.string ⟨#[]⟩) := (by rw [cell_of_block O1]; rfl); have y3 : w1.cell? ⟨w.heap.size, 3, none⟩ = some (.string ⟨#[]⟩) := (by rw [cell_of_block O1]; rfl))
    try simp only [Exit.inBlock, Exit.then]
    refine bodyPost_ret (results_cell_row rfl _ _ w.heap.size 47 _ (0, 0) _ rfl (block_setCell (block_setCell (block_setCell (block_setCell O1 _) _) _) _) Tryd.underlying47 rfl info4) rfl ?_
    exact ⟨parts_ret rfl rfl rfl rfl, ((((HB0.out.1.trans (b1.mono HB0.out.1.size)).setCell (p := ⟨w.heap.size, 0, none⟩) (Nat.le_refl _) _).setCell (p := ⟨w.heap.size, 1, none⟩) (Nat.le_refl _) _).setCell (p := ⟨w.heap.size, 2, none⟩) (Nat.le_refl _) _).setCell (p := ⟨w.heap.size, 3, none⟩) (Nat.le_refl _) _⟩
  by_cases h1 : e.kind = 1
  · rw [h1] at c0 ⊢
    go_enter Tryd.func18, Tryd.ntmps18
    go_wp2_with (go_at_call 21; refine (HD.out _ HT.out).mono ?_; rintro r w1 ⟨rfl, b1⟩; have O1 := (b1.block _ (by rw [HB0.out.2.2]; omega)).trans HB0.out.2.1; have f0 : w1.frozen? ⟨w.heap.size, 0, none⟩ = false := unfrozen_of_block O1 0; have f1 : w1.frozen? ⟨w.heap.size, 1, none⟩ = false := unfrozen_of_block O1 1; have f2 : w1.frozen? ⟨w.heap.size, 2, none⟩ = false := unfrozen_of_block O1 2; have f3 : w1.frozen? ⟨w.heap.size, 3, none⟩ = false := unfrozen_of_block O1 3; have y0 : w1.cell? ⟨w.heap.size, 0, none⟩ = some (.string ⟨#[]⟩) := (by rw [cell_of_block O1]; rfl); have y1 : w1.cell? ⟨w.heap.size, 1, none⟩ = some (.string ⟨#[]⟩) := (by rw [cell_of_block O1]; rfl); have y2 : w1.cell? ⟨w.heap.size, 2, none⟩ = some (.string ⟨#[]⟩) := (by rw [cell_of_block O1]; rfl); have y3 : w1.cell? ⟨w.heap.size, 3, none⟩ = some (.string ⟨#[]⟩) := (by rw [cell_of_block O1]; rfl))
    try simp only [Exit.inBlock, Exit.then]
    refine bodyPost_ret (results_cell_row rfl _ _ w.heap.size 47 _ (0, 0) _ rfl (block_setCell (block_setCell (block_setCell (block_setCell O1 _) _) _) _) Tryd.underlying47 rfl info4) rfl ?_
    exact ⟨parts_ret (bsOf_app [118] (Lib.itoa e.n)) rfl rfl rfl, ((((HB0.out.1.trans (b1.mono HB0.out.1.size)).setCell (p := ⟨w.heap.size, 0, none⟩) (Nat.le_refl _) _).setCell (p := ⟨w.heap.size, 1, none⟩) (Nat.le_refl _) _).setCell (p := ⟨w.heap.size, 2, none⟩) (Nat.le_refl _) _).setCell (p := ⟨w.heap.size, 3, none⟩) (Nat.le_refl _) _⟩
  by_cases h2 : e.kind = 2
  · rw [h2] at c0 ⊢
    go_enter Tryd.func18, Tryd.ntmps18
    go_wp2_with (go_at_call 21; refine (HD.out _ HT.out).mono ?_; rintro r w1 ⟨rfl, b1⟩; have O1 := (b1.block _ (by rw [HB0.out.2.2]; omega)).trans HB0.out.2.1; have f0 : w1.frozen? ⟨w.heap.size, 0, none⟩ = false := unfrozen_of_block O1 0; have f1 : w1.frozen? ⟨w.heap.size, 1, none⟩ = false := unfrozen_of_block O1 1; have f2 : w1.frozen? ⟨w.heap.size, 2, none⟩ = false := unfrozen_of_block O1 2; have f3 : w1.frozen? ⟨w.heap.size, 3, none⟩ = false := unfrozen_of_block O1 3; have y0 : w1.cell? ⟨w.heap.size, 0, none⟩ = some (.string ⟨#[]⟩) := (by rw [cell_of_block O1]; rfl); have y1 : w1.cell? ⟨w.heap.size, 1, none⟩ = some (.string ⟨#[]⟩) := (by rw [cell_of_block O1]; rfl); have y2 : w1.cell? ⟨w.heap.size, 2, none⟩ = some (.string ⟨#[]⟩) := (by rw [cell_of_block O1]; rfl); have y3 : w1.cell? ⟨w.heap.size, 3, none⟩ = some (.string ⟨#[]⟩) := (by rw [cell_of_block O1]; rfl))
    try simp only [Exit.inBlock, Exit.then]
    refine bodyPost_ret (results_cell_row rfl _ _ w.heap.size 47 _ (0, 0) _ rfl (block_setCell (block_setCell (block_setCell (block_setCell O1 _) _) _) _) Tryd.underlying47 rfl info4) rfl ?_
    exact ⟨parts_ret (bsOf_app [116] (Lib.itoa e.n)) rfl rfl rfl, ((((HB0.out.1.trans (b1.mono HB0.out.1.size)).setCell (p := ⟨w.heap.size, 0, none⟩) (Nat.le_refl _) _).setCell (p := ⟨w.heap.size, 1, none⟩) (Nat.le_refl _) _).setCell (p := ⟨w.heap.size, 2, none⟩) (Nat.le_refl _) _).setCell (p := ⟨w.heap.size, 3, none⟩) (Nat.le_refl _) _⟩
  by_cases h3 : e.kind = 3
  · rw [h3] at c0 ⊢
    go_enter Tryd.func18, Tryd.ntmps18
    go_wp2_with (go_at_call 21; refine (HD.out _ HT.out).mono ?_; rintro r w1 ⟨rfl, b1⟩; have O1 := (b1.block _ (by rw [HB0.out.2.2]; omega)).trans HB0.out.2.1; have f0 : w1.frozen? ⟨w.heap.size, 0, none⟩ = false := unfrozen_of_block O1 0; have f1 : w1.frozen? ⟨w.heap.size, 1, none⟩ = false := unfrozen_of_block O1 1; have f2 : w1.frozen? ⟨w.heap.size, 2, none⟩ = false := unfrozen_of_block O1 2; have f3 : w1.frozen? ⟨w.heap.size, 3, none⟩ = false := unfrozen_of_block O1 3; have y0 : w1.cell? ⟨w.heap.size, 0, none⟩ = some (.string ⟨#[]⟩) := (by rw [cell_of_block O1]; rfl); have y1 : w1.cell? ⟨w.heap.size, 1, none⟩ = some (.string ⟨#[]⟩) := (by rw [cell_of_block O1]; rfl); have y2 : w1.cell? ⟨w.heap.size, 2, none⟩ = some (.string ⟨#[]⟩) := (by rw [cell_of_block O1]; rfl); have y3 : w1.cell? ⟨w.heap.size, 3, none⟩ = some (.string ⟨#[]⟩) := (by rw [cell_of_block O1]; rfl))
    try simp only [Exit.inBlock, Exit.then]
    refine bodyPost_ret (results_cell_row rfl _ _ w.heap.size 47 _ (0, 0) _ rfl (block_setCell (block_setCell (block_setCell (block_setCell O1 _) _) _) _) Tryd.underlying47 rfl info4) rfl ?_
    exact ⟨parts_ret ((app3 [40, 92] (Lib.itoa e.n) [32, 46, 32])) rfl rfl rfl, ((((HB0.out.1.trans (b1.mono HB0.out.1.size)).setCell (p := ⟨w.heap.size, 0, none⟩) (Nat.le_refl _) _).setCell (p := ⟨w.heap.size, 1, none⟩) (Nat.le_refl _) _).setCell (p := ⟨w.heap.size, 2, none⟩) (Nat.le_refl _) _).setCell (p := ⟨w.heap.size, 3, none⟩) (Nat.le_refl _) _⟩
  by_cases h5 : e.kind = 5
  · rw [h5] at c0 ⊢
    go_enter Tryd.func18, Tryd.ntmps18
    go_wp2
    try simp only [Exit.inBlock, Exit.then]
    refine bodyPost_ret (results_cell_row rfl _ _ w.heap.size 47 _ (0, 0) _ rfl (MapKept.heap_alloc w _).1 Tryd.underlying47 rfl info4) rfl ?_
    exact ⟨parts_ret rfl rfl rfl rfl, (Below.refl _ w).alloc (Nat.le_refl _) _⟩
  by_cases h6 : e.kind = 6
  · rw [h6] at c0 ⊢
    go_enter Tryd.func18, Tryd.ntmps18
    go_wp2
    try simp only [Exit.inBlock, Exit.then]
    refine bodyPost_ret (results_cell_row rfl _ _ w.heap.size 47 _ (0, 0) _ rfl (MapKept.heap_alloc w _).1 Tryd.underlying47 rfl info4) rfl ?_
    exact ⟨parts_ret rfl rfl rfl rfl, (Below.refl _ w).alloc (Nat.le_refl _) _⟩
  by_cases h7 : e.kind = 7
  · rw [h7] at c0 ⊢
    go_enter Tryd.func18, Tryd.ntmps18
    go_wp2
    try simp only [Exit.inBlock, Exit.then]
    refine bodyPost_ret (results_cell_row rfl _ _ w.heap.size 47 _ (0, 0) _ rfl (MapKept.heap_alloc w _).1 Tryd.underlying47 rfl info4) rfl ?_
    exact ⟨parts_ret rfl rfl rfl rfl, (Below.refl _ w).alloc (Nat.le_refl _) _⟩
  by_cases h8 : e.kind = 8
  · rw [h8] at c0 ⊢
    go_enter Tryd.func18, Tryd.ntmps18
    go_wp2
    try simp only [Exit.inBlock, Exit.then]
    refine bodyPost_ret (results_cell_row rfl _ _ w.heap.size 47 _ (0, 0) _ rfl (MapKept.heap_alloc w _).1 Tryd.underlying47 rfl info4) rfl ?_
    exact ⟨parts_ret rfl rfl rfl rfl, (Below.refl _ w).alloc (Nat.le_refl _) _⟩
  by_cases h9 : e.kind = 9
  · rw [h9] at c0 ⊢
    go_enter Tryd.func18, Tryd.ntmps18
    go_wp2
    try simp only [Exit.inBlock, Exit.then]
    refine bodyPost_ret (results_cell_row rfl _ _ w.heap.size 47 _ (0, 0) _ rfl (MapKept.heap_alloc w _).1 Tryd.underlying47 rfl info4) rfl ?_
    exact ⟨parts_ret rfl rfl rfl rfl, (Below.refl _ w).alloc (Nat.le_refl _) _⟩
  by_cases h10 : e.kind = 10
  · rw [h10] at c0 ⊢
    go_enter Tryd.func18, Tryd.ntmps18
    go_wp2
    try simp only [Exit.inBlock, Exit.then]
    refine bodyPost_ret (results_cell_row rfl _ _ w.heap.size 47 _ (0, 0) _ rfl (MapKept.heap_alloc w _).1 Tryd.underlying47 rfl info4) rfl ?_
    exact ⟨parts_ret rfl (app3t [32] e.text [32]) rfl rfl, (Below.refl _ w).alloc (Nat.le_refl _) _⟩
  by_cases h11 : e.kind = 11
  · rw [h11] at c0 ⊢
    go_enter Tryd.func18, Tryd.ntmps18
    go_wp2
    try simp only [Exit.inBlock, Exit.then]
    refine bodyPost_ret (results_cell_row rfl _ _ w.heap.size 47 _ (0, 0) _ rfl (MapKept.heap_alloc w _).1 Tryd.underlying47 rfl info4) rfl ?_
    exact ⟨parts_ret rfl rfl rfl rfl, (Below.refl _ w).alloc (Nat.le_refl _) _⟩
  have hk4 : e.kind = 4 := hk12 h0 h1 h2 h3 h5 h6 h7 h8 h9 h10 h11
  rw [hk4] at c0 ⊢
  go_enter Tryd.func18, Tryd.ntmps18
  go_wp2
  try simp only [Exit.inBlock, Exit.then]
  refine bodyPost_ret (results_cell_row rfl _ _ w.heap.size 47 _ (0, 0) _ rfl (MapKept.heap_alloc w _).1 Tryd.underlying47 rfl info4) rfl ?_
  exact ⟨parts_ret rfl rfl rfl rfl, (Below.refl _ w).alloc (Nat.le_refl _) _⟩
end Go.Proofs.YtfldnonifhedgaaDoor
