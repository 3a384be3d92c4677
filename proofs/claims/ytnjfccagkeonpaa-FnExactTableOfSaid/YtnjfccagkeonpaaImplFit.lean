/-
  The program's codesFit: true for bodies of at most 16777216 expressions.
-/
import Derived.Test.YtnjfccagkeonpaaCodesOf
import Derived.Test.YtnjfccagkeonpaaRoundRegion
namespace Go.Proofs.Ytnjfccagkeonpaa
open Go.RowKit Go.Joins Go.Shelf

set_option maxRecDepth 100000
attribute [local go_sem] Oper.semAt_some

def FitI (w : World) (pre : List (Int × Ex)) (W : World) : Prop :=
  Below w.heap.size w W ∧ W.heap[w.heap.size]? = some (.cells #[.bool false] 4 (0, 0)) ∧ W.heap[w.heap.size + 1]? = some (.cells #[.int .i64 (pre.length : Int)] 3 (0, 0))
theorem FitI.stable (w : World) : StableT OT w.heap.size (FitI w) := by
  rintro pre W W' ⟨hb, h0, h1⟩ hs
  exact ⟨hb.trans hs.below, hs.cells _ _ _ _ h0 (by unfold OT; decide), hs.cells _ _ _ _ h1 (by unfold OT; decide)⟩

set_option maxHeartbeats 1600000 in
theorem codesFit_any (S : Nat → Prop) (d : Nat) (a : Option Addr) (cap : Nat) (es : List Ex) (w : World) (hk : KidsAt w S (d + 1) (.slice a es.length cap) es) (hcnt : Ex.countL es ≤ 2000000) :
    Calls Try.prog 20 #[.slice a es.length cap] w fun r w' => r = .returned (.bool true) ∧ Below w.heap.size w w' := by
  have hB3 : Below w.heap.size w (((w.alloc (.cells #[.bool false] 4)).alloc (.cells #[.int .i64 0] 3)).alloc (.cells #[.slice a es.length cap] 32)) := (((Below.refl _ w).alloc (Nat.le_refl _) _).alloc (by simp) _).alloc (by simp; omega) _
  have hbox : (((w.alloc (.cells #[.bool false] 4)).alloc (.cells #[.int .i64 0] 3)).alloc (.cells #[.slice a es.length cap] 32)).heap[w.heap.size + 1 + 1]? = some (.cells #[.slice a es.length cap] 32 (0, 0)) := by
    have := (MapKept.heap_alloc ((w.alloc (.cells #[.bool false] 4)).alloc (.cells #[.int .i64 0] 3)) (.cells #[.slice a es.length cap] 32)).1
    simpa using this
  have hV : (((w.alloc (.cells #[.bool false] 4)).alloc (.cells #[.int .i64 0] 3)).alloc (.cells #[.slice a es.length cap] 32)).heap[w.heap.size + 1]? = some (.cells #[.int .i64 0] 3 (0, 0)) := by
    rw [Below.heap_alloc _ _ _ (by simp)]
    have := (MapKept.heap_alloc (w.alloc (.cells #[.bool false] 4)) (.cells #[.int .i64 0] 3)).1
    simpa using this
  have hR : (((w.alloc (.cells #[.bool false] 4)).alloc (.cells #[.int .i64 0] 3)).alloc (.cells #[.slice a es.length cap] 32)).heap[w.heap.size]? = some (.cells #[.bool false] 4 (0, 0)) := by
    rw [Below.heap_alloc _ _ _ (by simp; omega), Below.heap_alloc _ _ _ (by simp)]
    exact (MapKept.heap_alloc w _).1
  have hk3 : KidsAt (((w.alloc (.cells #[.bool false] 4)).alloc (.cells #[.int .i64 0] 3)).alloc (.cells #[.slice a es.length cap] 32)) (fun b => b < w.heap.size) (d + 1) (.slice a es.length cap) es :=
    hk.kept (fun b _ hlt => hB3.block b hlt) hB3.size (fun b _ hlt => hlt)
  have hseq := codesOf1_any (((w.alloc (.cells #[.bool false] 4)).alloc (.cells #[.int .i64 0] 3)).alloc (.cells #[.slice a es.length cap] 32)) w.heap.size d (w.heap.size + 1 + 1) a cap es (by simp; omega) hbox hk3 hcnt
  have hI0 : FitI w [] (((w.alloc (.cells #[.bool false] 4)).alloc (.cells #[.int .i64 0] 3)).alloc (.cells #[.slice a es.length cap] 32)) := ⟨hB3, hR, hV⟩
  have HH := (show Hid (_ ∧ _) from ⟨hseq, hI0⟩)
  clear hB3 hbox hV hR hk3 hseq hI0 hk
  refine (callsIn_wide (n := 5)).1 ?_
  refine callsIn_of_wp_marks Try.func20 rfl trivial ?_ rfl
  simp only [Try.ntmps20, List.size_toArray, List.length_cons, List.length_nil, Nat.reduceAdd, Nat.reduceSub, Array.replicate_succ, Array.replicate_zero, List.push_toArray, List.append_toArray, List.nil_append, List.cons_append]
  gi_wp2_with fail
  refine ⟨trivial, (codesOf_any _ _ _ _ _).mono ?_⟩
  rintro e w' ⟨rfl, rfl⟩
  gi_wp2_with fail
  refine range_tell (gf := 54) (lb := #[.pointer (some ⟨w.heap.size + 1 + 1, 0, none⟩)]) (B := w.heap.size) (O := OT) (encs := encT) (xs := Ex.toldL (-1) 0 es) (by simp [go_sem]) (enters_of Try.func54 (by kernel_rfl) rfl)
    HH.out.1 (fun _ => rfl) (by simp; omega) (FitI w) (FitI.stable w) HH.out.2
    (fun _ x a' _ => a' = { tmps := #[.slice a es.length cap, undef, .pointer (some ⟨w.heap.size, 0, none⟩), .pointer (some ⟨w.heap.size + 1, 0, none⟩), .slice a es.length cap, .func (.func 54) #[] #[.pointer (some ⟨w.heap.size + 1 + 1, 0, none⟩)], .int .i64 x.1, .agg #[.int .i64 x.2.kind, .int .i64 x.2.n, .string x.2.text, .slice none 0 0], undef, undef, undef, undef], defers := [] })
    (fun _ _ _ _ _ _ h _ => h) ?assign ?body ?done
  case assign =>
    rintro l m pre x W K hx hI hK
    have HK := (show Hid (_ ∧ _) from ⟨hK, hI⟩)
    clear hK hI HH
    dsimp only [encT]
    simp only [Array.zip, List.zipWith_toArray]
    gi_wp2
    exact HK.out.1 _ _ (KeepT.refl _ _ _) HK.out.2 rfl
  case body =>
    rintro l m pre x a' W hx ⟨hb, h0, h1⟩ rfl
    have hpl : (pre.length : Int) + 1 ≤ 2000000 := by
      have := hx.length_le
      rw [List.length_append, Ex.toldL_len] at this
      simp at this
      omega
    have y0 : W.cell? ⟨w.heap.size + 1, 0, none⟩ = some (.int .i64 (pre.length : Int)) := by rw [cell_of_block h1]; rfl
    have f0 : W.frozen? ⟨w.heap.size + 1, 0, none⟩ = false := unfrozen_of_block h1 0
    have hng : ¬ (pre.length : Int) + 1 > 16777216 := by omega
    have HB := (show Hid (_ ∧ _ ∧ _) from ⟨hb, h0, h1⟩)
    clear hb h0 h1 HH hx
    gi_wp2
    refine ⟨KeepT.setCell HB.out.2.2 (by unfold OT; decide) (by omega) 0 _, HB.out.1.setCell (p := ⟨w.heap.size + 1, 0, none⟩) (by simp) _, (Below.heap_setCell _ _ _ _ (by show w.heap.size ≠ w.heap.size + 1; omega)).trans HB.out.2.1, ?_⟩
    rw [block_setCell HB.out.2.2]
    simp
  case done =>
    rintro D W hD ⟨hb, h0, h1⟩ hK
    have z0 : W.cell? ⟨w.heap.size, 0, none⟩ = some (.bool false) := by rw [cell_of_block h0]; rfl
    have f0 : W.frozen? ⟨w.heap.size, 0, none⟩ = false := unfrozen_of_block h0 0
    have HD := (show Hid (_ ∧ _ ∧ _) from ⟨hb, h0, hK⟩)
    clear hb h0 h1 hK HH
    gi_wp2
    have hD' : w.heap.size < D := by simp at hD; omega
    have hR := HD.out.2.1
    have hK2 : (W.setCell ⟨w.heap.size, 0, none⟩ (.bool true)).heap[D]? = some (.deferred (some [])) := by
      rw [Below.heap_setCell _ _ _ _ (by show D ≠ w.heap.size; omega)]
      exact HD.out.2.2
    have hS2 := StepT.putObj OT (B := w.heap.size) (.deferred none) (by omega) hK2 rfl
    have hB2 := (HD.out.1.setCell (p := ⟨w.heap.size, 0, none⟩) (Nat.le_refl _) (.bool true)).trans hS2.below
    have hbR := (World.putObj_heap_other (w := W.setCell ⟨w.heap.size, 0, none⟩ (.bool true)) (r := D) (o := .deferred none) (show w.heap.size ≠ D by omega)).trans (block_setCell hR (.bool true))
    refine ⟨by simp, .inl ⟨_, _, rfl, run_takeDeferred hK2, ?_⟩⟩
    have hc : ((W.setCell ⟨w.heap.size, 0, none⟩ (.bool true)).putObj D (.deferred none)).cell? ⟨w.heap.size, 0, none⟩ = some (.bool true) := by rw [cell_of_block hbR]; rfl
    refine ⟨.bool true, ?_, rfl, hB2⟩
    simp [results, Try.results20, go_sem, hc]
end Go.Proofs.Ytnjfccagkeonpaa
