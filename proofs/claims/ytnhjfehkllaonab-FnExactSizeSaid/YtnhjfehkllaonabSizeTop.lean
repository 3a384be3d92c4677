/-
  The program's Size.
-/
import Derived.Test.YtnhjfehkllaonabSizeOf
import Derived.Test.YtnhjfehkllaonabSpecSize
namespace Go.Proofs.Ytnhjfehkllaonab
open Go.RowKit Go.Joins

set_option maxRecDepth 100000

set_option maxHeartbeats 3200000 in
theorem size_any (d : Nat) (v : Value) (p : Pr) (w : World) (h : PrAt w (Pl w) d v p) (hb : p.bulk ≤ 1048576) :
    Calls Try.prog 13 #[v] w fun e w' => e = .returned (.int .i64 (Ex.countL p.bodies : Int)) ∧ Below w.heap.size w w' := by
  have hbk : p.bulk = bulkS p.names + Ex.bulkL p.bodies := rfl
  have hcb := Ex.countL_bulk p.bodies
  have hcl := countL_take_le p.bodies
  have hct := Ex.countL_take p.bodies
  obtain ⟨nv, bv, rfl, hn, hk⟩ := h
  obtain ⟨a1, c1, rfl⟩ := hn.form
  cases d with
  | zero => exact hk.elim
  | succ d =>
  obtain ⟨a, cap, rfl, hl, hc⟩ := hk
  unfold maxLen at hl
  have O0 : (w.alloc (.cells #[.slice a1 p.names.length c1, .slice a p.bodies.length cap] 38)).heap[w.heap.size]? = some (.cells #[.slice a1 p.names.length c1, .slice a p.bodies.length cap] 38) := (MapKept.heap_alloc w _).1
  have P3 : (w.alloc (.cells #[.slice a1 p.names.length c1, .slice a p.bodies.length cap] 38)).heap.size = w.heap.size + 1 := by simp
  have HNode : Hid (∀ (i : Nat) (e : Ex), p.bodies[i]? = some e → ∃ b o, a = some ⟨b, o, none⟩ ∧ NodeAt w d ⟨b, o + i * 4, none⟩ e) := fun i e he => by
    obtain ⟨b, off, kv, ha, hp, hl1, c0, c1, c2, c3, r1, r2, r3, kk⟩ := hc i e he
    exact ⟨b, off, ha, b, off + i * 4, kv, rfl, hp, c0, c1, c2, c3, r1, r2, r3, kk⟩
  have HO0 := (show Hid (_ ∧ True) from ⟨O0, trivial⟩)
  have HCL := (show Hid (_ ∧ True) from ⟨hcl, trivial⟩)
  have HCT := (show Hid (_ ∧ True) from ⟨hct, trivial⟩)
  have hmm := @run_makeMap Try.prog
  have P0 : ((w.alloc (.cells #[.slice a1 p.names.length c1, .slice a p.bodies.length cap] 38)).alloc (.map #[] 0)).cell? ⟨w.heap.size, 1, none⟩ = some (.slice a p.bodies.length cap) := by
    rw [cell_of_block ((Below.heap_alloc _ _ _ (by simp)).trans O0)]; rfl
  have G0 : w.grownBy ((w.alloc (.cells #[.slice a1 p.names.length c1, .slice a p.bodies.length cap] 38)).alloc (.map #[] 0)) none := (World.grownBy_alloc w _ _).trans (World.grownBy_alloc _ _ _)
  have M0 : PtMap (PtrN w.heap.size) ((w.alloc (.cells #[.slice a1 p.names.length c1, .slice a p.bodies.length cap] 38)).alloc (.map #[] 0)) (w.heap.size + 1) (fun _ => none) := by
    have := PtMap.made (Kd := PtrN w.heap.size) (w.alloc (.cells #[.slice a1 p.names.length c1, .slice a p.bodies.length cap] 38))
    rw [P3] at this
    exact this
  have O1 : ((w.alloc (.cells #[.slice a1 p.names.length c1, .slice a p.bodies.length cap] 38)).alloc (.map #[] 0)).heap[w.heap.size]? = some (.cells #[.slice a1 p.names.length c1, .slice a p.bodies.length cap] 38) := (Below.heap_alloc _ _ _ (by simp)).trans O0
  have HI := (show Hid (_ ∧ _ ∧ _) from ⟨M0, O1, G0⟩)
  clear hc O0 hcl hct hn M0 O1 G0
  go_enter Try.func13, Try.ntmps13
  go_wp2
  clear hmm P0
  go_loopw [4, 10] (fun s i wr => ∃ k : Nat, k ≤ p.bodies.length ∧ i = .int .i64 k ∧ s = .int .i64 ((Ex.countL (p.bodies.take k) : Nat) : Int) ∧ ∃ f, PtMap (PtrN w.heap.size) wr (w.heap.size + 1) f ∧ Fin w f ∧ wr.heap[w.heap.size]? = some (.cells #[.slice a1 p.names.length c1, .slice a p.bodies.length cap] 38) ∧ Below w.heap.size w wr) (fun _ i _ => p.bodies.length - (intOf i).toNat)
  case atStart =>
    refine ⟨0, Nat.zero_le _, rfl, by simp [Ex.countL], _, HI.out.1, fun k u h => (by cases h), HI.out.2.1, ?_⟩
    exact ⟨HI.out.2.2.os, HI.out.2.2.tape, HI.out.2.2.output, HI.out.2.2.size, fun k hk => HI.out.2.2.block k hk (by simp)⟩
  case round =>
    obtain ⟨k, hk, rfl, rfl, f, hmap, hfin, hO, hbw⟩ := hrel
    have P1r : wr.cell? ⟨w.heap.size, 1, none⟩ = some (.slice a p.bodies.length cap) := by
      rw [cell_of_block hO]; rfl
    by_cases hkl : k < p.bodies.length
    · have he := List.getElem?_eq_getElem hkl
      have hct := HCT.out.1 k _ he
      have hcl := HCL.out.1 (k + 1)
      generalize p.bodies[k] = y at *
      obtain ⟨b, o, rfl, hnode⟩ := HNode.out k y he
      have hlt' : ((k : Nat) : Int) < ((p.bodies.length : Nat) : Int) := by omega
      have hmlt := hmap.lt
      rw [hct] at hcl
      have HTT := (show Hid (_ ∧ True) from ⟨hct, trivial⟩)
      have HMp := (show Hid (_ ∧ _ ∧ _ ∧ _ ∧ _) from ⟨hmap, hfin, hO, hbw, hnode⟩)
      clear hct hmap hfin hO hbw hnode he
      generalize Ex.countL (p.bodies.take k) = s0 at *
      go_wp2_with fail
      refine (sizeOf_any w d ⟨b, o + k * 4, none⟩ y (w.heap.size + 1) f wr HMp.out.2.2.2.1 (by omega) HMp.out.1 HMp.out.2.1 HMp.out.2.2.2.2 (by omega)).mono ?_
      rintro e w3 ⟨rfl, f', hm3, hf3, hg3⟩
      have b3 : Below w.heap.size w w3 := Below.grown HMp.out.2.2.2.1 hg3 (fun k hk => by cases hk; omega) (by omega)
      have O3 : w3.heap[w.heap.size]? = some (.cells #[.slice a1 p.names.length c1, .slice (some ⟨b, o, none⟩) p.bodies.length cap] 38) := (hg3.block _ (by omega) (by simp)).trans HMp.out.2.2.1
      have HN3 := (show Hid (_ ∧ _ ∧ _ ∧ _) from ⟨hm3, hf3, O3, b3⟩)
      clear hm3 hf3 hg3 b3 O3
      generalize y.count = c9 at *
      go_wp2
      exact ⟨⟨k + 1, by omega, by go_num, by rw [HTT.out.1]; go_num, f', HN3.out⟩, by simp [intOf]; omega⟩
    · obtain rfl : k = p.bodies.length := by omega
      rw [List.take_of_length_le (Nat.le_refl _)]
      clear hmap hfin hO
      go_wp2
      go_ret
      exact ⟨rfl, hbw⟩
end Go.Proofs.Ytnhjfehkllaonab
