/-
  The specification's Size.
-/
import Derived.Test.YtnhjfehkllaonabExProg
import Derived.Test.YtnhjfehkllaonabNode
namespace Go.Proofs.Ytnhjfehkllaonab
open Go.RowKit Go.Joins

set_option maxRecDepth 100000

theorem countL_take_le : ∀ (l : List Ex) (n : Nat), Ex.countL (l.take n) ≤ Ex.countL l
  | [], _ => by simp
  | x :: r, 0 => by simp [Ex.countL]
  | x :: r, n + 1 => by have := countL_take_le r n; rw [List.take_succ_cons, Ex.countL, Ex.countL]; omega

def SizeE (d : Nat) : Prop := ∀ (v : Value) (x : Ex) (S : Nat → Prop) (w : World), ExAt w S d v x → x.bulk ≤ 1048576 →
  Calls Try.prog 20 #[v] w fun e w' => e = .returned (.int .i64 (x.count : Int)) ∧ Below w.heap.size w w'

set_option maxHeartbeats 3200000 in
theorem l02Size_of (d : Nat) (hE : SizeE d) : SizeE (d + 1) := by
  intro v x S w h hb
  have hbe := Ex.bulk_eq x
  have hBA := @bulk_at x.kids
  have hcb := Ex.countL_bulk x.kids
  have hcl := countL_take_le x.kids
  have hct := Ex.countL_take x.kids
  have hce := Ex.count_eq x
  obtain ⟨kv, rfl, -, -, -, hk⟩ := h
  obtain ⟨a, cap, rfl, hl, hc⟩ := hk
  unfold maxLen at hl
  have B0 : Below w.heap.size w (w.alloc (.cells #[.int .i64 x.kind, .int .i64 x.n, .string x.text, .slice a x.kids.length cap] 29)) := (Below.refl _ w).alloc (Nat.le_refl _) _
  have O0 : (w.alloc (.cells #[.int .i64 x.kind, .int .i64 x.n, .string x.text, .slice a x.kids.length cap] 29)).heap[w.heap.size]? = some (.cells #[.int .i64 x.kind, .int .i64 x.n, .string x.text, .slice a x.kids.length cap] 29) := (MapKept.heap_alloc w _).1
  have P3 : (w.alloc (.cells #[.int .i64 x.kind, .int .i64 x.n, .string x.text, .slice a x.kids.length cap] 29)).heap.size = w.heap.size + 1 := by simp
  have HC := (show Hid (_ ∧ True) from ⟨hc, trivial⟩)
  have HE : Hid (SizeE d) := hE
  have HB0 := (show Hid (_ ∧ True) from ⟨B0, trivial⟩)
  have HO0 := (show Hid (_ ∧ True) from ⟨O0, trivial⟩)
  have HBA := (show Hid (_ ∧ True) from ⟨@hBA, trivial⟩)
  have HCL := (show Hid (_ ∧ True) from ⟨hcl, trivial⟩)
  have HCT := (show Hid (_ ∧ True) from ⟨hct, trivial⟩)
  clear hc hE B0 O0 hBA hcl hct
  go_enter Try.func20, Try.ntmps20
  go_wp2
  generalize (w.alloc (.cells #[.int .i64 x.kind, .int .i64 x.n, .string x.text, .slice a x.kids.length cap] 29)) = w2 at *
  go_loopw [3, 4] (fun s i wr => ∃ k : Nat, k ≤ x.kids.length ∧ i = .int .i64 k ∧ s = .int .i64 ((1 + Ex.countL (x.kids.take k) : Nat) : Int) ∧ Below w2.heap.size w2 wr) (fun _ i _ => x.kids.length - (intOf i).toNat)
  case atStart => exact ⟨0, Nat.zero_le _, rfl, by simp [Ex.countL], Below.refl _ _⟩
  case round =>
    obtain ⟨k, hk, rfl, rfl, hbw⟩ := hrel
    have P1r : wr.cell? ⟨w.heap.size, 3, none⟩ = some (.slice a x.kids.length cap) := by
      rw [cell_of_block ((hbw.block _ (by rw [P3]; omega)).trans HO0.out.1)]; rfl
    have hbw0 : Below w.heap.size w wr := HB0.out.1.trans (hbw.mono HB0.out.1.size)
    by_cases hkl : k < x.kids.length
    · have he := List.getElem?_eq_getElem hkl
      have hbk := HBA.out.1 he
      have hct := HCT.out.1 k _ he
      have hcl := HCL.out.1 (k + 1)
      generalize x.kids[k] = y at *
      obtain ⟨b, off, kv, rfl, -, hl1, c0, c1, c2, c3, r1, r2, r3, kk⟩ := HC.out.1 k y he
      rw [← hbw0.cell (by exact hl1)] at c0 c1 c2 c3
      have HX : Hid (∀ wx : World, Below w.heap.size w wx → ExAt wx S d (.agg #[.int .i64 y.kind, .int .i64 y.n, .string y.text, kv]) y) := fun wx hx => ⟨kv, rfl, r1, r2, r3, kk.below hx⟩
      obtain ⟨ka, kc, rfl⟩ := kk.form
      clear kk he HC r1 r2 r3
      have hlt' : ((k : Nat) : Int) < ((x.kids.length : Nat) : Int) := by omega
      have hsz := hbw.size
      rw [hct] at hcl
      have HTT := (show Hid (_ ∧ True) from ⟨hct, trivial⟩)
      clear hct
      generalize Ex.countL (x.kids.take k) = s0 at *
      go_wp2_with fail
      refine (HE.out _ y S _ (HX.out _ hbw0) (by omega)).mono ?_
      rintro e w3 ⟨rfl, b3⟩
      have hbw2 : Below w2.heap.size w2 w3 := hbw.trans (b3.mono hsz)
      clear b3
      generalize y.count = c9 at *
      go_wp2
      exact ⟨⟨k + 1, by omega, by go_num, by rw [HTT.out.1]; go_num, hbw2⟩, by simp [intOf]; omega⟩
    · obtain rfl : k = x.kids.length := by omega
      rw [List.take_of_length_le (Nat.le_refl _)]
      clear HC HE
      go_wp2
      go_ret
      exact ⟨by rw [hce]; rfl, hbw0⟩

theorem l02Size_any : ∀ d, SizeE d
  | 0 => fun _ _ _ _ ⟨_, _, _, _, _, h⟩ => h.elim
  | d + 1 => l02Size_of d (l02Size_any d)

set_option maxHeartbeats 3200000 in
theorem specSize_any (d : Nat) (v : Value) (p : Pr) (S : Nat → Prop) (w : World) (h : PrAt w S d v p) (hb : p.bulk ≤ 1048576) :
    Calls Try.prog 11 #[v] w fun e w' => e = .returned (.int .i64 (Ex.countL p.bodies : Int)) ∧ Below w.heap.size w w' := by
  have hbk : p.bulk = bulkS p.names + Ex.bulkL p.bodies := rfl
  have hBA := @bulk_at p.bodies
  have hcb := Ex.countL_bulk p.bodies
  have hcl := countL_take_le p.bodies
  have hct := Ex.countL_take p.bodies
  obtain ⟨nv, bv, rfl, hn, hk⟩ := h
  obtain ⟨a1, c1, rfl⟩ := hn.form
  cases d with
  | zero => exact hk.elim
  | succ d =>
  obtain ⟨a, cap, rfl, hl, hc⟩ := hk
  unfold maxLen at hl
  have B0 : Below w.heap.size w (w.alloc (.cells #[.slice a1 p.names.length c1, .slice a p.bodies.length cap] 38)) := (Below.refl _ w).alloc (Nat.le_refl _) _
  have O0 : (w.alloc (.cells #[.slice a1 p.names.length c1, .slice a p.bodies.length cap] 38)).heap[w.heap.size]? = some (.cells #[.slice a1 p.names.length c1, .slice a p.bodies.length cap] 38) := (MapKept.heap_alloc w _).1
  have P3 : (w.alloc (.cells #[.slice a1 p.names.length c1, .slice a p.bodies.length cap] 38)).heap.size = w.heap.size + 1 := by simp
  have HC := (show Hid (_ ∧ True) from ⟨hc, trivial⟩)
  have HE : Hid (SizeE d) := l02Size_any d
  have HB0 := (show Hid (_ ∧ True) from ⟨B0, trivial⟩)
  have HO0 := (show Hid (_ ∧ True) from ⟨O0, trivial⟩)
  have HBA := (show Hid (_ ∧ True) from ⟨@hBA, trivial⟩)
  have HCL := (show Hid (_ ∧ True) from ⟨hcl, trivial⟩)
  have HCT := (show Hid (_ ∧ True) from ⟨hct, trivial⟩)
  clear hc B0 O0 hBA hcl hct hn
  go_enter Try.func11, Try.ntmps11
  go_wp2
  generalize (w.alloc (.cells #[.slice a1 p.names.length c1, .slice a p.bodies.length cap] 38)) = w2 at *
  go_loopw [3, 4] (fun s i wr => ∃ k : Nat, k ≤ p.bodies.length ∧ i = .int .i64 k ∧ s = .int .i64 ((Ex.countL (p.bodies.take k) : Nat) : Int) ∧ Below w2.heap.size w2 wr) (fun _ i _ => p.bodies.length - (intOf i).toNat)
  case atStart => exact ⟨0, Nat.zero_le _, rfl, by simp [Ex.countL], Below.refl _ _⟩
  case round =>
    obtain ⟨k, hk, rfl, rfl, hbw⟩ := hrel
    have P1r : wr.cell? ⟨w.heap.size, 1, none⟩ = some (.slice a p.bodies.length cap) := by
      rw [cell_of_block ((hbw.block _ (by rw [P3]; omega)).trans HO0.out.1)]; rfl
    have hbw0 : Below w.heap.size w wr := HB0.out.1.trans (hbw.mono HB0.out.1.size)
    by_cases hkl : k < p.bodies.length
    · have he := List.getElem?_eq_getElem hkl
      have hbk := HBA.out.1 he
      have hct := HCT.out.1 k _ he
      have hcl := HCL.out.1 (k + 1)
      generalize p.bodies[k] = y at *
      obtain ⟨b, off, kv, rfl, -, hl1, c0, c1, c2, c3, r1, r2, r3, kk⟩ := HC.out.1 k y he
      rw [← hbw0.cell (by exact hl1)] at c0 c1 c2 c3
      have HX : Hid (∀ wx : World, Below w.heap.size w wx → ExAt wx S d (.agg #[.int .i64 y.kind, .int .i64 y.n, .string y.text, kv]) y) := fun wx hx => ⟨kv, rfl, r1, r2, r3, kk.below hx⟩
      obtain ⟨ka, kc, rfl⟩ := kk.form
      clear kk he HC r1 r2 r3
      have hlt' : ((k : Nat) : Int) < ((p.bodies.length : Nat) : Int) := by omega
      have hsz := hbw.size
      rw [hct] at hcl
      have HTT := (show Hid (_ ∧ True) from ⟨hct, trivial⟩)
      clear hct
      generalize Ex.countL (p.bodies.take k) = s0 at *
      go_wp2_with fail
      refine (HE.out _ y S _ (HX.out _ hbw0) (by omega)).mono ?_
      rintro e w3 ⟨rfl, b3⟩
      have hbw2 : Below w2.heap.size w2 w3 := hbw.trans (b3.mono hsz)
      clear b3
      generalize y.count = c9 at *
      go_wp2
      exact ⟨⟨k + 1, by omega, by go_num, by rw [HTT.out.1]; go_num, hbw2⟩, by simp [intOf]; omega⟩
    · obtain rfl : k = p.bodies.length := by omega
      rw [List.take_of_length_le (Nat.le_refl _)]
      clear HC HE
      go_wp2
      go_ret
      exact ⟨rfl, hbw0⟩
end Go.Proofs.Ytnhjfehkllaonab
