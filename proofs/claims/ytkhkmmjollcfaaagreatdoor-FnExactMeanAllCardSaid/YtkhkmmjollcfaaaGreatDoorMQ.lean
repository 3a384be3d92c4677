/-
  The program's operation.
  The program's evaluator: fuel, the end, a call.
-/
import Derived.Test.YtkhkmmjollcfaaaGreatDoorME
import Derived.Test.YtkhkmmjollcfaaaGreatDoorMP
namespace Go.Proofs.YtkhkmmjollcfaaaGreatDoor
open Go.RowKit Go.Joins

set_option maxRecDepth 100000

set_option maxHeartbeats 3200000 in
theorem oneIf_any (so : Bool) (w : World) : Calls Tryz.prog 93 #[.bool so] w fun r w' => r = .returned (.int .i64 (if so = true then 1 else 0)) ∧ w' = w := by
  go_enter Tryz.func93, Tryz.ntmps93
  cases so <;> (go_wp2; go_ret; exact ⟨rfl, rfl⟩)
set_option maxHeartbeats 3200000 in
theorem operation_any (t : ByteArray) (a b : Int) (w : World) : Calls Tryz.prog 88 #[.string t, .int .i64 a, .int .i64 b] w fun r w' => r = .returned (.int .i64 (arith t a b)) ∧ w' = w := by
  go_enter Tryz.func88, Tryz.ntmps88
  by_cases h0 : t.toList = [43]
  · have g0 : (t.toList == [43]) = true := by simp [h0]
    have hr : arith t a b = IntKind.i64.wrap (a + b) := by unfold arith; simp [h0]
    have HH := (show Hid (_ ∧ True) from ⟨hr, trivial⟩)
    clear hr h0
    go_wp2; go_ret; exact ⟨by rw [HH.out.1, IntKind.wrap_i64]; show Ending.returned (Value.int IntKind.i64 (wrap64 _)) = _; unfold wrap64; rfl, rfl⟩
  have g0 : (t.toList == [43]) = false := by simp [h0]
  by_cases h1 : t.toList = [45]
  · have g1 : (t.toList == [45]) = true := by simp [h1]
    have hr : arith t a b = IntKind.i64.wrap (a - b) := by unfold arith; simp [h1]
    have HH := (show Hid (_ ∧ True) from ⟨hr, trivial⟩)
    clear hr h1
    go_wp2; go_ret; exact ⟨by rw [HH.out.1, IntKind.wrap_i64]; show Ending.returned (Value.int IntKind.i64 (wrap64 _)) = _; unfold wrap64; rfl, rfl⟩
  have g1 : (t.toList == [45]) = false := by simp [h1]
  by_cases h2 : t.toList = [42]
  · have g2 : (t.toList == [42]) = true := by simp [h2]
    have hr : arith t a b = IntKind.i64.wrap (a * b) := by unfold arith; simp [h2]
    have HH := (show Hid (_ ∧ True) from ⟨hr, trivial⟩)
    clear hr h2
    go_wp2; go_ret; exact ⟨by rw [HH.out.1, IntKind.wrap_i64]; show Ending.returned (Value.int IntKind.i64 (wrap64 _)) = _; unfold wrap64; rfl, rfl⟩
  have g2 : (t.toList == [42]) = false := by simp [h2]
  by_cases h3 : t.toList = [61, 61]
  · have g3 : (t.toList == [61, 61]) = true := by simp [h3]
    have hr : arith t a b = (if a = b then 1 else 0) := by unfold arith; simp [h3]
    have HH := (show Hid (_ ∧ True) from ⟨hr, trivial⟩)
    clear hr h3
    by_cases hc : a = b
    · have HC := (show Hid (_ ∧ True) from ⟨hc, trivial⟩)
      subst hc
      go_wp2_with fail; refine (oneIf_any true _).mono ?_; rintro r w' ⟨rfl, rfl⟩; go_wp2; go_ret; exact ⟨by rw [HH.out.1, if_pos (by first | exact HC.out.1 | rfl)]; simp, rfl⟩
    · have hc1 : (a == b) = false := by simpa using hc
      have hc2 : decide (a = b) = false := by simpa using hc
      have HC := (show Hid (_ ∧ True) from ⟨hc, trivial⟩)
      clear hc
      go_wp2_with fail; refine (oneIf_any false _).mono ?_; rintro r w' ⟨rfl, rfl⟩; go_wp2; go_ret; exact ⟨by rw [HH.out.1, if_neg (by have := HC.out.1; omega)]; simp, rfl⟩
  have g3 : (t.toList == [61, 61]) = false := by simp [h3]
  have hr : arith t a b = (if a < b then 1 else 0) := by unfold arith; rw [if_neg h0, if_neg h1, if_neg h2, if_neg h3]
  have HH := (show Hid (_ ∧ True) from ⟨hr, trivial⟩)
  clear hr h0 h1 h2 h3
  by_cases hc : a < b
  · have hc1 : decide (a < b) = true := by simpa using hc
    have HC := (show Hid (_ ∧ True) from ⟨hc, trivial⟩)
    clear hc
    go_wp2_with fail; refine (oneIf_any true _).mono ?_; rintro r w' ⟨rfl, rfl⟩; go_wp2; go_ret; exact ⟨by rw [HH.out.1, if_pos (by first | exact HC.out.1 | rfl)]; simp, rfl⟩
  · have hc1 : decide (a < b) = false := by simpa using hc
    have HC := (show Hid (¬ a < b ∧ True) from ⟨hc, trivial⟩)
    clear hc
    go_wp2_with fail; refine (oneIf_any false _).mono ?_; rintro r w' ⟨rfl, rfl⟩; go_wp2; go_ret; exact ⟨by rw [HH.out.1, if_neg (by have := HC.out.1; omega)]; simp, rfl⟩
end Go.Proofs.YtkhkmmjollcfaaaGreatDoor

namespace Go.Proofs.YtkhkmmjollcfaaaGreatDoor
open Go.RowKit Go.Joins

set_option maxRecDepth 100000

set_option maxHeartbeats 1600000 in
theorem add_any (rb : Nat) (x y : Int) (w : World) (hc : w.cell? ⟨rb, 1, none⟩ = some (.int .i64 x)) (hz : w.frozen? ⟨rb, 1, none⟩ = false) (hy : IntKind.i64.wrap (x + -1) = y) :
    Calls Tryz.prog 57 #[.pointer (some ⟨rb, 1, none⟩), .int .i64 (-1)] w fun r w' => r = .returned (.int .i64 y) ∧ w' = w.setCell ⟨rb, 1, none⟩ (.int .i64 y) := by
  have hadd := run_call_add (P := Tryz.prog) Tryz.func73 (by kernel_rfl) (by kernel_rfl) (by kernel_rfl) .i64 (by kernel_rfl) (y := -1) (s := y) hc hz (by simp [go_sem, hy])
  clear hy
  go_enter Tryz.func57, Tryz.ntmps57
  go_wp2_with fail
  go_ret
  exact ⟨rfl, rfl⟩
set_option maxHeartbeats 1600000 in
theorem store64_any (rb : Nat) (x y : Int) (w : World) (hc : w.cell? ⟨rb, 1, none⟩ = some (.int .i64 x)) (hz : w.frozen? ⟨rb, 1, none⟩ = false) :
    Calls Tryz.prog 38 #[.pointer (some ⟨rb, 1, none⟩), .int .i64 y] w fun r w' => r = .returned (.tuple #[]) ∧ w' = w.setCell ⟨rb, 1, none⟩ (.int .i64 y) := by
  have hst := run_call_store (P := Tryz.prog) Tryz.func53 (by kernel_rfl) (by kernel_rfl) (by kernel_rfl) (by kernel_rfl) (k := .i64) (y := y) hc hz
  go_enter Tryz.func38, Tryz.ntmps38
  go_wp2_with fail
  refine bodyPost_end (results_none rfl _ _ _) rfl ?_
  exact ⟨rfl, rfl⟩

set_option maxHeartbeats 1600000 in
theorem unfit_end (c : Int) (w : World) : Calls Tryz.prog 76 #[endV c] w fun r w' => r = .returned (endV c) ∧ Below w.heap.size w w' := by
  unfold endV
  have t0 := asEndEnd
  go_enter Tryz.func76, Tryz.ntmps76
  go_wp2_with fail
  go_ret
  exact ⟨rfl, (Below.refl _ w).alloc (Nat.le_refl _) _⟩
set_option maxHeartbeats 1600000 in
theorem unfit_val {w0 : World} {S : Nat → Prop} {d rb : Nat} {v : Value} {x : Vl} (w : World) (h : VI w0 S d rb v x) : Calls Tryz.prog 76 #[v] w fun r w' => r = .returned (endV 2) ∧ Below w.heap.size w w' := by
  unfold endV
  have t0 := asNumEnd
  have t1 := asNilEnd
  have t2 := asPairEnd
  have t3 := asFunEnd
  cases x with
  | num n =>
    obtain rfl : v = .iface 102 (.int .i64 n) := h
    go_enter Tryz.func76, Tryz.ntmps76
    go_wp2_with fail
    go_ret
    exact ⟨rfl, Below.refl _ w⟩
  | nil =>
    obtain rfl : v = .iface 107 (.agg #[]) := h
    go_enter Tryz.func76, Tryz.ntmps76
    go_wp2_with fail
    go_ret
    exact ⟨rfl, Below.refl _ w⟩
  | pair p q =>
    obtain ⟨fh, ft, rfl, -⟩ := h
    go_enter Tryz.func76, Tryz.ntmps76
    go_wp2_with fail
    go_ret
    exact ⟨rfl, Below.refl _ w⟩
  | fn l y en =>
    obtain ⟨kb, ko, sv, m, rfl, -⟩ := h
    go_enter Tryz.func76, Tryz.ntmps76
    go_wp2_with fail
    go_ret
    exact ⟨rfl, Below.refl _ w⟩
theorem VRI.two {w' : World} {S : Nat → Prop} {d rb : Nat} {P : List Ex} : VRI w' S d rb P (endV 2) (.err 2) := ⟨rfl, by decide⟩

set_option maxHeartbeats 1600000 in
/-- What is delayed is reckoned. -/
theorem ready_call (P : List Ex) (bv : Value) (rb d b : Nat) (hE : EvI P bv rb d b) (S : Nat → Prop) (f : Nat) (c : Clo) (fv : Value) (w : World) (hf : f ≤ b) (hr : RunI w rb bv f) (hs : SvI w S d rb bv P) (h : Ready w S d rb fv c) (hg : c.good (P.length : Int)) :
    ∃ b0 b1 b2, fv = .func (.func 74) #[] #[.pointer (some ⟨b0, 0, none⟩), .pointer (some ⟨b1, 0, none⟩), .pointer (some ⟨b2, 0, none⟩)] ∧
      Calls Tryz.prog 74 #[.pointer (some ⟨b0, 0, none⟩), .pointer (some ⟨b1, 0, none⟩), .pointer (some ⟨b2, 0, none⟩)] w fun r w' => ∃ v, r = .returned v ∧ AftI P S d rb bv w w' v (ev P b f c.ex c.scope) := by
  obtain ⟨sv, m, ⟨b0, b1, b2, kb, ko, rfl, -, -, c0, c1, c2, hx⟩, hsc⟩ := h
  obtain ⟨sg, deep, sr⟩ := Clo.scope_good hg
  have hcall := hE S f c.ex c.scope kb ko m sv w hf hr hs hx hsc ⟨⟨deep, sr⟩, sg⟩
  have d0 : w.cell? ⟨b0, 0, none⟩ = some (.pointer (some ⟨rb, 0, none⟩)) := by rw [cell_of_block c0]; rfl
  have d1 : w.cell? ⟨b1, 0, none⟩ = some (.pointer (some ⟨kb, ko, none⟩)) := by rw [cell_of_block c1]; rfl
  have d2 : w.cell? ⟨b2, 0, none⟩ = some sv := by rw [cell_of_block c2]; rfl
  clear c0 c1 c2
  have hsv : ∃ a, sv = .pointer a := by rcases hsc.form with ⟨-, rfl⟩ | ⟨_, _, _, _, _, -, rfl, -⟩ <;> exact ⟨_, rfl⟩
  obtain ⟨a, rfl⟩ := hsv
  have HK := (show Hid (_ ∧ True) from ⟨hcall, trivial⟩)
  clear hcall hE hf hr hs hx hsc sg sr hg
  refine ⟨b0, b1, b2, rfl, ?_⟩
  go_enter Tryz.func74, Tryz.ntmps74
  go_wp2_with fail
  refine HK.out.1.mono ?_
  rintro r w3 ⟨v, rfl, haf⟩
  have HA := (show Hid _ from haf)
  clear haf
  go_wp2_with fail
  go_ret
  exact ⟨_, rfl, HA.out⟩

set_option maxHeartbeats 3200000 in
theorem call_any (P : List Ex) (bv : Value) (rb d b : Nat) (hE : EvI P bv rb d b) (S : Nat → Prop) (f xb xo m m' : Nat) (l : Int) (x : Ex) (en : List Clo) (c : Clo) (sv fv ev' : Value) (w : World) (hf : f ≤ b) (hr : RunI w rb bv f) (hs : SvI w S d rb bv P)
    (hx : ExP w S d rb xb xo x) (hsc : ScAt w S d rb m sv en) (hc : Cap w S d rb fv c.ex ev') (ho : c.own = false) (hev : ScAt w S d rb m' ev' c.env) (hg : (Vl.fn l x en).good (P.length : Int)) (hgc : c.good (P.length : Int)) :
    Calls Tryz.prog 75 #[.pointer (some ⟨rb, 0, none⟩), .agg #[.pointer (some ⟨xb, xo, none⟩), sv, .int .i64 l], fv] w fun r w' => ∃ v, r = .returned v ∧ AftI P S d rb bv w w' v (if 1 < l then (.ok (.fn (l - 1) x (en ++ [c])), f) else ev P b f x (en ++ [c])) := by
  have hrl := lt_heap hr
  obtain ⟨g1, g2, g3, deep, g4⟩ := hg
  have hlen : en.length ≤ 1000 := by have := ((right_iff _ _ _ _).1 g4).2.1; omega
  have hsv : ∃ a, sv = .pointer a := by rcases hsc.form with ⟨-, rfl⟩ | ⟨_, _, _, _, _, -, rfl, -⟩ <;> exact ⟨_, rfl⟩
  obtain ⟨a, rfl⟩ := hsv
  have hfv : ∃ fn a c, fv = .func fn a c := by obtain ⟨b0, b1, b2, kb, ko, h, -⟩ := hc; exact ⟨_, _, _, h⟩
  obtain ⟨W1, hW1⟩ : ∃ W1, W1 = w.alloc (.cells #[.pointer (some ⟨xb, xo, none⟩), .pointer a, .int .i64 l] 110) := ⟨_, rfl⟩
  have s1 : W1.heap.size = w.heap.size + 1 := by rw [hW1]; simp
  have m1 : Mv w W1 S (but S w.heap.size) := by rw [hW1]; exact Mv.alloc _ _ _
  have q1 : W1.heap[w.heap.size]? = some (.cells #[.pointer (some ⟨xb, xo, none⟩), .pointer a, .int .i64 l] 110) := by rw [hW1]; exact block_alloc
  have hwith := with_any (but S w.heap.size) d rb m (.pointer a) fv en W1 (hsc.move m1) hlen (Or.inl hfv)
  obtain ⟨W2, hW2⟩ : ∃ W2, W2 = W1.alloc (.cells #[.pointer a, .int .i64 (en.length : Int), fv] 145) := ⟨_, rfl⟩
  rw [← hW2] at hwith
  obtain ⟨M, hM⟩ := ScAt.put hW2 (hsc.move m1) ⟨hs.new _ (by omega), by omega⟩ (hc.move m1) ho (hev.move m1)
  have s2 : W2.heap.size = w.heap.size + 2 := by rw [hW2]; simp [s1]
  have q2 : W2.heap[w.heap.size]? = some (.cells #[.pointer (some ⟨xb, xo, none⟩), .pointer a, .int .i64 l] 110) := by rw [hW2, Below.heap_alloc _ _ _ (by omega)]; exact q1
  have m2 : Mv W1 W2 (but S w.heap.size) (but S w.heap.size) := by rw [hW2]; exact Mv.kb ((KB.refl (fun _ => False) _).alloc _) (fun _ h => h.elim)
  obtain ⟨W4, hW4⟩ : ∃ W4, W4 = (W2.setCell ⟨w.heap.size, 1, none⟩ (.pointer (some ⟨W1.heap.size, 0, none⟩))).setCell ⟨w.heap.size, 2, none⟩ (.int .i64 (l - 1)) := ⟨_, rfl⟩
  have q4 : W4.heap[w.heap.size]? = some (.cells #[.pointer (some ⟨xb, xo, none⟩), .pointer (some ⟨W1.heap.size, 0, none⟩), .int .i64 (l - 1)] 110) := by
    have h1 := block_setCell (i := 1) q2 (.pointer (some ⟨W1.heap.size, 0, none⟩))
    have h2 := block_setCell (i := 2) h1 (.int .i64 (l - 1))
    rw [hW4]; exact h2
  have k24 : KB (· = w.heap.size) W2 W4 := by rw [hW4]; exact (kb_set W2 w.heap.size 1 _).trans (kb_set _ w.heap.size 2 _)
  have m4 : Mv W2 W4 (but S w.heap.size) (but S w.heap.size) := Mv.kb k24 (fun x hx h => h.2 hx)
  have m14 := m1.trans (m2.trans m4)
  have k4 : KB (· = rb) w W4 := by
    have h1 : KB (fun _ => False) w W2 := by rw [hW2, hW1]; exact ((KB.refl _ _).alloc _).alloc _
    refine ⟨k24.os.trans h1.os, k24.tape.trans h1.tape, k24.output.trans h1.output, Nat.le_trans h1.size k24.size, fun k hk hn => (k24.block k (Nat.lt_of_lt_of_le hk h1.size) (by omega)).trans (h1.block k hk (fun h => h))⟩
  have hr4 : RunI W4 rb bv f := hr.move ((k24.block rb (by omega) (by omega)).trans (by rw [hW2, Below.heap_alloc _ _ _ (by omega), hW1, Below.heap_alloc _ _ _ hrl]))
  have gin : Clo.goodL (P.length : Int) (en ++ [c]) := goodL_append g3 (goodL_one hgc)
  have hs4 : SvI W4 (but S w.heap.size) d rb bv P := hs.move m14 (fun x hx => ⟨hs.new x (by have := k4.size; omega), by have := k24.size; omega⟩) (but_not hs.rb)
  have hcall : ¬ 1 < l → Calls Tryz.prog 40 #[.pointer (some ⟨rb, 0, none⟩), .pointer (some ⟨xb, xo, none⟩), .pointer (some ⟨W1.heap.size, 0, none⟩)] W4 fun r w' => ∃ v, r = .returned v ∧ AftI P (but S w.heap.size) d rb bv W4 w' v (ev P b f x (en ++ [c])) := fun hl =>
    hE _ f x (en ++ [c]) xb xo M _ W4 hf hr4 hs4 (hx.move m14) (hM.move m4) ⟨⟨deep, by have hl1 : l = 1 := (by omega); rw [List.length_append, show ((en.length + [c].length : Nat) : Int) = (en.length : Int) + l by simp [hl1]]; exact g4⟩, gin⟩
  have hokr : 1 < l → VRI W4 (but S w.heap.size) d rb P (.iface 110 (.agg #[.pointer (some ⟨xb, xo, none⟩), .pointer (some ⟨W1.heap.size, 0, none⟩), .int .i64 (l - 1)])) (.ok (.fn (l - 1) x (en ++ [c]))) := fun hl =>
    ⟨⟨xb, xo, _, M, rfl, hx.move m14, hM.move m4⟩, by omega, by omega, gin, deep, by rw [List.length_append]; simp only [List.length_cons, List.length_nil]; rw [show ((en.length + (0 + 1) : Nat) : Int) + (l - 1) = (en.length : Int) + l by omega]; exact g4⟩
  have hw : IntKind.i64.wrap (l - 1) = l - 1 := in_sub1 g1 g2
  have y0 : W2.cell? ⟨w.heap.size, 0, none⟩ = some (.pointer (some ⟨xb, xo, none⟩)) := (by rw [cell_of_block q2]; rfl)
  have yf0 : W2.frozen? ⟨w.heap.size, 0, none⟩ = false := unfrozen_of_block q2 0
  have y1 : W2.cell? ⟨w.heap.size, 1, none⟩ = some (.pointer a) := (by rw [cell_of_block q2]; rfl)
  have yf1 : W2.frozen? ⟨w.heap.size, 1, none⟩ = false := unfrozen_of_block q2 1
  have y2 : W2.cell? ⟨w.heap.size, 2, none⟩ = some (.int .i64 l) := (by rw [cell_of_block q2]; rfl)
  have yf2 : W2.frozen? ⟨w.heap.size, 2, none⟩ = false := unfrozen_of_block q2 2
  have z0 : W4.cell? ⟨w.heap.size, 0, none⟩ = some (.pointer (some ⟨xb, xo, none⟩)) := (by rw [cell_of_block q4]; rfl)
  have z1 : W4.cell? ⟨w.heap.size, 1, none⟩ = some (.pointer (some ⟨W1.heap.size, 0, none⟩)) := (by rw [cell_of_block q4]; rfl)
  have z2 : W4.cell? ⟨w.heap.size, 2, none⟩ = some (.int .i64 (l - 1)) := (by rw [cell_of_block q4]; rfl)
  have HK := (show Hid (_ ∧ _ ∧ _ ∧ _ ∧ _) from ⟨hwith, hcall, hokr, k4, hr4⟩)
  have HS := (show Hid _ from s1)
  have hL0 : 0 < l - 1 ↔ 1 < l := by omega
  have HL := (show Hid (_ ∧ True) from ⟨hL0, trivial⟩)
  obtain ⟨RR, hRR⟩ : ∃ RR, (if 1 < l then (Rs.ok (.fn (l - 1) x (en ++ [c])), f) else ev P b f x (en ++ [c])) = RR := ⟨_, rfl⟩
  rw [hRR]
  have HRR := (show Hid _ from hRR)
  clear hL0 hRR
  clear hE hf hr hs hx hsc hc ho hev hgc g1 g2 g3 g4 hlen hfv s1 m1 q1 hwith hM s2 q2 m2 q4 k24 m4 m14 k4 hr4 gin hs4 hcall hokr hW2
  go_enter Tryz.func75, Tryz.ntmps75
  go_upto_region 1 with fail
  rw [← hW1]
  have x1 : W1.cell? ⟨w.heap.size, 1, none⟩ = some (.pointer a) := by rw [hW1, cell_of_block block_alloc]; rfl
  clear hW1
  go_wp2_with fail
  refine HK.out.1.mono ?_
  rintro r w3 ⟨rfl, rfl⟩
  go_upto_region 3 with fail
  rw [← hW4]
  clear hW4 x1
  by_cases hl : 1 < l
  · have hl2 : decide (1 < l) = true := by simpa using hl
    have HH := (show Hid _ from hl)
    clear hl
    go_wp2_with fail
    go_ret
    refine ⟨_, rfl, ?_⟩
    rw [← HRR.out, if_pos HH.out]
    exact ⟨HK.out.2.2.2.1, (HK.out.2.2.1 HH.out).move (Mv.wide _ but_sub), ⟨_, HK.out.2.2.2.2, fun _ => rfl⟩⟩
  · have hl2 : decide (1 < l) = false := by simpa using hl
    have HH := (show Hid (¬ 1 < l ∧ True) from ⟨hl, trivial⟩)
    clear hl
    go_wp2_with fail
    refine (HK.out.2.1 HH.out.1).mono ?_
    rintro r w5 ⟨v5, rfl, haf⟩
    have HA := (show Hid _ from haf)
    clear haf
    go_wp2_with fail
    go_ret
    refine ⟨_, rfl, ?_⟩
    rw [← HRR.out, if_neg (by have := HH.out.1; omega)]
    exact HA.out.sub HK.out.2.2.2.1 but_sub
end Go.Proofs.YtkhkmmjollcfaaaGreatDoor
