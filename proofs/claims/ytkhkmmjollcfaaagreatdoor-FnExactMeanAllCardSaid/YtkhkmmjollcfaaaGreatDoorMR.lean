/-
  The program's evaluator: reckon0.
  The program's evaluator: reckon1.
  The program's evaluator: reckon2.
  The program's evaluator: reckon3.
-/
import Derived.Test.YtkhkmmjollcfaaaGreatDoorMQ
namespace Go.Proofs.YtkhkmmjollcfaaaGreatDoor
open Go.RowKit Go.Joins

set_option maxRecDepth 100000

set_option maxHeartbeats 3200000 in
theorem reckon0 (P : List Ex) (bv : Value) (rb d b : Nat) (hB : b < 1000000) (S : Nat → Prop) (f : Nat) (e : Ex) (env : List Clo) (kb ko m : Nat) (sv : Value) (w : World)
    (hf : f ≤ b) (hr : RunI w rb bv (f + 1)) (hs : SvI w S d rb bv P) (hx : ExP w S d rb kb ko e) (hv : ScAt w S d rb m sv env) (hg : Ok P e env) (hk : e.kind = 0) :
    Calls Tryz.prog 40 #[.pointer (some ⟨rb, 0, none⟩), .pointer (some ⟨kb, ko, none⟩), sv] w fun r w' => ∃ v, r = .returned v ∧ AftI P S d rb bv w w' v ((.ok (.num e.n), f)) := by
  have hrl : rb < w.heap.size := lt_heap hr
  have hsv : ∃ a, sv = .pointer a := by rcases hv.form with ⟨-, rfl⟩ | ⟨_, _, _, _, _, -, rfl, -⟩ <;> exact ⟨_, rfl⟩
  obtain ⟨sa, rfl⟩ := hsv
  have hln : env.length ≤ 90 := hg.len
  obtain ⟨ka, kc, hSb, hlb, hcell, i1, i2, i3, hkd, hkr⟩ := hx
  obtain ⟨z, hz⟩ : ∃ z : Int, z = ((f + 1 : Nat) : Int) := ⟨_, rfl⟩
  obtain ⟨z1, hz1⟩ : ∃ z1 : Int, z1 = (f : Int) := ⟨_, rfl⟩
  have hw : IntKind.i64.wrap (z + -1) = z1 := by rw [IntKind.wrap_i64]; omega
  have hq0 : decide (z1 < 0) = false := by simp; omega
  obtain ⟨W1, hW1⟩ : ∃ W1, W1 = w.setCell ⟨rb, 1, none⟩ (.int .i64 z1) := ⟨_, rfl⟩
  have hadd := add_any rb z z1 w (by rw [hz, cell_of_block hr]; rfl) (unfrozen_of_block hr 1) hw
  rw [← hW1] at hadd
  have m1 : Mv w W1 S S := by rw [hW1]; exact Mv.set w _ hs.rb
  have kb1 : KB (· = rb) w W1 := by rw [hW1]; exact kb_set w rb 1 _
  have run1 : RunI W1 rb bv f := by
    rw [hW1, hz1]
    have := block_setCell (i := 1) hr (.int .i64 (f : Int))
    exact this
  have s1 : W1.heap.size = w.heap.size := by rw [hW1]; simp
  have hs1 : SvI W1 S d rb _ P := hs.move m1 (by rw [s1]; exact hs.new) hs.rb
  have hv1 := hv.move m1
  have cc := hcell.move (m1.block kb hSb hlb)
  obtain ⟨p0, p1, p2, p3⟩ := cc
  rw [hk] at p0
  have HADD := (show Hid (_ ∧ True) from ⟨hadd, trivial⟩)
  have HK := (show Hid (_ ∧ _ ∧ _) from ⟨kb1, run1, i2⟩)
  clear hB hf hr hs hv hg hk hcell i1 i2 i3 hkd hkr hln kb1 run1 s1 hs1 hv1 m1 hSb hlb hz hz1 hw hW1 hadd 
  go_enter Tryz.func40, Tryz.ntmps40
  go_wp2_with fail
  refine HADD.out.1.mono ?_
  rintro r W1 ⟨rfl, rfl⟩
  go_wp2_with fail
  go_ret
  exact ⟨_, rfl, HK.out.1, ⟨rfl, HK.out.2.2⟩, ⟨_, HK.out.2.1, fun _ => rfl⟩⟩
end Go.Proofs.YtkhkmmjollcfaaaGreatDoor

namespace Go.Proofs.YtkhkmmjollcfaaaGreatDoor
open Go.RowKit Go.Joins

set_option maxRecDepth 100000

set_option maxHeartbeats 3200000 in
theorem reckon1 (P : List Ex) (bv : Value) (rb d b : Nat) (hE : EvI P bv rb d b) (hB : b < 1000000) (S : Nat → Prop) (f : Nat) (e : Ex) (env : List Clo) (kb ko m : Nat) (sv : Value) (w : World)
    (hf : f ≤ b) (hr : RunI w rb bv (f + 1)) (hs : SvI w S d rb bv P) (hx : ExP w S d rb kb ko e) (hv : ScAt w S d rb m sv env) (hg : Ok P e env) (hk : e.kind = 1) (i : Nat) (hi : e.n = (i : Int)) (c : Clo) (hc : env[i]? = some c) :
    Calls Tryz.prog 40 #[.pointer (some ⟨rb, 0, none⟩), .pointer (some ⟨kb, ko, none⟩), sv] w fun r w' => ∃ v, r = .returned v ∧ AftI P S d rb bv w w' v (ev P b f c.ex c.scope) := by
  have hrl : rb < w.heap.size := lt_heap hr
  have hsv : ∃ a, sv = .pointer a := by rcases hv.form with ⟨-, rfl⟩ | ⟨_, _, _, _, _, -, rfl, -⟩ <;> exact ⟨_, rfl⟩
  obtain ⟨sa, rfl⟩ := hsv
  have hln : env.length ≤ 90 := hg.len
  obtain ⟨ka, kc, hSb, hlb, hcell, i1, i2, i3, hkd, hkr⟩ := hx
  obtain ⟨z, hz⟩ : ∃ z : Int, z = ((f + 1 : Nat) : Int) := ⟨_, rfl⟩
  obtain ⟨z1, hz1⟩ : ∃ z1 : Int, z1 = (f : Int) := ⟨_, rfl⟩
  have hw : IntKind.i64.wrap (z + -1) = z1 := by rw [IntKind.wrap_i64]; omega
  have hq0 : decide (z1 < 0) = false := by simp; omega
  obtain ⟨W1, hW1⟩ : ∃ W1, W1 = w.setCell ⟨rb, 1, none⟩ (.int .i64 z1) := ⟨_, rfl⟩
  have hadd := add_any rb z z1 w (by rw [hz, cell_of_block hr]; rfl) (unfrozen_of_block hr 1) hw
  rw [← hW1] at hadd
  have m1 : Mv w W1 S S := by rw [hW1]; exact Mv.set w _ hs.rb
  have kb1 : KB (· = rb) w W1 := by rw [hW1]; exact kb_set w rb 1 _
  have run1 : RunI W1 rb bv f := by
    rw [hW1, hz1]
    have := block_setCell (i := 1) hr (.int .i64 (f : Int))
    exact this
  have s1 : W1.heap.size = w.heap.size := by rw [hW1]; simp
  have hs1 : SvI W1 S d rb _ P := hs.move m1 (by rw [s1]; exact hs.new) hs.rb
  have hv1 := hv.move m1
  have cc := hcell.move (m1.block kb hSb hlb)
  obtain ⟨p0, p1, p2, p3⟩ := cc
  rw [hk] at p0
  have HADD := (show Hid (_ ∧ True) from ⟨hadd, trivial⟩)
  have hat := at_any S d rb i m c _ env W1 hv1 hc
  have hgc : c.good (P.length : Int) := (goodL_iff _ _).1 hg.2 c (List.mem_of_getElem? hc)
  have hrd := fun fv (h : Ready W1 S d rb fv c) => ready_call P bv rb d b hE S f c fv W1 hf run1 hs1 h hgc
  rw [hi] at p1
  have HK := (show Hid (_ ∧ _ ∧ _) from ⟨hat, hrd, kb1⟩)
  clear hE hB hf hr hs hv hg hk hcell i1 i2 i3 hkd hkr hln kb1 run1 s1 hs1 hv1 m1 hSb hlb hz hz1 hw hW1 hadd hat hgc hrd hi hc
  go_enter Tryz.func40, Tryz.ntmps40
  go_wp2_with fail
  refine HADD.out.1.mono ?_
  rintro r W1 ⟨rfl, rfl⟩
  go_wp2_with fail
  refine HK.out.1.mono ?_
  rintro r w3 ⟨fv, rfl, rfl, hready⟩
  obtain ⟨b0, b1, b2, rfl, hcall⟩ := HK.out.2.1 fv hready
  have HC := (show Hid (_ ∧ True) from ⟨hcall, trivial⟩)
  clear hcall hready
  go_wp2_with fail
  refine HC.out.1.mono ?_
  rintro r w9 ⟨v9, rfl, haf⟩
  have HA := (show Hid _ from haf)
  clear haf
  go_wp2_with fail
  go_ret
  exact ⟨_, rfl, HA.out.sub HK.out.2.2 (fun _ h => h)⟩
end Go.Proofs.YtkhkmmjollcfaaaGreatDoor

namespace Go.Proofs.YtkhkmmjollcfaaaGreatDoor
open Go.RowKit Go.Joins

set_option maxRecDepth 100000

set_option maxHeartbeats 3200000 in
theorem reckon2 (P : List Ex) (bv : Value) (rb d b : Nat) (hE : EvI P bv rb d b) (hB : b < 1000000) (S : Nat → Prop) (f : Nat) (e : Ex) (env : List Clo) (kb ko m : Nat) (sv : Value) (w : World)
    (hf : f ≤ b) (hr : RunI w rb bv (f + 1)) (hs : SvI w S d rb bv P) (hx : ExP w S d rb kb ko e) (hv : ScAt w S d rb m sv env) (hg : Ok P e env) (hk : e.kind = 2) (i : Nat) (hi : e.n = (i : Int)) (B : Ex) (hb : P[i]? = some B) (hok : Ok P B []) :
    Calls Tryz.prog 40 #[.pointer (some ⟨rb, 0, none⟩), .pointer (some ⟨kb, ko, none⟩), sv] w fun r w' => ∃ v, r = .returned v ∧ AftI P S d rb bv w w' v (ev P b f B []) := by
  have hrl : rb < w.heap.size := lt_heap hr
  have hsv : ∃ a, sv = .pointer a := by rcases hv.form with ⟨-, rfl⟩ | ⟨_, _, _, _, _, -, rfl, -⟩ <;> exact ⟨_, rfl⟩
  obtain ⟨sa, rfl⟩ := hsv
  have hln : env.length ≤ 90 := hg.len
  obtain ⟨ka, kc, hSb, hlb, hcell, i1, i2, i3, hkd, hkr⟩ := hx
  have hbo := hs.bodies
  obtain ⟨pa', pc, rfl⟩ := hbo.form
  obtain ⟨pb, po, rfl⟩ := kid_row hbo (by intro h; rw [h] at hb; simp at hb)
  have xpb : ExP w S d rb pb (po + i * 4) B := by obtain ⟨a, c, h1, h2, h3, h4⟩ := kid_at hbo hb; obtain ⟨j1, j2, j3, j4⟩ := h4.parts; exact ⟨a, c, h2.1, h3, h1, j1, j2, j3, j4, h2.2⟩
  obtain ⟨z, hz⟩ : ∃ z : Int, z = ((f + 1 : Nat) : Int) := ⟨_, rfl⟩
  obtain ⟨z1, hz1⟩ : ∃ z1 : Int, z1 = (f : Int) := ⟨_, rfl⟩
  have hw : IntKind.i64.wrap (z + -1) = z1 := by rw [IntKind.wrap_i64]; omega
  have hq0 : decide (z1 < 0) = false := by simp; omega
  obtain ⟨W1, hW1⟩ : ∃ W1, W1 = w.setCell ⟨rb, 1, none⟩ (.int .i64 z1) := ⟨_, rfl⟩
  have hadd := add_any rb z z1 w (by rw [hz, cell_of_block hr]; rfl) (unfrozen_of_block hr 1) hw
  rw [← hW1] at hadd
  have m1 : Mv w W1 S S := by rw [hW1]; exact Mv.set w _ hs.rb
  have kb1 : KB (· = rb) w W1 := by rw [hW1]; exact kb_set w rb 1 _
  have run1 : RunI W1 rb (.slice (some ⟨pb, po, none⟩) P.length pc) f := by
    rw [hW1, hz1]
    have := block_setCell (i := 1) hr (.int .i64 (f : Int))
    exact this
  have s1 : W1.heap.size = w.heap.size := by rw [hW1]; simp
  have hs1 : SvI W1 S d rb _ P := hs.move m1 (by rw [s1]; exact hs.new) hs.rb
  have hv1 := hv.move m1
  have cc := hcell.move (m1.block kb hSb hlb)
  obtain ⟨p0, p1, p2, p3⟩ := cc
  rw [hk] at p0
  have HADD := (show Hid (_ ∧ True) from ⟨hadd, trivial⟩)
  have hil : i < P.length := (List.getElem?_eq_some_iff.1 hb).1
  have hil2 : (i : Int) < (P.length : Int) := by omega
  have mD : Mv W1 W1.drew S S := Mv.drew _ _
  have hcall := hE S f B [] pb (po + i * 4) 1 (.pointer none) W1.drew hf (run1.move (by rw [drew_heap])) (hs1.move mD (by rw [drew_heap]; exact hs1.new) hs1.rb) ((xpb.move m1).move mD) (ScAt.nil _ _ _ _ _) hok
  rw [hi] at p1
  have r0 : W1.cell? ⟨rb, 0, none⟩ = some (.slice (some ⟨pb, po, none⟩) P.length pc) := by rw [cell_of_block run1]; rfl
  have keep : ∀ (w9 : World) (v9 : Value), AftI P S d rb (.slice (some ⟨pb, po, none⟩) P.length pc) W1.drew w9 v9 (ev P b f B []) → w9.cell? ⟨rb, 0, none⟩ = some (.slice (some ⟨pb, po, none⟩) P.length pc) ∧ w9.cell? ⟨kb, ko + 1, none⟩ = some (.int .i64 (i : Int)) := fun w9 v9 h => by
    obtain ⟨x, hx, -⟩ := h.run
    exact ⟨by rw [cell_of_block hx]; rfl, (World.cell?_of_block (h.kb.block kb (by rw [drew_heap, s1]; exact hlb) (fun e => hs1.rb (e ▸ hSb)))).trans (by rw [World.cell?_of_block (w := W1) (by rw [drew_heap])]; exact p1)⟩
  have HK := (show Hid (_ ∧ _ ∧ _ ∧ _ ∧ _ ∧ _) from ⟨hcall, kb1.drew, (⟨r0, p1⟩ : W1.drew.cell? ⟨rb, 0, none⟩ = some (.slice (some ⟨pb, po, none⟩) P.length pc) ∧ W1.drew.cell? ⟨kb, ko + 1, none⟩ = some (.int .i64 (i : Int))), hs1.rb, trivial, keep⟩)
  clear keep
  clear hE hB hf hr hs hv hg hk hcell i1 i2 i3 hkd hkr hln kb1 run1 s1 hs1 hv1 m1 hSb hlb hz hz1 hw hW1 hadd hcall mD hi hb hok hbo xpb hil
  go_enter Tryz.func40, Tryz.ntmps40
  go_wp2_with fail
  refine HADD.out.1.mono ?_
  rintro r W1 ⟨rfl, rfl⟩
  go_upto_region 15 with fail
  go_region_held3 (fun W => W.cell? ⟨rb, 0, none⟩ = some (.slice (some ⟨pb, po, none⟩) P.length pc) ∧ W.cell? ⟨kb, ko + 1, none⟩ = some (.int .i64 (i : Int))) (first | with_reducible exact HK.out.2.2.1 | with_reducible exact HF.out.1) (first
    | (go_at_call 40; refine HK.out.1.mono ?_; rintro r w9 ⟨v9, rfl, haf⟩; have HF := (show Hid ((w9.cell? ⟨rb, 0, none⟩ = some (.slice (some ⟨pb, po, none⟩) P.length pc) ∧ w9.cell? ⟨kb, ko + 1, none⟩ = some (.int .i64 (i : Int))) ∧ _) from ⟨HK.out.2.2.2.2.2 w9 v9 haf, haf⟩); clear haf))
  all_goals
    go_wp2_with fail
    go_ret
    exact ⟨_, rfl, HF.out.2.sub HK.out.2.1 (fun _ h => h)⟩
end Go.Proofs.YtkhkmmjollcfaaaGreatDoor

namespace Go.Proofs.YtkhkmmjollcfaaaGreatDoor
open Go.RowKit Go.Joins

set_option maxRecDepth 100000

set_option maxHeartbeats 3200000 in
theorem reckon3 (P : List Ex) (bv : Value) (rb d b : Nat) (hB : b < 1000000) (S : Nat → Prop) (f : Nat) (e : Ex) (env : List Clo) (kb ko m : Nat) (sv : Value) (w : World)
    (hf : f ≤ b) (hr : RunI w rb bv (f + 1)) (hs : SvI w S d rb bv P) (hx : ExP w S d rb kb ko e) (hv : ScAt w S d rb m sv env) (hg : Ok P e env) (hk : e.kind = 3) :
    Calls Tryz.prog 40 #[.pointer (some ⟨rb, 0, none⟩), .pointer (some ⟨kb, ko, none⟩), sv] w fun r w' => ∃ v, r = .returned v ∧ AftI P S d rb bv w w' v ((.ok (.fn e.n (kidN e 0) env), f)) := by
  have hrl : rb < w.heap.size := lt_heap hr
  have hsv : ∃ a, sv = .pointer a := by rcases hv.form with ⟨-, rfl⟩ | ⟨_, _, _, _, _, -, rfl, -⟩ <;> exact ⟨_, rfl⟩
  obtain ⟨sa, rfl⟩ := hsv
  have hln : env.length ≤ 90 := hg.len
  obtain ⟨ka, kc, hSb, hlb, hcell, i1, i2, i3, hkd, hkr⟩ := hx
  obtain ⟨k0, hks⟩ : ∃ k0, e.kids = [k0] := by obtain ⟨⟨deep, h⟩, -⟩ := hg; exact kids1 (by rw [kids_of h, hk]; rfl)
  have e0 : kidN e 0 = k0 := by unfold kidN; rw [hks]; rfl
  try rw [e0]
  have hkl : e.kids.length = 1 := by rw [hks]; rfl
  rw [hks] at hkd
  obtain ⟨kb2, ko2, rfl⟩ := kid_row hkd (by simp)
  have xp0 : ExP w S d rb kb2 (ko2 + 0 * 4) k0 := by obtain ⟨a, c, h1, h2, h3, h4⟩ := kid_at hkd (i := 0) (k := k0) rfl; obtain ⟨j1, j2, j3, j4⟩ := h4.parts; exact ⟨a, c, h2.1, h3, h1, j1, j2, j3, j4, h2.2⟩
  simp only [Nat.zero_mul, Nat.add_zero] at xp0
  obtain ⟨z, hz⟩ : ∃ z : Int, z = ((f + 1 : Nat) : Int) := ⟨_, rfl⟩
  obtain ⟨z1, hz1⟩ : ∃ z1 : Int, z1 = (f : Int) := ⟨_, rfl⟩
  have hw : IntKind.i64.wrap (z + -1) = z1 := by rw [IntKind.wrap_i64]; omega
  have hq0 : decide (z1 < 0) = false := by simp; omega
  obtain ⟨W1, hW1⟩ : ∃ W1, W1 = w.setCell ⟨rb, 1, none⟩ (.int .i64 z1) := ⟨_, rfl⟩
  have hadd := add_any rb z z1 w (by rw [hz, cell_of_block hr]; rfl) (unfrozen_of_block hr 1) hw
  rw [← hW1] at hadd
  have m1 : Mv w W1 S S := by rw [hW1]; exact Mv.set w _ hs.rb
  have kb1 : KB (· = rb) w W1 := by rw [hW1]; exact kb_set w rb 1 _
  have run1 : RunI W1 rb bv f := by
    rw [hW1, hz1]
    have := block_setCell (i := 1) hr (.int .i64 (f : Int))
    exact this
  have s1 : W1.heap.size = w.heap.size := by rw [hW1]; simp
  have hs1 : SvI W1 S d rb _ P := hs.move m1 (by rw [s1]; exact hs.new) hs.rb
  have hv1 := hv.move m1
  have cc := hcell.move (m1.block kb hSb hlb)
  obtain ⟨p0, p1, p2, p3⟩ := cc
  rw [hk] at p0
  rw [hkl] at p3
  have xq0 := xp0.move m1
  have HADD := (show Hid (_ ∧ True) from ⟨hadd, trivial⟩)
  have hvr : VRI W1.drew S d rb P (.iface 110 (.agg #[.pointer (some ⟨kb2, ko2, none⟩), .pointer sa, .int .i64 e.n])) (.ok (.fn e.n k0 env)) := by
    obtain ⟨⟨deep, hr0⟩, hr1⟩ := hg
    have hk0 := kid_right hr0 (i := 0) (k := k0) (by rw [hks]; rfl)
    have hfb := ((right_iff _ _ _ _).1 hr0).2.2.2.1
    have hnn : 1 ≤ e.n ∧ e.n ≤ 6 := by
      unfold fieldsB at hfb
      by_cases ht : e.text.toList ≠ []
      · rw [if_neg (by omega), if_pos ht] at hfb; cases hfb
      · rw [if_neg (by omega), if_neg ht, if_neg (by omega), if_neg (by omega), if_neg (by omega), if_pos hk] at hfb
        unfold inR at hfb
        simpa using hfb
    rw [hk, show moreN 3 e.n 0 = e.n from rfl] at hk0
    exact ⟨⟨kb2, ko2, _, m, rfl, xq0.move (Mv.drew _ _), hv1.move (Mv.drew _ _)⟩, hnn.1, hnn.2, hr1, _, hk0⟩
  have HK := (show Hid (_ ∧ _ ∧ _ ∧ _) from ⟨kb1.drew, run1.move (by rw [drew_heap]), hvr, (⟨p1, p3⟩ : W1.drew.cell? ⟨kb, ko + 1, none⟩ = some (.int .i64 e.n) ∧ W1.drew.cell? ⟨kb, ko + 3, none⟩ = some (.slice (some ⟨kb2, ko2, none⟩) 1 kc))⟩)
  clear hB hf hr hs hv hg hk hcell i1 i2 i3 hkd hkr hln kb1 run1 s1 hs1 hv1 m1 hSb hlb hks hkl e0 xp0 xq0 hz hz1 hw hW1 hadd hvr
  go_enter Tryz.func40, Tryz.ntmps40
  go_wp2_with fail
  refine HADD.out.1.mono ?_
  rintro r W1 ⟨rfl, rfl⟩
  go_upto_region 9 with fail
  go_region_held3 (fun W => W.cell? ⟨kb, ko + 1, none⟩ = some (.int .i64 e.n) ∧ W.cell? ⟨kb, ko + 3, none⟩ = some (.slice (some ⟨kb2, ko2, none⟩) 1 kc)) (with_reducible exact HK.out.2.2.2) (fail)
  all_goals
    go_wp2_with fail
    go_ret
    exact ⟨_, rfl, HK.out.1, HK.out.2.2.1, ⟨_, HK.out.2.1, fun _ => rfl⟩⟩
end Go.Proofs.YtkhkmmjollcfaaaGreatDoor
