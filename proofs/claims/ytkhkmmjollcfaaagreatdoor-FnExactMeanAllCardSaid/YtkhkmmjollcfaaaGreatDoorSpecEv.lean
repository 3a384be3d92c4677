/-
  The specification's l03Eval does what the evaluator says.
-/
import Derived.Test.YtkhkmmjollcfaaaGreatDoorMG
import Derived.Test.YtkhkmmjollcfaaaGreatDoorMH
import Derived.Test.YtkhkmmjollcfaaaGreatDoorMI
import Derived.Test.YtkhkmmjollcfaaaGreatDoorMJ
import Derived.Test.YtkhkmmjollcfaaaGreatDoorSpecEv9
namespace Go.Proofs.YtkhkmmjollcfaaaGreatDoor
open Go.RowKit Go.Joins

set_option maxRecDepth 100000

set_option maxHeartbeats 3200000 in
theorem l03Eval_off (P : List Ex) (nv bv : Value) (rb d : Nat) (S : Nat → Prop) (f : Nat) (e : Ex) (env : List Clo) (xv envv : Value) (w : World) (c : Int)
    (hr : RunAt w rb nv bv f c) (hs : Sv w S d rb bv P) (hx : Cx w S d e env xv envv) (hc : c ≠ 0) :
    Calls Tryz.prog 65 #[.pointer (some ⟨rb, 0, none⟩), xv, envv] w fun r w' => ∃ v, r = .returned v ∧ Aft P S d rb nv bv w w' v (.err c, f) := by
  have hrl : rb < w.heap.size := (Array.getElem?_eq_some_iff.1 hr).1
  have hd : 0 < d := hs.bodies.pos
  obtain ⟨⟨kv, rfl, i1, i2, i3, hkd⟩, m, hen⟩ := hx
  obtain ⟨a1, c1, rfl⟩ := hkd.form
  obtain ⟨a2, c2, rfl, hz2⟩ := hen.form
  obtain ⟨W1, hW1⟩ : ∃ W1, W1 = ((w.alloc (.cells #[.int .i64 e.kind, .int .i64 e.n, .string e.text, .slice a1 e.kids.length c1] 58)).alloc (.cells #[.int .i64 0, .int .i64 0, .int .i64 0, .int .i64 0, .string ⟨#[]⟩, .slice none 0 0, .slice none 0 0] 91)) := ⟨_, rfl⟩
  obtain ⟨s1, m1, kb1, q1, r1⟩ := two_boxes w S (.cells #[.int .i64 e.kind, .int .i64 e.n, .string e.text, .slice a1 e.kids.length c1] 58) (.cells #[.int .i64 0, .int .i64 0, .int .i64 0, .int .i64 0, .string ⟨#[]⟩, .slice none 0 0, .slice none 0 0] 91) W1 hW1 rb
  have y3 : W1.cell? ⟨rb, 3, none⟩ = some (.int .i64 c) := by rw [cell_of_block (hr.move (kb1.low hrl))]; rfl
  have hq2 : decide (c = 0) = false := by simpa using hc
  have hq4 : (c != 0) = true := by simpa using hc
  have u0 : W1.cell? ⟨w.heap.size + 1, 0, none⟩ = some (.int .i64 0) := (by rw [cell_of_block r1]; rfl)
  have uf0 : W1.frozen? ⟨w.heap.size + 1, 0, none⟩ = false := unfrozen_of_block r1 0
  have u1 : W1.cell? ⟨w.heap.size + 1, 1, none⟩ = some (.int .i64 0) := (by rw [cell_of_block r1]; rfl)
  have uf1 : W1.frozen? ⟨w.heap.size + 1, 1, none⟩ = false := unfrozen_of_block r1 1
  have u2 : W1.cell? ⟨w.heap.size + 1, 2, none⟩ = some (.int .i64 0) := (by rw [cell_of_block r1]; rfl)
  have uf2 : W1.frozen? ⟨w.heap.size + 1, 2, none⟩ = false := unfrozen_of_block r1 2
  have u3 : W1.cell? ⟨w.heap.size + 1, 3, none⟩ = some (.int .i64 0) := (by rw [cell_of_block r1]; rfl)
  have uf3 : W1.frozen? ⟨w.heap.size + 1, 3, none⟩ = false := unfrozen_of_block r1 3
  have u4 : W1.cell? ⟨w.heap.size + 1, 4, none⟩ = some (.string ⟨#[]⟩) := (by rw [cell_of_block r1]; rfl)
  have uf4 : W1.frozen? ⟨w.heap.size + 1, 4, none⟩ = false := unfrozen_of_block r1 4
  have u5 : W1.cell? ⟨w.heap.size + 1, 5, none⟩ = some (.slice none 0 0) := (by rw [cell_of_block r1]; rfl)
  have uf5 : W1.frozen? ⟨w.heap.size + 1, 5, none⟩ = false := unfrozen_of_block r1 5
  have u6 : W1.cell? ⟨w.heap.size + 1, 6, none⟩ = some (.slice none 0 0) := (by rw [cell_of_block r1]; rfl)
  have uf6 : W1.frozen? ⟨w.heap.size + 1, 6, none⟩ = false := unfrozen_of_block r1 6
  have HK := (show Hid (_ ∧ _ ∧ _ ∧ _) from ⟨kb1.kb, hr.move (kb1.low hrl), hd, hc⟩)
  clear s1 m1 kb1 q1 r1 hr hs hkd hen hz2 hd hc i1 i2 i3
  go_enter Tryz.func65, Tryz.ntmps65
  go_upto_region 1 with fail
  rw [← hW1]
  clear hW1
  go_wp2_with fail
  refine bodyPost_ret (v := .agg #[.int .i64 0, .int .i64 0, .int .i64 0, .int .i64 0, .string ⟨#[]⟩, .slice none 0 0, .slice none 0 0]) (by simp [results, Tryz.results65, go_sem, u0, u1, u2, u3, u4, u5, u6]) rfl ?_
  exact ⟨_, rfl, aft_end (S' := (but (but S w.heap.size) (w.heap.size + 1))) (R := (.err c, f)) HK.out.1 ⟨1, VJ.zero' HK.out.2.2.1, HK.out.2.2.2⟩ (fun b h => h.1.1) (fun h => h.2 rfl) HK.out.2.1 (by omega) hrl (kb7 _ _ _ _ _ _ _ _ _)⟩

set_option maxHeartbeats 3200000 in
theorem l03Eval_out (P : List Ex) (nv bv : Value) (rb d : Nat) (S : Nat → Prop) (e : Ex) (env : List Clo) (xv envv : Value) (w : World)
    (hr : RunAt w rb nv bv 0 0) (hs : Sv w S d rb bv P) (hx : Cx w S d e env xv envv) :
    Calls Tryz.prog 65 #[.pointer (some ⟨rb, 0, none⟩), xv, envv] w fun r w' => ∃ v, r = .returned v ∧ Aft P S d rb nv bv w w' v (.err 1, 0) := by
  have hrl : rb < w.heap.size := (Array.getElem?_eq_some_iff.1 hr).1
  have hd : 0 < d := hs.bodies.pos
  obtain ⟨⟨kv, rfl, i1, i2, i3, hkd⟩, m, hen⟩ := hx
  obtain ⟨a1, c1, rfl⟩ := hkd.form
  obtain ⟨a2, c2, rfl, hz2⟩ := hen.form
  obtain ⟨W1, hW1⟩ : ∃ W1, W1 = ((w.alloc (.cells #[.int .i64 e.kind, .int .i64 e.n, .string e.text, .slice a1 e.kids.length c1] 58)).alloc (.cells #[.int .i64 0, .int .i64 0, .int .i64 0, .int .i64 0, .string ⟨#[]⟩, .slice none 0 0, .slice none 0 0] 91)) := ⟨_, rfl⟩
  obtain ⟨s1, m1, kb1, q1, r1⟩ := two_boxes w S (.cells #[.int .i64 e.kind, .int .i64 e.n, .string e.text, .slice a1 e.kids.length c1] 58) (.cells #[.int .i64 0, .int .i64 0, .int .i64 0, .int .i64 0, .string ⟨#[]⟩, .slice none 0 0, .slice none 0 0] 91) W1 hW1 rb
  have hr1 := hr.move (kb1.low hrl)
  have y2 : W1.cell? ⟨rb, 2, none⟩ = some (.int .i64 0) := by rw [cell_of_block hr1]; rfl
  have y3 : W1.cell? ⟨rb, 3, none⟩ = some (.int .i64 0) := by rw [cell_of_block hr1]; rfl
  have y3f : W1.frozen? ⟨rb, 3, none⟩ = false := unfrozen_of_block hr1 3
  obtain ⟨W2, hW2⟩ : ∃ W2, W2 = W1.setCell ⟨rb, 3, none⟩ (.int .i64 1) := ⟨_, rfl⟩
  have r2 : W2.heap[w.heap.size + 1]? = some (.cells #[.int .i64 0, .int .i64 0, .int .i64 0, .int .i64 0, .string ⟨#[]⟩, .slice none 0 0, .slice none 0 0] 91) := by rw [hW2]; exact (Below.heap_setCell _ _ _ _ (by simp; omega)).trans r1
  have k2 : KB (· = rb) w W2 := by rw [hW2]; exact kb1.kb.trans (kb_set W1 rb 3 _)
  have run2 : RunAt W2 rb nv bv 0 1 := by rw [hW2]; exact hr1.code_set 1
  have u0 : W2.cell? ⟨w.heap.size + 1, 0, none⟩ = some (.int .i64 0) := (by rw [cell_of_block r2]; rfl)
  have uf0 : W2.frozen? ⟨w.heap.size + 1, 0, none⟩ = false := unfrozen_of_block r2 0
  have u1 : W2.cell? ⟨w.heap.size + 1, 1, none⟩ = some (.int .i64 0) := (by rw [cell_of_block r2]; rfl)
  have uf1 : W2.frozen? ⟨w.heap.size + 1, 1, none⟩ = false := unfrozen_of_block r2 1
  have u2 : W2.cell? ⟨w.heap.size + 1, 2, none⟩ = some (.int .i64 0) := (by rw [cell_of_block r2]; rfl)
  have uf2 : W2.frozen? ⟨w.heap.size + 1, 2, none⟩ = false := unfrozen_of_block r2 2
  have u3 : W2.cell? ⟨w.heap.size + 1, 3, none⟩ = some (.int .i64 0) := (by rw [cell_of_block r2]; rfl)
  have uf3 : W2.frozen? ⟨w.heap.size + 1, 3, none⟩ = false := unfrozen_of_block r2 3
  have u4 : W2.cell? ⟨w.heap.size + 1, 4, none⟩ = some (.string ⟨#[]⟩) := (by rw [cell_of_block r2]; rfl)
  have uf4 : W2.frozen? ⟨w.heap.size + 1, 4, none⟩ = false := unfrozen_of_block r2 4
  have u5 : W2.cell? ⟨w.heap.size + 1, 5, none⟩ = some (.slice none 0 0) := (by rw [cell_of_block r2]; rfl)
  have uf5 : W2.frozen? ⟨w.heap.size + 1, 5, none⟩ = false := unfrozen_of_block r2 5
  have u6 : W2.cell? ⟨w.heap.size + 1, 6, none⟩ = some (.slice none 0 0) := (by rw [cell_of_block r2]; rfl)
  have uf6 : W2.frozen? ⟨w.heap.size + 1, 6, none⟩ = false := unfrozen_of_block r2 6
  have HK := (show Hid (_ ∧ _ ∧ _) from ⟨k2, run2, hd⟩)
  clear s1 m1 kb1 q1 r1 hr hs hkd hen hz2 hd i1 i2 i3 r2 k2 run2 hr1
  go_enter Tryz.func65, Tryz.ntmps65
  go_upto_region 1 with fail
  rw [← hW1]
  clear hW1
  go_upto_region 5 with fail
  rw [← hW2]
  clear hW2
  go_wp2_with fail
  refine bodyPost_ret (v := .agg #[.int .i64 0, .int .i64 0, .int .i64 0, .int .i64 0, .string ⟨#[]⟩, .slice none 0 0, .slice none 0 0]) (by simp [results, Tryz.results65, go_sem, u0, u1, u2, u3, u4, u5, u6]) rfl ?_
  exact ⟨_, rfl, aft_end (S' := (but (but S w.heap.size) (w.heap.size + 1))) (R := (.err 1, 0)) HK.out.1 ⟨1, VJ.zero' HK.out.2.2, by decide⟩ (fun b h => h.1.1) (fun h => h.2 rfl) HK.out.2.1 (by omega) hrl (kb7 _ _ _ _ _ _ _ _ _)⟩

theorem field_n {e : Ex} {env : List Clo} {P : List Ex} (hg : Ok P e env) : (e.kind = 1 → 0 ≤ e.n ∧ e.n < (env.length : Int)) ∧ (e.kind = 2 → 0 ≤ e.n ∧ e.n < (P.length : Int)) ∧ 0 ≤ e.kind ∧ e.kind ≤ 11 := by
  obtain ⟨⟨deep, h⟩, -⟩ := hg
  obtain ⟨-, -, h3, h4, -⟩ := (right_iff _ _ _ _).1 h
  have hr : 0 ≤ e.kind ∧ e.kind ≤ 11 := by
    unfold kidsOf at h3
    by_cases h0 : 0 ≤ e.kind ∧ e.kind ≤ 11
    · exact h0
    · rw [if_neg (by omega), if_neg (by omega), if_neg (by omega), if_neg (by omega)] at h3; omega
  refine ⟨fun hk => ?_, fun hk => ?_, hr⟩
  · unfold fieldsB at h4
    rw [if_neg (by omega)] at h4
    by_cases ht : e.text.toList ≠ []
    · rw [if_pos ht] at h4; cases h4
    · rw [if_neg ht, if_neg (by omega), if_pos hk] at h4
      unfold inR at h4
      simp only [Bool.and_eq_true, decide_eq_true_eq] at h4
      omega
  · unfold fieldsB at h4
    rw [if_neg (by omega)] at h4
    by_cases ht : e.text.toList ≠ []
    · rw [if_pos ht] at h4; cases h4
    · rw [if_neg ht, if_neg (by omega), if_neg (by omega), if_pos hk] at h4
      unfold inR at h4
      simp only [Bool.and_eq_true, decide_eq_true_eq] at h4
      omega

theorem evS_succ (P : List Ex) (nv bv : Value) (rb d b : Nat) (hP : ∀ B ∈ P, Ok P B []) (hB : b < 1000000) (ih : EvS P nv bv rb d b) : EvS P nv bv rb d (b + 1) := by
  intro S f e env xv envv w c hf hr hs hx hg
  by_cases hc : c = 0
  · subst hc
    rw [evC_zero]
    cases f with
    | zero =>
      rw [show ev P (b + 1) 0 e env = (.err 1, 0) by rw [ev, if_pos rfl]]
      exact l03Eval_out P nv bv rb d S e env xv envv w hr hs hx
    | succ f =>
      have hg := hg rfl
      have hf' : f ≤ b := by omega
      obtain ⟨f1, f2, f3, f4⟩ := field_n hg
      rw [ev, if_neg (by omega), show f + 1 - 1 = f from rfl]
      have hk : e.kind = 0 ∨ e.kind = 1 ∨ e.kind = 2 ∨ e.kind = 3 ∨ e.kind = 4 ∨ e.kind = 5 ∨ e.kind = 6 ∨ e.kind = 7 ∨ e.kind = 8 ∨ e.kind = 9 ∨ e.kind = 10 ∨ e.kind = 11 := by omega
      rcases hk with hk | hk | hk | hk | hk | hk | hk | hk | hk | hk | hk | hk
      · rw [if_pos hk]
        exact l03Eval_0 P nv bv rb d b hB S f e env xv envv w hf' hr hs hx hg hk
      · rw [if_neg (by omega), if_pos hk]
        obtain ⟨c, hc⟩ : ∃ c, env[e.n.toNat]? = some c := ⟨_, List.getElem?_eq_getElem (by have := f1 hk; omega)⟩
        rw [hc]
        exact l03Eval_1 P nv bv rb d b ih hB S f e env xv envv w hf' hr hs hx hg hk e.n.toNat (by have := f1 hk; omega) c hc
      · rw [if_neg (by omega), if_neg (by omega), if_pos hk]
        obtain ⟨B, hb⟩ : ∃ B, P[e.n.toNat]? = some B := ⟨_, List.getElem?_eq_getElem (by have := f2 hk; omega)⟩
        rw [show P.getD e.n.toNat exZ = B by rw [List.getD_eq_getElem?_getD, hb]; rfl]
        exact l03Eval_2 P nv bv rb d b ih hB S f e env xv envv w hf' hr hs hx hg hk e.n.toNat (by have := f2 hk; omega) B hb (hP B (List.mem_of_getElem? hb))
      · rw [if_neg (by omega), if_neg (by omega), if_neg (by omega), if_pos hk]
        exact l03Eval_3 P nv bv rb d b hB S f e env xv envv w hf' hr hs hx hg hk
      · rw [if_neg (by omega), if_neg (by omega), if_neg (by omega), if_neg (by omega), if_pos hk]
        exact l03Eval_4 P nv bv rb d b ih hB S f e env xv envv w hf' hr hs hx hg hk
      · rw [if_neg (by omega), if_neg (by omega), if_neg (by omega), if_neg (by omega), if_neg (by omega), if_pos hk]
        exact l03Eval_5 P nv bv rb d b ih hB S f e env xv envv w hf' hr hs hx hg hk
      · rw [if_neg (by omega), if_neg (by omega), if_neg (by omega), if_neg (by omega), if_neg (by omega), if_neg (by omega), if_pos hk]
        exact l03Eval_6 P nv bv rb d b ih hB S f e env xv envv w hf' hr hs hx hg hk
      · rw [if_neg (by omega), if_neg (by omega), if_neg (by omega), if_neg (by omega), if_neg (by omega), if_neg (by omega), if_neg (by omega), if_pos hk]
        exact l03Eval_7 P nv bv rb d b hB S f e env xv envv w hf' hr hs hx hg hk
      · rw [if_neg (by omega), if_neg (by omega), if_neg (by omega), if_neg (by omega), if_neg (by omega), if_neg (by omega), if_neg (by omega), if_neg (by omega), if_pos hk]
        exact l03Eval_8 P nv bv rb d b hB S f e env xv envv w hf' hr hs hx hg hk
      · rw [if_neg (by omega), if_neg (by omega), if_neg (by omega), if_neg (by omega), if_neg (by omega), if_neg (by omega), if_neg (by omega), if_neg (by omega), if_neg (by omega), if_pos hk]
        exact l03Eval_9 P nv bv rb d b ih hB S f e env xv envv w hf' hr hs hx hg hk
      · rw [if_neg (by omega), if_neg (by omega), if_neg (by omega), if_neg (by omega), if_neg (by omega), if_neg (by omega), if_neg (by omega), if_neg (by omega), if_neg (by omega), if_neg (by omega), if_pos hk]
        exact l03Eval_10 P nv bv rb d b ih hB S f e env xv envv w hf' hr hs hx hg hk
      · rw [if_neg (by omega), if_neg (by omega), if_neg (by omega), if_neg (by omega), if_neg (by omega), if_neg (by omega), if_neg (by omega), if_neg (by omega), if_neg (by omega), if_neg (by omega), if_neg (by omega)]
        exact l03Eval_11 P nv bv rb d b ih hB S f e env xv envv w hf' hr hs hx hg hk
  · rw [evC_err _ _ _ _ _ hc]
    exact l03Eval_off P nv bv rb d S f e env xv envv w c hr hs hx hc
theorem evS_all (P : List Ex) (nv bv : Value) (rb d : Nat) (hP : ∀ B ∈ P, Ok P B []) : ∀ b, b < 1000000 → EvS P nv bv rb d b
  | 0, _ => by
    intro S f e env xv envv w c hf hr hs hx hg
    obtain rfl : f = 0 := by omega
    by_cases hc : c = 0
    · subst hc
      rw [evC_zero, ev]
      exact l03Eval_out P nv bv rb d S e env xv envv w hr hs hx
    · rw [evC_err _ _ _ _ _ hc]
      exact l03Eval_off P nv bv rb d S 0 e env xv envv w c hr hs hx hc
  | b + 1, h => evS_succ P nv bv rb d b hP (by omega) (evS_all P nv bv rb d hP b (by omega))
end Go.Proofs.YtkhkmmjollcfaaaGreatDoor
