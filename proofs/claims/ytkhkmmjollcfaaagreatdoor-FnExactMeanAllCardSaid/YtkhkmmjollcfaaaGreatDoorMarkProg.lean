/-
  The laws' marking of a program that they made: what lies elsewhere stays as it is.
-/
import Derived.Test.YtkhkmmjollcfaaaGreatDoorMZe
import Derived.Test.YtkhkmmjollcfaaaGreatDoorMZc
import Derived.Test.YtkhkmmjollcfaaaGreatDoorMA
namespace Go.Proofs.YtkhkmmjollcfaaaGreatDoor
open Go.RowKit Go.Joins

set_option maxRecDepth 100000

/-- All that is not in the blocks from lo up to hi lies; rows of expressions keep their kids. -/
structure Mkd (lo hi : Nat) (w w' : World) : Prop where
  os : w'.os = w.os
  tape : w'.tape = w.tape
  output : w'.output = w.output
  size : w.heap.size ≤ w'.heap.size
  out : ∀ k, k < w.heap.size → (k < lo ∨ hi ≤ k) → w'.heap[k]? = w.heap[k]?
  exp : ∀ (k : Nat) (cs : Array Value), w.heap[k]? = some (Obj.cells cs 58 (0, 0)) → ∃ cs', w'.heap[k]? = some (Obj.cells cs' 58 (0, 0)) ∧ cs'.size = cs.size ∧ ∀ i, cs'[i * 4 + 3]? = cs[i * 4 + 3]?
theorem Mkd.refl (lo hi : Nat) (w : World) : Mkd lo hi w w := ⟨rfl, rfl, rfl, Nat.le_refl _, fun _ _ _ => rfl, fun _ cs h => ⟨cs, h, rfl, fun _ => rfl⟩⟩
theorem Mkd.trans {lo hi : Nat} {a b c : World} (h : Mkd lo hi a b) (k : Mkd lo hi b c) : Mkd lo hi a c :=
  ⟨k.os.trans h.os, k.tape.trans h.tape, k.output.trans h.output, Nat.le_trans h.size k.size, fun i hi ho => (k.out i (Nat.lt_of_lt_of_le hi h.size) ho).trans (h.out i hi ho), fun i cs hi => by
    obtain ⟨cs1, h1, s1, e1⟩ := h.exp i cs hi
    obtain ⟨cs2, h2, s2, e2⟩ := k.exp i cs1 h1
    exact ⟨cs2, h2, s2.trans s1, fun j => (e2 j).trans (e1 j)⟩⟩
theorem Mkd.of_below {lo hi : Nat} {w w' : World} (h : Below w.heap.size w w') : Mkd lo hi w w' :=
  ⟨h.os, h.tape, h.output, h.size, fun k hk _ => h.block k hk, fun k cs hk => ⟨cs, (h.block k (Array.getElem?_eq_some_iff.1 hk).1).trans hk, rfl, fun _ => rfl⟩⟩
/-- A store into a row of expressions, not over kids. -/
theorem Mkd.set {lo hi : Nat} {w : World} {b o : Nat} {cs : Array Value} (hb : w.heap[b]? = some (.cells cs 58 (0, 0))) (h1 : lo ≤ b) (h2 : b < hi) (ho : o % 4 ≠ 3) (u : Value) : Mkd lo hi w (w.setCell ⟨b, o, none⟩ u) := by
  refine ⟨rfl, rfl, rfl, by simp [World.setCell], fun k _ hk => Below.heap_setCell _ _ _ _ (by show k ≠ b; omega), fun k cs' hk => ?_⟩
  by_cases e : k = b
  · subst e
    rw [hk] at hb
    cases hb
    refine ⟨_, block_setCell hk u, by simp, fun i => ?_⟩
    rw [Array.getElem?_setIfInBounds_ne (by omega)]
  · exact ⟨cs', (Below.heap_setCell _ _ _ _ e).trans hk, rfl, fun _ => rfl⟩
/-- All that is not in the blocks from lo up to hi lies. -/
structure Outs (lo hi : Nat) (w w' : World) : Prop where
  os : w'.os = w.os
  tape : w'.tape = w.tape
  output : w'.output = w.output
  size : w.heap.size ≤ w'.heap.size
  out : ∀ k, k < w.heap.size → (k < lo ∨ hi ≤ k) → w'.heap[k]? = w.heap[k]?
theorem Outs.refl (lo hi : Nat) (w : World) : Outs lo hi w w := ⟨rfl, rfl, rfl, Nat.le_refl _, fun _ _ _ => rfl⟩
theorem Outs.trans {lo hi : Nat} {a b c : World} (h : Outs lo hi a b) (k : Outs lo hi b c) : Outs lo hi a c :=
  ⟨k.os.trans h.os, k.tape.trans h.tape, k.output.trans h.output, Nat.le_trans h.size k.size, fun i hi ho => (k.out i (Nat.lt_of_lt_of_le hi h.size) ho).trans (h.out i hi ho)⟩
theorem Outs.of_below {lo hi : Nat} {w w' : World} (h : Below w.heap.size w w') : Outs lo hi w w' := ⟨h.os, h.tape, h.output, h.size, fun k hk _ => h.block k hk⟩
theorem Outs.set {lo hi : Nat} (w : World) (b o : Nat) (h1 : lo ≤ b) (h2 : b < hi) (u : Value) : Outs lo hi w (w.setCell ⟨b, o, none⟩ u) :=
  ⟨rfl, rfl, rfl, by simp [World.setCell], fun k _ hk => Below.heap_setCell _ _ _ _ (by show k ≠ b; omega)⟩
theorem Outs.wide {lo hi lo' hi' : Nat} {w w' : World} (h : Outs lo hi w w') (h1 : lo' ≤ lo) (h2 : hi ≤ hi') : Outs lo' hi' w w' := ⟨h.os, h.tape, h.output, h.size, fun k hk ho => h.out k hk (by omega)⟩
theorem Mkd.outs {lo hi : Nat} {w w' : World} (h : Mkd lo hi w w') : Outs lo hi w w' := ⟨h.os, h.tape, h.output, h.size, h.out⟩
theorem Sk.mkd {lo hi : Nat} {S : Nat → Prop} {w w' : World} (hm : Mkd lo hi w w') : ∀ {d : Nat} {v : Value} {es : List Ex}, Sk w S d v es → Sk w' S d v es
  | 0, _, _, h => h.elim
  | d + 1, v, es, ⟨a, cap, hv, hc⟩ => by
    refine ⟨a, cap, hv, fun i e he => ?_⟩
    obtain ⟨b, kv, cs, ha, hb, hblk, hs, h3, hk⟩ := hc i e he
    obtain ⟨cs', h1, s1, e1⟩ := hm.exp b cs hblk
    exact ⟨b, kv, cs', ha, hb, h1, by omega, (e1 i).trans h3, Sk.mkd hm hk⟩
theorem Sk.form {w : World} {S : Nat → Prop} {d : Nat} {v : Value} {es : List Ex} (h : Sk w S d v es) : ∃ a cap, v = .slice a es.length cap := by
  cases d with
  | zero => exact h.elim
  | succ d => obtain ⟨a, cap, hv, _⟩ := h; exact ⟨a, cap, hv⟩
theorem int_eqp {a b : Int} (h : a = b) : Value.int .i64 a = .int .i64 b := by rw [h]

def MarkES (lo hi d : Nat) : Prop := ∀ (v : Value) (es : List Ex) (k0 : Int) (w : World), Sk w (fun b => lo ≤ b ∧ b < hi) d v es → es.length ≤ 100000000 → 0 ≤ k0 → k0 + 3 * (Ex.countL es : Int) ≤ 100000000 →
  Calls Tryz.prog 30 #[v, .int .i64 k0] w fun e w' => e = .returned (.int .i64 (k0 + 3 * (Ex.countL es : Int))) ∧ Mkd lo hi w w'

theorem countL_len : ∀ l : List Ex, l.length ≤ Ex.countL l
  | [] => Nat.le_refl _
  | e :: r => by have := countL_len r; have := Ex.count_eq e; rw [Ex.countL, List.length_cons]; omega
theorem countL_take_leM : ∀ (l : List Ex) (n : Nat), Ex.countL (l.take n) ≤ Ex.countL l
  | [], _ => by simp
  | x :: r, 0 => by simp [Ex.countL]
  | x :: r, n + 1 => by have := countL_take_leM r n; rw [List.take_succ_cons, Ex.countL, Ex.countL]; omega

set_option maxHeartbeats 3200000 in
theorem markExpS_of (lo hi d : Nat) (hE : MarkES lo hi d) : MarkES lo hi (d + 1) := by
  intro v es k0 w hS hl hk0 hk1
  obtain ⟨a, cap, rfl⟩ := hS.form
  have HS : Hid (Sk w (fun b => lo ≤ b ∧ b < hi) (d + 1) (.slice a es.length cap) es) := hS
  have HE : Hid (MarkES lo hi d) := hE
  have hct := Ex.countL_take es
  clear hS hE
  go_enter Tryz.func30, Tryz.ntmps30
  go_wp2
  go_loopw [1, 5] (fun kv i wr => ∃ j : Nat, j ≤ es.length ∧ i = .int .i64 j ∧ kv = .int .i64 (k0 + 3 * (Ex.countL (es.take j) : Int)) ∧ Hid (Mkd lo hi w wr)) (fun _ i _ => es.length - (intOf i).toNat)
  case atStart => exact ⟨0, Nat.zero_le _, rfl, by simp [Ex.countL], Mkd.refl _ _ _⟩
  case round =>
    obtain ⟨j, hj, rfl, rfl, hmr⟩ := hrel
    have htl0 := countL_take_leM es j
    by_cases hlt : j < es.length
    · have he := List.getElem?_eq_getElem hlt
      have hcy := hct j _ he
      have htl := countL_take_leM es (j + 1)
      generalize es[j] = y at *
      have hcn := Ex.count_eq y
      have hyl := countL_len y.kids
      obtain ⟨a', cap', hv, hc⟩ := HS.out.mkd hmr.out
      cases hv
      obtain ⟨b, kv, cs, rfl, hb, hblk, hs, h3, hk⟩ := hc j y he
      obtain ⟨ka, kc, rfl⟩ := hk.form
      have hlt' : ((j : Nat) : Int) < ((es.length : Nat) : Int) := by omega
      generalize hkk : k0 + 3 * (Ex.countL (es.take j) : Int) = k at *
      have x0 : wr.cell? ⟨b, j * 4, none⟩ = some (cs[j * 4]'(by omega)) := by rw [cell_of_block hblk]; exact Array.getElem?_eq_getElem _
      have x1 : wr.cell? ⟨b, j * 4 + 1, none⟩ = some (cs[j * 4 + 1]'(by omega)) := by rw [cell_of_block hblk]; exact Array.getElem?_eq_getElem _
      have x2 : wr.cell? ⟨b, j * 4 + 2, none⟩ = some (cs[j * 4 + 2]'(by omega)) := by rw [cell_of_block hblk]; exact Array.getElem?_eq_getElem _
      have x3 : wr.cell? ⟨b, j * 4 + 3, none⟩ = some (.slice ka y.kids.length kc) := by rw [cell_of_block hblk]; exact h3
      generalize cs[j * 4]'(by omega) = y0 at x0
      generalize cs[j * 4 + 1]'(by omega) = y1 at x1
      have hx2 : cs[j * 4 + 2]? = some (cs[j * 4 + 2]'(by omega)) := Array.getElem?_eq_getElem _
      generalize cs[j * 4 + 2]'(by omega) = y2 at x2 hx2
      have hkb : 0 ≤ k ∧ k + 3 ≤ 100000000 := by omega
      have hykl : y.kids.length ≤ 100000000 := by omega
      have f0 : wr.frozen? ⟨b, j * 4, none⟩ = false := unfrozen_of_block hblk _
      have f1 : wr.frozen? ⟨b, j * 4 + 1, none⟩ = false := unfrozen_of_block hblk _
      have hbl := (Array.getElem?_eq_some_iff.1 hblk).1
      have M2 : Mkd lo hi wr ((wr.setCell ⟨b, j * 4, none⟩ (.int .i64 k)).setCell ⟨b, j * 4 + 1, none⟩ (.int .i64 (k + 1))) := (Mkd.set hblk hb.1 hb.2 (by omega) _).trans (Mkd.set (block_setCell hblk _) hb.1 hb.2 (by omega) _)
      have hblk2 := block_setCell (i := j * 4 + 1) (block_setCell (i := j * 4) hblk (.int .i64 k)) (.int .i64 (k + 1))
      have z2 : ((wr.setCell ⟨b, j * 4, none⟩ (.int .i64 k)).setCell ⟨b, j * 4 + 1, none⟩ (.int .i64 (k + 1))).cell? ⟨b, j * 4 + 2, none⟩ = some y2 := by
        rw [cell_of_block hblk2, Array.getElem?_setIfInBounds_ne (by omega), Array.getElem?_setIfInBounds_ne (by omega)]; exact hx2
      have z3 : ((wr.setCell ⟨b, j * 4, none⟩ (.int .i64 k)).setCell ⟨b, j * 4 + 1, none⟩ (.int .i64 (k + 1))).cell? ⟨b, j * 4 + 3, none⟩ = some (.slice ka y.kids.length kc) := by
        rw [cell_of_block hblk2, Array.getElem?_setIfInBounds_ne (by omega), Array.getElem?_setIfInBounds_ne (by omega)]; exact h3
      have hs2 : ((wr.setCell ⟨b, j * 4, none⟩ (.int .i64 k)).setCell ⟨b, j * 4 + 1, none⟩ (.int .i64 (k + 1))).heap.size = wr.heap.size := by simp
      have HX := (show Hid (_ ∧ _ ∧ _ ∧ _ ∧ _ ∧ _ ∧ _ ∧ _ ∧ _) from ⟨M2, hblk2, z2, z3, hk, hb, hkk, hcy, hmr⟩)
      clear M2 hblk2 z2 z3 hk hb hkk hcy hmr hc h3 hs hblk HS he hct x2 x3 hx2
      go_wp2_with fail
      refine (markText_any _ _ (by omega)).mono ?_
      rintro e w1 ⟨rfl, b1⟩
      have hbl1 : w1.heap[b]? = _ := (b1.block b (by rw [hs2]; exact hbl)).trans HX.out.2.1
      have u2 : w1.cell? ⟨b, j * 4 + 2, none⟩ = some y2 := (b1.cell (p := ⟨b, j * 4 + 2, none⟩) (by rw [hs2]; exact hbl)).trans HX.out.2.2.1
      have u3 : w1.cell? ⟨b, j * 4 + 3, none⟩ = some (.slice ka y.kids.length kc) := (b1.cell (p := ⟨b, j * 4 + 3, none⟩) (by rw [hs2]; exact hbl)).trans HX.out.2.2.2.1
      have f2 : w1.frozen? ⟨b, j * 4 + 2, none⟩ = false := unfrozen_of_block hbl1 _
      have M4 : Mkd lo hi wr (w1.setCell ⟨b, j * 4 + 2, none⟩ (.string (markT (k + 1 + 1)))) := (HX.out.1.trans (Mkd.of_below b1)).trans (Mkd.set hbl1 HX.out.2.2.2.2.2.1.1 HX.out.2.2.2.2.2.1.2 (by omega) _)
      have hrec := HE.out _ y.kids (k + 1 + 1 + 1) _ (HX.out.2.2.2.2.1.mkd M4) (by omega) (by omega) (by have := HX.out.2.2.2.2.2.2.1; have := HX.out.2.2.2.2.2.2.2.1; omega)
      have HY := (show Hid (_ ∧ _) from ⟨hrec, M4⟩)
      clear hrec M4 b1 hbl1 HE x0 x1 f0 f1
      go_wp2_with fail
      refine HY.out.1.mono ?_
      rintro e w5 ⟨rfl, hm5⟩
      have M5 : Mkd lo hi w w5 := HX.out.2.2.2.2.2.2.2.2.out.trans (HY.out.2.trans hm5)
      have hfin : k + 1 + 1 + 1 + 3 * (Ex.countL y.kids : Int) = k0 + 3 * (Ex.countL (es.take (j + 1)) : Int) := by
        have := HX.out.2.2.2.2.2.2.1; have := HX.out.2.2.2.2.2.2.2.1; omega
      have HZ := (show Hid (_ ∧ _) from ⟨M5, hfin⟩)
      clear M5 hm5 hfin
      go_wp2
      exact ⟨⟨j + 1, by omega, by go_num, int_eqp HZ.out.2, HZ.out.1⟩, by simp [intOf]; omega⟩
    · obtain rfl : j = es.length := by omega
      rw [List.take_length]
      go_wp2
      go_ret
      exact ⟨rfl, hmr.out⟩
theorem markExpS_any (lo hi : Nat) : ∀ d, MarkES lo hi d
  | 0 => fun _ _ _ _ h => h.elim
  | d + 1 => markExpS_of lo hi d (markExpS_any lo hi d)

set_option maxHeartbeats 3200000 in
theorem markStringS_any (lo hi : Nat) (v : Value) (ts : List ByteArray) (k0 : Int) (w : World) (h : StrsAt w (fun b => lo ≤ b ∧ b < hi ∧ Pl w b) v ts) (hl : ts.length ≤ 10000000) (hk0 : 0 ≤ k0) (hk1 : k0 ≤ 10000000) :
    Calls Tryz.prog 29 #[v, .int .i64 k0] w fun e w' => e = .returned (.int .i64 (k0 + ts.length)) ∧ Outs lo hi w w' := by
  obtain ⟨a, cap, rfl, _, hc⟩ := h
  by_cases hz : ts.length = 0
  · obtain rfl : ts = [] := List.eq_nil_of_length_eq_zero hz
    clear hc
    go_enter Tryz.func29, Tryz.ntmps29
    go_wp2
    refine wp_loop_rounds 1 ?_
    rw [rounds_succ]
    go_wp2
    go_ret
    exact ⟨int_ret (by simp), Outs.refl _ _ _⟩
  obtain ⟨b, off, rfl, ⟨hb1, hb2, cs, ty, hblk⟩, _⟩ := hc 0 ts[0] (List.getElem?_eq_getElem (by omega))
  have hsz : ∀ j, j < ts.length → off + j < cs.size := fun j hj => by
    obtain ⟨b', off', hab, _, _, hcell, _⟩ := hc j ts[j] (List.getElem?_eq_getElem hj)
    obtain ⟨rfl, rfl⟩ : b = b' ∧ off = off' := by simpa using hab
    rw [cell_of_block hblk] at hcell
    exact (Array.getElem?_eq_some_iff.1 hcell).1
  have HB : Hid (w.heap[b]? = some (Obj.cells cs ty (0, 0))) := hblk
  have HZ := (show Hid (_ ∧ True) from ⟨hsz, trivial⟩)
  clear hblk hsz hc
  go_enter Tryz.func29, Tryz.ntmps29
  go_wp2
  go_loopw [1, 5] (fun kv i wr => ∃ j : Nat, j ≤ ts.length ∧ i = .int .i64 j ∧ kv = .int .i64 (k0 + j) ∧ Hid (∃ cur, wr.heap[b]? = some (Obj.cells cur ty (0, 0)) ∧ cur.size = cs.size) ∧ Hid (Outs lo hi w wr)) (fun _ i _ => ts.length - (intOf i).toNat)
  case atStart => exact ⟨0, Nat.zero_le _, rfl, by simp, ⟨cs, HB.out, rfl⟩, Outs.refl _ _ _⟩
  case round =>
    obtain ⟨j, hj, rfl, rfl, ⟨cur, hcur, hcs⟩, hmr⟩ := hrel
    by_cases hlt : j < ts.length
    · have hlt' : ((j : Nat) : Int) < ((ts.length : Nat) : Int) := by omega
      have hin : off + j < cur.size := by have := HZ.out.1 j hlt; omega
      have HC : Hid (wr.heap[b]? = some (Obj.cells cur ty (0, 0)) ∧ cur.size = cs.size) := ⟨hcur, hcs⟩
      have hbl := (Array.getElem?_eq_some_iff.1 hcur).1
      clear hcur hcs
      go_wp2_with fail
      refine (markText_any _ _ (by omega)).mono ?_
      rintro e w1 ⟨rfl, b1⟩
      have hbl1 : w1.heap[b]? = some (Obj.cells cur ty (0, 0)) := (b1.block b hbl).trans HC.out.1
      have x0 : w1.cell? ⟨b, off + j, none⟩ = some (cur[off + j]'hin) := by rw [cell_of_block hbl1]; exact Array.getElem?_eq_getElem _
      generalize cur[off + j]'hin = y0 at x0
      have f0 : w1.frozen? ⟨b, off + j, none⟩ = false := unfrozen_of_block hbl1 _
      have M2 : Outs lo hi w (w1.setCell ⟨b, off + j, none⟩ (.string (markT (k0 + j)))) := (hmr.out.trans (Outs.of_below b1)).trans (Outs.set _ _ _ hb1 hb2 _)
      have HM := (show Hid (_ ∧ _) from ⟨M2, hbl1⟩)
      clear M2 hbl1 b1 hmr
      go_wp2
      refine ⟨⟨j + 1, by omega, by go_num, int_eqp (by omega), ⟨_, block_setCell HM.out.2 _, by simp only [Array.size_setIfInBounds]; exact HC.out.2⟩, HM.out.1⟩, by simp [intOf]; omega⟩
    · obtain rfl : j = ts.length := by omega
      clear hcur hcs
      go_wp2
      go_ret
      exact ⟨rfl, hmr.out⟩

set_option maxHeartbeats 1600000 in
theorem markProgram_any (lo mid hi d : Nat) (nv bv : Value) (p : Pr) (w : World) (hn : StrsAt w (fun b => lo ≤ b ∧ b < mid ∧ Pl w b) nv p.names) (hs : Sk w (fun b => mid ≤ b ∧ b < hi) d bv p.bodies) (h1 : lo ≤ mid) (h2 : mid ≤ hi) (h3 : hi ≤ w.heap.size) (hb : p.bulk ≤ 1048576) :
    Calls Tryz.prog 13 #[.agg #[nv, bv], .int .i64 1] w fun e w' => ∃ k : Int, 0 ≤ k ∧ e = .returned (.int .i64 k) ∧ Outs lo hi w w' := by
  obtain ⟨a1, c1, rfl⟩ := hn.form
  obtain ⟨a2, c2, rfl⟩ := hs.form
  have hbk : p.bulk = bulkS p.names + Ex.bulkL p.bodies := rfl
  have hnl := bulkS_len p.names
  have hcl := Ex.countL_bulk p.bodies
  have hll := countL_len p.bodies
  have B0 : Below w.heap.size w (w.alloc (.cells #[.slice a1 p.names.length c1, .slice a2 p.bodies.length c2] 31)) := (Below.refl _ w).alloc (Nat.le_refl _) _
  have O0 : (w.alloc (.cells #[.slice a1 p.names.length c1, .slice a2 p.bodies.length c2] 31)).heap[w.heap.size]? = some (.cells #[.slice a1 p.names.length c1, .slice a2 p.bodies.length c2] 31 (0, 0)) := (MapKept.heap_alloc w _).1
  have hs0 : (w.alloc (.cells #[.slice a1 p.names.length c1, .slice a2 p.bodies.length c2] 31)).heap.size = w.heap.size + 1 := by simp
  have hm := markStringS_any lo mid _ p.names 1 _ (hn.kept (fun b _ hlt => B0.block b hlt) B0.size (fun b h _ => ⟨h.1, h.2.1, h.2.2.below B0⟩)) (by omega) (by omega) (by omega)
  have HM := (show Hid (_ ∧ _ ∧ _ ∧ _) from ⟨hm, B0, O0, hs⟩)
  clear hm B0 O0 hn hs
  go_enter Tryz.func13, Tryz.ntmps13
  go_wp2_with fail
  refine HM.out.1.mono ?_
  rintro e w1 ⟨rfl, m1⟩
  have O1 : w1.heap[w.heap.size]? = some (.cells #[.slice a1 p.names.length c1, .slice a2 p.bodies.length c2] 31 (0, 0)) := (m1.out _ (by rw [hs0]; omega) (by omega)).trans HM.out.2.2.1
  have y1 : w1.cell? ⟨w.heap.size, 1, none⟩ = some (.slice a2 p.bodies.length c2) := by rw [cell_of_block O1]; rfl
  have S1 : Sk w1 (fun b => mid ≤ b ∧ b < hi) d (.slice a2 p.bodies.length c2) p.bodies := (HM.out.2.2.2.below HM.out.2.1).kept (fun b hb hlt => m1.out b hlt (.inr hb.1)) (fun _ h _ => h)
  have hm2 := markExpS_any mid hi d _ p.bodies (1 + (p.names.length : Int)) w1 S1 (by omega) (by omega) (by omega)
  have M1 : Outs lo hi w w1 := (Outs.of_below HM.out.2.1).trans (m1.wide (Nat.le_refl _) h2)
  have H1 := (show Hid (_ ∧ _) from ⟨hm2, M1⟩)
  clear hm2 M1 m1 S1 O1 HM
  go_wp2_with fail
  refine H1.out.1.mono ?_
  rintro e w2 ⟨rfl, m2⟩
  have M2 : Outs lo hi w w2 := H1.out.2.trans (m2.outs.wide h1 (Nat.le_refl _))
  clear m2 H1
  go_wp2
  go_ret
  exact ⟨_, by omega, rfl, M2⟩
end Go.Proofs.YtkhkmmjollcfaaaGreatDoor
