/-
  At every program the program's TableOf answers as the specification's, writes into no argument, and its answer owns its memory; the law's call changes nothing that was there; no condition.
-/
import Derived.Test.YtdadppjncdkpiaaTopNew
import Derived.Test.YtdadppjncdkpiaaMK
import Derived.Test.YtdadppjncdkpiaaME
import Derived.Test.YtdadppjncdkpiaaSpecTab
import Derived.ChangeOld
import Derived.Deep.CutRange
namespace Go.Proofs.Ytdadppjncdkpiaa
open Go.ChangeShapes Go.WideShapes Go.ChangeAt Go.RowKit Go.Joins

set_option maxRecDepth 100000

namespace fnExactTableOf

/-- The argument, where it lies. -/
structure SA (w : World) (p : Pr) (d : Nat) (bx : Array Value) (wi : World) : Prop where
  arg : PrAt wi (fun b => b < w.heap.size) d (.agg bx) p
  below : Below w.heap.size w wi
  box : wi.heap[w.heap.size]? = some (.cells bx 48 (0, 0))
/-- The specification's answer. -/
structure SB (N4 : Nat) (wv : Array Value) (T : Tb) (wi : World) : Prop where
  tab : TbAt wi (fun b => b < N4) (.agg wv) T
  box : wi.heap[N4]? = some (.cells wv 34 (0, 0))
/-- What the program is given. -/
structure SC (L N5 mid d : Nat) (nv bv : Value) (p : Pr) (wi : World) : Prop where
  pr : PrAt wi (fun b => L ≤ b ∧ Pl wi b) d (.agg #[nv, bv]) p
  names : StrsAt wi (fun b => L ≤ b ∧ b < mid ∧ Pl wi b) nv p.names
  sk : Sk wi (fun b => mid ≤ b ∧ b < N5) d bv p.bodies
  box : wi.heap[N5]? = some (.cells #[nv, bv] 53 (0, 0))
/-- The program's answer. -/
structure SD (B N6 : Nat) (cv tv : Value) (rs : List (Cd × Value)) (tops : List Int) (wi : World) : Prop where
  tab : TabAt wi B cv tv rs tops
  box : wi.heap[N6]? = some (.cells #[cv, tv] 34 (0, 0))

theorem lt_of {w : World} {k : Nat} {o : Obj} (h : w.heap[k]? = some o) : k < w.heap.size := (Array.getElem?_eq_some_iff.1 h).1
theorem prAt_moved {w w' : World} {S : Nat → Prop} {d : Nat} {v : Value} {p : Pr} (h : PrAt w S d v p) (hw : ∀ b, S b → b < w.heap.size → w'.heap[b]? = w.heap[b]?) (hsz : w.heap.size ≤ w'.heap.size) : PrAt w' S d v p := by
  obtain ⟨nv, bv, hv, h1, h2⟩ := h
  exact ⟨nv, bv, hv, h1.kept hw hsz (fun _ h _ => h), h2.kept hw hsz (fun _ h _ => h)⟩
theorem tbAt_moved {w w' : World} {S S' : Nat → Prop} {v : Value} {p : Tb} (h : TbAt w S v p) (hw : ∀ b, S b → b < w.heap.size → w'.heap[b]? = w.heap[b]?) (hsz : w.heap.size ≤ w'.heap.size) (hS : ∀ b, S b → b < w.heap.size → S' b) : TbAt w' S' v p := by
  obtain ⟨nv, bv, hv, h1, h2⟩ := h
  exact ⟨nv, bv, hv, h1.kept hw hsz hS, h2.kept hw hsz hS⟩

theorem SA.low {w wi wj : World} {p : Pr} {d : Nat} {bx : Array Value} (h : SA w p d bx wi) {L : Nat} (hb : Below L wi wj) (hL : w.heap.size < L) : SA w p d bx wj :=
  ⟨prAt_moved h.arg (fun b hb1 _ => hb.block b (by omega)) hb.size, h.below.trans (hb.mono (Nat.le_of_lt hL)), (hb.block _ hL).trans h.box⟩
theorem SA.next {w wi wj : World} {p : Pr} {d : Nat} {bx : Array Value} (h : SA w p d bx wi) (hb : Below wi.heap.size wi wj) : SA w p d bx wj := h.low hb (lt_of h.box)
theorem SB.low {N4 : Nat} {wv : Array Value} {T : Tb} {wi wj : World} (h : SB N4 wv T wi) {L : Nat} (hb : Below L wi wj) (hL : N4 < L) : SB N4 wv T wj :=
  ⟨tbAt_moved h.tab (fun b hb1 _ => hb.block b (by omega)) hb.size (fun _ h _ => h), (hb.block _ hL).trans h.box⟩
theorem SB.next {N4 : Nat} {wv : Array Value} {T : Tb} {wi wj : World} (h : SB N4 wv T wi) (hb : Below wi.heap.size wi wj) : SB N4 wv T wj := h.low hb (lt_of h.box)
theorem SC.next {L N5 mid d : Nat} {nv bv : Value} {p : Pr} {wi wj : World} (h : SC L N5 mid d nv bv p wi) (hb : Below wi.heap.size wi wj) : SC L N5 mid d nv bv p wj :=
  ⟨h.pr.belowP hb, h.names.kept (fun b _ hlt => hb.block b hlt) hb.size (fun _ h _ => ⟨h.1, h.2.1, h.2.2.below hb⟩), h.sk.below hb, (hb.block _ (lt_of h.box)).trans h.box⟩
theorem SD.next {B N6 : Nat} {cv tv : Value} {rs : List (Cd × Value)} {tops : List Int} {wi wj : World} (h : SD B N6 cv tv rs tops wi) (hb : Below wi.heap.size wi wj) : SD B N6 cv tv rs tops wj :=
  ⟨h.tab.below hb, (hb.block _ (lt_of h.box)).trans h.box⟩

theorem outs_low {lo hi : Nat} {w w' : World} (h : Outs lo hi w w') (hl : lo ≤ w.heap.size) : Below lo w w' := ⟨h.os, h.tape, h.output, h.size, fun k hk => h.out k (Nat.lt_of_lt_of_le hk hl) (.inl hk)⟩
theorem tab_above {W W' : World} {B : Nat} {cv tv : Value} {rs : List (Cd × Value)} {tops : List Int} (h : TabAt W B cv tv rs tops) (hb : ∀ k, B ≤ k → k < W.heap.size → W'.heap[k]? = W.heap[k]?) : TabAt W' B cv tv rs tops := by
  have hm : ∀ {n size : Nat} {e : TypeId} {v : Value} {xs : List Value}, W.ownsRow B e size v n xs → W'.ownsRow B e size v n xs := fun ho => own_moved ho (fun g hg => hb g (own_type ho g hg).1 (own_lt ho g hg))
  exact ⟨hm h.codes, hm h.tops, fun r hr => ⟨hm (h.kids r hr).1, (h.kids r hr).2⟩, h.apart⟩
theorem SD.outs {B N6 lo hi : Nat} {cv tv : Value} {rs : List (Cd × Value)} {tops : List Int} {wi wj : World} (h : SD B N6 cv tv rs tops wi) (m : Outs lo hi wi wj) (hB : hi ≤ B) (h6 : hi ≤ N6) : SD B N6 cv tv rs tops wj :=
  ⟨tab_above h.tab (fun k hk hlt => m.out k hlt (.inr (Nat.le_trans hB hk))), (m.out _ (lt_of h.box) (.inr h6)).trans h.box⟩

/-- What is in the 64 bits. -/
theorem tab_ints {w : World} {S : Nat → Prop} {v : Value} {T : Tb} (h : TbAt w S v T) : (∀ z ∈ T.tops, inI64 z) ∧ ∀ c ∈ T.codes, ∀ z ∈ c.kids, inI64 z := by
  obtain ⟨nv, bv, _, ⟨a, cap, _, _, hc⟩, ⟨a', cap', _, _, ht⟩⟩ := h
  refine ⟨fun z hz => ?_, fun c hcm z hz => ?_⟩
  · obtain ⟨i, hi⟩ := List.getElem?_of_mem hz
    obtain ⟨b, off, _, _, _, _, hr⟩ := ht i z hi
    exact hr
  · obtain ⟨i, hi⟩ := List.getElem?_of_mem hcm
    obtain ⟨b, off, kv, _, _, _, _, _, _, _, _, _, _, a2, cap2, _, _, hk⟩ := hc i c hi
    obtain ⟨j, hj⟩ := List.getElem?_of_mem hz
    obtain ⟨b2, off2, _, _, _, _, hr⟩ := hk j z hj
    exact hr
theorem ints_of_row {w : World} {B : Nat} {v : Value} {zs : List Int} (h : w.ownsRow B 3 1 v zs.length (intVs zs)) (hz : ∀ z ∈ zs, inI64 z) (hm : zs.length ≤ maxLen) : IntsAt w (fun _ => True) v zs := by
  obtain ⟨a, cap, rfl⟩ := own_form h
  refine ⟨a, cap, rfl, hm, fun i z hi => ?_⟩
  obtain ⟨g, cap', hv⟩ := own_some h (by have := (List.getElem?_eq_some_iff.1 hi).1; omega)
  cases hv
  refine ⟨g, 0, rfl, trivial, own_lt h g rfl, ?_, hz z (List.mem_of_getElem? hi)⟩
  have := h.cells (g := g) rfl i (.int .i64 z) (by rw [List.getElem?_map, hi]; rfl)
  rw [addr_addI] at this
  exact this
theorem tab_tb {w : World} {B : Nat} {cv tv : Value} {rs : List (Cd × Value)} {T : Tb} (h : TabAt w B cv tv rs T.tops) (he : rs.map Prod.fst = T.codes) (hz : (∀ z ∈ T.tops, inI64 z) ∧ ∀ c ∈ T.codes, ∀ z ∈ c.kids, inI64 z) (hb : T.bulk ≤ 4194304) : TbAt w (fun _ => True) (.agg #[cv, tv]) T := by
  have hlen : rs.length = T.codes.length := by rw [← he, List.length_map]
  have hbk : T.bulk = bulkC T.codes + T.tops.length := rfl
  have hcl := (show T.codes.length ≤ bulkC T.codes from Nat.le_add_right _ _)
  refine ⟨cv, tv, rfl, ?_, ints_of_row h.tops hz.1 (by unfold maxLen; omega)⟩
  obtain ⟨a, cap, rfl⟩ := own_form h.codes
  refine ⟨a, cap, by rw [hlen], by unfold maxLen; omega, fun i c hi => ?_⟩
  have hil : i < rs.length := by rw [hlen]; exact (List.getElem?_eq_some_iff.1 hi).1
  have hri : rs[i].1 = c := by
    have h1 : (rs.map Prod.fst)[i]? = some c := by rw [he]; exact hi
    rw [List.getElem?_map, List.getElem?_eq_getElem hil] at h1
    simpa using h1
  obtain ⟨g, cap', hv⟩ := own_some h.codes (by omega)
  cases hv
  have hmem : rs[i] ∈ rs := List.getElem_mem hil
  have hk := h.kids _ hmem
  rw [hri] at hk
  have hsp : rs = rs.take i ++ (rs[i].1, rs[i].2) :: rs.drop (i + 1) := by
    conv => lhs; rw [← List.take_append_drop i rs, List.drop_eq_getElem_cons hil]
  have hAl : (rs.take i).length = i := by rw [List.length_take]; omega
  have hc : ∀ j v, j < 4 → (cdCells (c, rs[i].2))[j]? = some v → w.cell? ⟨g, 0 + i * 4 + j, none⟩ = some v := fun j v hj hv => by
    have hmid := mid_cell (rs.take i) (rs.drop (i + 1)) rs[i].1 rs[i].2 j hj
    rw [← hsp, hAl, hri] at hmid
    have hcs := h.codes.cells (g := g) rfl (i * 4 + j) v (hmid.trans hv)
    rw [addr_addI] at hcs
    rw [Nat.zero_add] at hcs ⊢
    exact hcs
  have hcb := bulkC_at hi
  unfold Cd.bulk at hcb
  exact ⟨g, 0, rs[i].2, rfl, trivial, own_lt h.codes g rfl, hc 0 _ (by omega) rfl, hc 1 _ (by omega) rfl, hc 2 _ (by omega) rfl, hc 3 _ (by omega) rfl, hk.2.1, hk.2.2.1, hk.2.2.2, ints_of_row hk.1 (hz.2 c (List.mem_of_getElem? hi)) (by unfold maxLen; omega)⟩
def sumB (l : List Cd) : Nat := (l.map Cd.bulk).sum
theorem sumB_app (l m : List Cd) : sumB (l ++ m) = sumB l + sumB m := by simp [sumB]
mutual
theorem flat_sum : ∀ (e : Ex) (a : Nat), sumB (e.flat a) + 1 ≤ e.bulk + e.count
  | .mk k n t ks, a => by
    have := flatL_sum ks (a + 1)
    rw [Ex.flat, Ex.bulk, Ex.count]
    simp only [sumB, List.map_cons, List.sum_cons, Cd.bulk, numsL_len] at *
    omega
theorem flatL_sum : ∀ (es : List Ex) (a : Nat), sumB (Ex.flatL a es) + 2 * es.length ≤ Ex.bulkL es + Ex.countL es
  | [], a => by rw [Ex.flatL]; simp [sumB]
  | e :: r, a => by
    have h1 := flat_sum e a
    have h2 := flatL_sum r (a + e.count)
    rw [Ex.flatL, sumB_app, Ex.bulkL, Ex.countL, List.length_cons]
    omega
end
theorem table_bulk (p : Pr) (hb : p.bulk ≤ 1048576) : (tableOf p).bulk ≤ 4194304 ∧ (tableOf p).codes.length + sumB (tableOf p).codes + (tableOf p).tops.length ≤ 4194304 := by
  have hbk : p.bulk = bulkS p.names + Ex.bulkL p.bodies := rfl
  have h1 := flatL_sum p.bodies 0
  have h2 := Ex.countL_bulk p.bodies
  have h3 := Ex.flatL_len p.bodies 0
  have h4 := numsL_len p.bodies 0
  unfold tableOf
  split
  · unfold Tb.bulk bulkC preC
    rw [List.take_length]
    simp only [sumB] at *
    omega
  · exact ⟨by decide, by decide⟩
theorem markE_eq : ∀ (rs : List (Cd × Value)) (k : Int), markE k rs ≤ k + 3 * (rs.length : Int) + (sumB (rs.map Prod.fst) : Int)
  | [], k => by rw [markE]; simp [sumB]
  | r :: l, k => by
    have := markE_eq l (k + 3 + r.1.kids.length)
    rw [markE]
    simp only [sumB, List.map_cons, List.sum_cons, Cd.bulk, List.length_cons] at *
    omega

set_option maxHeartbeats 6400000 in
theorem walk (d : Nat) (v : Value) (p : Pr) (w : World) (h : PrAt w (fun _ => True) d v p) :
    Calls Try.prog 5 #[v] w fun e w' => e = .returned (.bool true) ∧ Below w.heap.size w w' := by
  have H1 : Hid (PrAt w (fun _ => True) d v p) := h
  obtain ⟨nv, bv, rfl, hn, hk⟩ := h
  obtain ⟨a1, c1, rfl⟩ := hn.form
  obtain ⟨a2, c2, rfl⟩ := hk.form
  clear hn hk
  have A0 : SA w p d #[.slice a1 p.names.length c1, .slice a2 p.bodies.length c2] (w.alloc (.cells #[.slice a1 p.names.length c1, .slice a2 p.bodies.length c2] 48)) := by
    have B0 : Below w.heap.size w (w.alloc (.cells #[.slice a1 p.names.length c1, .slice a2 p.bodies.length c2] 48)) := (Below.refl _ w).alloc (Nat.le_refl _) _
    refine ⟨?_, B0, (MapKept.heap_alloc w _).1⟩
    obtain ⟨nv, bv, hv, h1, h2⟩ := H1.out
    exact ⟨nv, bv, hv, h1.kept (fun b _ hlt => B0.block b hlt) B0.size (fun b _ hlt => hlt), h2.kept (fun b _ hlt => B0.block b hlt) B0.size (fun b _ hlt => hlt)⟩
  have HA0 := (show Hid (_ ∧ True) from ⟨A0, trivial⟩)
  clear A0 H1
  go_enter Try.func5, Try.ntmps5
  go_wp2_with fail
  generalize (w.alloc (.cells #[.slice a1 p.names.length c1, .slice a2 p.bodies.length c2] 48)) = w2 at *
  refine (szProgram_any d _ p _ _ _ HA0.out.1.arg (by omega) (by omega)).mono ?_
  rintro e w3 ⟨rfl, b3⟩
  have A3 := HA0.out.1.next b3
  clear HA0 b3
  by_cases hx : p.bulk ≤ 1048576
  case neg =>
    have hr : szR 1048576 p.bulk = -1 := by unfold szR; rw [if_neg (by omega)]
    rw [hr]
    have HA := (show Hid (_ ∧ True) from ⟨A3, trivial⟩)
    clear A3
    go_wp2
    go_ret
    exact ⟨rfl, HA.out.1.below⟩
  have hr : szR 1048576 p.bulk = 1048576 - p.bulk := by unfold szR; rw [if_pos (by omega)]
  rw [hr]
  have hr0 : ¬ (1048576 : Int) - p.bulk < 0 := by omega
  have hTB := table_bulk p hx
  have y0 : w3.cell? ⟨w.heap.size, 0, none⟩ = some (.slice a1 p.names.length c1) := by rw [cell_of_block A3.box]; rfl
  have y1 : w3.cell? ⟨w.heap.size, 1, none⟩ = some (.slice a2 p.bodies.length c2) := by rw [cell_of_block A3.box]; rfl
  have HA3 := (show Hid (_ ∧ True) from ⟨A3, trivial⟩)
  clear hr A3
  go_wp2_with fail
  refine (toProgram_any d _ p _ _ HA3.out.1.arg hx).mono ?_
  rintro e w4 ⟨v4, rfl, p4, d4⟩
  have HP4 := (show Hid (_ ∧ _) from ⟨p4, HA3.out.1.next d4⟩)
  obtain ⟨nv4, bv4, rfl, hn4, hk4⟩ := p4
  obtain ⟨a4, c4, rfl⟩ := hn4.form
  obtain ⟨a5, c5, rfl⟩ := hk4.form
  clear hn4 hk4 d4 HA3 y0 y1
  go_wp2_with fail
  refine (specTable_any d _ p _ _ HP4.out.1 (by have := Ex.countL_bulk p.bodies; unfold Pr.bulk at hx; omega)).mono ?_
  rintro e w5 ⟨v5, rfl, t5, d5⟩
  have A5 := HP4.out.2.next d5
  have t5' := t5
  obtain ⟨wc, wt, rfl, hwc, hwt⟩ := t5
  obtain ⟨la5, lc5, rfl⟩ := hwc.form
  obtain ⟨ka5, kc5, rfl⟩ := hwt.form
  have B5a : Below w5.heap.size w5 (w5.alloc (.cells #[.slice la5 (tableOf p).codes.length lc5, .slice ka5 (tableOf p).tops.length kc5] 34)) := (Below.refl _ w5).alloc (Nat.le_refl _) _
  have S5 : SB w5.heap.size #[.slice la5 (tableOf p).codes.length lc5, .slice ka5 (tableOf p).tops.length kc5] (tableOf p) (w5.alloc (.cells #[.slice la5 (tableOf p).codes.length lc5, .slice ka5 (tableOf p).tops.length kc5] 34)) :=
    ⟨tbAt_moved t5' (fun b _ hlt => B5a.block b hlt) B5a.size (fun b _ hlt => hlt), (MapKept.heap_alloc w5 _).1⟩
  have A5a := A5.next B5a
  have hz := tab_ints S5.tab
  have y0 : (w5.alloc (.cells #[.slice la5 (tableOf p).codes.length lc5, .slice ka5 (tableOf p).tops.length kc5] 34)).cell? ⟨w.heap.size, 0, none⟩ = some (.slice a1 p.names.length c1) := by rw [cell_of_block A5a.box]; rfl
  have y1 : (w5.alloc (.cells #[.slice la5 (tableOf p).codes.length lc5, .slice ka5 (tableOf p).tops.length kc5] 34)).cell? ⟨w.heap.size, 1, none⟩ = some (.slice a2 p.bodies.length c2) := by rw [cell_of_block A5a.box]; rfl
  have z0 : w5.cell? ⟨w.heap.size, 0, none⟩ = some (.slice a1 p.names.length c1) := by rw [cell_of_block A5.box]; rfl
  have z1 : w5.cell? ⟨w.heap.size, 1, none⟩ = some (.slice a2 p.bodies.length c2) := by rw [cell_of_block A5.box]; rfl
  have hw5 : w.heap.size < w5.heap.size := lt_of A5.box
  have H5 := (show Hid (_ ∧ _ ∧ _) from ⟨A5a, S5, hz⟩)
  have hs5 : (w5.alloc (.cells #[.slice la5 (tableOf p).codes.length lc5, .slice ka5 (tableOf p).tops.length kc5] 34)).heap.size = w5.heap.size + 1 := by simp
  clear A5 A5a S5 hz B5a t5' hwc hwt d5 HP4
  generalize hTT : tableOf p = T at *
  have HT : Hid (tableOf p = T) := hTT
  clear hTT
  go_wp2_with fail
  generalize w5.alloc (.cells #[.slice la5 T.codes.length lc5, .slice ka5 T.tops.length kc5] 34) = w5a at *
  refine (toProgramK_any d _ p _ _ H5.out.1.arg hx).mono ?_
  rintro e w6 ⟨nv6, bv6, mid, rfl, p6, d6, n6, s6, hm1, hm2⟩
  have p6' := p6
  obtain ⟨nv6', bv6', hv6, hn6, hk6⟩ := p6
  obtain ⟨rfl, rfl⟩ : nv6 = nv6' ∧ bv6 = bv6' := by simpa using hv6
  obtain ⟨a6, c6, rfl⟩ := hn6.form
  obtain ⟨a7, c7, rfl⟩ := hk6.form
  have B6a : Below w6.heap.size w6 (w6.alloc (.cells #[.slice a6 p.names.length c6, .slice a7 p.bodies.length c7] 53)) := (Below.refl _ w6).alloc (Nat.le_refl _) _
  have C6 : SC w5a.heap.size w6.heap.size mid d (.slice a6 p.names.length c6) (.slice a7 p.bodies.length c7) p (w6.alloc (.cells #[.slice a6 p.names.length c6, .slice a7 p.bodies.length c7] 53)) :=
    ⟨p6'.belowP B6a, n6.kept (fun b _ hlt => B6a.block b hlt) B6a.size (fun _ h _ => ⟨h.1, h.2.1, h.2.2.below B6a⟩), (s6.wide (fun b h hlt => ⟨h, hlt⟩)).below B6a, (MapKept.heap_alloc w6 _).1⟩
  have A6 := (H5.out.1.next d6).next B6a
  have S6 := (H5.out.2.1.next d6).next B6a
  have hs6a : (w6.alloc (.cells #[.slice a6 p.names.length c6, .slice a7 p.bodies.length c7] 53)).heap.size = w6.heap.size + 1 := by simp
  have hs6 := d6.size
  have x0 : (w6.alloc (.cells #[.slice a6 p.names.length c6, .slice a7 p.bodies.length c7] 53)).cell? ⟨w6.heap.size, 0, none⟩ = some (.slice a6 p.names.length c6) := by rw [cell_of_block C6.box]; rfl
  have x1 : (w6.alloc (.cells #[.slice a6 p.names.length c6, .slice a7 p.bodies.length c7] 53)).cell? ⟨w6.heap.size, 1, none⟩ = some (.slice a7 p.bodies.length c7) := by rw [cell_of_block C6.box]; rfl
  have H6 := (show Hid (_ ∧ _ ∧ _) from ⟨A6, S6, C6⟩)
  have HZ := (show Hid (_ ∧ True) from ⟨H5.out.2.2, trivial⟩)
  clear A6 S6 C6 B6a p6' hv6 hn6 hk6 n6 s6 d6 H5 y0 y1 z0 z1
  go_wp2_with fail
  generalize w6.alloc (.cells #[.slice a6 p.names.length c6, .slice a7 p.bodies.length c7] 53) = w6a at *
  refine (implTable_any d _ p _ H6.out.2.2.pr.plain hx).mono ?_
  rintro e w7 ⟨cv, tv, rs, rfl, t7, he7, d7⟩
  rw [HT.out] at t7 he7
  obtain ⟨la, lc, rfl⟩ := own_form t7.codes
  obtain ⟨ka, kc, rfl⟩ := own_form t7.tops
  have B7a : Below w7.heap.size w7 (w7.alloc (.cells #[.slice la rs.length lc, .slice ka T.tops.length kc] 34)) := (Below.refl _ w7).alloc (Nat.le_refl _) _
  have D7 : SD w6a.heap.size w7.heap.size (.slice la rs.length lc) (.slice ka T.tops.length kc) rs T.tops (w7.alloc (.cells #[.slice la rs.length lc, .slice ka T.tops.length kc] 34)) := ⟨t7.alloc _, (MapKept.heap_alloc w7 _).1⟩
  have A7 := (H6.out.1.next d7).next B7a
  have S7 := (H6.out.2.1.next d7).next B7a
  have C7 := (H6.out.2.2.next d7).next B7a
  have hs7 := d7.size
  have g0 : (w7.alloc (.cells #[.slice la rs.length lc, .slice ka T.tops.length kc] 34)).cell? ⟨w7.heap.size, 0, none⟩ = some (.slice la rs.length lc) := by rw [cell_of_block D7.box]; rfl
  have g1 : (w7.alloc (.cells #[.slice la rs.length lc, .slice ka T.tops.length kc] 34)).cell? ⟨w7.heap.size, 1, none⟩ = some (.slice ka T.tops.length kc) := by rw [cell_of_block D7.box]; rfl
  have q0 : (w7.alloc (.cells #[.slice la rs.length lc, .slice ka T.tops.length kc] 34)).cell? ⟨w5.heap.size, 0, none⟩ = some (.slice la5 T.codes.length lc5) := by rw [cell_of_block S7.box]; rfl
  have q1 : (w7.alloc (.cells #[.slice la rs.length lc, .slice ka T.tops.length kc] 34)).cell? ⟨w5.heap.size, 1, none⟩ = some (.slice ka5 T.tops.length kc5) := by rw [cell_of_block S7.box]; rfl
  have r0 : w7.cell? ⟨w5.heap.size, 0, none⟩ = some (.slice la5 T.codes.length lc5) := by rw [cell_of_block (H6.out.2.1.next d7).box]; rfl
  have r1 : w7.cell? ⟨w5.heap.size, 1, none⟩ = some (.slice ka5 T.tops.length kc5) := by rw [cell_of_block (H6.out.2.1.next d7).box]; rfl
  have hw7 : w5.heap.size < w7.heap.size := lt_of (H6.out.2.1.next d7).box
  have H7 := (show Hid (_ ∧ _ ∧ _ ∧ _ ∧ _) from ⟨A7, S7, C7, D7, he7⟩)
  clear A7 S7 C7 D7 B7a t7 he7 d7 H6 x0 x1
  go_wp2_with fail
  generalize w7.alloc (.cells #[.slice la rs.length lc, .slice ka T.tops.length kc] 34) = w7a at *
  refine (eqTable_any _ _ T (fun _ => True) _ _ (tab_tb H7.out.2.2.2.1.tab H7.out.2.2.2.2 HZ.out.1 hTB.1) H7.out.2.1.tab hTB.1).mono ?_
  rintro e w8 ⟨rfl, d8⟩
  have H8 := (show Hid (_ ∧ _ ∧ _ ∧ _) from ⟨H7.out.1.next d8, H7.out.2.1.next d8, H7.out.2.2.1.next d8, H7.out.2.2.2.1.next d8⟩)
  have HE := (show Hid (_ ∧ True) from ⟨H7.out.2.2.2.2, trivial⟩)
  clear d8 H7 g0 g1 q0 q1 r0 r1
  have x0 : w8.cell? ⟨w6.heap.size, 0, none⟩ = some (.slice a6 p.names.length c6) := by rw [cell_of_block H8.out.2.2.1.box]; rfl
  have x1 : w8.cell? ⟨w6.heap.size, 1, none⟩ = some (.slice a7 p.bodies.length c7) := by rw [cell_of_block H8.out.2.2.1.box]; rfl
  have y0 : w8.cell? ⟨w.heap.size, 0, none⟩ = some (.slice a1 p.names.length c1) := by rw [cell_of_block H8.out.1.box]; rfl
  have y1 : w8.cell? ⟨w.heap.size, 1, none⟩ = some (.slice a2 p.bodies.length c2) := by rw [cell_of_block H8.out.1.box]; rfl
  have hlt8 : w6.heap.size < w8.heap.size := lt_of H8.out.2.2.1.box
  have hnot := ex_not
  go_wp2_with fail
  go_cut [31] from 27 (fun s wc => s = .bool false ∧ Hid (SA w p d #[.slice a1 p.names.length c1, .slice a2 p.bodies.length c2] wc ∧ SB w5.heap.size #[.slice la5 T.codes.length lc5, .slice ka5 T.tops.length kc5] T wc ∧ SC w5a.heap.size w6.heap.size mid d (.slice a6 p.names.length c6) (.slice a7 p.bodies.length c7) p wc ∧ SD w6a.heap.size w7.heap.size (.slice la rs.length lc) (.slice ka T.tops.length kc) rs T.tops wc))
  case first =>
    go_region_with (first
      | (go_at_call 15; refine (toProgram_any d _ p _ _ (H8.out.1.next (Below.refl _ w8).drew).arg hx).mono ?_; rintro e w9 ⟨v9, rfl, p9, d9⟩; have D9 : Below w8.heap.size w8 w9 := (Below.refl _ w8).drew.trans d9; have HP9 := (show Hid (_ ∧ _) from ⟨p9, D9⟩); obtain ⟨nv9, bv9, rfl, hn9, hk9⟩ := p9; obtain ⟨a8, c8, rfl⟩ := hn9.form; obtain ⟨a9, c9, rfl⟩ := hk9.form; have O9 := (H8.out.2.2.1.next D9).box; have v0 : w9.cell? ⟨w6.heap.size, 0, none⟩ = some (.slice a6 p.names.length c6) := (by rw [cell_of_block O9]; rfl); have v1 : w9.cell? ⟨w6.heap.size, 1, none⟩ = some (.slice a7 p.bodies.length c7) := (by rw [cell_of_block O9]; rfl); clear hn9 hk9 O9 d9 D9)
      | (go_at_call 17; refine (eqProgram_any d _ _ p _ _ _ (H8.out.2.2.1.next HP9.out.2).pr HP9.out.1 hx).mono ?_; rintro e w10 ⟨rfl, d10⟩; have H10 := (show Hid (_ ∧ _ ∧ _ ∧ _) from ⟨(H8.out.1.next HP9.out.2).next d10, (H8.out.2.1.next HP9.out.2).next d10, (H8.out.2.2.1.next HP9.out.2).next d10, (H8.out.2.2.2.next HP9.out.2).next d10⟩); clear d10))
    all_goals
      go_wp2_with fail
      go_meet
      exact ⟨rfl, H10.out⟩
  case rest =>
  obtain ⟨rfl, H10⟩ := hcut
  clear H8 x0 x1 y0 y1 hlt8
  have x0 : wc.cell? ⟨w6.heap.size, 0, none⟩ = some (.slice a6 p.names.length c6) := by rw [cell_of_block H10.out.2.2.1.box]; rfl
  have x1 : wc.cell? ⟨w6.heap.size, 1, none⟩ = some (.slice a7 p.bodies.length c7) := by rw [cell_of_block H10.out.2.2.1.box]; rfl
  go_wp2_with fail
  refine (markProgram_any w5a.heap.size mid w6.heap.size d _ _ p _ H10.out.2.2.1.names H10.out.2.2.1.sk hm1 hm2 (Nat.le_of_lt (lt_of H10.out.2.2.1.box)) hx).mono ?_
  rintro e w11 ⟨k11, hk11, rfl, m11⟩
  have A11 := H10.out.1.low (outs_low m11 (Nat.le_trans hs6 (Nat.le_of_lt (lt_of H10.out.2.2.1.box)))) (by omega)
  have S11 := H10.out.2.1.low (outs_low m11 (Nat.le_trans hs6 (Nat.le_of_lt (lt_of H10.out.2.2.1.box)))) (by omega)
  have D11 := H10.out.2.2.2.outs m11 (by omega) (by omega)
  have H11 := (show Hid (_ ∧ _ ∧ _) from ⟨A11, S11, D11⟩)
  clear A11 S11 D11 m11 H10 x0 x1
  have hk0 : ¬ k11 < 0 := by omega
  have hkd : decide (k11 < 0) = false := by simpa using hk11
  have g0 : w11.cell? ⟨w7.heap.size, 0, none⟩ = some (.slice la rs.length lc) := by rw [cell_of_block H11.out.2.2.box]; rfl
  have g1 : w11.cell? ⟨w7.heap.size, 1, none⟩ = some (.slice ka T.tops.length kc) := by rw [cell_of_block H11.out.2.2.box]; rfl
  have q0 : w11.cell? ⟨w5.heap.size, 0, none⟩ = some (.slice la5 T.codes.length lc5) := by rw [cell_of_block H11.out.2.1.box]; rfl
  have q1 : w11.cell? ⟨w5.heap.size, 1, none⟩ = some (.slice ka5 T.tops.length kc5) := by rw [cell_of_block H11.out.2.1.box]; rfl
  go_wp2_with fail
  refine (eqTable_any _ _ T (fun _ => True) _ _ (tab_tb H11.out.2.2.tab HE.out.1 HZ.out.1 hTB.1) H11.out.2.1.tab hTB.1).mono ?_
  rintro e w12 ⟨rfl, d12⟩
  have H12 := (show Hid (_ ∧ _ ∧ _) from ⟨H11.out.1.next d12, H11.out.2.1.next d12, H11.out.2.2.next d12⟩)
  clear d12 H11 g0 g1 q0 q1
  have g0 : w12.cell? ⟨w7.heap.size, 0, none⟩ = some (.slice la rs.length lc) := by rw [cell_of_block H12.out.2.2.box]; rfl
  have g1 : w12.cell? ⟨w7.heap.size, 1, none⟩ = some (.slice ka T.tops.length kc) := by rw [cell_of_block H12.out.2.2.box]; rfl
  have hme := markE_eq rs 1
  have hrl : rs.length = T.codes.length := by rw [← HE.out.1, List.length_map]
  have hsm : sumB (rs.map Prod.fst) = sumB T.codes := by rw [HE.out.1]
  have hmE : markE 1 rs + T.tops.length ≤ 90000000 := by have := hTB.2; omega
  have hmg := markE_ge rs 1
  have hB12 : w6a.heap.size ≤ w12.heap.size := by have := lt_of H12.out.2.2.box; omega
  have HR := (show Hid (_ ∧ _) from ⟨hrl, hsm⟩)
  clear hrl hsm hme
  go_wp2_with fail
  refine (markTable_any w6a.heap.size _ _ rs T.tops _ hB12 hmE H12.out.2.2.tab).mono ?_
  rintro e w13 ⟨rfl, t13, m13⟩
  have A13 := H12.out.1.low m13.below (by omega)
  have S13 := H12.out.2.1.low m13.below (by omega)
  have D13 : SD w6a.heap.size w7.heap.size (.slice la rs.length lc) (.slice ka T.tops.length kc) (marksC 1 rs) (markTops 1 rs T.tops.length) w13 := ⟨t13, m13.tabs _ _ H12.out.2.2.box⟩
  have H13 := (show Hid (_ ∧ _ ∧ _) from ⟨A13, S13, D13⟩)
  clear A13 S13 D13 t13 m13 H12 g0 g1 hB12
  have g0 : w13.cell? ⟨w7.heap.size, 0, none⟩ = some (.slice la rs.length lc) := by rw [cell_of_block H13.out.2.2.box]; rfl
  have g1 : w13.cell? ⟨w7.heap.size, 1, none⟩ = some (.slice ka T.tops.length kc) := by rw [cell_of_block H13.out.2.2.box]; rfl
  have hmn : ¬ markE 1 rs + (T.tops.length : Int) < 0 := by omega
  have hmq : (markE 1 rs + (T.tops.length : Int) != markE 1 rs + (T.tops.length : Int)) = false := by simp
  go_wp2_with fail
  refine (heldTable_any w6a.heap.size _ _ rs T.tops.length _ hmE H13.out.2.2.tab).mono ?_
  rintro e w14 ⟨rfl, d14⟩
  have H14 := (show Hid (_ ∧ _ ∧ _) from ⟨H13.out.1.next d14, H13.out.2.1.next d14, H13.out.2.2.next d14⟩)
  clear d14 H13 g0 g1
  have y0 : w14.cell? ⟨w.heap.size, 0, none⟩ = some (.slice a1 p.names.length c1) := by rw [cell_of_block H14.out.1.box]; rfl
  have y1 : w14.cell? ⟨w.heap.size, 1, none⟩ = some (.slice a2 p.bodies.length c2) := by rw [cell_of_block H14.out.1.box]; rfl
  go_wp2_with fail
  refine (toProgram_any d _ p _ _ H14.out.1.arg hx).mono ?_
  rintro e w15 ⟨v15, rfl, p15, d15⟩
  have H15 := (show Hid (_ ∧ _ ∧ _ ∧ _) from ⟨p15.plain, H14.out.1.next d15, H14.out.2.1.next d15, H14.out.2.2.next d15⟩)
  obtain ⟨nv15, bv15, rfl, hn15, hk15⟩ := p15
  obtain ⟨a15, c15, rfl⟩ := hn15.form
  obtain ⟨a16, c16, rfl⟩ := hk15.form
  clear hn15 hk15 d15 H14 y0 y1
  go_wp2_with fail
  refine (implTable_any d _ p _ H15.out.1 hx).mono ?_
  rintro e w16 ⟨cv2, tv2, rs2, rfl, t16, he16, d16⟩
  rw [HT.out] at t16 he16
  obtain ⟨la2, lc2, rfl⟩ := own_form t16.codes
  obtain ⟨ka2, kc2, rfl⟩ := own_form t16.tops
  have B16 : Below w16.heap.size w16 (w16.alloc (.cells #[.slice la2 rs2.length lc2, .slice ka2 T.tops.length kc2] 34)) := (Below.refl _ w16).alloc (Nat.le_refl _) _
  have E16 : SD w15.heap.size w16.heap.size (.slice la2 rs2.length lc2) (.slice ka2 T.tops.length kc2) rs2 T.tops (w16.alloc (.cells #[.slice la2 rs2.length lc2, .slice ka2 T.tops.length kc2] 34)) := ⟨t16.alloc _, (MapKept.heap_alloc w16 _).1⟩
  have A16 := (H15.out.2.1.next d16).next B16
  have S16 := (H15.out.2.2.1.next d16).next B16
  have D16 := (H15.out.2.2.2.next d16).next B16
  have g0 : (w16.alloc (.cells #[.slice la2 rs2.length lc2, .slice ka2 T.tops.length kc2] 34)).cell? ⟨w16.heap.size, 0, none⟩ = some (.slice la2 rs2.length lc2) := by rw [cell_of_block E16.box]; rfl
  have g1 : (w16.alloc (.cells #[.slice la2 rs2.length lc2, .slice ka2 T.tops.length kc2] 34)).cell? ⟨w16.heap.size, 1, none⟩ = some (.slice ka2 T.tops.length kc2) := by rw [cell_of_block E16.box]; rfl
  have q0 : w16.cell? ⟨w5.heap.size, 0, none⟩ = some (.slice la5 T.codes.length lc5) := by rw [cell_of_block (H15.out.2.2.1.next d16).box]; rfl
  have q1 : w16.cell? ⟨w5.heap.size, 1, none⟩ = some (.slice ka5 T.tops.length kc5) := by rw [cell_of_block (H15.out.2.2.1.next d16).box]; rfl
  have hw16 : w5.heap.size < w16.heap.size := lt_of (H15.out.2.2.1.next d16).box
  have H16 := (show Hid (_ ∧ _ ∧ _ ∧ _ ∧ _) from ⟨A16, S16, D16, E16, he16⟩)
  clear A16 S16 D16 E16 B16 t16 he16 d16 H15
  go_wp2_with fail
  generalize w16.alloc (.cells #[.slice la2 rs2.length lc2, .slice ka2 T.tops.length kc2] 34) = w16a at *
  refine (eqTable_any _ _ T (fun _ => True) _ _ (tab_tb H16.out.2.2.2.1.tab H16.out.2.2.2.2 HZ.out.1 hTB.1) H16.out.2.1.tab hTB.1).mono ?_
  rintro e w17 ⟨rfl, d17⟩
  have H17 := (show Hid (_ ∧ _) from ⟨H16.out.1.next d17, H16.out.2.2.1.next d17⟩)
  clear d17 H16 g0 g1 q0 q1
  have g0 : w17.cell? ⟨w7.heap.size, 0, none⟩ = some (.slice la rs.length lc) := by rw [cell_of_block H17.out.2.box]; rfl
  have g1 : w17.cell? ⟨w7.heap.size, 1, none⟩ = some (.slice ka T.tops.length kc) := by rw [cell_of_block H17.out.2.box]; rfl
  go_wp2_with fail
  refine (heldTable_any w6a.heap.size _ _ rs T.tops.length _ hmE H17.out.2.tab).mono ?_
  rintro e w18 ⟨rfl, d18⟩
  have b18 := (H17.out.1.next d18).below
  clear d18 H17 g0 g1
  go_wp2
  go_ret
  exact ⟨rfl, b18⟩

theorem own : ownKnob Try.prog.godebug = none := by kernel_rfl
theorem laidOut : laidOutB Try.prog = true := by kernel_rfl

theorem lifted (os : Os) (started : os.Started) (H : Type) (enc : TypeId × Value → H) :
    ReturnsInHanded {} Try.checked os 5 .any (Rows.fnExactTableOfSpec.pre6 enc Try.prog Try.f5 Rows.fnExactTableOfRow.domain false) (Rows.fnExactTableOfSpec.post enc Try.prog Try.f5 false true false false) := by
  refine returnsInHanded_of_change (C := Try.checked) own started (by kernel_rfl) Try.func5
    (ChangeSpec.witness6 (enc := enc) (C := Try.checked) false ⟨#[], #[.agg #[.slice none 0 0, .slice none 0 0]], []⟩ 8 (by kernel_rfl) (by kernel_rfl) (by kernel_rfl) (by kernel_rfl)) ?_
  intro W base args ds gs before hval0 hW hcnd _
  have hval : ∀ (j : Nat) t v, Try.f5.params[j]? = some t → args[j]? = some v → Value.okWide Try.prog W .any base t v := hval0
  have hW' := hW
  obtain ⟨p, q, hA0, hV, rfl, hfz, hnd⟩ := hW
  have hA : DataW.TrodAll enc Try.prog W 0 (fun _ => true) true Try.f5.params.toList args.toList ds p := hA0
  rw [Try.params5] at hA hval
  obtain ⟨v0, vs0, d0, ds0, p0, q0, hargs, rfl, rfl, h0, r0⟩ := trodAll_cons hA
  obtain ⟨rfl, rfl, rfl⟩ := trodAll_nil r0
  obtain rfl : args = #[v0] := by cases args; simp_all
  obtain ⟨rfl, rfl⟩ := trodVars_none hV
  have k0 := h0
  have lt0 : ∀ x ∈ p0, x.block < W.heap.size := by obtain ⟨m, hm⟩ := k0; exact DataW.trod_lt m _ _ _ hm
  obtain ⟨x, dx, hx⟩ := open_prog (okWide_struct Try.underlying48 (hval 0 48 v0 rfl rfl)) h0
  clear hA0 hval0
  refine (walk _ v0 x W hx).mono fun e W' ⟨he, bel⟩ => ?_
  subst he
  exact ⟨_, rfl, _, _, _, [], _, [], hW', trodAll_mk1 (shut_bool Try.underlying4 _), (trodAll_cons_mk (Below.trod laidOut (by kernel_rfl) (of_decide_eq_true (by kernel_rfl)) k0 bel lt0) trodAll_mk0), rfl, bel.frame _, fun h => by cases h⟩

theorem over : Rows.fnExactTableOfRow.holds Try.pinned (OpenSpec.ofChange Rows.fnExactTableOfSpec) :=
  OpenClaim.holds_of_wide 5 Try.f5 rfl rfl rfl rfl rfl rfl rfl ⟨rfl, rfl, rfl, rfl, rfl⟩ rfl rfl rfl rfl rfl (by kernel_rfl) Try.func5 (by kernel_rfl)
    (of_decide_eq_true (by kernel_rfl)) (by unfold Func.isWrapper; first | (rw [if_pos (by decide +kernel)]; kernel_rfl) | (rw [if_neg (by decide +kernel)]; exact ⟨rfl, rfl⟩))
    (fun os started H enc _ => lifted os started H enc)
end fnExactTableOf
theorem fnExactTableOf_holds : Rows.FnExactTableOfSaid := fnExactTableOf.over
#print axioms fnExactTableOf_holds
end Go.Proofs.Ytdadppjncdkpiaa
