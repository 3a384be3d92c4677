/-
  A region that draws its order, walked once in the order of the text, over the class of all worlds of which something is known (whatever its callees keep).
  The laws' comparison of rows of numbers, at two that are alike.
  The laws' comparisons of links and of texts, at two that are alike.
-/
import Derived.Deep.QuietTactic
import Derived.BigQuiet
import Derived.Test.YtlbinamlehapoaaGreatDoorRows
import Derived.Test.YtlbinamlehapoaaGreatDoorMA
import Derived.Test.YtlbinamlehapoaaGreatDoorMB
import Derived.Test.YtlbinamlehapoaaGreatDoorNK
import Derived.Lib.QuietBelow
import Derived.Deep.CutBlock
import Derived.Laws.StructEq
namespace Go.Proofs.YtlbinamlehapoaaGreatDoor
open Go Go.RowKit

/-- A world of which this is known. -/
structure WIn (Good : World → Prop) where
  w : World
  ok : Good w

theorem wp_region_good {Good : World → Prop} {P : Program} {id : Nat} {Q : Exit → Act → World → Prop} {a : Act} {w : World} {l : List Oper} (hm : P.follows .mixedOrders = true) (hB : Region.lexB .any l.toArray = true) (h0 : Good w.drew)
    (h : wpQuiet P l.toArray (fun w' => ∃ p : WIn Good, w' = p.w) (fun a' => ∀ w', (∃ p : WIn Good, w' = p.w) → Q .normal a' w') l a) : (Code.region id l.toArray true).wp P Q a w :=
  wp_region_quiet (C := fun w' => ∃ p : WIn Good, w' = p.w) hm hB ⟨⟨w.drew, h0⟩, rfl⟩ (by simpa using h)

theorem calls_good {Good : World → Prop} {P : Program} {f : FuncId} {args : Array Value} {p : WIn Good} {v : Value}
    (h : Calls P f args p.w fun e w' => e = .returned v ∧ Good w') : Calls P f args p.w fun e w'' => e = .returned v ∧ ∃ q : WIn Good, w'' = q.w :=
  h.mono fun _ w' ⟨he, hw⟩ => ⟨he, ⟨w', hw⟩, rfl⟩
theorem calls_good_same {Good : World → Prop} {P : Program} {f : FuncId} {args : Array Value} {p : WIn Good} {v : Value}
    (h : Calls P f args p.w fun e w' => e = .returned v ∧ w' = p.w) : Calls P f args p.w fun e w'' => e = .returned v ∧ ∃ q : WIn Good, w'' = q.w :=
  h.mono fun _ _ ⟨he, hw⟩ => ⟨he, p, hw⟩
end Go.Proofs.YtlbinamlehapoaaGreatDoor

namespace Go.Proofs.YtlbinamlehapoaaGreatDoor
open Go.RowKit Go.Joins

set_option maxRecDepth 100000

set_option maxHeartbeats 3200000 in
theorem sameInts_same (v1 v2 : Value) (ts : List Int) (S1 S2 : Nat → Prop) (w : World) (h1 : IntsAt w S1 v1 ts) (h2 : IntsAt w S2 v2 ts) :
    Calls Tryz.prog 44 #[v1, v2] w fun e w' => e = .returned (.bool true) ∧ Below w.heap.size w w' := by
  obtain ⟨a1, cap1, rfl, hm1, hc1⟩ := h1
  obtain ⟨a2, cap2, rfl, hm2, hc2⟩ := h2
  unfold maxLen at hm1 hm2
  have HC1 := (show Hid (_ ∧ True) from ⟨hc1, trivial⟩)
  have HC2 := (show Hid (_ ∧ True) from ⟨hc2, trivial⟩)
  clear hc1 hc2
  have hne : (((ts.length : Nat) : Int) != ((ts.length : Nat) : Int)) = false := by simp
  go_enter Tryz.func44, Tryz.ntmps44
  go_wp2
  go_loopw [5] (fun i wr => ∃ k : Nat, k ≤ ts.length ∧ i = .int .i64 k ∧ Below w.heap.size w wr) (fun i _ => ts.length - (intOf i).toNat)
  case atStart => exact ⟨0, Nat.zero_le _, rfl, Below.refl _ _⟩
  case round =>
    obtain ⟨k, hk, rfl, hbw⟩ := hrel
    by_cases hkl : k < ts.length
    · have he := List.getElem?_eq_getElem hkl
      generalize ts[k] = x at *
      obtain ⟨b1, off1, rfl, -, hl1, c0, -⟩ := HC1.out.1 k x he
      obtain ⟨b2, off2, rfl, -, hl2, d0, -⟩ := HC2.out.1 k x he
      rw [← hbw.cell (by exact hl1)] at c0
      rw [← hbw.cell (by exact hl2)] at d0
      clear he HC1 HC2
      have hlt' : ((k : Nat) : Int) < ((ts.length : Nat) : Int) := by omega
      have hst : (x == x) = true := by simp
      have hsn : (x != x) = false := by simp
      go_wp2
      go_quiet (fail)
      go_wp2
      go_roundw
      case rel => exact ⟨k + 1, by omega, by go_num, drewN_below hbw _⟩
      case measure => simp [intOf]; omega
    · clear HC1 HC2
      go_wp2
      go_ret
      exact ⟨rfl, hbw⟩
end Go.Proofs.YtlbinamlehapoaaGreatDoor

namespace Go.Proofs.YtlbinamlehapoaaGreatDoor
open Go.RowKit Go.Joins

set_option maxRecDepth 100000

/-- Texts in memory. -/
def TxAt (w : World) (S : Nat → Prop) (v : Value) (ts : List ByteArray) : Prop :=
  ∃ a cap, v = .slice a ts.length cap ∧ ts.length ≤ maxLen ∧ ∀ i t, ts[i]? = some t → ∃ b off, a = some ⟨b, off, none⟩ ∧ S b ∧ b < w.heap.size ∧ w.cell? ⟨b, off + i, none⟩ = some (.string t)
theorem tx_of_own {w : World} {B : Nat} {v : Value} {ts : List ByteArray} (h : w.ownsRow B 9 1 v ts.length (ts.map Value.string)) : TxAt w (fun b => B ≤ b) v ts := by
  rcases h.2 with ⟨rfl, h0⟩ | ⟨g, cap, cur, rfl, hb, hc, hn, hcm, hs, ht⟩
  · obtain rfl : ts = [] := List.length_eq_zero_iff.1 h0
    exact ⟨none, 0, rfl, Nat.zero_le _, fun i t h => by simp at h⟩
  · refine ⟨some ⟨g, 0, none⟩, cap, rfl, by omega, fun i t he => ⟨g, 0, rfl, hb, (Array.getElem?_eq_some_iff.1 hc).1, ?_⟩⟩
    have := h.cells (g := g) rfl i (.string t) (by rw [List.getElem?_map, he]; rfl)
    rw [addr_addI] at this
    exact this
theorem TxAt.below {w w' : World} {S : Nat → Prop} {v : Value} {ts : List ByteArray} (h : TxAt w S v ts) (hb : Below w.heap.size w w') : TxAt w' S v ts := by
  obtain ⟨a, cap, hv, hl, hc⟩ := h
  refine ⟨a, cap, hv, hl, fun i t he => ?_⟩
  obtain ⟨b, off, ha, hS, hlt, c⟩ := hc i t he
  exact ⟨b, off, ha, hS, Nat.lt_of_lt_of_le hlt hb.size, (World.cell?_of_block (hb.block b hlt)).trans c⟩

set_option maxHeartbeats 3200000 in
theorem sameTexts_same (v1 v2 : Value) (ts : List ByteArray) (S1 S2 : Nat → Prop) (w : World) (h1 : TxAt w S1 v1 ts) (h2 : TxAt w S2 v2 ts) :
    Calls Tryz.prog 19 #[v1, v2] w fun e w' => e = .returned (.bool true) ∧ Below w.heap.size w w' := by
  obtain ⟨a1, cap1, rfl, hm1, hc1⟩ := h1
  obtain ⟨a2, cap2, rfl, hm2, hc2⟩ := h2
  unfold maxLen at hm1 hm2
  have HC1 := (show Hid (_ ∧ True) from ⟨hc1, trivial⟩)
  have HC2 := (show Hid (_ ∧ True) from ⟨hc2, trivial⟩)
  clear hc1 hc2
  have hne : (((ts.length : Nat) : Int) != ((ts.length : Nat) : Int)) = false := by simp
  go_enter Tryz.func19, Tryz.ntmps19
  go_wp2
  go_loopw [5] (fun i wr => ∃ k : Nat, k ≤ ts.length ∧ i = .int .i64 k ∧ Below w.heap.size w wr) (fun i _ => ts.length - (intOf i).toNat)
  case atStart => exact ⟨0, Nat.zero_le _, rfl, Below.refl _ _⟩
  case round =>
    obtain ⟨k, hk, rfl, hbw⟩ := hrel
    by_cases hkl : k < ts.length
    · have he := List.getElem?_eq_getElem hkl
      generalize ts[k] = x at *
      obtain ⟨b1, off1, rfl, -, hl1, c0⟩ := HC1.out.1 k x he
      obtain ⟨b2, off2, rfl, -, hl2, d0⟩ := HC2.out.1 k x he
      rw [← hbw.cell (by exact hl1)] at c0
      rw [← hbw.cell (by exact hl2)] at d0
      clear he HC1 HC2
      have hlt' : ((k : Nat) : Int) < ((ts.length : Nat) : Int) := by omega
      have hst : (x.toList == x.toList) = true := by simp
      go_wp2
      go_quiet (fail)
      go_wp2
      go_roundw
      case rel => exact ⟨k + 1, by omega, by go_num, drewN_below hbw _⟩
      case measure => simp [intOf]; omega
    · clear HC1 HC2
      go_wp2
      go_ret
      exact ⟨rfl, hbw⟩

/-- Both links in their boxes, and what they hold. -/
structure SlSt (w W : World) (l : Lk) (o1 s1 o2 s2 : Value) (S1 S2 : Nat → Prop) : Prop where
  base : Below w.heap.size w W
  b1 : W.heap[w.heap.size]? = some (.cells (l.row o1 s1) 27)
  b2 : W.heap[w.heap.size + 1]? = some (.cells (l.row o2 s2) 27)
  out1 : SentsAt W S1 o1 l.out
  out2 : SentsAt W S2 o2 l.out
  seen1 : SeensAt W S1 s1 l.seen
  seen2 : SeensAt W S2 s2 l.seen
theorem SlSt.below {w W W' : World} {l : Lk} {o1 s1 o2 s2 : Value} {S1 S2 : Nat → Prop} (h : SlSt w W l o1 s1 o2 s2 S1 S2) (hb : Below W.heap.size W W') : SlSt w W' l o1 s1 o2 s2 S1 S2 :=
  ⟨h.base.trans (hb.mono h.base.size), (hb.block _ (lt_heap h.b1)).trans h.b1, (hb.block _ (lt_heap h.b2)).trans h.b2, h.out1.below hb, h.out2.below hb, h.seen1.below hb, h.seen2.below hb⟩

set_option maxHeartbeats 6400000 in
theorem sameLink_same (v1 v2 : Value) (l : Lk) (S1 S2 : Nat → Prop) (w : World) (h1 : LkAt w S1 v1 l) (h2 : LkAt w S2 v2 l) :
    Calls Tryz.prog 17 #[v1, v2] w fun e w' => e = .returned (.bool true) ∧ Below w.heap.size w w' := by
  obtain ⟨oa1, oc1, sa1, sc1, rfl, ho1, hs1⟩ := h1.form
  obtain ⟨oa2, oc2, sa2, sc2, rfl, ho2, hs2⟩ := h2.form
  clear h1 h2
  have hol := ho1.len
  have hsl := hs1.len
  unfold maxLen at hol hsl
  have hnot := ex_not
  have e1 : (l.id != l.id) = false := by simp
  have e2 : (l.next != l.next) = false := by simp
  have e3 : (((l.out.length : Nat) : Int) != ((l.out.length : Nat) : Int)) = false := by simp
  have e4 : (((l.seen.length : Nat) : Int) != ((l.seen.length : Nat) : Int)) = false := by simp
  obtain ⟨W0, hW0⟩ : ∃ W0, W0 = (w.alloc (.cells (l.row (.slice oa1 l.out.length oc1) (.slice sa1 l.seen.length sc1)) 27)).alloc (.cells (l.row (.slice oa2 l.out.length oc2) (.slice sa2 l.seen.length sc2)) 27) := ⟨_, rfl⟩
  have B0 : Below w.heap.size w W0 := by rw [hW0]; exact ((Below.refl _ w).alloc (Nat.le_refl _) _).alloc (by simp) _
  have O1 : W0.heap[w.heap.size]? = some (.cells (l.row (.slice oa1 l.out.length oc1) (.slice sa1 l.seen.length sc1)) 27) := by rw [hW0, Below.heap_alloc _ _ _ (by simp)]; exact (MapKept.heap_alloc w _).1
  have O2 : W0.heap[w.heap.size + 1]? = some (.cells (l.row (.slice oa2 l.out.length oc2) (.slice sa2 l.seen.length sc2)) 27) := by rw [hW0]; have := (MapKept.heap_alloc (w.alloc (.cells (l.row (.slice oa1 l.out.length oc1) (.slice sa1 l.seen.length sc1)) 27)) (.cells (l.row (.slice oa2 l.out.length oc2) (.slice sa2 l.seen.length sc2)) 27)).1; simpa using this
  have H0 := (show Hid (SlSt w W0 l _ _ _ _ S1 S2 ∧ W0 = _) from ⟨⟨B0, O1, O2, ho1.below B0, ho2.below B0, hs1.below B0, hs2.below B0⟩, hW0⟩)
  obtain ⟨q0, q1, q2, q3⟩ := lbox O1
  obtain ⟨p0, p1, p2, p3⟩ := lbox O2
  have hs0 : w.heap.size + 2 ≤ W0.heap.size := lt_heap O2
  clear B0 O1 O2 ho1 ho2 hs1 hs2 hW0
  go_enter Tryz.func17, Tryz.ntmps17
  go_upto_region 1 with fail
  rw [← (show W0 = _ from H0.out.2)]
  go_wp2_with fail
  clear q0 q1 q2 q3 p0 p1 p2 p3
  go_loopw [5] (fun i wr => ∃ k : Nat, k ≤ l.out.length ∧ i = .int .i64 k ∧ Hid (SlSt w wr l (.slice oa1 l.out.length oc1) (.slice sa1 l.seen.length sc1) (.slice oa2 l.out.length oc2) (.slice sa2 l.seen.length sc2) S1 S2)) (fun i _ => l.out.length - (intOf i).toNat)
  case atStart => exact ⟨0, Nat.zero_le _, rfl, H0.out.1⟩
  case round =>
    obtain ⟨k, hk, rfl, H1⟩ := hrel
    clear H0
    obtain ⟨q0, q1, q2, q3⟩ := lbox H1.out.b1
    obtain ⟨p0, p1, p2, p3⟩ := lbox H1.out.b2
    by_cases hkl : k < l.out.length
    · have he := List.getElem?_eq_getElem hkl
      generalize l.out[k] = x at *
      obtain ⟨_, _, ea, -, hc1⟩ := H1.out.out1
      cases ea
      obtain ⟨_, _, ea, -, hc2⟩ := H1.out.out2
      cases ea
      obtain ⟨b1, off1, rfl, -, hl1, c0, c1, c2, -⟩ := hc1 k x he
      obtain ⟨b2, off2, rfl, -, hl2, d0, d1, d2, -⟩ := hc2 k x he
      clear he hc1 hc2
      have hlt' : ((k : Nat) : Int) < ((l.out.length : Nat) : Int) := by omega
      have hx1 : (x.seq == x.seq) = true := by simp
      have hx2 : (x.dst == x.dst) = true := by simp
      have hx3 : (x.body.toList == x.body.toList) = true := by simp
      go_wp2
      go_quiet (fail)
      clear q0 q1 q2 q3 p0 p1 p2 p3 c0 c1 c2 d0 d1 d2
      go_wp2
      go_roundw
      case rel => exact ⟨k + 1, by omega, by go_num, H1.out.below (drewN_below (Below.refl _ _) _)⟩
      case measure => simp [intOf]; omega
    · go_wp2_with fail
      clear q0 q1 q2 q3 p0 p1 p2 p3
      go_loopw [6] (fun i wr => ∃ k : Nat, k ≤ l.seen.length ∧ i = .int .i64 k ∧ Hid (SlSt w wr l (.slice oa1 l.out.length oc1) (.slice sa1 l.seen.length sc1) (.slice oa2 l.out.length oc2) (.slice sa2 l.seen.length sc2) S1 S2)) (fun i _ => l.seen.length - (intOf i).toNat)
      case atStart => exact ⟨0, Nat.zero_le _, rfl, H1⟩
      case round =>
        clear H1
        obtain ⟨j, hj, rfl, H2⟩ := hrel
        obtain ⟨q0, q1, q2, q3⟩ := lbox H2.out.b1
        obtain ⟨p0, p1, p2, p3⟩ := lbox H2.out.b2
        by_cases hjl : j < l.seen.length
        · have he := List.getElem?_eq_getElem hjl
          generalize l.seen[j] = x at *
          obtain ⟨_, _, ea, -, hc1⟩ := H2.out.seen1
          cases ea
          obtain ⟨_, _, ea, -, hc2⟩ := H2.out.seen2
          cases ea
          obtain ⟨b1, off1, kv1, rfl, -, hl1, c0, c1, -, k1⟩ := hc1 j x he
          obtain ⟨b2, off2, kv2, rfl, -, hl2, d0, d1, -, k2⟩ := hc2 j x he
          have HX1 : Hid (∀ wx : World, Below wr.heap.size wr wx → IntsAt wx S1 kv1 x.ids) := fun wx hx => k1.below hx
          have HX2 : Hid (∀ wx : World, Below wr.heap.size wr wx → IntsAt wx S2 kv2 x.ids) := fun wx hx => k2.below hx
          obtain ⟨ka1, kc1, rfl⟩ := k1.form
          obtain ⟨ka2, kc2, rfl⟩ := k2.form
          clear he hc1 hc2 k1 k2
          have hlt' : ((j : Nat) : Int) < ((l.seen.length : Nat) : Int) := by omega
          have hx1 : (x.low != x.low) = false := by simp
          go_wp2_with fail
          have K3 := cell_regrown q3
          have L3 := cell_regrown p3
          have C0 := cell_regrown c0
          have C1 := cell_regrown c1
          have D0 := cell_regrown d0
          have D1 := cell_regrown d1
          clear q0 q1 q2 q3 p0 p1 p2 p3 c0 c1 d0 d1
          refine wp_region_quiet_below (by kernel_rfl) (by kernel_rfl) ?_
          repeat (go_big_quiet_step (first
            | (go_at_call 44; exact Calls.regrown_of (sameInts_same _ _ x.ids S1 S2 _ (HX1.out _ (below_regrown wr _ _)) (HX2.out _ (below_regrown wr _ _))))))
          refine wpQuiet_nil ?_
          intro _ hw'
          obtain ⟨⟨dq, osq⟩, hw''⟩ := hw'
          subst hw''
          have b5 := below_regrown wr dq osq
          clear K3 L3 C0 C1 D0 D1
          generalize Go.Sort.grow (redrawn wr dq) osq = w5 at *
          have HB5 : Hid (Below wr.heap.size wr w5) := b5
          clear b5
          go_wp2
          go_roundw
          case rel => exact ⟨j + 1, by omega, by go_num, H2.out.below HB5.out⟩
          case measure => simp [intOf]; omega
        · go_wp2
          go_ret
          exact ⟨rfl, H2.out.base⟩
end Go.Proofs.YtlbinamlehapoaaGreatDoor
