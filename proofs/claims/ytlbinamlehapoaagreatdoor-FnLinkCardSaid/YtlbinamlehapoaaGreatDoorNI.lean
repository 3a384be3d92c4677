/-
  The least number to a node; the pack of one that was sent.
  The program's pack of one message that was sent.
-/
import Derived.Test.YtlbinamlehapoaaGreatDoorMB
import Derived.Test.YtlbinamlehapoaaGreatDoorImplPutPack
import Derived.Test.YtlbinamlehapoaaGreatDoorSpecPutPack
import Derived.BigQuiet
import Derived.Deep.QuietTactic
import Derived.Test.YtlbinamlehapoaaGreatDoorImplLinkOk
import Derived.Deep.RegionHeld3
namespace Go.Proofs.YtlbinamlehapoaaGreatDoor
open Go.RowKit Go.Joins

set_option maxRecDepth 100000

/-- The number of the first one to that node. -/
def lowL : List Sn → Int → Int → Int
  | [], _, d => d
  | s :: l, to, d => if s.dst = to then s.seq else lowL l to d
/-- The pack of one that was sent. -/
def Lk.pack (l : Lk) (o : Sn) : Pa := ⟨0, l.id, o.dst, o.seq, lowL l.out o.dst o.seq, o.body⟩
theorem lowL_in : ∀ (l : List Sn) (to d : Int), (∀ s ∈ l, inI64 s.seq) → inI64 d → inI64 (lowL l to d)
  | [], _, _, _, h => h
  | s :: l, to, d, hs, h => by
    rw [lowL]
    split
    · exact hs s (by simp)
    · exact lowL_in l to d (fun x hx => hs x (by simp [hx])) h
theorem lowL_drop {l : List Sn} {k : Nat} {x : Sn} (h : l[k]? = some x) (to d : Int) : lowL (l.drop k) to d = if x.dst = to then x.seq else lowL (l.drop (k + 1)) to d := by
  have hk := (List.getElem?_eq_some_iff.1 h).1
  rw [List.drop_eq_getElem_cons hk, (List.getElem?_eq_some_iff.1 h).2, lowL]
theorem SentsAt.fits {w : World} {S : Nat → Prop} {v : Value} {es : List Sn} (h : SentsAt w S v es) : ∀ s ∈ es, inI64 s.seq ∧ inI64 s.dst ∧ s.body.size ≤ maxLen := fun s hs => by
  obtain ⟨a, cap, _, _, hc⟩ := h
  obtain ⟨i, hi⟩ := List.getElem?_of_mem hs
  obtain ⟨_, _, _, _, _, _, _, _, r⟩ := hc i s hi
  exact r

set_option maxHeartbeats 1600000 in
theorem l08Pack_any (v : Value) (l : Lk) (o : Sn) (S : Nat → Prop) (w : World) (h : LkAt w S v l) (ho : inI64 o.seq ∧ inI64 o.dst) (hs : o.body.size ≤ 1048576) :
    Calls Tryz.prog 35 #[v, .agg #[.int .i64 o.seq, .int .i64 o.dst, .string o.body]] w fun e w' => e = .returned (.string ⟨(l.pack o).bytes.toArray⟩) ∧ Below w.heap.size w w' := by
  have hfit : inI64 l.id ∧ inI64 l.next := by obtain ⟨_, _, _, a, b, _⟩ := h; exact ⟨a, b⟩
  obtain ⟨oa, oc, sa, sc, rfl, h3, h4⟩ := h.form
  have hol := h3.len
  unfold maxLen at hol
  clear h
  obtain ⟨W0, hW0⟩ : ∃ W0, W0 = (w.alloc (.cells (l.row (.slice oa l.out.length oc) (.slice sa l.seen.length sc)) 27)).alloc (.cells #[.int .i64 o.seq, .int .i64 o.dst, .string o.body] 68) := ⟨_, rfl⟩
  have B0 : Below w.heap.size w W0 := by rw [hW0]; exact ((Below.refl _ w).alloc (Nat.le_refl _) _).alloc (by simp) _
  have O0 : W0.heap[w.heap.size]? = some (.cells (l.row (.slice oa l.out.length oc) (.slice sa l.seen.length sc)) 27) := by
    rw [hW0, Below.heap_alloc _ _ _ (by simp)]; exact (MapKept.heap_alloc w _).1
  have O1 : W0.heap[w.heap.size + 1]? = some (.cells #[.int .i64 o.seq, .int .i64 o.dst, .string o.body] 68) := by
    have := (MapKept.heap_alloc (w.alloc (.cells (l.row (.slice oa l.out.length oc) (.slice sa l.seen.length sc)) 27)) (.cells #[.int .i64 o.seq, .int .i64 o.dst, .string o.body] 68)).1
    rw [hW0]
    simpa using this
  have hs0 : w.heap.size + 2 ≤ W0.heap.size := lt_heap O1
  have H0 := (show Hid (_ ∧ _ ∧ _ ∧ _ ∧ _) from ⟨h3, B0, O0, O1, hW0⟩)
  clear B0 O0 O1 hW0 h3 h4
  go_enter Tryz.func35, Tryz.ntmps35
  go_wp2
  go_loopw [5, 6] (fun lv i wr => ∃ k : Nat, k ≤ l.out.length ∧ i = .int .i64 ((k : Int) - 1) ∧ lv = .int .i64 (lowL (l.out.drop k) o.dst o.seq) ∧ wr.heap[w.heap.size]? = some (.cells (l.row (.slice oa l.out.length oc) (.slice sa l.seen.length sc)) 27) ∧ wr.heap[w.heap.size + 1]? = some (.cells #[.int .i64 o.seq, .int .i64 o.dst, .string o.body] 68) ∧ Below w.heap.size w wr) (fun _ i _ => (intOf i + 1).toNat)
  case atStart =>
    have hO := H0.out.2.2.1
    have hB := H0.out.2.1
    have hP := H0.out.2.2.2.1
    rw [H0.out.2.2.2.2] at hO hB hP
    exact ⟨l.out.length, Nat.le_refl _, rfl, by simp [lowL], hO, hP, hB⟩
  case round =>
    obtain ⟨k, hk, rfl, rfl, hb0, hb1, hbw⟩ := hrel
    obtain ⟨q0, q1, q2, q3⟩ := lbox hb0
    have t0 : wr.cell? ⟨w.heap.size + 1, 0, none⟩ = some (.int .i64 o.seq) := (cell_of_block hb1 0).trans rfl
    have t1 : wr.cell? ⟨w.heap.size + 1, 1, none⟩ = some (.int .i64 o.dst) := (cell_of_block hb1 1).trans rfl
    have t2 : wr.cell? ⟨w.heap.size + 1, 2, none⟩ = some (.string o.body) := (cell_of_block hb1 2).trans rfl
    have hsz := hbw.size
    cases k with
    | zero =>
      have hp : (l.pack o).fits := ⟨(inI64_small (k := 0) (by decide) (by decide) : inI64 0), hfit.1, ho.2, ho.1, lowL_in _ _ _ (fun s hs => (H0.out.1.fits s hs).1) ho.1⟩
      have hP := specPutPack_any (l.pack o) wr hs hp
      have HP := (show Hid (_ ∧ _) from ⟨hP, hbw⟩)
      rw [show l.out.drop 0 = l.out from rfl]
      obtain ⟨lw, hlw⟩ : ∃ lw, lw = lowL l.out o.dst o.seq := ⟨_, rfl⟩
      have HEQ : Hid (l.pack o = ⟨0, l.id, o.dst, o.seq, lw, o.body⟩) := by show _ = _; rw [hlw]; rfl
      rw [HEQ.out] at HP
      rw [← hlw]
      clear hP hp hb0 hb1 hbw hlw
      go_wp2_with (go_at_call 67; refine HP.out.1.mono ?_; rintro e w1 ⟨rfl, b1⟩)
      go_ret
      exact ⟨by rw [HEQ.out]; rfl, HP.out.2.trans (b1.mono hsz)⟩
    | succ k =>
      have he := List.getElem?_eq_getElem (show k < l.out.length by omega)
      have hd := lowL_drop he o.dst o.seq
      generalize l.out[k] = x at *
      obtain ⟨a', cap', hv', -, hc'⟩ := H0.out.1
      cases hv'
      obtain ⟨b, off, hoa, hSb, hlt2, c0, c1, c2, r1, r2, r3⟩ := hc' k x he
      subst hoa
      rw [← hbw.cell (by exact hlt2)] at c0 c1 c2
      have HB := (show Hid (_ ∧ _ ∧ _ ∧ _) from ⟨hb0, hb1, hbw, hd⟩)
      have hkk : ((k + 1 : Nat) : Int) - 1 = (k : Int) := by omega
      rw [hkk]
      have hlt' : ((k : Nat) : Int) < ((l.out.length : Nat) : Int) := by omega
      have hge : (0 : Int) ≤ (k : Int) := by omega
      clear he hc' hb0 hb1 hbw hd hSb r3
      generalize lowL (l.out.drop (k + 1)) o.dst o.seq = lw at *
      by_cases hdst : x.dst = o.dst
      · have g1 : (x.dst == o.dst) = true := by simpa using hdst
        have HE := (show Hid (_ ∧ True) from ⟨(HB.out.2.2.2.trans (if_pos hdst) : lowL (l.out.drop k) o.dst o.seq = x.seq), trivial⟩)
        clear hdst
        go_wp2_with fail
        go_quiet (fail)
        go_wp2
        refine ⟨⟨k, by omega, by go_num, by rw [HE.out.1], HB.out.1, HB.out.2.1, drewN_below HB.out.2.2.1 _⟩, by simp [intOf]⟩
      · have g1 : (x.dst == o.dst) = false := by simpa using hdst
        have HE := (show Hid (_ ∧ True) from ⟨(HB.out.2.2.2.trans (if_neg hdst) : lowL (l.out.drop k) o.dst o.seq = lw), trivial⟩)
        clear hdst
        go_wp2_with fail
        go_quiet (fail)
        go_wp2
        refine ⟨⟨k, by omega, by go_num, by rw [HE.out.1], HB.out.1, HB.out.2.1, drewN_below HB.out.2.2.1 _⟩, by simp [intOf]⟩

theorem lowC_any (s : Sn) (to : Int) (b : Nat) (w : World) (hb : w.cell? ⟨b, 0, none⟩ = some (.int .i64 to)) : Calls Tryz.prog 96 #[.agg #[.int .i64 s.seq, .int .i64 s.dst, .string s.body], .pointer (some ⟨b, 0, none⟩)] w fun e w' => e = .returned (.bool (s.dst == to)) ∧ Below w.heap.size w w' := by
  have B0 : Hid (∀ o : Obj, Below w.heap.size w (w.alloc o)) := fun o => (Below.refl _ w).alloc (Nat.le_refl _) o
  have hlt : b < w.heap.size := World.block_lt_of_cell? _ _ hb
  go_enter Tryz.func96, Tryz.ntmps96
  go_wp2
  go_ret
  exact ⟨rfl, B0.out _⟩

theorem lowL_first {es : List Sn} {to d : Int} : ∀ {j : Nat} {x : Sn}, es[j]? = some x → x.dst = to → (∀ i y, i < j → es[i]? = some y → y.dst ≠ to) → lowL es to d = x.seq := by
  induction es with
  | nil => intro j x h; simp at h
  | cons e es ih =>
    intro j x h hx hb
    cases j with
    | zero =>
      simp at h
      subst h
      rw [lowL, if_pos hx]
    | succ j =>
      rw [lowL, if_neg (hb 0 e (by omega) rfl)]
      exact ih (j := j) (by simpa using h) hx (fun i y hi hy => hb (i + 1) y (by omega) (by simpa using hy))

set_option maxHeartbeats 1600000 in
theorem indexFunc_any (v : Value) (es : List Sn) (to : Int) (b : Nat) (S : Nat → Prop) (w : World) (h : SentsAt w S v es) (hb : w.cell? ⟨b, 0, none⟩ = some (.int .i64 to)) (hex : ∃ s ∈ es, s.dst = to) :
    Calls Tryz.prog 95 #[v, .func (.func 96) #[] #[.pointer (some ⟨b, 0, none⟩)]] w fun e w' => ∃ (j : Nat) (x : Sn), es[j]? = some x ∧ (∀ d, lowL es to d = x.seq) ∧ e = .returned (.int .i64 j) ∧ Below w.heap.size w w' := by
  have hlb : b < w.heap.size := World.block_lt_of_cell? _ _ hb
  obtain ⟨a, cap, rfl, hl, hc⟩ := h
  unfold maxLen at hl
  have HC := (show Hid (_ ∧ _ ∧ _) from ⟨hc, hb, hex⟩)
  clear hc hb hex
  go_enter Tryz.func95, Tryz.ntmps95
  go_wp2
  go_loopw [8] (fun i wr => ∃ k : Nat, k ≤ es.length ∧ i = .int .i64 k ∧ (∀ (i : Nat) (y : Sn), i < k → es[i]? = some y → y.dst ≠ to) ∧ Below w.heap.size w wr) (fun i _ => es.length - (intOf i).toNat)
  case atStart => exact ⟨0, Nat.zero_le _, rfl, fun i y hi => by omega, Below.refl _ _⟩
  case round =>
    obtain ⟨k, hk, rfl, hno, hbw⟩ := hrel
    by_cases hkl : k < es.length
    · have he := List.getElem?_eq_getElem hkl
      generalize es[k] = x at *
      obtain ⟨b', off, rfl, hSb, hlt2, c0, c1, c2, -⟩ := HC.out.1 k x he
      rw [← hbw.cell (by exact hlt2)] at c0 c1 c2
      have hlt' : ((k : Nat) : Int) < ((es.length : Nat) : Int) := by omega
      have hcb : wr.cell? ⟨b, 0, none⟩ = some (.int .i64 to) := (hbw.cell (p := ⟨b, 0, none⟩) hlb).trans HC.out.2.1
      have HX := (show Hid (_ ∧ _ ∧ _ ∧ _) from ⟨lowC_any x to b wr hcb, hno, hbw, he⟩)
      have hsz := hbw.size
      clear hno hbw he hcb hSb
      by_cases hd : x.dst = to
      · have g1 : (x.dst == to) = true := by simpa using hd
        have HF := (show Hid (_ ∧ True) from ⟨fun d => lowL_first (d := d) HX.out.2.2.2 hd HX.out.2.1, trivial⟩)
        clear hd
        go_wp2_with (go_at_call 96; refine HX.out.1.mono ?_; rw [g1]; rintro e w1 ⟨rfl, b1⟩)
        go_ret
        exact ⟨k, x, HX.out.2.2.2, HF.out.1, rfl, HX.out.2.2.1.trans (b1.mono hsz)⟩
      · have g1 : (x.dst == to) = false := by simpa using hd
        have HF := (show Hid (_ ∧ True) from ⟨hd, trivial⟩)
        clear hd
        go_wp2_with (go_at_call 96; refine HX.out.1.mono ?_; rw [g1]; rintro e w1 ⟨rfl, b1⟩)
        refine ⟨⟨k + 1, by omega, by go_num, fun i y hi hy => ?_, HX.out.2.2.1.trans (b1.mono hsz)⟩, by simp [intOf]; omega⟩
        by_cases hik : i = k
        · subst hik
          obtain rfl : x = y := Option.some.inj (HX.out.2.2.2.symm.trans hy)
          exact HF.out.1
        · exact HX.out.2.1 i y (by omega) hy
    · exfalso
      obtain ⟨s, hs, hd⟩ := HC.out.2.2
      obtain ⟨i, hi⟩ := List.getElem?_of_mem hs
      exact hno i s (by have := (List.getElem?_eq_some_iff.1 hi).1; omega) hi hd

set_option maxHeartbeats 1600000 in
theorem lowTo_any (v : Value) (l : Lk) (to d : Int) (S : Nat → Prop) (w : World) (h : LkAt w S v l) (hex : ∃ s ∈ l.out, s.dst = to) :
    Calls Tryz.prog 61 #[v, .int .i64 to] w fun e w' => e = .returned (.int .i64 (lowL l.out to d)) ∧ Below w.heap.size w w' := by
  obtain ⟨oa, oc, sa, sc, rfl, h3, h4⟩ := h.form
  have hol := h3.len
  unfold maxLen at hol
  clear h h4
  obtain ⟨W0, hW0⟩ : ∃ W0, W0 = (w.alloc (.cells (l.row (.slice oa l.out.length oc) (.slice sa l.seen.length sc)) 27)).alloc (.cells #[.int .i64 to] 3) := ⟨_, rfl⟩
  have B0 : Below w.heap.size w W0 := by rw [hW0]; exact ((Below.refl _ w).alloc (Nat.le_refl _) _).alloc (by simp) _
  have O0 : W0.heap[w.heap.size]? = some (.cells (l.row (.slice oa l.out.length oc) (.slice sa l.seen.length sc)) 27) := by
    rw [hW0, Below.heap_alloc _ _ _ (by simp)]; exact (MapKept.heap_alloc w _).1
  have O1 : W0.heap[w.heap.size + 1]? = some (.cells #[.int .i64 to] 3) := by
    have := (MapKept.heap_alloc (w.alloc (.cells (l.row (.slice oa l.out.length oc) (.slice sa l.seen.length sc)) 27)) (.cells #[.int .i64 to] 3)).1
    rw [hW0]
    simpa using this
  have hs0 : w.heap.size + 2 ≤ W0.heap.size := lt_heap O1
  have hI := indexFunc_any _ l.out to (w.heap.size + 1) S W0 (h3.below B0) ((cell_of_block O1 0).trans rfl) hex
  have H0 := (show Hid (_ ∧ _ ∧ _ ∧ _ ∧ _) from ⟨hI, h3, B0, O0, hW0⟩)
  clear hI B0 O0 O1 hW0 h3
  go_enter Tryz.func61, Tryz.ntmps61
  go_wp2_with fail
  rw [← (show W0 = _ from H0.out.2.2.2.2)]
  refine H0.out.1.mono ?_
  rintro e w1 ⟨j, x, hj, hlow, rfl, b1⟩
  obtain ⟨q0, q1, q2, q3⟩ := lbox ((b1.block _ (lt_heap H0.out.2.2.2.1)).trans H0.out.2.2.2.1)
  obtain ⟨a', cap', hv', -, hc'⟩ := H0.out.2.1
  cases hv'
  obtain ⟨b, off, hoa, hSb, hlt2, c0, c1, c2, r1, r2, r3⟩ := hc' j x hj
  subst hoa
  have B1 : Below w.heap.size w w1 := H0.out.2.2.1.trans (b1.mono (by omega))
  rw [← B1.cell (by exact hlt2)] at c0 c1 c2
  have hjl := (List.getElem?_eq_some_iff.1 hj).1
  have hlt' : ((j : Nat) : Int) < ((l.out.length : Nat) : Int) := by omega
  have HF := (show Hid (_ ∧ _) from ⟨hlow d, B1⟩)
  clear hc' hj hlow b1 B1 hSb r2 r3 H0
  go_wp2
  go_ret
  exact ⟨by rw [HF.out.1]; rfl, HF.out.2⟩
end Go.Proofs.YtlbinamlehapoaaGreatDoor

namespace Go.Proofs.YtlbinamlehapoaaGreatDoor
open Go.RowKit Go.Joins

set_option maxRecDepth 100000

theorem lsbox {W : World} {b b' : Nat} {l : Lk} {o : Sn} {ov sv : Value} {t t' : TypeId} {fz fz' : Nat × Nat} (h : W.heap[b]? = some (.cells (l.row ov sv) t fz)) (h' : W.heap[b']? = some (.cells #[.int .i64 o.seq, .int .i64 o.dst, .string o.body] t' fz')) : W.cell? ⟨b, 0, none⟩ = some (.int .i64 l.id) ∧ W.cell? ⟨b, 1, none⟩ = some (.int .i64 l.next) ∧ W.cell? ⟨b, 2, none⟩ = some ov ∧ W.cell? ⟨b, 3, none⟩ = some sv ∧ W.cell? ⟨b', 0, none⟩ = some (.int .i64 o.seq) ∧ W.cell? ⟨b', 1, none⟩ = some (.int .i64 o.dst) ∧ W.cell? ⟨b', 2, none⟩ = some (.string o.body) :=
  ⟨(lbox h).1, (lbox h).2.1, (lbox h).2.2.1, (lbox h).2.2.2, (cell_of_block h' 0).trans rfl, (cell_of_block h' 1).trans rfl, (cell_of_block h' 2).trans rfl⟩

set_option maxHeartbeats 1600000 in
theorem packOf_any (v : Value) (l : Lk) (o : Sn) (S : Nat → Prop) (w : World) (h : LkAt w S v l) (ho : o ∈ l.out) (hs : o.body.size ≤ 1048576) (hg : ET w) :
    Calls Tryz.prog 31 #[v, .agg #[.int .i64 o.seq, .int .i64 o.dst, .string o.body]] w fun e w' => e = .returned (.string ⟨(l.pack o).bytes.toArray⟩) ∧ Below w.heap.size w w' := by
  have hfit : inI64 l.id ∧ inI64 l.next := by obtain ⟨_, _, _, a, b, _⟩ := h; exact ⟨a, b⟩
  obtain ⟨oa, oc, sa, sc, rfl, h3, h4⟩ := h.form
  have hfs := h3.fits o ho
  obtain ⟨W0, hW0⟩ : ∃ W0, W0 = (w.alloc (.cells (l.row (.slice oa l.out.length oc) (.slice sa l.seen.length sc)) 27)).alloc (.cells #[.int .i64 o.seq, .int .i64 o.dst, .string o.body] 68) := ⟨_, rfl⟩
  have B0 : Below w.heap.size w W0 := by rw [hW0]; exact ((Below.refl _ w).alloc (Nat.le_refl _) _).alloc (by simp) _
  have O0 : W0.heap[w.heap.size]? = some (.cells (l.row (.slice oa l.out.length oc) (.slice sa l.seen.length sc)) 27) := by
    rw [hW0, Below.heap_alloc _ _ _ (by simp)]; exact (MapKept.heap_alloc w _).1
  have O1 : W0.heap[w.heap.size + 1]? = some (.cells #[.int .i64 o.seq, .int .i64 o.dst, .string o.body] 68) := by
    have := (MapKept.heap_alloc (w.alloc (.cells (l.row (.slice oa l.out.length oc) (.slice sa l.seen.length sc)) 27)) (.cells #[.int .i64 o.seq, .int .i64 o.dst, .string o.body] 68)).1
    rw [hW0]
    simpa using this
  have hs0 : w.heap.size + 2 ≤ W0.heap.size := lt_heap O1
  have hL := fun (wx : World) (hx : Below w.heap.size w wx) => lowTo_any _ l o.dst o.seq S wx (h.below hx) ⟨o, ho, rfl⟩
  have hp : (l.pack o).fits := ⟨(inI64_small (k := 0) (by decide) (by decide) : inI64 0), hfit.1, hfs.2.1, hfs.1, lowL_in _ _ _ (fun s hs => (h3.fits s hs).1) hfs.1⟩
  have hP := fun (wx : World) (hx : ET wx) => implPutPack_any (l.pack o) wx hs hp hx
  obtain ⟨lw, hlw⟩ : ∃ lw, lw = lowL l.out o.dst o.seq := ⟨_, rfl⟩
  have HEQ : Hid (l.pack o = ⟨0, l.id, o.dst, o.seq, lw, o.body⟩) := by show _ = _; rw [hlw]; rfl
  rw [HEQ.out] at hP
  rw [← hlw] at hL
  have H0 := (show Hid (_ ∧ _ ∧ _ ∧ _ ∧ _ ∧ _ ∧ _) from ⟨hL, hP, B0, O0, O1, hg, hW0⟩)
  clear h hL hP B0 O0 O1 hg hW0 h3 h4 hp hlw hfs
  go_enter Tryz.func31, Tryz.ntmps31
  go_wp2_with fail
  rw [← (show W0 = _ from H0.out.2.2.2.2.2.2)]
  have hd : Below W0.heap.size W0 W0.drew := (Below.refl _ _).drew
  have hs1 : w.heap.size ≤ W0.drew.heap.size := by have := hd.size; omega
  have H1 := (show Hid (_ ∧ _ ∧ _ ∧ _) from ⟨H0.out.2.2.1.trans (hd.mono (by omega)), (show W0.drew.heap[w.heap.size]? = _ from H0.out.2.2.2.1), (show W0.drew.heap[w.heap.size + 1]? = _ from H0.out.2.2.2.2.1), (H0.out.2.2.2.2.2.1.below H0.out.2.2.1).below hd⟩)
  have HC := (show Hid (_ ∧ _) from ⟨H0.out.1, H0.out.2.1⟩)
  clear hd H0
  go_region_held3 (fun w' => w'.cell? ⟨w.heap.size, 0, none⟩ = some (.int .i64 l.id) ∧ w'.cell? ⟨w.heap.size, 1, none⟩ = some (.int .i64 l.next) ∧ w'.cell? ⟨w.heap.size, 2, none⟩ = some (.slice oa l.out.length oc) ∧ w'.cell? ⟨w.heap.size, 3, none⟩ = some (.slice sa l.seen.length sc) ∧ w'.cell? ⟨w.heap.size + 1, 0, none⟩ = some (.int .i64 o.seq) ∧ w'.cell? ⟨w.heap.size + 1, 1, none⟩ = some (.int .i64 o.dst) ∧ w'.cell? ⟨w.heap.size + 1, 2, none⟩ = some (.string o.body)) (first | exact lsbox H3.out.2.1 H3.out.2.2 | exact lsbox H2.out.2.1 H2.out.2.2.1 | exact lsbox H1.out.2.1 H1.out.2.2.1) (first
    | (go_at_call 61; refine (HC.out.1 _ H1.out.1).mono ?_; rintro e w2 ⟨rfl, b2⟩; have H2 := (show Hid (_ ∧ _ ∧ _ ∧ _) from ⟨H1.out.1.trans (b2.mono hs1), (b2.block _ (lt_heap H1.out.2.1)).trans H1.out.2.1, (b2.block _ (lt_heap H1.out.2.2.1)).trans H1.out.2.2.1, H1.out.2.2.2.below b2⟩); clear b2 H1)
    | (go_at_call 60; refine (HC.out.2 _ H2.out.2.2.2).mono ?_; rintro e w3 ⟨rfl, b3⟩; have H3 := (show Hid (_ ∧ _ ∧ _) from ⟨H2.out.1.trans (b3.mono H2.out.1.size), (b3.block _ (lt_heap H2.out.2.1)).trans H2.out.2.1, (b3.block _ (lt_heap H2.out.2.2.1)).trans H2.out.2.2.1⟩); clear b3 H2))
  go_wp2
  go_ret
  exact ⟨by rw [HEQ.out]; rfl, H3.out.1⟩
end Go.Proofs.YtlbinamlehapoaaGreatDoor
