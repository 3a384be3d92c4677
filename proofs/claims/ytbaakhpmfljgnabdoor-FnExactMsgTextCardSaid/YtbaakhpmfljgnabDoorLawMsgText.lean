/-
  The law of MsgText, for whatever program answers in plain words.
-/
import Derived.Test.YtbaakhpmfljgnabDoorSpecMsgText
import Derived.Test.YtbaakhpmfljgnabDoorIntsAt
import Derived.Test.YtbaakhpmfljgnabDoorMsgOpen
import Derived.ChangeOld
import Derived.Deep.RegionHeld3
import Derived.ProofKit
import Derived.OpenShut
namespace Go.Proofs.YtbaakhpmfljgnabDoor.fnExactMsgText
open Go.ChangeShapes Go.WideShapes Go.ChangeAt Go.RowKit Go.Joins

set_option maxRecDepth 100000

theorem own : ownKnob Tryd.prog.godebug = none := by kernel_rfl
theorem laidOut : laidOutB Tryd.prog = true := by kernel_rfl

/-- What the program must fulfil. -/
def Impl (w0 : World) : Prop := ∀ (v : Value) (m : Ms) (n0 : Nat) (w : World), Below w0.heap.size w0 w → MsAt w (fun b => n0 ≤ b ∧ Pl w b) v m → m.cell.bulk ≤ 1048576 → n0 ≤ w.heap.size → Calls Tryd.prog 7 #[v] w fun e w' => e = .returned (.string ⟨m.textOf.toArray⟩) ∧ Below w.heap.size w w'

theorem MsAt.plBelow {w w' : World} {n : Nat} {v : Value} {m : Ms} (h : MsAt w (fun b => n ≤ b ∧ Pl w b) v m) (hb : Below w.heap.size w w') : MsAt w' (fun b => n ≤ b ∧ Pl w' b) v m := by
  obtain ⟨kv, hv, h1, h2, h3, h4, hk⟩ := h
  exact ⟨kv, hv, h1, h2, h3, h4, hk.kept (fun b _ hlt => hb.block b hlt) hb.size (fun _ h _ => ⟨h.1, h.2.below hb⟩)⟩

theorem box9 {W : World} {b : Nat} {m : Ms} {kv : Value} {t : TypeId} (h : W.heap[b]? = some (.cells (m.row kv) t)) : W.cell? ⟨b, 0, none⟩ = some (.int .i64 m.kind) ∧ W.cell? ⟨b, 1, none⟩ = some (.int .i64 m.frm) ∧ W.cell? ⟨b, 2, none⟩ = some (.int .i64 m.dst) ∧ W.cell? ⟨b, 3, none⟩ = some (.int .i64 m.id) ∧ W.cell? ⟨b, 4, none⟩ = some (.int .i64 m.want) ∧ W.cell? ⟨b, 5, none⟩ = some (.int .i64 m.cell.kind) ∧ W.cell? ⟨b, 6, none⟩ = some (.int .i64 m.cell.n) ∧ W.cell? ⟨b, 7, none⟩ = some (.int .i64 m.cell.pos) ∧ W.cell? ⟨b, 8, none⟩ = some kv :=
  ⟨(cell_of_block h 0).trans rfl, (cell_of_block h 1).trans rfl, (cell_of_block h 2).trans rfl, (cell_of_block h 3).trans rfl, (cell_of_block h 4).trans rfl, (cell_of_block h 5).trans rfl, (cell_of_block h 6).trans rfl, (cell_of_block h 7).trans rfl, (cell_of_block h 8).trans rfl⟩
theorem box18 {W : World} {b1 b2 : Nat} {m : Ms} {kv1 kv2 : Value} {t1 t2 : TypeId} (h1 : W.heap[b1]? = some (.cells (m.row kv1) t1)) (h2 : W.heap[b2]? = some (.cells (m.row kv2) t2)) : W.cell? ⟨b1, 0, none⟩ = some (.int .i64 m.kind) ∧ W.cell? ⟨b1, 1, none⟩ = some (.int .i64 m.frm) ∧ W.cell? ⟨b1, 2, none⟩ = some (.int .i64 m.dst) ∧ W.cell? ⟨b1, 3, none⟩ = some (.int .i64 m.id) ∧ W.cell? ⟨b1, 4, none⟩ = some (.int .i64 m.want) ∧ W.cell? ⟨b1, 5, none⟩ = some (.int .i64 m.cell.kind) ∧ W.cell? ⟨b1, 6, none⟩ = some (.int .i64 m.cell.n) ∧ W.cell? ⟨b1, 7, none⟩ = some (.int .i64 m.cell.pos) ∧ W.cell? ⟨b1, 8, none⟩ = some (kv1) ∧ W.cell? ⟨b2, 0, none⟩ = some (.int .i64 m.kind) ∧ W.cell? ⟨b2, 1, none⟩ = some (.int .i64 m.frm) ∧ W.cell? ⟨b2, 2, none⟩ = some (.int .i64 m.dst) ∧ W.cell? ⟨b2, 3, none⟩ = some (.int .i64 m.id) ∧ W.cell? ⟨b2, 4, none⟩ = some (.int .i64 m.want) ∧ W.cell? ⟨b2, 5, none⟩ = some (.int .i64 m.cell.kind) ∧ W.cell? ⟨b2, 6, none⟩ = some (.int .i64 m.cell.n) ∧ W.cell? ⟨b2, 7, none⟩ = some (.int .i64 m.cell.pos) ∧ W.cell? ⟨b2, 8, none⟩ = some (kv2) := by
  obtain ⟨y0, y1, y2, y3, y4, y5, y6, y7, y8⟩ := box9 h1
  obtain ⟨x0, x1, x2, x3, x4, x5, x6, x7, x8⟩ := box9 h2
  exact ⟨y0, y1, y2, y3, y4, y5, y6, y7, y8, x0, x1, x2, x3, x4, x5, x6, x7, x8⟩
/-- What the walk holds of a world: the argument and its box. -/
structure St (w W : World) (v : Value) (m : Ms) (o : Obj) : Prop where
  at_ : MsAt W (fun _ => True) v m
  base : Below w.heap.size w W
  box : W.heap[w.heap.size]? = some o
  size : w.heap.size + 1 ≤ W.heap.size
theorem St.below {w W W' : World} {v : Value} {m : Ms} {o : Obj} (h : St w W v m o) (hb : Below W.heap.size W W') : St w W' v m o :=
  ⟨h.at_.below hb, h.base.trans (hb.mono h.base.size), (hb.block _ (Array.getElem?_eq_some_iff.1 h.box).1).trans h.box, Nat.le_trans h.size hb.size⟩

set_option maxHeartbeats 6400000 in
theorem walk (w : World) (himpl : Impl w) (v : Value) (m : Ms) (h : MsAt w (fun _ => True) v m) :
    Calls Tryd.prog 3 #[v] w fun e w' => e = .returned (.bool true) ∧ Below w.heap.size w w' := by
  have HI := (show Hid (_ ∧ _) from ⟨himpl, h⟩)
  obtain ⟨a, c, rfl⟩ := h.form
  clear h himpl
  have hnot := ex_not
  have hbb : ((⟨m.textOf.toArray⟩ : ByteArray).toList != (⟨m.textOf.toArray⟩ : ByteArray).toList) = false := by simp
  obtain ⟨W0, hW0⟩ : ∃ W0, W0 = w.alloc (.cells (m.row (.slice a m.cell.kids.length c)) 26) := ⟨_, rfl⟩
  have S0 : St w W0 (.agg (m.row (.slice a m.cell.kids.length c))) m (.cells (m.row (.slice a m.cell.kids.length c)) 26) := by
    have hb : Below w.heap.size w W0 := by rw [hW0]; exact (Below.refl _ w).alloc (Nat.le_refl _) _
    exact ⟨HI.out.2.below hb, hb, by rw [hW0]; exact (MapKept.heap_alloc w _).1, by rw [hW0]; simp⟩
  have H0 := (show Hid (_ ∧ _) from ⟨S0, hW0⟩)
  clear S0 hW0
  go_enter Tryd.func3, Tryd.ntmps3
  go_wp2_with fail
  rw [← H0.out.2]
  refine (szMsg_any _ m (fun _ => True) W0 1048576 H0.out.1.at_ (by decide) (by decide)).mono ?_
  rintro e w1 ⟨rfl, b1⟩
  have H1 := (show Hid (_ ∧ True) from ⟨H0.out.1.below b1, trivial⟩)
  have hbd : -1 ≤ szR 1048576 m.cell.bulk ∧ szR 1048576 m.cell.bulk ≤ 1048576 ∧ (0 ≤ szR 1048576 m.cell.bulk → m.cell.bulk ≤ 1048576) := by unfold szR; split <;> omega
  obtain ⟨r, hr⟩ : ∃ r, szR 1048576 m.cell.bulk = r := ⟨_, rfl⟩
  rw [hr] at hbd ⊢
  clear hr b1 H0
  by_cases hneg : r < 0
  · go_wp2
    go_ret
    exact ⟨rfl, H1.out.1.base⟩
  have HB : Hid (m.cell.bulk ≤ 1048576) := hbd.2.2 (by omega)
  obtain ⟨y0, y1, y2, y3, y4, y5, y6, y7, y8⟩ := box9 H1.out.1.box
  go_wp2_with fail
  refine (toMsg_any _ m (fun _ => True) w1 H1.out.1.at_ HB.out).mono ?_
  rintro e w2 ⟨v2, rfl, hm2, b2⟩
  have H2 := (show Hid (_ ∧ _) from ⟨H1.out.1.below b2, hm2⟩)
  obtain ⟨a2, c2, rfl⟩ := hm2.form
  clear hm2 b2 H1 y0 y1 y2 y3 y4 y5 y6 y7 y8
  go_wp2_with fail
  refine (specMsgText_any _ m _ w2 H2.out.2 (by have := HB.out; unfold Ce.bulk at this; omega)).mono ?_
  rintro e w3 ⟨rfl, b3⟩
  have H3 := (show Hid (_ ∧ True) from ⟨H2.out.1.below b3, trivial⟩)
  clear b3 H2
  obtain ⟨y0, y1, y2, y3, y4, y5, y6, y7, y8⟩ := box9 H3.out.1.box
  go_wp2_with fail
  refine (toMsg_any _ m (fun _ => True) w3 H3.out.1.at_ HB.out).mono ?_
  rintro e w4 ⟨v4, rfl, hm4, b4⟩
  obtain ⟨a4, c4, rfl⟩ := hm4.form
  obtain ⟨W5, hW5⟩ : ∃ W5, W5 = w4.alloc (.cells (m.row (.slice a4 m.cell.kids.length c4)) 31) := ⟨_, rfl⟩
  have b5 : Below w4.heap.size w4 W5 := by rw [hW5]; exact (Below.refl _ w4).alloc (Nat.le_refl _) _
  have o5 : W5.heap[w4.heap.size]? = some (.cells (m.row (.slice a4 m.cell.kids.length c4)) 31) := by rw [hW5]; exact (MapKept.heap_alloc w4 _).1
  have H5 := (show Hid (_ ∧ _ ∧ _ ∧ _ ∧ _) from ⟨(H3.out.1.below b4).below b5, MsAt.plBelow hm4 b5, o5, hW5, (Nat.le_trans b4.size b5.size : w3.heap.size ≤ W5.heap.size)⟩)
  clear hm4 b4 b5 o5 hW5 H3 y0 y1 y2 y3 y4 y5 y6 y7 y8
  go_wp2_with fail
  rw [← (show W5 = w4.alloc (.cells #[.int .i64 m.kind, .int .i64 m.frm, .int .i64 m.dst, .int .i64 m.id, .int .i64 m.want, .int .i64 m.cell.kind, .int .i64 m.cell.n, .int .i64 m.cell.pos, .slice a4 m.cell.kids.length c4] 31) from H5.out.2.2.2.1)]
  refine (HI.out.1 _ m _ W5 H5.out.1.base H5.out.2.1 HB.out H5.out.2.2.2.2).mono ?_
  rintro e w6 ⟨rfl, b6⟩
  have o6 := (b6.block _ (Array.getElem?_eq_some_iff.1 H5.out.2.2.1).1).trans H5.out.2.2.1
  have H6 := (show Hid (_ ∧ _ ∧ _) from ⟨H5.out.1.below b6, MsAt.below H5.out.2.1 b6, o6⟩)
  clear b6 o6 H5
  obtain ⟨y0, y1, y2, y3, y4, y5, y6, y7, y8⟩ := box9 H6.out.1.box
  obtain ⟨x0, x1, x2, x3, x4, x5, x6, x7, x8⟩ := box9 H6.out.2.2
  go_wp2_with fail
  clear y0 y1 y2 y3 y4 y5 y6 y7 y8 x0 x1 x2 x3 x4 x5 x6 x7 x8
  have hd : Below w6.heap.size w6 w6.drew := (Below.refl _ _).drew
  have H7 := (show Hid (_ ∧ _ ∧ _) from ⟨H6.out.1.below hd, MsAt.below H6.out.2.1 hd, (show w6.drew.heap[w4.heap.size]? = _ from H6.out.2.2)⟩)
  clear hd H6
  go_region_held3 (fun w' => w'.cell? ⟨w4.heap.size, 0, none⟩ = some (.int .i64 m.kind) ∧ w'.cell? ⟨w4.heap.size, 1, none⟩ = some (.int .i64 m.frm) ∧ w'.cell? ⟨w4.heap.size, 2, none⟩ = some (.int .i64 m.dst) ∧ w'.cell? ⟨w4.heap.size, 3, none⟩ = some (.int .i64 m.id) ∧ w'.cell? ⟨w4.heap.size, 4, none⟩ = some (.int .i64 m.want) ∧ w'.cell? ⟨w4.heap.size, 5, none⟩ = some (.int .i64 m.cell.kind) ∧ w'.cell? ⟨w4.heap.size, 6, none⟩ = some (.int .i64 m.cell.n) ∧ w'.cell? ⟨w4.heap.size, 7, none⟩ = some (.int .i64 m.cell.pos) ∧ w'.cell? ⟨w4.heap.size, 8, none⟩ = some (.slice a4 m.cell.kids.length c4) ∧ w'.cell? ⟨w.heap.size, 0, none⟩ = some (.int .i64 m.kind) ∧ w'.cell? ⟨w.heap.size, 1, none⟩ = some (.int .i64 m.frm) ∧ w'.cell? ⟨w.heap.size, 2, none⟩ = some (.int .i64 m.dst) ∧ w'.cell? ⟨w.heap.size, 3, none⟩ = some (.int .i64 m.id) ∧ w'.cell? ⟨w.heap.size, 4, none⟩ = some (.int .i64 m.want) ∧ w'.cell? ⟨w.heap.size, 5, none⟩ = some (.int .i64 m.cell.kind) ∧ w'.cell? ⟨w.heap.size, 6, none⟩ = some (.int .i64 m.cell.n) ∧ w'.cell? ⟨w.heap.size, 7, none⟩ = some (.int .i64 m.cell.pos) ∧ w'.cell? ⟨w.heap.size, 8, none⟩ = some (.slice a m.cell.kids.length c)) (first | exact box18 H9.out.2 H9.out.1.box | exact box18 H8.out.2.2.2 H8.out.1.box | exact box18 H7.out.2.2 H7.out.1.box) (first
    | (go_at_call 6; refine (toMsg_any _ m (fun _ => True) _ H7.out.1.at_ HB.out).mono ?_; rintro e w8 ⟨v8, rfl, hm8, b8⟩; obtain ⟨a8, c8, rfl⟩ := hm8.form; have o8 := (b8.block _ (Array.getElem?_eq_some_iff.1 H7.out.2.2).1).trans H7.out.2.2; have H8 := (show Hid (_ ∧ _ ∧ _ ∧ _) from ⟨H7.out.1.below b8, MsAt.below H7.out.2.1 b8, hm8, o8⟩); clear hm8 b8 o8 H7)
    | (go_at_call 8; refine (eqMsg_any _ _ m _ _ _ H8.out.2.1 H8.out.2.2.1 (by have := HB.out; omega)).mono ?_; rintro e w9 ⟨rfl, b9⟩; have o9 := (b9.block _ (Array.getElem?_eq_some_iff.1 H8.out.2.2.2).1).trans H8.out.2.2.2; have H9 := (show Hid (_ ∧ _) from ⟨H8.out.1.below b9, o9⟩); clear b9 o9 H8))
  go_wp2
  go_ret
  exact ⟨rfl, H9.out.1.base⟩
end Go.Proofs.YtbaakhpmfljgnabDoor.fnExactMsgText
