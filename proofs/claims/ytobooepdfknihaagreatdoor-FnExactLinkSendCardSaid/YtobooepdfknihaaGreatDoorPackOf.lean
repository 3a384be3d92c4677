/-
  The program's pack of one message that was sent.
-/
import Derived.Test.YtobooepdfknihaaGreatDoorLinkLow
import Derived.Test.YtobooepdfknihaaGreatDoorImplLinkOk
import Derived.Deep.RegionHeld3
namespace Go.Proofs.YtobooepdfknihaaGreatDoor
open Go.RowKit Go.Joins

set_option maxRecDepth 100000

theorem lsbox {W : World} {b b' : Nat} {l : Lk} {o : Sn} {ov sv : Value} {t t' : TypeId} {fz fz' : Nat × Nat} (h : W.heap[b]? = some (.cells (l.row ov sv) t fz)) (h' : W.heap[b']? = some (.cells #[.int .i64 o.seq, .int .i64 o.dst, .string o.body] t' fz')) : W.cell? ⟨b, 0, none⟩ = some (.int .i64 l.id) ∧ W.cell? ⟨b, 1, none⟩ = some (.int .i64 l.next) ∧ W.cell? ⟨b, 2, none⟩ = some ov ∧ W.cell? ⟨b, 3, none⟩ = some sv ∧ W.cell? ⟨b', 0, none⟩ = some (.int .i64 o.seq) ∧ W.cell? ⟨b', 1, none⟩ = some (.int .i64 o.dst) ∧ W.cell? ⟨b', 2, none⟩ = some (.string o.body) :=
  ⟨(lbox h).1, (lbox h).2.1, (lbox h).2.2.1, (lbox h).2.2.2, (cell_of_block h' 0).trans rfl, (cell_of_block h' 1).trans rfl, (cell_of_block h' 2).trans rfl⟩

set_option maxHeartbeats 1600000 in
theorem packOf_any (v : Value) (l : Lk) (o : Sn) (S : Nat → Prop) (w : World) (h : LkAt w S v l) (ho : o ∈ l.out) (hs : o.body.size ≤ 1048576) (hg : ET w) :
    Calls Tryz.prog 34 #[v, .agg #[.int .i64 o.seq, .int .i64 o.dst, .string o.body]] w fun e w' => e = .returned (.string ⟨(l.pack o).bytes.toArray⟩) ∧ Below w.heap.size w w' := by
  have hfit : inI64 l.id ∧ inI64 l.next := by obtain ⟨_, _, _, a, b, _⟩ := h; exact ⟨a, b⟩
  obtain ⟨oa, oc, sa, sc, rfl, h3, h4⟩ := h.form
  have hfs := h3.fits o ho
  obtain ⟨W0, hW0⟩ : ∃ W0, W0 = (w.alloc (.cells (l.row (.slice oa l.out.length oc) (.slice sa l.seen.length sc)) 36)).alloc (.cells #[.int .i64 o.seq, .int .i64 o.dst, .string o.body] 65) := ⟨_, rfl⟩
  have B0 : Below w.heap.size w W0 := by rw [hW0]; exact ((Below.refl _ w).alloc (Nat.le_refl _) _).alloc (by simp) _
  have O0 : W0.heap[w.heap.size]? = some (.cells (l.row (.slice oa l.out.length oc) (.slice sa l.seen.length sc)) 36) := by
    rw [hW0, Below.heap_alloc _ _ _ (by simp)]; exact (MapKept.heap_alloc w _).1
  have O1 : W0.heap[w.heap.size + 1]? = some (.cells #[.int .i64 o.seq, .int .i64 o.dst, .string o.body] 65) := by
    have := (MapKept.heap_alloc (w.alloc (.cells (l.row (.slice oa l.out.length oc) (.slice sa l.seen.length sc)) 36)) (.cells #[.int .i64 o.seq, .int .i64 o.dst, .string o.body] 65)).1
    rw [hW0]
    simpa using this
  have hs0 : w.heap.size + 2 ≤ W0.heap.size := lt_heap O1
  have hL := fun (wx : World) (hx : Below w.heap.size w wx) => lowTo_any _ l o.dst o.seq S wx (h.below hx) ⟨o, ho, rfl⟩
  have hp : (l.pack o).fits := ⟨(inI64_small (k := 0) (by decide) (by decide) : inI64 0), hfit.1, hfs.2.1, hfs.1, lowL_in _ _ _ (fun s hs => (h3.fits s hs).1) hfs.1⟩
  have hP := fun (wx : World) (hx : ET wx) => implPutPack_any (l.pack o) wx hs hp hx
  obtain ⟨lw, hlw⟩ : ∃ lw, lw = lowL l.out o.dst o.seq := ⟨_, rfl⟩
  have HEQ : Hid (l.pack o = ⟨0, l.id, o.dst, o.seq, lw, o.body⟩) := by show _ = _; rw [hlw]; rfl
  rw [HEQ.out] at hP
  rw [← hlw] at hL
  have H0 := (show Hid (_ ∧ _ ∧ _ ∧ _ ∧ _ ∧ _ ∧ _) from ⟨hL, hP, B0, O0, O1, hg, hW0⟩)
  clear h hL hP B0 O0 O1 hg hW0 h3 h4 hp hlw hfs
  go_enter Tryz.func34, Tryz.ntmps34
  go_wp2_with fail
  rw [← (show W0 = _ from H0.out.2.2.2.2.2.2)]
  have hd : Below W0.heap.size W0 W0.drew := (Below.refl _ _).drew
  have hs1 : w.heap.size ≤ W0.drew.heap.size := by have := hd.size; omega
  have H1 := (show Hid (_ ∧ _ ∧ _ ∧ _) from ⟨H0.out.2.2.1.trans (hd.mono (by omega)), (show W0.drew.heap[w.heap.size]? = _ from H0.out.2.2.2.1), (show W0.drew.heap[w.heap.size + 1]? = _ from H0.out.2.2.2.2.1), (H0.out.2.2.2.2.2.1.below H0.out.2.2.1).below hd⟩)
  have HC := (show Hid (_ ∧ _) from ⟨H0.out.1, H0.out.2.1⟩)
  clear hd H0
  go_region_held3 (fun w' => w'.cell? ⟨w.heap.size, 0, none⟩ = some (.int .i64 l.id) ∧ w'.cell? ⟨w.heap.size, 1, none⟩ = some (.int .i64 l.next) ∧ w'.cell? ⟨w.heap.size, 2, none⟩ = some (.slice oa l.out.length oc) ∧ w'.cell? ⟨w.heap.size, 3, none⟩ = some (.slice sa l.seen.length sc) ∧ w'.cell? ⟨w.heap.size + 1, 0, none⟩ = some (.int .i64 o.seq) ∧ w'.cell? ⟨w.heap.size + 1, 1, none⟩ = some (.int .i64 o.dst) ∧ w'.cell? ⟨w.heap.size + 1, 2, none⟩ = some (.string o.body)) (first | exact lsbox H3.out.2.1 H3.out.2.2 | exact lsbox H2.out.2.1 H2.out.2.2.1 | exact lsbox H1.out.2.1 H1.out.2.2.1) (first
    | (go_at_call 71; refine (HC.out.1 _ H1.out.1).mono ?_; rintro e w2 ⟨rfl, b2⟩; have H2 := (show Hid (_ ∧ _ ∧ _ ∧ _) from ⟨H1.out.1.trans (b2.mono hs1), (b2.block _ (lt_heap H1.out.2.1)).trans H1.out.2.1, (b2.block _ (lt_heap H1.out.2.2.1)).trans H1.out.2.2.1, H1.out.2.2.2.below b2⟩); clear b2 H1)
    | (go_at_call 70; refine (HC.out.2 _ H2.out.2.2.2).mono ?_; rintro e w3 ⟨rfl, b3⟩; have H3 := (show Hid (_ ∧ _ ∧ _) from ⟨H2.out.1.trans (b3.mono H2.out.1.size), (b3.block _ (lt_heap H2.out.2.1)).trans H2.out.2.1, (b3.block _ (lt_heap H2.out.2.2.1)).trans H2.out.2.2.1⟩); clear b3 H2))
  go_wp2
  go_ret
  exact ⟨by rw [HEQ.out]; rfl, H3.out.1⟩
end Go.Proofs.YtobooepdfknihaaGreatDoor
