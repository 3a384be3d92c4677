/-
  The program's reader of bytes: what is left, the next bytes, the next number.
-/
import Derived.Test.YtbaakhpmfljgnaaDoorKeptBut
import Derived.Test.YtbaakhpmfljgnaaDoorNumOf
import Derived.BigQuiet
import Derived.Deep.QuietTactic
namespace Go.Proofs.YtbaakhpmfljgnaaDoor
open Go.RowKit Go.Joins

set_option maxRecDepth 100000

/-- A reader in block b, over the bytes l, which lie in block g, at place p. -/
structure Wr (w : World) (b g cap : Nat) (l : List UInt8) (p : Nat) : Prop where
  box : w.heap[b]? = some (.cells #[.slice (some ⟨g, 0, none⟩) l.length cap, .int .i64 ((p : Nat) : Int)] 88)
  bytes : ∃ cs fz, w.heap[g]? = some (.cells cs 5 fz) ∧ ∀ (j : Nat) (x : UInt8), l[j]? = some x → cs[j]? = some (.int .u8 ((x.toNat : Nat) : Int))
  ne : b ≠ g
  len : l.length ≤ 1048576
  cap : l.length ≤ cap
  at_ : p ≤ l.length
theorem Wr.kept {X : Nat → Prop} {w w' : World} {b g cap : Nat} {l : List UInt8} {p : Nat} (h : Wr w b g cap l p) (hk : KB X w w') (hb : ¬ X b) (hg : ¬ X g) : Wr w' b g cap l p := by
  obtain ⟨cs, fz, h1, h2⟩ := h.bytes
  exact ⟨hk.heap h.box hb, ⟨cs, fz, hk.heap h1 hg, h2⟩, h.ne, h.len, h.cap, h.at_⟩
theorem Wr.below {w w' : World} {b g cap : Nat} {l : List UInt8} {p : Nat} (h : Wr w b g cap l p) (hk : Below w.heap.size w w') : Wr w' b g cap l p :=
  h.kept (X := fun _ => False) (KB.of_below hk) id id
theorem Wr.btAt {w : World} {b g cap : Nat} {l : List UInt8} {p : Nat} (h : Wr w b g cap l p) (q n : Nat) : BtAt w g q ((l.drop q).take n) := by
  obtain ⟨cs, fz, h1, h2⟩ := h.bytes
  intro j x hx
  have hj : l[q + j]? = some x := by
    rw [List.getElem?_take] at hx
    split at hx
    · rwa [List.getElem?_drop] at hx
    · cases hx
  have : w.cell? ⟨g, q + j, none⟩ = cs[q + j]? := by simp [World.cell?, h1]
  rw [this]
  exact h2 _ _ hj
theorem Wr.cells {w : World} {b g cap : Nat} {l : List UInt8} {p : Nat} (h : Wr w b g cap l p) : w.cell? ⟨b, 0, none⟩ = some (.slice (some ⟨g, 0, none⟩) l.length cap) ∧ w.cell? ⟨b, 1, none⟩ = some (.int .i64 ((p : Nat) : Int)) ∧ w.frozen? ⟨b, 1, none⟩ = false :=
  ⟨(cell_of_block h.box 0).trans rfl, (cell_of_block h.box 1).trans rfl, unfrozen_of_block h.box 1⟩
theorem Wr.move {w : World} {b g cap : Nat} {l : List UInt8} {p : Nat} (h : Wr w b g cap l p) (q : Nat) (hq : q ≤ l.length) : Wr (w.setCell ⟨b, 1, none⟩ (.int .i64 ((q : Nat) : Int))) b g cap l q := by
  obtain ⟨cs, fz, h1, h2⟩ := h.bytes
  refine ⟨?_, ⟨cs, fz, ?_, h2⟩, h.ne, h.len, h.cap, hq⟩
  · rw [block_setCell h.box]; rfl
  · rw [Below.heap_setCell _ _ _ _ (Ne.symm h.ne)]; exact h1

set_option maxHeartbeats 3200000 in
theorem left_any (b g cap : Nat) (l : List UInt8) (p : Nat) (w : World) (h : Wr w b g cap l p) :
    Calls Tryd.prog 49 #[.pointer (some ⟨b, 0, none⟩)] w fun e w' => e = .returned (.int .i64 ((l.length : Int) - (p : Int))) ∧ Below w.heap.size w w' := by
  obtain ⟨c0, c1, -⟩ := h.cells
  have hl := h.len
  have ha := h.at_
  clear h
  go_enter Tryd.func49, Tryd.ntmps49
  go_wp2_with fail
  go_quiet (fail)
  go_wp2
  go_ret
  exact ⟨by go_num, ⟨rfl, rfl, rfl, Nat.le_refl _, fun _ _ => rfl⟩⟩

set_option maxHeartbeats 3200000 in
theorem cut_any (b g cap : Nat) (l : List UInt8) (p n : Nat) (w : World) (h : Wr w b g cap l p) (hn : p + n ≤ l.length) :
    Calls Tryd.prog 63 #[.pointer (some ⟨b, 0, none⟩), .int .i64 ((n : Nat) : Int)] w fun e w' => e = .returned (.slice (some ⟨g, (if n = 0 then 0 else p), none⟩) n n) ∧ Wr w' b g cap l (p + n) ∧ KB (fun k => k = b) w w' := by
  obtain ⟨c0, c1, f1⟩ := h.cells
  have hl := h.len
  have hc := h.cap
  have HW := (show Hid (_ ∧ True) from ⟨h, trivial⟩)
  clear h
  go_enter Tryd.func63, Tryd.ntmps63
  go_wp2_with fail
  go_quiet (fail)
  have hW := HW.out.1.below (w' := w.drewN nq) ⟨rfl, rfl, rfl, Nat.le_refl _, fun _ _ => rfl⟩
  have HM := (show Hid (_ ∧ _) from ⟨hW.move (p + n) hn, (KB.of_below (⟨rfl, rfl, rfl, Nat.le_refl _, fun _ _ => rfl⟩ : Below w.heap.size w (w.drewN nq)) : KB (fun k => k = b) w (w.drewN nq))⟩)
  clear hW
  go_wp2
  · go_ret
    have hn0 : n = 0 := by omega
    subst hn0
    exact ⟨rfl, by have := HM.out.1; rwa [Int.natCast_add] at this, HM.out.2.setCell rfl _⟩
  · go_ret
    have hn0 : ¬ n = 0 := by omega
    exact ⟨by first | rfl | (rw [if_neg hn0]; rfl), by have := HM.out.1; rwa [Int.natCast_add] at this, HM.out.2.setCell rfl _⟩

/-- The number at a place of bytes. -/
def numL (l : List UInt8) (p : Nat) : Int := wrap64 (bytesU ((l.drop p).take 8) : Nat)
theorem numL_fit (l : List UInt8) (p : Nat) : inI64 (numL l p) := by
  unfold numL inI64 wrap64
  omega

set_option maxHeartbeats 3200000 in
theorem num_ok (b g cap : Nat) (l : List UInt8) (p : Nat) (w : World) (h : Wr w b g cap l p) (hn : p + 8 ≤ l.length) :
    Calls Tryd.prog 52 #[.pointer (some ⟨b, 0, none⟩)] w fun e w' => e = .returned (.tuple #[.int .i64 (numL l p), .nilIface]) ∧ Wr w' b g cap l (p + 8) ∧ KB (fun k => k = b) w w' := by
  have hl := h.len
  have HW := (show Hid (_ ∧ _) from ⟨h, left_any b g cap l p w h⟩)
  clear h
  go_enter Tryd.func52, Tryd.ntmps52
  go_wp2_with fail
  refine HW.out.2.mono ?_
  rintro e w1 ⟨rfl, b1⟩
  have h1 := HW.out.1.below b1
  have hC := cut_any b g cap l p 8 w1 h1 hn
  rw [if_neg (by decide)] at hC
  have HC := (show Hid (_ ∧ _) from ⟨hC, b1⟩)
  clear hC b1 h1
  go_wp2_with fail
  refine HC.out.1.mono ?_
  rintro e w2 ⟨rfl, h2, k2⟩
  have hl8 : ((l.drop p).take 8).length = 8 := by rw [List.length_take, List.length_drop]; omega
  have hN := numOf_any g p 8 ((l.drop p).take 8) w2 (h2.btAt p 8) (by omega)
  rw [hl8] at hN
  have HN := (show Hid (_ ∧ _ ∧ _) from ⟨hN, h2, k2⟩)
  clear hN h2 k2 hl8
  go_wp2_with fail
  refine HN.out.1.mono ?_
  rintro e w3 ⟨rfl, h3⟩
  have H3 := (show Hid (_ ∧ True) from ⟨h3, trivial⟩)
  clear h3
  go_wp2
  go_ret2
  rw [H3.out.1]
  exact ⟨rfl, HN.out.2.1, (KB.of_below HC.out.2).trans HN.out.2.2⟩

set_option maxHeartbeats 3200000 in
theorem num_no (b g cap : Nat) (l : List UInt8) (p : Nat) (w : World) (h : Wr w b g cap l p) (hn : ¬ p + 8 ≤ l.length) :
    Calls Tryd.prog 52 #[.pointer (some ⟨b, 0, none⟩)] w fun e w' => e = .returned (.tuple #[.int .i64 0, .iface 97 (.agg #[.int .i64 ((p : Nat) : Int)])]) ∧ Below w.heap.size w w' := by
  have hl := h.len
  have ha := h.at_
  have HW := (show Hid (_ ∧ _) from ⟨h, left_any b g cap l p w h⟩)
  clear h
  go_enter Tryd.func52, Tryd.ntmps52
  go_wp2_with fail
  refine HW.out.2.mono ?_
  rintro e w1 ⟨rfl, b1⟩
  obtain ⟨-, c1, -⟩ := (HW.out.1.below b1).cells
  have hlt : ((l.length : Nat) : Int) - ((p : Nat) : Int) < 8 := by omega
  have HB := (show Hid (_ ∧ True) from ⟨b1, trivial⟩)
  clear b1
  go_wp2_with fail
  go_quiet (fail)
  go_wp2
  go_ret2
  exact ⟨rfl, HB.out.1.trans (⟨rfl, rfl, rfl, Nat.le_refl _, fun _ _ => rfl⟩ : Below w.heap.size w1 (w1.drewN nq))⟩
end Go.Proofs.YtbaakhpmfljgnaaDoor
