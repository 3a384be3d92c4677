/-
  Marks in a message's kids.
-/
import Derived.Test.YtfcgpfjmabhmeaaDoorReadMsg
import Derived.Test.YtfcgpfjmabhmeaaDoorMarkInt
namespace Go.Proofs.YtfcgpfjmabhmeaaDoor
open Go.RowKit Go.Joins

set_option maxRecDepth 100000

theorem own_alloc {w : World} {B n size : Nat} {e : TypeId} {v : Value} {xs : List Value} (h : w.ownsRow B e size v n xs) (o : Obj) : (w.alloc o).ownsRow B e size v n xs :=
  own_moved h (fun g hg => Below.heap_alloc w o g (own_lt h g hg))
theorem KB.alloc_left {X : Nat → Prop} {w w' : World} {o : Obj} (h : KB X (w.alloc o) w') : KB X w w' :=
  (KB.of_below ((Below.refl _ w).alloc (Nat.le_refl _) o)).trans h
theorem KB.of_grown {X : Nat → Prop} {w w' : World} {row : Option Nat} (h : w.grownBy w' row) (hX : ∀ k, row = some k → X k) : KB X w w' :=
  ⟨h.os, h.tape, h.output, h.size, fun k hk hx => h.block k hk (fun e => hx (hX k e.symm))⟩

set_option maxHeartbeats 800000 in
theorem markCell1_any (B : Nat) (a0 a1 a2 : Int) (ka : Option Addr) (kc : Nat) (n : Nat) (xs : List Value) (k0 : Int) (w : World) (hk0 : 0 ≤ k0) (hk1 : k0 ≤ 1000) (hn : n ≤ 1000000) (hrow : w.ownsRow B 3 1 (.slice ka n kc) n xs) :
    Calls Tryd.prog 20 #[.agg #[.int .i64 a0, .int .i64 a1, .int .i64 a2, .slice ka n kc], .int .i64 k0] w fun e w' => e = .returned (.int .i64 (k0 + n)) ∧ w'.ownsRow B 3 1 (.slice ka n kc) n (intVs (marksI k0 n)) ∧ KB (fun k => (Value.slice ka n kc).ownBlock = some k) w w' := by
  have H0 := (show Hid (_ ∧ True) from ⟨markIntS_any B _ n xs k0 _ hk0 (by omega) (by omega) (own_alloc hrow (.cells #[.int .i64 a0, .int .i64 a1, .int .i64 a2, .slice ka n kc] 24)), trivial⟩)
  clear hrow
  go_enter Tryd.func20, Tryd.ntmps20
  go_wp2_with fail
  refine H0.out.1.mono ?_
  rintro e w1 ⟨rfl, h1, h2⟩
  have H1 := (show Hid (_ ∧ _) from ⟨h1, h2⟩)
  clear h1 h2
  go_wp2
  go_ret
  exact ⟨rfl, H1.out.1, KB.alloc_left (KB.of_grown H1.out.2 (fun k hk => hk))⟩

set_option maxHeartbeats 800000 in
theorem markMsg_any (B : Nat) (m : Ms) (ka : Option Addr) (kc : Nat) (n : Nat) (xs : List Value) (k0 : Int) (w : World) (hk0 : 0 ≤ k0) (hk1 : k0 ≤ 1000) (hn : n ≤ 1000000) (hrow : w.ownsRow B 3 1 (.slice ka n kc) n xs) :
    Calls Tryd.prog 8 #[.agg (m.row (.slice ka n kc)), .int .i64 k0] w fun e w' => e = .returned (.int .i64 (k0 + n)) ∧ w'.ownsRow B 3 1 (.slice ka n kc) n (intVs (marksI k0 n)) ∧ KB (fun k => (Value.slice ka n kc).ownBlock = some k) w w' := by
  have H0 := (show Hid (_ ∧ True) from ⟨markCell1_any B m.cell.kind m.cell.n m.cell.pos ka kc n xs k0 _ hk0 hk1 hn (own_alloc hrow (.cells (m.row (.slice ka n kc)) 26)), trivial⟩)
  clear hrow
  go_enter Tryd.func8, Tryd.ntmps8
  go_wp2_with fail
  refine H0.out.1.mono ?_
  rintro e w1 ⟨rfl, h1, h2⟩
  have H1 := (show Hid (_ ∧ _) from ⟨h1, h2⟩)
  clear h1 h2
  go_wp2
  go_ret
  exact ⟨rfl, H1.out.1, KB.alloc_left H1.out.2⟩

set_option maxHeartbeats 800000 in
theorem heldCell1_any (B : Nat) (a0 a1 a2 : Int) (ka : Option Addr) (kc : Nat) (n : Nat) (k0 : Int) (w : World) (hk0 : 0 ≤ k0) (hk1 : k0 ≤ 1000) (hn : n ≤ 1000000) (hrow : w.ownsRow B 3 1 (.slice ka n kc) n (intVs (marksI k0 n))) :
    Calls Tryd.prog 21 #[.agg #[.int .i64 a0, .int .i64 a1, .int .i64 a2, .slice ka n kc], .int .i64 k0] w fun e w' => e = .returned (.int .i64 (k0 + n)) ∧ Below w.heap.size w w' := by
  have H0 := (show Hid (_ ∧ _) from ⟨heldIntS_any B _ n k0 _ hk0 (by omega) (by omega) (own_alloc hrow (.cells #[.int .i64 a0, .int .i64 a1, .int .i64 a2, .slice ka n kc] 24)), ((Below.refl _ w).alloc (Nat.le_refl _) (.cells #[.int .i64 a0, .int .i64 a1, .int .i64 a2, .slice ka n kc] 24))⟩)
  clear hrow
  go_enter Tryd.func21, Tryd.ntmps21
  go_wp2_with fail
  refine H0.out.1.mono ?_
  rintro e w1 ⟨rfl, h1⟩
  have H1 := (show Hid (_ ∧ _) from ⟨h1, H0.out.2⟩)
  clear h1
  go_wp2
  go_ret
  exact ⟨rfl, H1.out.2.trans (H1.out.1.mono H1.out.2.size)⟩

set_option maxHeartbeats 800000 in
theorem heldMsg_any (B : Nat) (m : Ms) (ka : Option Addr) (kc : Nat) (n : Nat) (k0 : Int) (w : World) (hk0 : 0 ≤ k0) (hk1 : k0 ≤ 1000) (hn : n ≤ 1000000) (hrow : w.ownsRow B 3 1 (.slice ka n kc) n (intVs (marksI k0 n))) :
    Calls Tryd.prog 9 #[.agg (m.row (.slice ka n kc)), .int .i64 k0] w fun e w' => e = .returned (.int .i64 (k0 + n)) ∧ Below w.heap.size w w' := by
  have H0 := (show Hid (_ ∧ _) from ⟨heldCell1_any B m.cell.kind m.cell.n m.cell.pos ka kc n k0 _ hk0 hk1 hn (own_alloc hrow (.cells (m.row (.slice ka n kc)) 26)), ((Below.refl _ w).alloc (Nat.le_refl _) (.cells (m.row (.slice ka n kc)) 26))⟩)
  clear hrow
  go_enter Tryd.func9, Tryd.ntmps9
  go_wp2_with fail
  refine H0.out.1.mono ?_
  rintro e w1 ⟨rfl, h1⟩
  have H1 := (show Hid (_ ∧ _) from ⟨h1, H0.out.2⟩)
  clear h1
  go_wp2
  go_ret
  exact ⟨rfl, H1.out.2.trans (H1.out.1.mono H1.out.2.size)⟩
end Go.Proofs.YtfcgpfjmabhmeaaDoor
