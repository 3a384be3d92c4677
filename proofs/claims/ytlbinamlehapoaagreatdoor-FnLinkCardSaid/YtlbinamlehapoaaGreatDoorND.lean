/-
  The specification's draws: a cursor over the bytes of a code; whatever is drawn is in its range, the cursor stays a cursor, and nothing else that was there has turned.
  What stays as it is while a code's cursor goes on: rows of the call's own, and the cursor itself where other memory is written.
  The specification's draws of messages: whatever is drawn is a small message whose row of kids is the call's own, and the cursor stays a cursor.
-/
import Derived.Test.YtlbinamlehapoaaGreatDoorRows
import Derived.WalkKit
import Derived.RegionTactic
import Derived.Deep.QuietTactic
import Derived.BigQuiet
import Derived.Laws.BitsLemmas
import Derived.Maps.AppendAt
import Derived.Maps.Range
import Derived.Lib.SmallJoins
import Derived.Lib.BufferOwn
import Derived.Test.YtlbinamlehapoaaGreatDoorMD
import Derived.Test.YtlbinamlehapoaaGreatDoorME
import Derived.Test.YtlbinamlehapoaaGreatDoorMW
import Derived.Deep.CutBlock
namespace Go.Proofs.YtlbinamlehapoaaGreatDoor
open Go.RowKit Go.Joins

set_option maxRecDepth 100000

theorem and255 (n : Int) : bits .and .i64 n 255 = n % 256 := by
  have h : (BitVec.ofInt 64 255).toNat = 2 ^ 8 - 1 := by decide
  have key : (BitVec.ofInt 64 n &&& BitVec.ofInt 64 255).toNat = (n % ((2 ^ 64 : Nat) : Int)).toNat % 2 ^ 8 := by
    rw [BitVec.toNat_and, BitVec.toNat_ofInt, h, Nat.and_two_pow_sub_one_eq_mod]
  show IntKind.i64.wrap ((BitVec.ofInt 64 n &&& BitVec.ofInt 64 255).toNat : Nat) = n % 256
  rw [key, IntKind.wrap_i64]
  omega

/-- The bytes of a code lie below B. -/
def CodeIs (B : Nat) (w : World) (V : Value) (len : Nat) : Prop :=
  ∃ a cap, V = .slice a len cap ∧ len ≤ 1048576 ∧ (0 < len → ∃ b off, a = some ⟨b, off, none⟩ ∧ b < B ∧ ∀ j, j < len → ∃ z : Int, 0 ≤ z ∧ z ≤ 255 ∧ w.cell? ⟨b, off + j, none⟩ = some (.int .u8 z))
/-- A cursor over a code. -/
def Cur (B : Nat) (w : World) (g : Nat) (V : Value) (len : Nat) : Prop :=
  B ≤ g ∧ ∃ i h : Int, 0 ≤ i ∧ i ≤ len ∧ w.heap[g]? = some (.cells #[V, .int .i64 i, .int .i64 h] 89)

theorem CodeIs.kept {B : Nat} {w w' : World} {V : Value} {len : Nat} (h : CodeIs B w V len) (hb : ∀ k, k < B → w'.heap[k]? = w.heap[k]?) : CodeIs B w' V len := by
  obtain ⟨a, cap, hv, hl, hc⟩ := h
  refine ⟨a, cap, hv, hl, fun h0 => ?_⟩
  obtain ⟨b, off, ha, hb1, hcell⟩ := hc h0
  refine ⟨b, off, ha, hb1, fun j hj => ?_⟩
  obtain ⟨z, h1, h2, h3⟩ := hcell j hj
  exact ⟨z, h1, h2, (World.cell?_of_block (hb b hb1)).trans h3⟩
theorem CodeIs.grown {B : Nat} {w w' : World} {V : Value} {len g : Nat} (h : CodeIs B w V len) (hg : w.grownBy w' (some g)) (hB : B ≤ g) (hBw : B ≤ w.heap.size) : CodeIs B w' V len :=
  h.kept (fun k hk => hg.block k (by omega) (fun e => by cases e; omega))
theorem Cur.below {B B' : Nat} {w w' : World} {g : Nat} {V : Value} {len : Nat} (h : Cur B w g V len) (hb : Below B' w w') (hB : w.heap.size ≤ B') : Cur B w' g V len := by
  obtain ⟨h0, i, hh, h1, h2, h3⟩ := h
  exact ⟨h0, i, hh, h1, h2, (hb.block g (Nat.lt_of_lt_of_le (Array.getElem?_eq_some_iff.1 h3).1 hB)).trans h3⟩
theorem Cur.lt {B : Nat} {w : World} {g : Nat} {V : Value} {len : Nat} (h : Cur B w g V len) : g < w.heap.size := by
  obtain ⟨_, i, hh, _, _, h3⟩ := h
  exact (Array.getElem?_eq_some_iff.1 h3).1

theorem grown_drewN {w : World} {n : Nat} {row : Option Nat} : w.grownBy (w.drewN n) row := ⟨rfl, rfl, rfl, Nat.le_refl _, fun _ _ _ => rfl⟩

set_option maxHeartbeats 1600000 in
theorem byte_any (B g : Nat) (V : Value) (len : Nat) (w : World) (hcode : CodeIs B w V len) (hcur : Cur B w g V len) :
    Calls Tryz.prog 74 #[.pointer (some ⟨g, 0, none⟩)] w fun e w' => ∃ x : Int, e = .returned (.int .i64 x) ∧ 0 ≤ x ∧ x ≤ 255 ∧ Cur B w' g V len ∧ w.grownBy w' (some g) := by
  obtain ⟨a, cap, rfl, hlen, hcells⟩ := hcode
  obtain ⟨hBg, i, h, hi0, hi1, hg⟩ := hcur
  have c0 : w.cell? ⟨g, 0, none⟩ = some (.slice a len cap) := by rw [cell_of_block hg]; rfl
  have c1 : w.cell? ⟨g, 1, none⟩ = some (.int .i64 i) := by rw [cell_of_block hg]; rfl
  have c2 : w.cell? ⟨g, 2, none⟩ = some (.int .i64 h) := by rw [cell_of_block hg]; rfl
  have f1 : w.frozen? ⟨g, 1, none⟩ = false := unfrozen_of_block hg 1
  have f2 : w.frozen? ⟨g, 2, none⟩ = false := unfrozen_of_block hg 2
  have HG : Hid (w.heap[g]? = some (.cells #[.slice a len cap, .int .i64 i, .int .i64 h] 89)) := hg
  clear hg
  by_cases hlt : i < len
  · obtain ⟨k, rfl⟩ := Int.eq_ofNat_of_zero_le hi0
    obtain ⟨b, off, rfl, hbB, hcell⟩ := hcells (by omega)
    obtain ⟨z, z0, z1, hz⟩ := hcell k (by omega)
    clear hcell hcells
    go_enter Tryz.func74, Tryz.ntmps74
    go_wp2
    have hB2 := block_setCell (i := 2) HG.out (.int .i64 (wrap64 (wrap64 (h * 6364136223846793005) + 1442695040888963407)))
    have hG2 : w.grownBy (w.setCell ⟨g, 2, none⟩ (.int .i64 (wrap64 (wrap64 (h * 6364136223846793005) + 1442695040888963407)))) (some g) := Go.Lib.grownBy_setCell w g 2 _
    have hz2 : (w.setCell ⟨g, 2, none⟩ (.int .i64 (wrap64 (wrap64 (h * 6364136223846793005) + 1442695040888963407)))).cell? ⟨b, off + k, none⟩ = some (.int .u8 z) := (World.cell?_setCell_other _ _ _ _ (fun e => by have := congrArg Addr.block e; simp at this; omega)).trans hz
    generalize w.setCell ⟨g, 2, none⟩ (.int .i64 (wrap64 (wrap64 (h * 6364136223846793005) + 1442695040888963407))) = w2 at *
    generalize wrap64 (wrap64 (h * 6364136223846793005) + 1442695040888963407) = h2 at *
    have HB2 : Hid (w2.heap[g]? = some (.cells #[.slice (some ⟨b, off, none⟩) len cap, .int .i64 k, .int .i64 h2] 89)) := hB2
    clear hB2 c0 c1 c2 f1 f2 hz
    have c0 : w2.cell? ⟨g, 0, none⟩ = some (.slice (some ⟨b, off, none⟩) len cap) := by rw [cell_of_block HB2.out]; rfl
    have c1 : w2.cell? ⟨g, 1, none⟩ = some (.int .i64 k) := by rw [cell_of_block HB2.out]; rfl
    have c2 : w2.cell? ⟨g, 2, none⟩ = some (.int .i64 h2) := by rw [cell_of_block HB2.out]; rfl
    have f1 : w2.frozen? ⟨g, 1, none⟩ = false := unfrozen_of_block HB2.out 1
    go_quiet (fail)
    go_wp2
    go_quiet (fail)
    go_wp2
    go_quiet (fail)
    go_wp2
    go_ret
    refine ⟨_, rfl, by rw [and255]; omega, by rw [and255]; omega, ⟨hBg, (k : Int) + 1, h2, by omega, by omega, block_setCell (i := 1) HB2.out _⟩, hG2.trans (grown_drewN.trans (Go.Lib.grownBy_setCell _ g 1 _))⟩
  · go_enter Tryz.func74, Tryz.ntmps74
    clear hcells
    go_wp2
    have hB2 := block_setCell (i := 2) HG.out (.int .i64 (wrap64 (wrap64 (h * 6364136223846793005) + 1442695040888963407)))
    have hG2 : w.grownBy (w.setCell ⟨g, 2, none⟩ (.int .i64 (wrap64 (wrap64 (h * 6364136223846793005) + 1442695040888963407)))) (some g) := Go.Lib.grownBy_setCell w g 2 _
    generalize w.setCell ⟨g, 2, none⟩ (.int .i64 (wrap64 (wrap64 (h * 6364136223846793005) + 1442695040888963407))) = w2 at *
    generalize wrap64 (wrap64 (h * 6364136223846793005) + 1442695040888963407) = h2 at *
    have HB2 : Hid (w2.heap[g]? = some (.cells #[.slice a len cap, .int .i64 i, .int .i64 h2] 89)) := hB2
    clear hB2 c0 c1 c2 f1 f2
    have c0 : w2.cell? ⟨g, 0, none⟩ = some (.slice a len cap) := by rw [cell_of_block HB2.out]; rfl
    have c1 : w2.cell? ⟨g, 1, none⟩ = some (.int .i64 i) := by rw [cell_of_block HB2.out]; rfl
    have c2 : w2.cell? ⟨g, 2, none⟩ = some (.int .i64 h2) := by rw [cell_of_block HB2.out]; rfl
    go_quiet (fail)
    go_wp2
    go_quiet (fail)
    go_wp2
    go_ret
    refine ⟨_, rfl, by rw [and255]; omega, by rw [and255]; omega, ⟨hBg, i, h2, by omega, by omega, HB2.out⟩, hG2.trans (grown_drewN.trans grown_drewN)⟩

/-- What a draw leaves: the code's bytes and the cursor. -/
def Dr (B : Nat) (w : World) (g : Nat) (V : Value) (len : Nat) : Prop := CodeIs B w V len ∧ Cur B w g V len ∧ B ≤ w.heap.size

theorem Dr.step {B : Nat} {w w' : World} {g : Nat} {V : Value} {len : Nat} (h : Dr B w g V len) (hc : Cur B w' g V len) (hg : w.grownBy w' (some g)) : Dr B w' g V len :=
  ⟨h.1.grown hg h.2.1.1 h.2.2, hc, Nat.le_trans h.2.2 hg.size⟩
theorem Dr.below {B : Nat} {w w' : World} {g : Nat} {V : Value} {len : Nat} (h : Dr B w g V len) (hb : Below w.heap.size w w') : Dr B w' g V len :=
  ⟨h.1.kept (fun k hk => hb.block k (Nat.lt_of_lt_of_le hk h.2.2)), h.2.1.below hb (Nat.le_refl _), Nat.le_trans h.2.2 hb.size⟩
theorem Dr.alloc {B : Nat} {w : World} {g : Nat} {V : Value} {len : Nat} (h : Dr B w g V len) (o : Obj) : Dr B (w.alloc o) g V len := h.below ((Below.refl _ w).alloc (Nat.le_refl _) o)

theorem byte_dr (B g : Nat) (V : Value) (len : Nat) (w : World) (h : Dr B w g V len) :
    Calls Tryz.prog 74 #[.pointer (some ⟨g, 0, none⟩)] w fun e w' => ∃ x : Int, e = .returned (.int .i64 x) ∧ 0 ≤ x ∧ x ≤ 255 ∧ Dr B w' g V len ∧ w.grownBy w' (some g) :=
  (byte_any B g V len w h.1 h.2.1).mono fun _ _ ⟨x, he, h0, h1, hc, hg⟩ => ⟨x, he, h0, h1, h.step hc hg, hg⟩

set_option maxHeartbeats 1600000 in
theorem below_dr (B g : Nat) (V : Value) (len : Nat) (n : Int) (w : World) (hn0 : 0 < n) (hn1 : n ≤ 1000000000) (h : Dr B w g V len) :
    Calls Tryz.prog 40 #[.pointer (some ⟨g, 0, none⟩), .int .i64 n] w fun e w' => ∃ x : Int, e = .returned (.int .i64 x) ∧ 0 ≤ x ∧ x < n ∧ Dr B w' g V len ∧ w.grownBy w' (some g) := by
  have hp : ¬ n ≤ 0 := by omega
  by_cases hs : n ≤ 256
  · go_enter Tryz.func40, Tryz.ntmps40
    go_wp2_with fail
    refine (byte_dr B g V len _ h).mono ?_
    rintro e w1 ⟨x, rfl, x0, x1, h1, g1⟩
    have hm0 : 0 ≤ x % n := Int.emod_nonneg _ (by omega)
    have hm1 : x % n < n := Int.emod_lt_of_pos _ hn0
    go_wp2
    go_ret
    exact ⟨_, rfl, hm0, hm1, h1, g1⟩
  · go_enter Tryz.func40, Tryz.ntmps40
    go_wp2_with fail
    refine (byte_dr B g V len _ h).mono ?_
    rintro e w1 ⟨x, rfl, x0, x1, h1, g1⟩
    go_wp2_with fail
    refine (byte_dr B g V len _ h1).mono ?_
    rintro e w2 ⟨y, rfl, y0, y1, h2, g2⟩
    go_wp2_with fail
    refine (byte_dr B g V len _ h2).mono ?_
    rintro e w3 ⟨z, rfl, z0, z1, h3, g3⟩
    go_wp2_with fail
    refine (byte_dr B g V len _ h3).mono ?_
    rintro e w4 ⟨u, rfl, u0, u1, h4, g4⟩
    have hm0 : 0 ≤ (x * 16777216 + y * 65536 + z * 256 + u) % n := Int.emod_nonneg _ (by omega)
    have hm1 : (x * 16777216 + y * 65536 + z * 256 + u) % n < n := Int.emod_lt_of_pos _ hn0
    go_wp2
    go_ret
    exact ⟨_, rfl, hm0, hm1, h4, g1.trans (g2.trans (g3.trans g4))⟩

set_option maxHeartbeats 1600000 in
theorem pickInt_dr (B g : Nat) (V : Value) (len : Nat) (b n cap : Nat) (zs : List Int) (w : World) (hn : 0 < n) (hn1 : n ≤ 1000) (hzs : zs.length = n) (hbg : b ≠ g) (hc : ∀ j z, zs[j]? = some z → w.cell? ⟨b, j, none⟩ = some (.int .i64 z)) (h : Dr B w g V len) :
    Calls Tryz.prog 41 #[.pointer (some ⟨g, 0, none⟩), .slice (some ⟨b, 0, none⟩) n cap] w fun e w' => ∃ z : Int, e = .returned (.int .i64 z) ∧ z ∈ zs ∧ Dr B w' g V len ∧ w.grownBy w' (some g) := by
  have HT : Hid (zs.length = n) := hzs
  clear hzs
  go_enter Tryz.func41, Tryz.ntmps41
  go_wp2_with fail
  refine (below_dr B g V len _ _ (by omega) (by omega) h).mono ?_
  rintro e w1 ⟨x, rfl, x0, x1, h1, g1⟩
  obtain ⟨k, rfl⟩ := Int.eq_ofNat_of_zero_le x0
  have hk : k < zs.length := by have := HT.out; omega
  have hcell1 := g1.cell (hc k zs[k] (List.getElem?_eq_getElem hk)) (fun e => hbg (Option.some.inj e))
  have ht := List.getElem_mem hk
  generalize zs[k] = t at *
  clear hc
  go_wp2
  go_ret
  exact ⟨t, rfl, ht, h1, g1⟩

set_option maxHeartbeats 1600000 in
theorem new_dr (V : Value) (len : Nat) (w : World) (hcode : CodeIs w.heap.size w V len) :
    Calls Tryz.prog 24 #[V] w fun e w' => e = .returned (.pointer (some ⟨w.heap.size, 0, none⟩)) ∧ Dr w.heap.size w' w.heap.size V len ∧ Below w.heap.size w w' := by
  have hcode0 := hcode
  obtain ⟨a, cap, rfl, hlen, hcells⟩ := hcode
  have HC : Hid (CodeIs w.heap.size w (.slice a len cap) len) := hcode0
  clear hcode0
  have fin : ∀ h : Int, Dr w.heap.size (w.alloc (.cells #[.slice a len cap, .int .i64 0, .int .i64 h] 89)) w.heap.size (.slice a len cap) len := fun h =>
    ⟨HC.out.kept (fun k hk => Below.heap_alloc w _ k hk), ⟨Nat.le_refl _, 0, h, by omega, by omega, (MapKept.heap_alloc w _).1⟩, by simp⟩
  have HF : Hid (∀ h : Int, Dr w.heap.size (w.alloc (.cells #[.slice a len cap, .int .i64 0, .int .i64 h] 89)) w.heap.size (.slice a len cap) len) := fin
  clear fin
  go_enter Tryz.func24, Tryz.ntmps24
  go_wp2
  go_loop [3, 4] (fun hv i => ∃ (k : Nat) (h : Int), k ≤ len ∧ i = .int .i64 k ∧ hv = .int .i64 h) (fun _ i => len - (intOf i).toNat)
  case atStart => exact ⟨0, _, Nat.zero_le _, rfl, rfl⟩
  case round =>
    obtain ⟨k, h, hk, rfl, rfl⟩ := hrel
    by_cases hlt : k < len
    · obtain ⟨b, off, rfl, hbB, hcell⟩ := hcells (by omega)
      obtain ⟨z, z0, z1, hz⟩ := hcell k hlt
      have hlt' : ((k : Nat) : Int) < ((len : Nat) : Int) := by omega
      clear hcell hcells
      by_cases h4 : k < 4000
      · have h4' : ((k : Nat) : Int) < 4000 := by omega
        go_wp2
        go_round
        case rel => exact ⟨k + 1, _, by omega, by go_num, rfl⟩
        case measure => simp [intOf]; omega
      · have h4' : ¬ ((k : Nat) : Int) < 4000 := by omega
        go_wp2
        go_ret
        exact ⟨rfl, HF.out _, (Below.refl _ w).alloc (Nat.le_refl _) _⟩
    · clear hcells
      go_wp2
      go_ret
      exact ⟨rfl, HF.out _, (Below.refl _ w).alloc (Nat.le_refl _) _⟩
end Go.Proofs.YtlbinamlehapoaaGreatDoor

namespace Go.Proofs.YtlbinamlehapoaaGreatDoor
open Go.RowKit Go.Joins

set_option maxRecDepth 100000

theorem own_grown {W W' : World} {B n size g : Nat} {e : TypeId} {v : Value} {xs : List Value} (h : W.ownsRow B e size v n xs) (hg : W.grownBy W' (some g)) (hB : g < B) : W'.ownsRow B e size v n xs :=
  own_moved h (fun q hq => hg.block q (own_lt h q hq) (fun he => by have h1 := (own_type h q hq).1; have h2 := Option.some.inj he; omega))
theorem Dr.glt {B : Nat} {w : World} {g : Nat} {V : Value} {len : Nat} (h : Dr B w g V len) : g < w.heap.size := h.2.1.lt
theorem Dr.grownOwn {B : Nat} {w w' : World} {g : Nat} {V : Value} {len : Nat} {row : Option Nat} (h : Dr B w g V len) (hg : w.grownBy w' row) (hr : ∀ q, row = some q → B ≤ q ∧ q ≠ g) : Dr B w' g V len := by
  obtain ⟨h1, ⟨h2, i, hh, h3, h4, h5⟩, h6⟩ := h
  have hlt := (Array.getElem?_eq_some_iff.1 h5).1
  refine ⟨h1.kept (fun k hk => hg.block k (by omega) (fun e => by have := (hr k e.symm).1; omega)), ⟨h2, i, hh, h3, h4, (hg.block g hlt (fun e => (hr g e.symm).2 rfl)).trans h5⟩, Nat.le_trans h6 hg.size⟩
theorem no_kids {w : World} {S : Nat → Prop} : IntsAt w S (.slice none 0 0) [] := ⟨none, 0, rfl, by unfold maxLen; simp, fun i t h => by simp at h⟩
theorem Dr.set {B : Nat} {w : World} {g q off : Nat} {V : Value} {len : Nat} (h : Dr B w g V len) (hq : B ≤ q) (hne : q ≠ g) (u : Value) : Dr B (w.setCell ⟨q, off, none⟩ u) g V len := by
  obtain ⟨h1, ⟨h2, i, hh, h3, h4, h5⟩, h6⟩ := h
  exact ⟨h1.kept (fun k hk => Below.heap_setCell _ _ _ _ (by show k ≠ q; omega)), ⟨h2, i, hh, h3, h4, (Below.heap_setCell _ _ _ _ (by show g ≠ q; omega)).trans h5⟩, by simpa using h6⟩
theorem grown_set {w W : World} {g q off : Nat} (h : w.grownBy W (some g)) (hq : w.heap.size ≤ q) (u : Value) : w.grownBy (W.setCell ⟨q, off, none⟩ u) (some g) :=
  ⟨h.os, h.tape, h.output, by simpa using h.size, fun k hk hne => (Below.heap_setCell _ _ _ _ (by show k ≠ q; omega)).trans (h.block k hk hne)⟩
theorem ints_lit (zs : List Int) (w : World) : ∀ j z, zs[j]? = some z → (w.alloc (.cells (zs.map (fun z => Value.int .i64 z)).toArray 3)).cell? ⟨w.heap.size, j, none⟩ = some (.int .i64 z) := by
  intro j z hj
  rw [cell_of_block (MapKept.heap_alloc w _).1]
  simp [hj]
theorem ow_intsT {w : World} {B : Nat} {v : Value} {zs : List Int} (h : w.ownsRow B 3 1 v zs.length (zs.map (fun z => Value.int .i64 z))) (hz : ∀ z ∈ zs, inI64 z) : IntsAt w (fun b => B ≤ b ∧ ∃ cs, w.heap[b]? = some (.cells cs 3 (0, 0))) v zs := by
  obtain ⟨a, cap, h1, h2, h3⟩ := ow_ints h hz
  refine ⟨a, cap, h1, h2, fun i t ht => ?_⟩
  obtain ⟨b, off, rfl, _, h5, h6, h7⟩ := h3 i t ht
  obtain ⟨q, cap', hv⟩ := own_some h (by have := (List.getElem?_eq_some_iff.1 ht).1; omega)
  have hq := own_type h q (by rw [hv]; rfl)
  rw [hv] at h1
  cases h1
  exact ⟨_, _, rfl, hq, h5, h6, h7⟩
end Go.Proofs.YtlbinamlehapoaaGreatDoor

namespace Go.Proofs.YtlbinamlehapoaaGreatDoor
open Go.RowKit Go.Joins

set_option maxRecDepth 100000

/-- The numbers of a drawn message. -/
structure MsSm (m : Ms) : Prop where
  kind : -1 ≤ m.kind ∧ m.kind ≤ 5
  frm : 0 ≤ m.frm ∧ m.frm ≤ 2
  dst : -1 ≤ m.dst ∧ m.dst ≤ 31
  id : -1 ≤ m.id ∧ m.id ≤ 1000000
  want : 0 ≤ m.want ∧ m.want ≤ 9
  ck : 0 ≤ m.cell.kind ∧ m.cell.kind ≤ 4
  cn : inI64 m.cell.n
  cp : 0 ≤ m.cell.pos ∧ m.cell.pos ≤ 9
  kids : m.cell.kids.length ≤ 101 ∧ ∀ z ∈ m.cell.kids, -1 ≤ z ∧ z ≤ 9
theorem ms_sm {k f d i t ck cn cp : Int} {ks : List Int} (h1 : -1 ≤ k ∧ k ≤ 5) (h2 : 0 ≤ f ∧ f ≤ 2) (h3 : -1 ≤ d ∧ d ≤ 31) (h4 : -1 ≤ i ∧ i ≤ 1000000) (h5 : 0 ≤ t ∧ t ≤ 9) (h6 : 0 ≤ ck ∧ ck ≤ 4) (h7 : -9223372036854775808 ≤ cn ∧ cn ≤ 9223372036854775807) (h8 : 0 ≤ cp ∧ cp ≤ 9) (h9 : ks.length ≤ 101 ∧ ∀ z ∈ ks, -1 ≤ z ∧ z ≤ 9) : MsSm ⟨k, f, d, i, t, ⟨ck, cn, cp, ks⟩⟩ :=
  ⟨h1, h2, h3, h4, h5, h6, h7, h8, h9⟩
theorem no_sm : ([] : List Int).length ≤ 101 ∧ ∀ z ∈ ([] : List Int), -1 ≤ z ∧ z ≤ 9 := ⟨by simp, by simp⟩
/-- A message that is being drawn: its box, its row of kids, the cursor. -/
structure MsDr (B g : Nat) (V : Value) (len : Nat) (w W : World) (mb : Nat) (m : Ms) (kv : Value) : Prop where
  dr : Dr B W g V len
  grown : w.grownBy W (some g)
  box : W.heap[mb]? = some (.cells (m.row kv) 32)
  new : w.heap.size < mb
  res : W.heap[w.heap.size]? = some (.cells #[.int .i64 0, .int .i64 0, .int .i64 0, .int .i64 0, .int .i64 0, .int .i64 0, .int .i64 0, .int .i64 0, .slice none 0 0] 32)
  glt : g < w.heap.size
  own : W.ownsRow w.heap.size 3 1 kv m.cell.kids.length (intVs m.cell.kids)
  sm : MsSm m
theorem MsDr.step {B g : Nat} {V : Value} {len : Nat} {w W W' : World} {mb : Nat} {m : Ms} {kv : Value} (h : MsDr B g V len w W mb m kv) (h1 : Dr B W' g V len) (g1 : W.grownBy W' (some g)) : MsDr B g V len w W' mb m kv :=
  ⟨h1, h.grown.trans g1, (g1.block mb (Array.getElem?_eq_some_iff.1 h.box).1 (fun e => by have := Option.some.inj e; have := h.new; have := h.glt; omega)).trans h.box, h.new, (g1.block _ (Array.getElem?_eq_some_iff.1 h.res).1 (fun e => by have := Option.some.inj e; have := h.glt; omega)).trans h.res, h.glt, own_grown h.own g1 h.glt, h.sm⟩
theorem MsDr.alloc {B g : Nat} {V : Value} {len : Nat} {w W : World} {mb : Nat} {m : Ms} {kv : Value} (h : MsDr B g V len w W mb m kv) (o : Obj) : MsDr B g V len w (W.alloc o) mb m kv :=
  h.step (h.dr.alloc o) (World.grownBy_alloc W o (some g))
theorem MsDr.drew {B g : Nat} {V : Value} {len : Nat} {w W : World} {mb : Nat} {m : Ms} {kv : Value} (h : MsDr B g V len w W mb m kv) : MsDr B g V len w W.drew mb m kv :=
  h.step (h.dr.below (Below.refl _ W).drew) ⟨rfl, rfl, rfl, Nat.le_refl _, fun _ _ _ => rfl⟩
theorem MsDr.cells {B g : Nat} {V : Value} {len : Nat} {w W : World} {mb : Nat} {m : Ms} {kv : Value} (h : MsDr B g V len w W mb m kv) : ∀ i v, (m.row kv)[i]? = some v → W.cell? ⟨mb, i, none⟩ = some v :=
  fun i v hv => by rw [cell_of_block h.box]; exact hv

/-- Its box is written. -/
theorem MsDr.put {B g : Nat} {V : Value} {len : Nat} {w W W' : World} {mb : Nat} {m m' : Ms} {kv kv' : Value} (h : MsDr B g V len w W mb m kv) (hg : W.grownBy W' (some mb)) (hbox : W'.heap[mb]? = some (.cells (m'.row kv') 32))
    (hown : W.ownsRow w.heap.size 3 1 kv' m'.cell.kids.length (intVs m'.cell.kids)) (hsm : MsSm m') : MsDr B g V len w W' mb m' kv' := by
  have h1 := h.new
  have h2 := h.glt
  have h3 := h.dr.2.1.1
  refine ⟨h.dr.grownOwn hg (fun q e => by have := Option.some.inj e; omega), grown_two h.grown hg (fun q e => .inr (by have := Option.some.inj e; omega)), hbox, h1, (hg.block _ (Array.getElem?_eq_some_iff.1 h.res).1 (fun e => by have := Option.some.inj e; omega)).trans h.res, h2, own_moved hown (fun q hq => hg.block q (own_lt hown q hq) (fun e => ?_)), hsm⟩
  have e' := Option.some.inj e
  subst e'
  obtain ⟨_, cs, hc⟩ := own_type hown q hq
  rw [h.box] at hc
  simp at hc
/-- Other memory grows. -/
theorem MsDr.grew {B g : Nat} {V : Value} {len : Nat} {w W W' : World} {mb : Nat} {m : Ms} {kv : Value} {row : Option Nat} (h : MsDr B g V len w W mb m kv) (hg : W.grownBy W' row) (hr : ∀ q, row = some q → w.heap.size < q ∧ q ≠ mb ∧ some q ≠ kv.ownBlock) : MsDr B g V len w W' mb m kv := by
  have h1 := h.new
  have h2 := h.glt
  have h3 := h.dr.2.1.1
  refine ⟨h.dr.grownOwn hg (fun q e => by have := (hr q e).1; omega), grown_two h.grown hg (fun q e => .inr (by have := (hr q e).1; omega)), (hg.block mb (Array.getElem?_eq_some_iff.1 h.box).1 (fun e => (hr mb e.symm).2.1 rfl)).trans h.box, h1, (hg.block _ (Array.getElem?_eq_some_iff.1 h.res).1 (fun e => by have := (hr _ e.symm).1; omega)).trans h.res, h2, own_moved h.own (fun q hq => hg.block q (own_lt h.own q hq) (fun e => (hr q e.symm).2.2 hq.symm)), h.sm⟩
theorem MsDr.klt {B g : Nat} {V : Value} {len : Nat} {w W : World} {mb : Nat} {m : Ms} {kv : Value} (h : MsDr B g V len w W mb m kv) : ∀ q, kv.ownBlock = some q → q < W.heap.size ∧ q ≠ mb ∧ w.heap.size < q := by
  intro q hq
  have h1 := own_lt h.own q hq
  obtain ⟨h2, cs, h3⟩ := own_type h.own q hq
  refine ⟨h1, fun e => ?_, ?_⟩
  · subst e; rw [h.box] at h3; simp at h3
  · rcases Nat.lt_or_ge w.heap.size q with h4 | h4
    · exact h4
    · obtain rfl : q = w.heap.size := by omega
      rw [h.res] at h3; simp at h3
/-- A kid more. -/
theorem MsDr.pushed {B g : Nat} {V : Value} {len : Nat} {w W W' : World} {mb : Nat} {m : Ms} {kv kv' : Value} {z : Int} (h : MsDr B g V len w W mb m kv) (hg : W.grownBy W' kv.ownBlock) (hown : W'.ownsRow w.heap.size 3 1 kv' (m.cell.kids.length + 1) (intVs m.cell.kids ++ [.int .i64 z])) (hl : m.cell.kids.length ≤ 100) (hz : -1 ≤ z ∧ z ≤ 9) :
    MsDr B g V len w (W'.setCell ⟨mb, 8, none⟩ kv') mb ⟨m.kind, m.frm, m.dst, m.id, m.want, ⟨m.cell.kind, m.cell.n, m.cell.pos, m.cell.kids ++ [z]⟩⟩ kv' := by
  have h1 := h.new
  have h2 := h.glt
  have h3 := h.dr.2.1.1
  have hk := h.klt
  have hbox := (hg.block mb (Array.getElem?_eq_some_iff.1 h.box).1 (fun e => (hk mb e.symm).2.1 rfl)).trans h.box
  have hown' : W'.ownsRow w.heap.size 3 1 kv' (m.cell.kids ++ [z]).length (intVs (m.cell.kids ++ [z])) := by rw [List.length_append]; unfold intVs; rw [List.map_append]; exact hown
  have hs := Go.Lib.grownBy_setCell W' mb 8 kv'
  have hd : Dr B W' g V len := h.dr.grownOwn hg (fun q e => by have := hk q e; omega)
  refine ⟨hd.grownOwn hs (fun q e => by have := Option.some.inj e; omega), grown_two (grown_two h.grown hg (fun q e => .inr (by have := hk q e; omega))) hs (fun q e => .inr (by have := Option.some.inj e; omega)), ?_, h1, (hs.block _ (by have := (Array.getElem?_eq_some_iff.1 h.res).1; have := hg.size; omega) (fun e => by have := Option.some.inj e; omega)).trans ((hg.block _ (Array.getElem?_eq_some_iff.1 h.res).1 (fun e => by have := hk _ e.symm; omega)).trans h.res), h2, own_moved hown' (fun q hq => hs.block q (own_lt hown' q hq) (fun e => ?_)), ?_⟩
  · rw [block_setCell (i := 8) hbox _]
    simp [Ms.row]
  · have e' := Option.some.inj e
    subst e'
    obtain ⟨_, cs, hc⟩ := own_type hown' q hq
    rw [hbox] at hc
    simp at hc
  · refine ⟨h.sm.kind, h.sm.frm, h.sm.dst, h.sm.id, h.sm.want, h.sm.ck, h.sm.cn, h.sm.cp, ?_, fun y hy => ?_⟩
    · simp; omega
    · rcases List.mem_append.1 hy with h4 | h4
      · exact h.sm.kids.2 y h4
      · rw [List.mem_singleton] at h4; omega
theorem grown9 (W : World) (r : Nat) (v0 v1 v2 v3 v4 v5 v6 v7 v8 : Value) : W.grownBy (((((((((W.setCell ⟨r, 0, none⟩ v0).setCell ⟨r, 1, none⟩ v1).setCell ⟨r, 2, none⟩ v2).setCell ⟨r, 3, none⟩ v3).setCell ⟨r, 4, none⟩ v4).setCell ⟨r, 5, none⟩ v5).setCell ⟨r, 6, none⟩ v6).setCell ⟨r, 7, none⟩ v7).setCell ⟨r, 8, none⟩ v8) (some r) :=
  ((((((((Go.Lib.grownBy_setCell W r 0 v0).trans (Go.Lib.grownBy_setCell _ r 1 v1)).trans (Go.Lib.grownBy_setCell _ r 2 v2)).trans (Go.Lib.grownBy_setCell _ r 3 v3)).trans (Go.Lib.grownBy_setCell _ r 4 v4)).trans (Go.Lib.grownBy_setCell _ r 5 v5)).trans (Go.Lib.grownBy_setCell _ r 6 v6)).trans (Go.Lib.grownBy_setCell _ r 7 v7)).trans (Go.Lib.grownBy_setCell _ r 8 v8)
theorem inI64_mid {k : Int} (h : -1 ≤ k ∧ k ≤ 1000000) : inI64 k := ⟨by omega, by omega⟩
/-- What is answered. -/
theorem MsDr.fin {B g : Nat} {V : Value} {len : Nat} {w W W' : World} {mb : Nat} {m : Ms} {kv : Value} (h : MsDr B g V len w W mb m kv) (hg : W.grownBy W' (some w.heap.size)) : MsAt W' (fun b => w.heap.size ≤ b) (.agg (m.row kv)) m ∧ m.cell.kids.length ≤ 101 ∧ Dr B W' g V len ∧ w.grownBy W' (some g) := by
  have h1 := h.new
  have h2 := h.glt
  have h3 := h.dr.2.1.1
  have hs := h.sm
  have hz : ∀ z ∈ m.cell.kids, inI64 z := fun z hz => inI64_mid (by have := hs.kids.2 z hz; omega)
  refine ⟨⟨kv, rfl, ⟨inI64_mid (by have := hs.kind; omega), inI64_mid (by have := hs.frm; omega), inI64_mid (by have := hs.dst; omega), inI64_mid (by have := hs.id; omega), inI64_mid (by have := hs.want; omega)⟩, inI64_mid (by have := hs.ck; omega), hs.cn, inI64_mid (by have := hs.cp; omega), ?_⟩, hs.kids.1, h.dr.grownOwn hg (fun q e => by have := Option.some.inj e; omega), grown_two h.grown hg (fun q e => .inr (by have := Option.some.inj e; omega))⟩
  exact (ow_intsT (own_moved h.own (fun q hq => hg.block q (own_lt h.own q hq) (fun e => by have := Option.some.inj e; have := h.klt q hq; omega))) hz).kept (fun _ _ _ => rfl) (Nat.le_refl _) (fun b hb _ => hb.1)
/-- Its cell is written. -/
theorem MsDr.put4 {B g : Nat} {V : Value} {len : Nat} {w W : World} {mb : Nat} {m : Ms} {kv : Value} (h : MsDr B g V len w W mb m kv) (ck cn cp : Int) (ks : List Int) (kv' : Value)
    (hown : W.ownsRow w.heap.size 3 1 kv' ks.length (intVs ks)) (hsm : MsSm ⟨m.kind, m.frm, m.dst, m.id, m.want, ⟨ck, cn, cp, ks⟩⟩) :
    MsDr B g V len w ((((W.setCell ⟨mb, 5, none⟩ (.int .i64 ck)).setCell ⟨mb, 6, none⟩ (.int .i64 cn)).setCell ⟨mb, 7, none⟩ (.int .i64 cp)).setCell ⟨mb, 8, none⟩ kv') mb ⟨m.kind, m.frm, m.dst, m.id, m.want, ⟨ck, cn, cp, ks⟩⟩ kv' := by
  refine h.put ((((Go.Lib.grownBy_setCell W mb 5 _).trans (Go.Lib.grownBy_setCell _ mb 6 _)).trans (Go.Lib.grownBy_setCell _ mb 7 _)).trans (Go.Lib.grownBy_setCell _ mb 8 _)) ?_ hown hsm
  rw [block_setCell (i := 8) (block_setCell (i := 7) (block_setCell (i := 6) (block_setCell (i := 5) h.box _) _) _) _]
  simp [Ms.row]
/-- Its kids are written. -/
theorem MsDr.put8 {B g : Nat} {V : Value} {len : Nat} {w W : World} {mb : Nat} {mk mf md mi mw ck cn cp : Int} {ks : List Int} {kv : Value} (h : MsDr B g V len w W mb ⟨mk, mf, md, mi, mw, ⟨ck, cn, cp, ks⟩⟩ kv) (ks' : List Int) (kv' : Value)
    (hown : W.ownsRow w.heap.size 3 1 kv' ks'.length (intVs ks')) (hsm : ks'.length ≤ 101 ∧ ∀ z ∈ ks', -1 ≤ z ∧ z ≤ 9) : MsDr B g V len w (W.setCell ⟨mb, 8, none⟩ kv') mb ⟨mk, mf, md, mi, mw, ⟨ck, cn, cp, ks'⟩⟩ kv' := by
  refine h.put (Go.Lib.grownBy_setCell W mb 8 _) ?_ hown (ms_sm h.sm.kind h.sm.frm h.sm.dst h.sm.id h.sm.want h.sm.ck h.sm.cn h.sm.cp hsm)
  rw [block_setCell (i := 8) h.box _]
  simp [Ms.row]
/-- A row of two drawn numbers, cut. -/
theorem own_two {W : World} {base kb n : Nat} {a b : Int} (h : W.heap[kb]? = some (.cells #[.int .i64 a, .int .i64 b] 3 (0, 0))) (hb : base ≤ kb) (hn : n ≤ 2) (zs : List Int) (hz : zs = [a, b].take n) : W.ownsRow base 3 1 (.slice (some ⟨kb, 0, none⟩) n 2) zs.length (intVs zs) := by
  have hl : zs.length = n := by rw [hz]; simp; omega
  refine ⟨by simp [intVs], .inr ⟨kb, 2, _, by rw [hl], hb, h, by omega, by unfold maxLen; omega, rfl, ?_⟩⟩
  rw [hl, hz, Nat.mul_one]
  simp [intVs, List.map_take]
/-- One of the four cells that may be given. -/
theorem four_cells {W : World} {cb kb : Nat} {v p : Int} (a b : Int) (hC : W.heap[cb]? = some (.cells #[.int .i64 0, .int .i64 v, .int .i64 0, .slice none 0 0, .int .i64 1, .int .i64 0, .int .i64 0, .slice none 0 0, .int .i64 2, .int .i64 0, .int .i64 0, .slice (some ⟨kb, 0, none⟩) 2 2, .int .i64 3, .int .i64 2, .int .i64 p, .slice (some ⟨kb, 0, none⟩) 1 2] 30)) (hv : -9223372036854775808 ≤ v ∧ v ≤ 9223372036854775807) (hp : 0 ≤ p ∧ p ≤ 9) (n : Nat) (hn : n < 4) :
    ∃ (ck cn cp : Int) (ks : List Int) (ka : Option Addr) (kn kc : Nat), W.cell? ⟨cb, n * 4, none⟩ = some (.int .i64 ck) ∧ W.cell? ⟨cb, n * 4 + 1, none⟩ = some (.int .i64 cn) ∧ W.cell? ⟨cb, n * 4 + 2, none⟩ = some (.int .i64 cp) ∧ W.cell? ⟨cb, n * 4 + 3, none⟩ = some (.slice ka kn kc) ∧
      (0 ≤ ck ∧ ck ≤ 4) ∧ (-9223372036854775808 ≤ cn ∧ cn ≤ 9223372036854775807) ∧ (0 ≤ cp ∧ cp ≤ 9) ∧ (∃ t, t ≤ 2 ∧ ks = [a, b].take t) ∧ ∀ (W' : World) (base : Nat), W'.heap[kb]? = some (.cells #[.int .i64 a, .int .i64 b] 3 (0, 0)) → base ≤ kb → W'.ownsRow base 3 1 (.slice ka kn kc) ks.length (intVs ks) := by
  have hc : ∀ j, W.cell? ⟨cb, j, none⟩ = _ := fun j => cell_of_block hC j
  have hN : ∀ (W' : World) (base : Nat), W'.ownsRow base 3 1 (.slice none 0 0) 0 [] := fun _ _ => ⟨rfl, .inl ⟨rfl, rfl⟩⟩
  have h4 : n = 0 ∨ n = 1 ∨ n = 2 ∨ n = 3 := by omega
  rcases h4 with rfl | rfl | rfl | rfl
  · exact ⟨0, v, 0, [], none, 0, 0, (hc 0).trans rfl, (hc 1).trans rfl, (hc 2).trans rfl, (hc 3).trans rfl, by omega, hv, by omega, ⟨0, by omega, rfl⟩, fun W' base _ _ => hN W' base⟩
  · exact ⟨1, 0, 0, [], none, 0, 0, (hc 4).trans rfl, (hc 5).trans rfl, (hc 6).trans rfl, (hc 7).trans rfl, by omega, by omega, by omega, ⟨0, by omega, rfl⟩, fun W' base _ _ => hN W' base⟩
  · exact ⟨2, 0, 0, [a, b], _, 2, 2, (hc 8).trans rfl, (hc 9).trans rfl, (hc 10).trans rfl, (hc 11).trans rfl, by omega, by omega, by omega, ⟨2, by omega, rfl⟩, fun W' base h1 h2 => own_two h1 h2 (by omega) _ rfl⟩
  · exact ⟨3, 2, p, [a], _, 1, 2, (hc 12).trans rfl, (hc 13).trans rfl, (hc 14).trans rfl, (hc 15).trans rfl, by omega, by omega, hp, ⟨1, by omega, rfl⟩, fun W' base h1 h2 => own_two h1 h2 (by omega) _ rfl⟩
theorem two_sm {a b : Int} {n : Nat} (h1 : 0 ≤ a ∧ a ≤ 9) (h2 : 0 ≤ b ∧ b ≤ 9) : ([a, b].take n).length ≤ 2 ∧ ∀ z ∈ [a, b].take n, -1 ≤ z ∧ z ≤ 9 := by
  refine ⟨by simp; omega, fun z hz => ?_⟩
  have := List.mem_of_mem_take hz
  simp only [List.mem_cons, List.not_mem_nil, or_false] at this
  rcases this with rfl | rfl <;> omega

def kidsLen (mb : Nat) (W : World) : Nat := match W.cell? ⟨mb, 8, none⟩ with
  | some (.slice _ n _) => n
  | _ => 0
theorem MsDr.klen {B g : Nat} {V : Value} {len : Nat} {w W : World} {mb : Nat} {m : Ms} {kv : Value} (h : MsDr B g V len w W mb m kv) : kidsLen mb W = m.cell.kids.length := by
  obtain ⟨a, c, rfl⟩ := own_form h.own
  unfold kidsLen
  rw [h.cells 8 (.slice a m.cell.kids.length c) rfl]
theorem own_more {W : World} {base : Nat} {v : Value} {ks : List Int} {t : Int} {n : Nat} (h : W.ownsRow base 3 1 v n (intVs ks ++ [.int .i64 t])) (hn : n = ks.length + 1) : W.ownsRow base 3 1 v (ks ++ [t]).length (intVs (ks ++ [t])) := by
  rw [List.length_append]
  unfold intVs
  rw [List.map_append, List.length_singleton, ← hn]
  exact h
theorem kids_more {ks : List Int} {t : Int} (h : ∀ z ∈ ks, -1 ≤ z ∧ z ≤ 9) (hl : ks.length ≤ 2) (ht : -1 ≤ t ∧ t ≤ 1) : (ks ++ [t]).length ≤ 101 ∧ ∀ z ∈ ks ++ [t], -1 ≤ z ∧ z ≤ 9 := by
  refine ⟨by simp; omega, fun z hz => ?_⟩
  rcases List.mem_append.1 hz with h1 | h1
  · exact h z h1
  · rw [List.mem_singleton] at h1; omega
theorem vs_one (zs : List Int) : ∀ u ∈ intVs zs, u.oneCell' = true := by
  intro u hu
  obtain ⟨z, _, rfl⟩ := List.mem_map.1 hu
  rfl
theorem ks_sm {a b : Int} {ks : List Int} (h : ∃ t, t ≤ 2 ∧ ks = [a, b].take t) (h1 : 0 ≤ a ∧ a ≤ 9) (h2 : 0 ≤ b ∧ b ≤ 9) : ks.length ≤ 2 ∧ ∀ z ∈ ks, -1 ≤ z ∧ z ≤ 9 := by
  obtain ⟨t, _, rfl⟩ := h
  exact two_sm h1 h2


set_option maxHeartbeats 1600000 in
theorem l07Msg_dr (B g : Nat) (V : Value) (len : Nat) (w : World) (h : Dr B w g V len) :
    Calls Tryz.prog 26 #[.pointer (some ⟨g, 0, none⟩)] w fun e w' => ∃ (v : Value) (m : Ms), e = .returned v ∧ MsAt w' (fun b => w.heap.size ≤ b) v m ∧ m.cell.kids.length ≤ 101 ∧ Dr B w' g V len ∧ w.grownBy w' (some g) := by
  obtain ⟨i0', hi', hz0', hz1', hz2'⟩ := info_parts infoCdI
  have hgl := h.glt
  have HD := (show Hid (_ ∧ True) from ⟨h, trivial⟩)
  clear h
  go_enter Tryz.func26, Tryz.ntmps26
  go_wp2_with fail
  refine (below_dr B g V len 4 _ (by omega) (by omega) (HD.out.1.alloc _)).mono ?_
  rintro e w1 ⟨x, rfl, x0, x1, h1, g1⟩
  have hr1 := (g1.block w.heap.size (by simp) (fun e => by have := Option.some.inj e; omega)).trans (MapKept.heap_alloc w _).1
  have G1 := (World.grownBy_alloc w _ (some g)).trans g1
  have H1 := (show Hid (_ ∧ _ ∧ _) from ⟨h1, G1, hr1⟩)
  clear h1 G1 hr1 g1 HD
  go_wp2_with fail
  refine (below_dr B g V len 2 _ (by omega) (by omega) H1.out.1).mono ?_
  rintro e w2 ⟨y, rfl, y0, y1, h2, g2⟩
  have H2 := (show Hid (_ ∧ _ ∧ _) from ⟨h2, H1.out.2.1.trans g2, (g2.block w.heap.size (Array.getElem?_eq_some_iff.1 H1.out.2.2).1 (fun e => by have := Option.some.inj e; omega)).trans H1.out.2.2⟩)
  clear h2 g2 H1
  go_wp2_with fail
  refine (below_dr B g V len 2 _ (by omega) (by omega) H2.out.1).mono ?_
  rintro e w3 ⟨z, rfl, z0, z1, h3, g3⟩
  have H3 := (show Hid (_ ∧ _ ∧ _) from ⟨h3, H2.out.2.1.trans g3, (g3.block w.heap.size (Array.getElem?_eq_some_iff.1 H2.out.2.2).1 (fun e => by have := Option.some.inj e; omega)).trans H2.out.2.2⟩)
  clear h3 g3 H2
  have M3 : MsDr B g V len w (w3.alloc (.cells #[.int .i64 x, .int .i64 y, .int .i64 (2 + z), .int .i64 0, .int .i64 0, .int .i64 0, .int .i64 0, .int .i64 0, .slice none 0 0] 32)) w3.heap.size ⟨x, y, 2 + z, 0, 0, ⟨0, 0, 0, []⟩⟩ (.slice none 0 0) :=
    ⟨H3.out.1.alloc _, H3.out.2.1.trans (World.grownBy_alloc w3 _ (some g)), (MapKept.heap_alloc w3 _).1, (Array.getElem?_eq_some_iff.1 H3.out.2.2).1, (Below.heap_alloc w3 _ _ (Array.getElem?_eq_some_iff.1 H3.out.2.2).1).trans H3.out.2.2, hgl, ⟨rfl, .inl ⟨rfl, rfl⟩⟩,
      ms_sm (by omega) (by omega) (by omega) (by omega) (by omega) (by omega) (by omega) (by omega) no_sm⟩
  have HM3 := (show Hid (_ ∧ True) from ⟨M3, trivial⟩)
  clear M3 H3
  go_upto_if 15 with fail
  generalize w3.alloc (.cells #[.int .i64 x, .int .i64 y, .int .i64 (2 + z), .int .i64 0, .int .i64 0, .int .i64 0, .int .i64 0, .int .i64 0, .slice none 0 0] 32) = w4 at *
  generalize w3.heap.size = mb at *
  go_cut [] from 5 (fun wc => ∃ i : Int, 0 ≤ i ∧ i ≤ 9 ∧ Hid (MsDr B g V len w wc mb ⟨x, y, 2 + z, i, 0, ⟨0, 0, 0, []⟩⟩ (.slice none 0 0)))
  case first =>
    have c3 := HM3.out.1.cells 3 _ rfl
    have f3 : w4.frozen? ⟨mb, 3, none⟩ = false := unfrozen_of_block HM3.out.1.box 3
    go_wp2_with fail
    · refine (below_dr B g V len 9 _ (by omega) (by omega) HM3.out.1.dr).mono ?_
      rintro e w5 ⟨i, rfl, i0, i1, h5, g5⟩
      have M5 := HM3.out.1.step h5 g5
      clear c3 f3 h5 g5
      have c3 := M5.cells 3 _ rfl
      have f3 : w5.frozen? ⟨mb, 3, none⟩ = false := unfrozen_of_block M5.box 3
      have HM5 := (show Hid (_ ∧ True) from ⟨M5, trivial⟩)
      clear M5
      go_wp2_with fail
      go_meet
      exact ⟨i, i0, by omega, HM5.out.1.put (m' := ⟨x, y, 2 + z, i, 0, ⟨0, 0, 0, []⟩⟩) (Go.Lib.grownBy_setCell w5 mb 3 _) (block_setCell (i := 3) HM5.out.1.box _) HM5.out.1.own (ms_sm (by omega) (by omega) (by omega) (by omega) (by omega) (by omega) (by omega) (by omega) no_sm)⟩
    · go_meet
      exact ⟨0, by omega, by omega, HM3.out.1⟩
  case rest =>
  obtain ⟨i, i0, i1, H5⟩ := hcut
  clear HM3
  go_wp2_with fail
  refine (below_dr B g V len 9 _ (by omega) (by omega) H5.out.dr).mono ?_
  rintro e w6 ⟨a, rfl, a0, a1, h6, g6⟩
  have H6 := (show Hid _ from H5.out.step h6 g6)
  clear h6 g6 H5
  go_wp2_with fail
  refine (below_dr B g V len 9 _ (by omega) (by omega) H6.out.dr).mono ?_
  rintro e w7 ⟨b, rfl, b0, b1, h7, g7⟩
  have H7 := (show Hid _ from (H6.out.step h7 g7).alloc (.cells #[.int .i64 a, .int .i64 b] 3))
  have HK := (show Hid (_ ∧ _) from ⟨(MapKept.heap_alloc w7 (.cells #[.int .i64 a, .int .i64 b] 3)).1, (H6.out.step h7 g7).grown.size⟩)
  clear h7 g7 H6
  have c0 := H7.out.cells 0 _ rfl
  have hkb : w7.heap.size < (w7.alloc (.cells #[.int .i64 a, .int .i64 b] 3)).heap.size := by simp
  go_upto_block 0 with fail
  generalize w7.alloc (.cells #[.int .i64 a, .int .i64 b] 3) = w8 at *
  generalize w7.heap.size = kb at *
  clear c0
  go_cut [] from 5 (fun wc => ∃ (m : Ms) (kv : Value), m.cell.kids.length ≤ 2 ∧ Hid (MsDr B g V len w wc mb m kv))
  case first =>
    have hx : x = 0 ∨ x = 1 ∨ x = 2 ∨ x = 3 := by omega
    rcases hx with rfl | rfl | rfl | rfl
    · go_wp2_with fail
      refine (below_dr B g V len 9 _ (by omega) (by omega) H7.out.dr).mono ?_
      rintro e w9 ⟨t, rfl, t0, t1, h9, g9⟩
      have H9 := (show Hid _ from H7.out.step h9 g9)
      clear h9 g9
      have c4 := H9.out.cells 4 _ rfl
      have f4 : w9.frozen? ⟨mb, 4, none⟩ = false := unfrozen_of_block H9.out.box 4
      go_wp2_with fail
      go_meet
      exact ⟨⟨0, y, 2 + z, i, t, ⟨0, 0, 0, []⟩⟩, _, by simp, H9.out.put (m' := ⟨0, y, 2 + z, i, t, ⟨0, 0, 0, []⟩⟩) (Go.Lib.grownBy_setCell w9 mb 4 _) (block_setCell (i := 4) H9.out.box _) H9.out.own (ms_sm (by omega) (by omega) (by omega) (by omega) (by omega) (by omega) (by omega) (by omega) no_sm)⟩
    · go_wp2_with fail
      have hgw : g < w8.heap.size := by have := HK.out.2; omega
      have A8 := (show Hid (_ ∧ _) from ⟨(H7.out.alloc (.cells #[.int .i64 5, .int .i64 (-1), .int .i64 9223372036854775807] 3)).drew, (Below.heap_alloc w8 (.cells #[.int .i64 5, .int .i64 (-1), .int .i64 9223372036854775807] 3) kb hkb).trans HK.out.1⟩)
      go_region_with (first
        | (go_at_call 41; refine (pickInt_dr B g V len w8.heap.size 3 3 [5, -1, 9223372036854775807] (w8.alloc (.cells #[.int .i64 5, .int .i64 (-1), .int .i64 9223372036854775807] 3)).drew (by decide) (by decide) rfl (by omega) (fun j z hj => ints_lit [5, -1, 9223372036854775807] w8 j z hj) A8.out.1.dr).mono ?_; rintro e w9 ⟨v9, rfl, hv9, h9, g9⟩; have hb9 : -9223372036854775808 ≤ v9 ∧ v9 ≤ 9223372036854775807 := (by simp at hv9; omega); clear hv9; have H9 := (show Hid (_ ∧ _) from ⟨A8.out.1.step h9 g9, (g9.block kb (Nat.lt_succ_of_lt hkb |> fun h => by simpa using h) (fun e => by have := Option.some.inj e; have := HK.out.2; omega)).trans A8.out.2⟩); clear h9 g9 A8)
        | (go_at_call 40; refine (below_dr B g V len 9 _ (by omega) (by omega) H9.out.1.dr).mono ?_; rintro e w10 ⟨p, rfl, p0, p1, h10, g10⟩; have H10 := (show Hid (_ ∧ _) from ⟨H9.out.1.step h10 g10, (g10.block kb (Array.getElem?_eq_some_iff.1 H9.out.2).1 (fun e => by have := Option.some.inj e; have := HK.out.2; omega)).trans H9.out.2⟩); clear h10 g10 H9)
        | (go_at_call 40; refine (below_dr B g V len 4 _ (by omega) (by omega) H10.out.1.dr).mono ?_; rintro e w11 ⟨q, rfl, q0, q1, h11, g11⟩; have H11 := (show Hid (_ ∧ _) from ⟨H10.out.1.step h11 g11, (g11.block kb (Array.getElem?_eq_some_iff.1 H10.out.2).1 (fun e => by have := Option.some.inj e; have := HK.out.2; omega)).trans H10.out.2⟩); clear h11 g11 H10; have f5 : w11.frozen? ⟨mb, 5, none⟩ = false := unfrozen_of_block H11.out.1.box 5; have f6 : w11.frozen? ⟨mb, 6, none⟩ = false := unfrozen_of_block H11.out.1.box 6; have f7 : w11.frozen? ⟨mb, 7, none⟩ = false := unfrozen_of_block H11.out.1.box 7; have f8 : w11.frozen? ⟨mb, 8, none⟩ = false := unfrozen_of_block H11.out.1.box 8; have c5 := H11.out.1.cells 5 _ rfl; have c6 := H11.out.1.cells 6 _ rfl; have c7 := H11.out.1.cells 7 _ rfl; have c8 := H11.out.1.cells 8 _ rfl; have hmb := (Array.getElem?_eq_some_iff.1 H11.out.1.box).1; obtain ⟨n, rfl⟩ := Int.eq_ofNat_of_zero_le q0; have C11 := (MapKept.heap_alloc w11 (.cells #[.int .i64 0, .int .i64 v9, .int .i64 0, .slice none 0 0, .int .i64 1, .int .i64 0, .int .i64 0, .slice none 0 0, .int .i64 2, .int .i64 0, .int .i64 0, .slice (some ⟨kb, 0, none⟩) 2 2, .int .i64 3, .int .i64 2, .int .i64 p, .slice (some ⟨kb, 0, none⟩) 1 2] 30)).1; obtain ⟨ck, cn, cp, ks, ka, kn, kc, l0, l1, l2, l3, hck, hcn, hcp, hks, hro⟩ := four_cells a b C11 hb9 ⟨p0, by omega⟩ n (by omega); have HR := (show Hid (_ ∧ _ ∧ _) from ⟨hks, hro, C11⟩); clear hks hro C11)
        | (go_at_call 40; refine (below_dr B g V len 4 _ (by omega) (by omega) (H10.out.1.dr.alloc _)).mono ?_; rintro e w11 ⟨q, rfl, q0, q1, h11, g11⟩; have H11 := (show Hid (_ ∧ _) from ⟨(H10.out.1.alloc _).step h11 g11, (g11.block kb (by have := (Array.getElem?_eq_some_iff.1 H10.out.2).1; simp; omega) (fun e => by have := Option.some.inj e; have := HK.out.2; omega)).trans ((Below.heap_alloc w10 _ kb (Array.getElem?_eq_some_iff.1 H10.out.2).1).trans H10.out.2)⟩); have C11 : w11.heap[w10.heap.size]? = some (.cells #[.int .i64 0, .int .i64 v9, .int .i64 0, .slice none 0 0, .int .i64 1, .int .i64 0, .int .i64 0, .slice none 0 0, .int .i64 2, .int .i64 0, .int .i64 0, .slice (some ⟨kb, 0, none⟩) 2 2, .int .i64 3, .int .i64 2, .int .i64 p, .slice (some ⟨kb, 0, none⟩) 1 2] 30) := (g11.block w10.heap.size (by simp) (fun e => by have := Option.some.inj e; have := (Array.getElem?_eq_some_iff.1 H10.out.2).1; have := HK.out.2; omega)).trans (MapKept.heap_alloc w10 _).1; clear h11 g11 H10; have f5 : w11.frozen? ⟨mb, 5, none⟩ = false := unfrozen_of_block H11.out.1.box 5; have f6 : w11.frozen? ⟨mb, 6, none⟩ = false := unfrozen_of_block H11.out.1.box 6; have f7 : w11.frozen? ⟨mb, 7, none⟩ = false := unfrozen_of_block H11.out.1.box 7; have f8 : w11.frozen? ⟨mb, 8, none⟩ = false := unfrozen_of_block H11.out.1.box 8; have c5 := H11.out.1.cells 5 _ rfl; have c6 := H11.out.1.cells 6 _ rfl; have c7 := H11.out.1.cells 7 _ rfl; have c8 := H11.out.1.cells 8 _ rfl; have hmb := (Array.getElem?_eq_some_iff.1 H11.out.1.box).1; obtain ⟨n, rfl⟩ := Int.eq_ofNat_of_zero_le q0; obtain ⟨ck, cn, cp, ks, ka, kn, kc, l0, l1, l2, l3, hck, hcn, hcp, hks, hro⟩ := four_cells a b C11 hb9 ⟨p0, by omega⟩ n (by omega); have HR := (show Hid (_ ∧ _ ∧ _) from ⟨hks, hro, C11⟩); clear hks hro C11))
      all_goals
        have hk2 := ks_sm HR.out.1 ⟨a0, by omega⟩ ⟨b0, by omega⟩
        go_wp2_with fail
        go_meet
        first
          | exact ⟨⟨1, y, 2 + z, i, 0, ⟨ck, cn, cp, ks⟩⟩, _, hk2.1, H11.out.1.put4 ck cn cp ks _ (HR.out.2.1 w11 _ H11.out.2 HK.out.2) (show MsSm ⟨1, y, 2 + z, i, 0, ⟨ck, cn, cp, ks⟩⟩ from ms_sm (by omega) (by omega) (by omega) (by omega) (by omega) hck hcn hcp ⟨by omega, hk2.2⟩)⟩
          | exact ⟨⟨1, y, 2 + z, i, 0, ⟨ck, cn, cp, ks⟩⟩, _, hk2.1, (H11.out.1.put4 ck cn cp ks _ (HR.out.2.1 w11 _ H11.out.2 HK.out.2) (show MsSm ⟨1, y, 2 + z, i, 0, ⟨ck, cn, cp, ks⟩⟩ from ms_sm (by omega) (by omega) (by omega) (by omega) (by omega) hck hcn hcp ⟨by omega, hk2.2⟩)).alloc _⟩
    · go_wp2_with fail
      go_meet
      exact ⟨_, _, by simp, H7.out⟩
    · go_wp2_with fail
      refine (below_dr B g V len 9 _ (by omega) (by omega) H7.out.dr).mono ?_
      rintro e w9 ⟨p, rfl, p0, p1, h9, g9⟩
      have H9 := (show Hid _ from H7.out.step h9 g9)
      have K9 := (show Hid _ from (g9.block kb hkb (fun e => by have := Option.some.inj e; have := HK.out.2; omega)).trans HK.out.1)
      clear h9 g9
      go_wp2_with fail
      refine (below_dr B g V len 3 _ (by omega) (by omega) H9.out.dr).mono ?_
      rintro e w10 ⟨n, rfl, n0, n1, h10, g10⟩
      have H10 := (show Hid _ from H9.out.step h10 g10)
      have K10 := (show Hid _ from (g10.block kb (Array.getElem?_eq_some_iff.1 K9.out).1 (fun e => by have := Option.some.inj e; have := HK.out.2; omega)).trans K9.out)
      clear h10 g10 H9 K9
      obtain ⟨n, rfl⟩ := Int.eq_ofNat_of_zero_le n0
      have c5 := H10.out.cells 5 _ rfl
      have c6 := H10.out.cells 6 _ rfl
      have c7 := H10.out.cells 7 _ rfl
      have c8 := H10.out.cells 8 _ rfl
      have f5 : w10.frozen? ⟨mb, 5, none⟩ = false := unfrozen_of_block H10.out.box 5
      have f6 : w10.frozen? ⟨mb, 6, none⟩ = false := unfrozen_of_block H10.out.box 6
      have f7 : w10.frozen? ⟨mb, 7, none⟩ = false := unfrozen_of_block H10.out.box 7
      have f8 : w10.frozen? ⟨mb, 8, none⟩ = false := unfrozen_of_block H10.out.box 8
      go_wp2_with fail
      go_meet
      exact ⟨_, _, by simp; omega, H10.out.put4 4 0 p ([a, b].take n) _ (own_two K10.out HK.out.2 (by omega) _ rfl) (show MsSm ⟨3, y, 2 + z, i, 0, ⟨4, 0, p, [a, b].take n⟩⟩ from ms_sm (by omega) (by omega) (by omega) (by omega) (by omega) (by omega) (by omega) (by omega) ⟨Nat.le_trans (two_sm (by omega) (by omega)).1 (by omega), (two_sm (by omega) (by omega)).2⟩)⟩
  case rest =>
  obtain ⟨⟨mk, mf, md, mi, mw, ⟨ck, cn, cp, ks⟩⟩, kv, hk2, H9⟩ := hcut
  clear H7 HK hkb x0 x1 y0 y1 z0 z1 i0 i1 a0 a1 b0 b1
  go_wp2_with fail
  refine (below_dr B g V len 16 _ (by omega) (by omega) H9.out.dr).mono ?_
  rintro e w10 ⟨s, rfl, s0, s1, h10, g10⟩
  have H10 := (show Hid _ from H9.out.step h10 g10)
  clear h10 g10 H9
  go_upto_block 1 with fail
  go_cut [] from 5 (fun wc => ∃ (m : Ms) (kv : Value), Hid (MsDr B g V len w wc mb m kv))
  case first =>
    have hs : s = 0 ∨ s = 1 ∨ s = 2 ∨ s = 3 ∨ s = 4 ∨ 5 ≤ s := by omega
    clear s0
    obtain ⟨ka, kc, rfl⟩ := own_form H10.out.own
    have hsm := H10.out.sm
    rcases hs with rfl | rfl | rfl | rfl | rfl | hs
    · go_wp2_with fail
      refine (below_dr B g V len 6 _ (by omega) (by omega) H10.out.dr).mono ?_
      rintro e w11 ⟨t, rfl, t0, t1, h11, g11⟩
      have H11 := (show Hid _ from H10.out.step h11 g11)
      clear h11 g11
      have c0 := H11.out.cells 0 _ rfl
      have f0 : w11.frozen? ⟨mb, 0, none⟩ = false := unfrozen_of_block H11.out.box 0
      go_wp2_with fail
      go_meet
      exact ⟨⟨t - 1, mf, md, mi, mw, ⟨ck, cn, cp, ks⟩⟩, _, H11.out.put (m' := ⟨t - 1, mf, md, mi, mw, ⟨ck, cn, cp, ks⟩⟩) (Go.Lib.grownBy_setCell w11 mb 0 _) (block_setCell (i := 0) H11.out.box _) H11.out.own (ms_sm (by omega) hsm.frm hsm.dst hsm.id hsm.want hsm.ck hsm.cn hsm.cp hsm.kids)⟩
    · have c1 := H10.out.cells 1 _ rfl
      have hgw : g < w10.heap.size := H10.out.dr.glt
      go_wp2_with fail
      refine (pickInt_dr B g V len _ 4 4 [mf, 30, 31, -1] _ (by decide) (by decide) rfl (by omega) (ints_lit [mf, 30, 31, -1] w10) (H10.out.alloc _).dr).mono ?_
      rintro e w11 ⟨t, rfl, ht, h11, g11⟩
      have H11 := (show Hid _ from (H10.out.alloc _).step h11 g11)
      have hfm := hsm.frm
      have htb : -1 ≤ t ∧ t ≤ 31 := by simp at ht; simp at hfm; omega
      clear h11 g11 ht c1 hfm
      have c2 := H11.out.cells 2 _ rfl
      have f2 : w11.frozen? ⟨mb, 2, none⟩ = false := unfrozen_of_block H11.out.box 2
      go_wp2_with fail
      go_meet
      exact ⟨⟨mk, mf, t, mi, mw, ⟨ck, cn, cp, ks⟩⟩, _, H11.out.put (m' := ⟨mk, mf, t, mi, mw, ⟨ck, cn, cp, ks⟩⟩) (Go.Lib.grownBy_setCell w11 mb 2 _) (block_setCell (i := 2) H11.out.box _) H11.out.own (ms_sm hsm.kind hsm.frm htb hsm.id hsm.want hsm.ck hsm.cn hsm.cp hsm.kids)⟩
    · have hgw : g < w10.heap.size := H10.out.dr.glt
      go_wp2_with fail
      refine (pickInt_dr B g V len _ 3 3 [-1, 999999, 1000000] _ (by decide) (by decide) rfl (by omega) (ints_lit [-1, 999999, 1000000] w10) (H10.out.alloc _).dr).mono ?_
      rintro e w11 ⟨t, rfl, ht, h11, g11⟩
      have H11 := (show Hid _ from (H10.out.alloc _).step h11 g11)
      have htb : -1 ≤ t ∧ t ≤ 1000000 := by simp at ht; omega
      clear h11 g11 ht
      have c3 := H11.out.cells 3 _ rfl
      have f3 : w11.frozen? ⟨mb, 3, none⟩ = false := unfrozen_of_block H11.out.box 3
      go_wp2_with fail
      go_meet
      exact ⟨⟨mk, mf, md, t, mw, ⟨ck, cn, cp, ks⟩⟩, _, H11.out.put (m' := ⟨mk, mf, md, t, mw, ⟨ck, cn, cp, ks⟩⟩) (Go.Lib.grownBy_setCell w11 mb 3 _) (block_setCell (i := 3) H11.out.box _) H11.out.own (ms_sm hsm.kind hsm.frm hsm.dst htb hsm.want hsm.ck hsm.cn hsm.cp hsm.kids)⟩
    · have hmb := (Array.getElem?_eq_some_iff.1 H10.out.box).1
      have hgw : g < w10.heap.size := H10.out.dr.glt
      have c8 := H10.out.cells 8 _ rfl
      have E0 := irow_empty w10 w10.heap.size (Nat.le_refl _)
      have HE := (show Hid (_ ∧ _) from ⟨E0, H10.out.own⟩)
      clear E0
      rcases H10.out.own.2 with ⟨hv, hn⟩ | ⟨q, cap, cur, hv, hq1, hq2, hq3, hq4, hq5, hq6⟩
      · obtain rfl : ks = [] := List.length_eq_zero_iff.1 hn
        cases hv
        have hL : ∀ (j : Nat) (z : Int), [(-1 : Int), 1][j]? = some z → ((w10.alloc (.cells #[] 3)).alloc (.cells #[.int .i64 (-1), .int .i64 1] 3)).cell? ⟨w10.heap.size + 1, j, none⟩ = some (.int .i64 z) := fun j z hj => by
          have h1 := ints_lit [-1, 1] (w10.alloc (.cells #[] 3)) j z hj
          rw [show (w10.alloc (.cells #[] 3)).heap.size = w10.heap.size + 1 by simp] at h1
          exact h1
        have HL := (show Hid (_ ∧ _ ∧ _) from ⟨(H10.out.alloc (.cells #[] 3)).alloc (.cells #[.int .i64 (-1), .int .i64 1] 3), HE.out.1.alloc (.cells #[.int .i64 (-1), .int .i64 1] 3), hL⟩)
        clear hL
        go_wp2_with (first
          | (at_builtin; refine wpList_append_own_none rfl _ _ 28 rfl w10.heap.size 3 i0' 1 Tryz.underlying28 hi' _ 0 [] rfl HE.out.1 rfl ?_; clear c8)
          | (go_at_call 41; refine (pickInt_dr B g V len (w10.heap.size + 1) 2 2 [-1, 1] ((w10.alloc (.cells #[] 3)).alloc (.cells #[.int .i64 (-1), .int .i64 1] 3)) (by decide) (by decide) rfl (by omega) HL.out.2.2 HL.out.1.dr).mono ?_; rintro e w12 ⟨t, rfl, ht, h12, g12⟩; have HP := (show Hid (_ ∧ _) from ⟨HL.out.1.step h12 g12, own_grown HL.out.2.1 g12 hgw⟩); have htb : -1 ≤ t ∧ t ≤ 1 := (by simp at ht; omega); have hs12 : w10.heap.size ≤ w12.heap.size := (by have := g12.size; simp at this; omega); clear ht h12 g12)
          | (at_builtin; have HQ := (show Hid (_ ∧ _) from ⟨HP.out.1.alloc (.cells #[.int .i64 t] 3), HP.out.2.alloc (.cells #[.int .i64 t] 3)⟩); refine wpList_append_own_at _ rfl _ _ 28 rfl w10.heap.size 3 i0' (.int .i64 0) 1 8 Tryz.underlying28 hi' hz0' hz1' hz2' rfl (by decide) _ 0 _ rfl HQ.out.2 ⟨w12.heap.size, 0, none⟩ 1 1 [.int .i64 t] rfl rfl (cell_one_new _ _ _) (int_one _) (by unfold maxLen; omega) (by omega) (by simp; omega) ?_; intro v3 w13 hown3 hgrow3 hnil3 hat3; have H13 := (show Hid (_ ∧ _) from ⟨HQ.out.1.grew hgrow3 (fun q3 h3 => by have h4 := (own_type HQ.out.2 q3 h3).1; have h5 := (Array.getElem?_eq_some_iff.1 H10.out.res).1; exact ⟨by omega, by omega, fun h7 => by have h8 := (H10.out.klt q3 h7.symm).1; omega⟩), hown3⟩); clear hown3 hgrow3 HP HQ; obtain ⟨a3, c3, rfl⟩ := own_form H13.out.2; have c8 := H13.out.1.cells 8 _ rfl; have f8 : w13.frozen? ⟨mb, 8, none⟩ = false := unfrozen_of_block H13.out.1.box 8))
        go_meet
        exact ⟨_, _, H13.out.1.put8 [t] _ (own_mono H13.out.2 H10.out.grown.size) (kids_more (ks := []) hsm.kids.2 hk2 htb)⟩
      · cases hv
        clear hq1 hq2 hq3 hq4 hq5 hq6
        have HN := (show Hid (_ ∧ (∀ j u, (intVs ks)[j]? = some u → (w10.alloc (.cells #[] 3)).cell? ((⟨q, 0, none⟩ : Addr).add j) = some u)) from ⟨H10.out.alloc (.cells #[] 3), fun j u hj => (HE.out.2.alloc (.cells #[] 3)).cells (g := q) rfl j u hj⟩)
        go_wp2_with (first
          | (at_builtin; refine wpList_append_own_at _ rfl _ _ 28 rfl w10.heap.size 3 i0' (.int .i64 0) 1 8 Tryz.underlying28 hi' hz0' hz1' hz2' rfl (by decide) (.slice (some ⟨w10.heap.size, 0, none⟩) 0 0) 0 _ rfl HE.out.1 ⟨q, 0, none⟩ ks.length _ (intVs ks) rfl (by simp [intVs]) HN.out.2 (vs_one ks) (by unfold maxLen; omega) (by omega) (by simp) ?_; intro v1 w11 hown1 hgrow1 hnil1 hat1; rw [Nat.zero_add, List.nil_append] at hown1; have H11 := (show Hid (_ ∧ _) from ⟨HN.out.1.grew hgrow1 (fun q3 h3 => by have h4 : w10.heap.size = q3 := (by simpa [Value.ownBlock] using h3); have h5 := (Array.getElem?_eq_some_iff.1 H10.out.res).1; exact ⟨by omega, by omega, fun h7 => by have h8 := (H10.out.klt q3 h7.symm).1; omega⟩), hown1⟩); have hg11 : w10.heap.size < w11.heap.size := (by have h9 := hgrow1.size; simp at h9; omega); clear hown1 hgrow1 c8; obtain ⟨a1, c1, rfl⟩ := own_form H11.out.2)
          | (go_at_call 41; refine (pickInt_dr B g V len w11.heap.size 2 2 [-1, 1] _ (by decide) (by decide) rfl (by omega) (ints_lit [-1, 1] w11) (H11.out.1.alloc _).dr).mono ?_; rintro e w12 ⟨t, rfl, ht, h12, g12⟩; have HP := (show Hid (_ ∧ _) from ⟨(H11.out.1.alloc _).step h12 g12, own_grown (H11.out.2.alloc _) g12 hgw⟩); have htb : -1 ≤ t ∧ t ≤ 1 := (by simp at ht; omega); have hs12 : w10.heap.size ≤ w12.heap.size := (by have := g12.size; simp at this; omega); clear ht h12 g12 H11)
          | (at_builtin; have HQ := (show Hid (_ ∧ _) from ⟨HP.out.1.alloc (.cells #[.int .i64 t] 3), HP.out.2.alloc (.cells #[.int .i64 t] 3)⟩); refine wpList_append_own_at _ rfl _ _ 28 rfl w10.heap.size 3 i0' (.int .i64 0) 1 8 Tryz.underlying28 hi' hz0' hz1' hz2' rfl (by decide) _ ks.length _ rfl HQ.out.2 ⟨w12.heap.size, 0, none⟩ 1 1 [.int .i64 t] rfl rfl (cell_one_new _ _ _) (int_one _) (by unfold maxLen; omega) (by omega) (by simp; omega) ?_; intro v3 w13 hown3 hgrow3 hnil3 hat3; have H13 := (show Hid (_ ∧ _) from ⟨HQ.out.1.grew hgrow3 (fun q3 h3 => by have h4 := (own_type HQ.out.2 q3 h3).1; have h5 := (Array.getElem?_eq_some_iff.1 H10.out.res).1; exact ⟨by omega, by omega, fun h7 => by have h8 := (H10.out.klt q3 h7.symm).1; omega⟩), hown3⟩); clear hown3 hgrow3 HP HQ; obtain ⟨a3, c3, rfl⟩ := own_form H13.out.2; have c8 := H13.out.1.cells 8 _ rfl; have f8 : w13.frozen? ⟨mb, 8, none⟩ = false := unfrozen_of_block H13.out.1.box 8))
        go_meet
        exact ⟨_, _, H13.out.1.put8 (ks ++ [t]) _ (own_more (own_mono H13.out.2 H10.out.grown.size) rfl) (kids_more hsm.kids.2 hk2 htb)⟩
    · go_wp2_with fail
      go_loopw [] (fun wr => ∃ (ks : List Int) (kv : Value), Hid (MsDr B g V len w wr mb ⟨mk, mf, md, mi, mw, ⟨ck, cn, cp, ks⟩⟩ kv)) (fun wr => 102 - kidsLen mb wr)
      case atStart => exact ⟨ks, _, H10.out⟩
      case round =>
        obtain ⟨ks, kv, HR⟩ := hrel
        clear H10 hk2 hsm
        obtain ⟨ka, kc, rfl⟩ := own_form HR.out.own
        have c8 := HR.out.cells 8 _ rfl
        go_wp2_with fail
        go_region_with (go_at_call 40; refine (below_dr B g V len 2 _ (by omega) (by omega) HR.out.drew.dr).mono ?_; rintro e wb ⟨t, rfl, t0, t1, hb, gb⟩; have HB := (show Hid _ from HR.out.drew.step hb gb); clear hb gb; have d8 := HB.out.cells 8 _ rfl; have hwr : IntKind.i64.wrap (100 + t) = 100 + t := (by rw [IntKind.wrap_i64]; omega))
        all_goals
          have hks := HB.out.sm.kids.1
          have hsz : w.heap.size ≤ wb.heap.size := HB.out.grown.size
          simp only at hks
          clear c8
          go_wp2_with (at_builtin; have HQ := (show Hid _ from HB.out.alloc (.cells #[.int .i64 1] 3)); refine wpList_append_own_at _ rfl _ _ 28 rfl w.heap.size 3 i0' (.int .i64 0) 1 8 Tryz.underlying28 hi' hz0' hz1' hz2' rfl (by decide) _ ks.length _ rfl HQ.out.own ⟨wb.heap.size, 0, none⟩ 1 1 [.int .i64 1] rfl rfl (cell_one_new _ _ _) (int_one _) (by unfold maxLen; omega) (by omega) (by simp; omega) ?_; intro v3 w13 hown3 hgrow3 hnil3 hat3; have hbx := (hgrow3.block mb (Array.getElem?_eq_some_iff.1 HQ.out.box).1 (fun e => (HQ.out.klt mb e.symm).2.1 rfl)).trans HQ.out.box; have H13 := (show Hid (_ ∧ _ ∧ _) from ⟨hown3, hgrow3, hbx⟩); clear d8; have c8 : w13.cell? ⟨mb, 8, none⟩ = some (.slice ka ks.length kc) := (by rw [cell_of_block hbx]; rfl); have f8 : w13.frozen? ⟨mb, 8, none⟩ = false := unfrozen_of_block hbx 8; clear hown3 hgrow3 hbx; obtain ⟨a3, c3, rfl⟩ := own_form H13.out.1)
          · rename_i hlt
            have hlt' : ks.length ≤ 100 := by omega
            have HF := HQ.out.pushed H13.out.2.1 H13.out.1 hlt' (by omega)
            refine ⟨⟨ks ++ [1], _, HF⟩, ?_⟩
            rw [HF.klen, HR.out.klen]
            simp
            omega
          · go_meet
            exact ⟨_, _, HB.out⟩
    · have n0 : (s == 0) = false := by simp; omega
      have n1 : (s == 1) = false := by simp; omega
      have n2 : (s == 2) = false := by simp; omega
      have n3 : (s == 3) = false := by simp; omega
      have n4 : (s == 4) = false := by simp; omega
      go_wp2_with fail
      go_meet
      exact ⟨_, _, H10.out⟩
  case rest =>
  obtain ⟨m, kv, H11⟩ := hcut
  clear H10
  obtain ⟨ka, kc, rfl⟩ := own_form H11.out.own
  obtain ⟨mk, mf, md, mi, mw, ⟨ck, cn, cp, ks⟩⟩ := m
  have c0 := H11.out.cells 0 _ rfl
  have c1 := H11.out.cells 1 _ rfl
  have c2 := H11.out.cells 2 _ rfl
  have c3 := H11.out.cells 3 _ rfl
  have c4 := H11.out.cells 4 _ rfl
  have c5 := H11.out.cells 5 _ rfl
  have c6 := H11.out.cells 6 _ rfl
  have c7 := H11.out.cells 7 _ rfl
  have c8 := H11.out.cells 8 _ rfl
  have z0 : wc.cell? ⟨w.heap.size, 0, none⟩ = some (.int .i64 0) := by rw [cell_of_block H11.out.res]; rfl
  have f0 : wc.frozen? ⟨w.heap.size, 0, none⟩ = false := unfrozen_of_block H11.out.res 0
  have z1 : wc.cell? ⟨w.heap.size, 1, none⟩ = some (.int .i64 0) := by rw [cell_of_block H11.out.res]; rfl
  have f1 : wc.frozen? ⟨w.heap.size, 1, none⟩ = false := unfrozen_of_block H11.out.res 1
  have z2 : wc.cell? ⟨w.heap.size, 2, none⟩ = some (.int .i64 0) := by rw [cell_of_block H11.out.res]; rfl
  have f2 : wc.frozen? ⟨w.heap.size, 2, none⟩ = false := unfrozen_of_block H11.out.res 2
  have z3 : wc.cell? ⟨w.heap.size, 3, none⟩ = some (.int .i64 0) := by rw [cell_of_block H11.out.res]; rfl
  have f3 : wc.frozen? ⟨w.heap.size, 3, none⟩ = false := unfrozen_of_block H11.out.res 3
  have z4 : wc.cell? ⟨w.heap.size, 4, none⟩ = some (.int .i64 0) := by rw [cell_of_block H11.out.res]; rfl
  have f4 : wc.frozen? ⟨w.heap.size, 4, none⟩ = false := unfrozen_of_block H11.out.res 4
  have z5 : wc.cell? ⟨w.heap.size, 5, none⟩ = some (.int .i64 0) := by rw [cell_of_block H11.out.res]; rfl
  have f5 : wc.frozen? ⟨w.heap.size, 5, none⟩ = false := unfrozen_of_block H11.out.res 5
  have z6 : wc.cell? ⟨w.heap.size, 6, none⟩ = some (.int .i64 0) := by rw [cell_of_block H11.out.res]; rfl
  have f6 : wc.frozen? ⟨w.heap.size, 6, none⟩ = false := unfrozen_of_block H11.out.res 6
  have z7 : wc.cell? ⟨w.heap.size, 7, none⟩ = some (.int .i64 0) := by rw [cell_of_block H11.out.res]; rfl
  have f7 : wc.frozen? ⟨w.heap.size, 7, none⟩ = false := unfrozen_of_block H11.out.res 7
  have z8 : wc.cell? ⟨w.heap.size, 8, none⟩ = some (.slice none 0 0) := by rw [cell_of_block H11.out.res]; rfl
  have f8 : wc.frozen? ⟨w.heap.size, 8, none⟩ = false := unfrozen_of_block H11.out.res 8
  have hne := H11.out.new
  go_wp2_with fail
  refine bodyPost_ret (v := .agg #[.int .i64 mk, .int .i64 mf, .int .i64 md, .int .i64 mi, .int .i64 mw, .int .i64 ck, .int .i64 cn, .int .i64 cp, .slice ka ks.length kc]) (by simp [results, Tryz.results26, go_sem, z0, z1, z2, z3, z4, z5, z6, z7, z8]) rfl ⟨_, rfl, ⟨mk, mf, md, mi, mw, ⟨ck, cn, cp, ks⟩⟩, H11.out.fin (grown9 _ _ _ _ _ _ _ _ _ _ _)⟩
end Go.Proofs.YtlbinamlehapoaaGreatDoor
