/-
  The specification's draws: a cursor over the bytes of a code; whatever is drawn is in its range, the cursor stays a cursor, and nothing else that was there has turned.
  What stays as it is while a code's cursor goes on: rows of the call's own, and the cursor itself where other memory is written.
  The specification's draws of spoilt texts: whatever is drawn is a short text, and the cursor stays a cursor.
-/
import Derived.Test.YtkfmkhhjkioeoaaGreatDoorRows
import Derived.WalkKit
import Derived.RegionTactic
import Derived.Deep.QuietTactic
import Derived.BigQuiet
import Derived.Laws.BitsLemmas
import Derived.Maps.AppendAt
import Derived.Maps.Range
import Derived.Lib.SmallJoins
import Derived.Lib.BufferOwn
import Derived.Test.YtkfmkhhjkioeoaaGreatDoorMD
import Derived.Test.YtkfmkhhjkioeoaaGreatDoorME
namespace Go.Proofs.YtkfmkhhjkioeoaaGreatDoor
open Go.RowKit Go.Joins

set_option maxRecDepth 100000

theorem and255 (n : Int) : bits .and .i64 n 255 = n % 256 := by
  have h : (BitVec.ofInt 64 255).toNat = 2 ^ 8 - 1 := by decide
  have key : (BitVec.ofInt 64 n &&& BitVec.ofInt 64 255).toNat = (n % ((2 ^ 64 : Nat) : Int)).toNat % 2 ^ 8 := by
    rw [BitVec.toNat_and, BitVec.toNat_ofInt, h, Nat.and_two_pow_sub_one_eq_mod]
  show IntKind.i64.wrap ((BitVec.ofInt 64 n &&& BitVec.ofInt 64 255).toNat : Nat) = n % 256
  rw [key, IntKind.wrap_i64]
  omega

/-- The bytes of a code lie below B. -/
def CodeIs (B : Nat) (w : World) (V : Value) (len : Nat) : Prop :=
  ∃ a cap, V = .slice a len cap ∧ len ≤ 1048576 ∧ (0 < len → ∃ b off, a = some ⟨b, off, none⟩ ∧ b < B ∧ ∀ j, j < len → ∃ z : Int, 0 ≤ z ∧ z ≤ 255 ∧ w.cell? ⟨b, off + j, none⟩ = some (.int .u8 z))
/-- A cursor over a code. -/
def Cur (B : Nat) (w : World) (g : Nat) (V : Value) (len : Nat) : Prop :=
  B ≤ g ∧ ∃ i h : Int, 0 ≤ i ∧ i ≤ len ∧ w.heap[g]? = some (.cells #[V, .int .i64 i, .int .i64 h] 96)

theorem CodeIs.kept {B : Nat} {w w' : World} {V : Value} {len : Nat} (h : CodeIs B w V len) (hb : ∀ k, k < B → w'.heap[k]? = w.heap[k]?) : CodeIs B w' V len := by
  obtain ⟨a, cap, hv, hl, hc⟩ := h
  refine ⟨a, cap, hv, hl, fun h0 => ?_⟩
  obtain ⟨b, off, ha, hb1, hcell⟩ := hc h0
  refine ⟨b, off, ha, hb1, fun j hj => ?_⟩
  obtain ⟨z, h1, h2, h3⟩ := hcell j hj
  exact ⟨z, h1, h2, (World.cell?_of_block (hb b hb1)).trans h3⟩
theorem CodeIs.grown {B : Nat} {w w' : World} {V : Value} {len g : Nat} (h : CodeIs B w V len) (hg : w.grownBy w' (some g)) (hB : B ≤ g) (hBw : B ≤ w.heap.size) : CodeIs B w' V len :=
  h.kept (fun k hk => hg.block k (by omega) (fun e => by cases e; omega))
theorem Cur.below {B B' : Nat} {w w' : World} {g : Nat} {V : Value} {len : Nat} (h : Cur B w g V len) (hb : Below B' w w') (hB : w.heap.size ≤ B') : Cur B w' g V len := by
  obtain ⟨h0, i, hh, h1, h2, h3⟩ := h
  exact ⟨h0, i, hh, h1, h2, (hb.block g (Nat.lt_of_lt_of_le (Array.getElem?_eq_some_iff.1 h3).1 hB)).trans h3⟩
theorem Cur.lt {B : Nat} {w : World} {g : Nat} {V : Value} {len : Nat} (h : Cur B w g V len) : g < w.heap.size := by
  obtain ⟨_, i, hh, _, _, h3⟩ := h
  exact (Array.getElem?_eq_some_iff.1 h3).1

theorem grown_drewN {w : World} {n : Nat} {row : Option Nat} : w.grownBy (w.drewN n) row := ⟨rfl, rfl, rfl, Nat.le_refl _, fun _ _ _ => rfl⟩

set_option maxHeartbeats 1600000 in
theorem byte_any (B g : Nat) (V : Value) (len : Nat) (w : World) (hcode : CodeIs B w V len) (hcur : Cur B w g V len) :
    Calls Tryz.prog 74 #[.pointer (some ⟨g, 0, none⟩)] w fun e w' => ∃ x : Int, e = .returned (.int .i64 x) ∧ 0 ≤ x ∧ x ≤ 255 ∧ Cur B w' g V len ∧ w.grownBy w' (some g) := by
  obtain ⟨a, cap, rfl, hlen, hcells⟩ := hcode
  obtain ⟨hBg, i, h, hi0, hi1, hg⟩ := hcur
  have c0 : w.cell? ⟨g, 0, none⟩ = some (.slice a len cap) := by rw [cell_of_block hg]; rfl
  have c1 : w.cell? ⟨g, 1, none⟩ = some (.int .i64 i) := by rw [cell_of_block hg]; rfl
  have c2 : w.cell? ⟨g, 2, none⟩ = some (.int .i64 h) := by rw [cell_of_block hg]; rfl
  have f1 : w.frozen? ⟨g, 1, none⟩ = false := unfrozen_of_block hg 1
  have f2 : w.frozen? ⟨g, 2, none⟩ = false := unfrozen_of_block hg 2
  have HG : Hid (w.heap[g]? = some (.cells #[.slice a len cap, .int .i64 i, .int .i64 h] 96)) := hg
  clear hg
  by_cases hlt : i < len
  · obtain ⟨k, rfl⟩ := Int.eq_ofNat_of_zero_le hi0
    obtain ⟨b, off, rfl, hbB, hcell⟩ := hcells (by omega)
    obtain ⟨z, z0, z1, hz⟩ := hcell k (by omega)
    clear hcell hcells
    go_enter Tryz.func74, Tryz.ntmps74
    go_wp2
    have hB2 := block_setCell (i := 2) HG.out (.int .i64 (wrap64 (wrap64 (h * 6364136223846793005) + 1442695040888963407)))
    have hG2 : w.grownBy (w.setCell ⟨g, 2, none⟩ (.int .i64 (wrap64 (wrap64 (h * 6364136223846793005) + 1442695040888963407)))) (some g) := Go.Lib.grownBy_setCell w g 2 _
    have hz2 : (w.setCell ⟨g, 2, none⟩ (.int .i64 (wrap64 (wrap64 (h * 6364136223846793005) + 1442695040888963407)))).cell? ⟨b, off + k, none⟩ = some (.int .u8 z) := (World.cell?_setCell_other _ _ _ _ (fun e => by have := congrArg Addr.block e; simp at this; omega)).trans hz
    generalize w.setCell ⟨g, 2, none⟩ (.int .i64 (wrap64 (wrap64 (h * 6364136223846793005) + 1442695040888963407))) = w2 at *
    generalize wrap64 (wrap64 (h * 6364136223846793005) + 1442695040888963407) = h2 at *
    have HB2 : Hid (w2.heap[g]? = some (.cells #[.slice (some ⟨b, off, none⟩) len cap, .int .i64 k, .int .i64 h2] 96)) := hB2
    clear hB2 c0 c1 c2 f1 f2 hz
    have c0 : w2.cell? ⟨g, 0, none⟩ = some (.slice (some ⟨b, off, none⟩) len cap) := by rw [cell_of_block HB2.out]; rfl
    have c1 : w2.cell? ⟨g, 1, none⟩ = some (.int .i64 k) := by rw [cell_of_block HB2.out]; rfl
    have c2 : w2.cell? ⟨g, 2, none⟩ = some (.int .i64 h2) := by rw [cell_of_block HB2.out]; rfl
    have f1 : w2.frozen? ⟨g, 1, none⟩ = false := unfrozen_of_block HB2.out 1
    go_quiet (fail)
    go_wp2
    go_quiet (fail)
    go_wp2
    go_quiet (fail)
    go_wp2
    go_ret
    refine ⟨_, rfl, by rw [and255]; omega, by rw [and255]; omega, ⟨hBg, (k : Int) + 1, h2, by omega, by omega, block_setCell (i := 1) HB2.out _⟩, hG2.trans (grown_drewN.trans (Go.Lib.grownBy_setCell _ g 1 _))⟩
  · go_enter Tryz.func74, Tryz.ntmps74
    clear hcells
    go_wp2
    have hB2 := block_setCell (i := 2) HG.out (.int .i64 (wrap64 (wrap64 (h * 6364136223846793005) + 1442695040888963407)))
    have hG2 : w.grownBy (w.setCell ⟨g, 2, none⟩ (.int .i64 (wrap64 (wrap64 (h * 6364136223846793005) + 1442695040888963407)))) (some g) := Go.Lib.grownBy_setCell w g 2 _
    generalize w.setCell ⟨g, 2, none⟩ (.int .i64 (wrap64 (wrap64 (h * 6364136223846793005) + 1442695040888963407))) = w2 at *
    generalize wrap64 (wrap64 (h * 6364136223846793005) + 1442695040888963407) = h2 at *
    have HB2 : Hid (w2.heap[g]? = some (.cells #[.slice a len cap, .int .i64 i, .int .i64 h2] 96)) := hB2
    clear hB2 c0 c1 c2 f1 f2
    have c0 : w2.cell? ⟨g, 0, none⟩ = some (.slice a len cap) := by rw [cell_of_block HB2.out]; rfl
    have c1 : w2.cell? ⟨g, 1, none⟩ = some (.int .i64 i) := by rw [cell_of_block HB2.out]; rfl
    have c2 : w2.cell? ⟨g, 2, none⟩ = some (.int .i64 h2) := by rw [cell_of_block HB2.out]; rfl
    go_quiet (fail)
    go_wp2
    go_quiet (fail)
    go_wp2
    go_ret
    refine ⟨_, rfl, by rw [and255]; omega, by rw [and255]; omega, ⟨hBg, i, h2, by omega, by omega, HB2.out⟩, hG2.trans (grown_drewN.trans grown_drewN)⟩

/-- What a draw leaves: the code's bytes and the cursor. -/
def Dr (B : Nat) (w : World) (g : Nat) (V : Value) (len : Nat) : Prop := CodeIs B w V len ∧ Cur B w g V len ∧ B ≤ w.heap.size

theorem Dr.step {B : Nat} {w w' : World} {g : Nat} {V : Value} {len : Nat} (h : Dr B w g V len) (hc : Cur B w' g V len) (hg : w.grownBy w' (some g)) : Dr B w' g V len :=
  ⟨h.1.grown hg h.2.1.1 h.2.2, hc, Nat.le_trans h.2.2 hg.size⟩
theorem Dr.below {B : Nat} {w w' : World} {g : Nat} {V : Value} {len : Nat} (h : Dr B w g V len) (hb : Below w.heap.size w w') : Dr B w' g V len :=
  ⟨h.1.kept (fun k hk => hb.block k (Nat.lt_of_lt_of_le hk h.2.2)), h.2.1.below hb (Nat.le_refl _), Nat.le_trans h.2.2 hb.size⟩
theorem Dr.alloc {B : Nat} {w : World} {g : Nat} {V : Value} {len : Nat} (h : Dr B w g V len) (o : Obj) : Dr B (w.alloc o) g V len := h.below ((Below.refl _ w).alloc (Nat.le_refl _) o)

theorem byte_dr (B g : Nat) (V : Value) (len : Nat) (w : World) (h : Dr B w g V len) :
    Calls Tryz.prog 74 #[.pointer (some ⟨g, 0, none⟩)] w fun e w' => ∃ x : Int, e = .returned (.int .i64 x) ∧ 0 ≤ x ∧ x ≤ 255 ∧ Dr B w' g V len ∧ w.grownBy w' (some g) :=
  (byte_any B g V len w h.1 h.2.1).mono fun _ _ ⟨x, he, h0, h1, hc, hg⟩ => ⟨x, he, h0, h1, h.step hc hg, hg⟩

set_option maxHeartbeats 1600000 in
theorem below_dr (B g : Nat) (V : Value) (len : Nat) (n : Int) (w : World) (hn0 : 0 < n) (hn1 : n ≤ 1000000000) (h : Dr B w g V len) :
    Calls Tryz.prog 48 #[.pointer (some ⟨g, 0, none⟩), .int .i64 n] w fun e w' => ∃ x : Int, e = .returned (.int .i64 x) ∧ 0 ≤ x ∧ x < n ∧ Dr B w' g V len ∧ w.grownBy w' (some g) := by
  have hp : ¬ n ≤ 0 := by omega
  by_cases hs : n ≤ 256
  · go_enter Tryz.func48, Tryz.ntmps48
    go_wp2_with fail
    refine (byte_dr B g V len _ h).mono ?_
    rintro e w1 ⟨x, rfl, x0, x1, h1, g1⟩
    have hm0 : 0 ≤ x % n := Int.emod_nonneg _ (by omega)
    have hm1 : x % n < n := Int.emod_lt_of_pos _ hn0
    go_wp2
    go_ret
    exact ⟨_, rfl, hm0, hm1, h1, g1⟩
  · go_enter Tryz.func48, Tryz.ntmps48
    go_wp2_with fail
    refine (byte_dr B g V len _ h).mono ?_
    rintro e w1 ⟨x, rfl, x0, x1, h1, g1⟩
    go_wp2_with fail
    refine (byte_dr B g V len _ h1).mono ?_
    rintro e w2 ⟨y, rfl, y0, y1, h2, g2⟩
    go_wp2_with fail
    refine (byte_dr B g V len _ h2).mono ?_
    rintro e w3 ⟨z, rfl, z0, z1, h3, g3⟩
    go_wp2_with fail
    refine (byte_dr B g V len _ h3).mono ?_
    rintro e w4 ⟨u, rfl, u0, u1, h4, g4⟩
    have hm0 : 0 ≤ (x * 16777216 + y * 65536 + z * 256 + u) % n := Int.emod_nonneg _ (by omega)
    have hm1 : (x * 16777216 + y * 65536 + z * 256 + u) % n < n := Int.emod_lt_of_pos _ hn0
    go_wp2
    go_ret
    exact ⟨_, rfl, hm0, hm1, h4, g1.trans (g2.trans (g3.trans g4))⟩

set_option maxHeartbeats 1600000 in
theorem pickInt_dr (B g : Nat) (V : Value) (len : Nat) (b n cap : Nat) (zs : List Int) (w : World) (hn : 0 < n) (hn1 : n ≤ 1000) (hzs : zs.length = n) (hbg : b ≠ g) (hc : ∀ j z, zs[j]? = some z → w.cell? ⟨b, j, none⟩ = some (.int .i64 z)) (h : Dr B w g V len) :
    Calls Tryz.prog 47 #[.pointer (some ⟨g, 0, none⟩), .slice (some ⟨b, 0, none⟩) n cap] w fun e w' => ∃ z : Int, e = .returned (.int .i64 z) ∧ z ∈ zs ∧ Dr B w' g V len ∧ w.grownBy w' (some g) := by
  have HT : Hid (zs.length = n) := hzs
  clear hzs
  go_enter Tryz.func47, Tryz.ntmps47
  go_wp2_with fail
  refine (below_dr B g V len _ _ (by omega) (by omega) h).mono ?_
  rintro e w1 ⟨x, rfl, x0, x1, h1, g1⟩
  obtain ⟨k, rfl⟩ := Int.eq_ofNat_of_zero_le x0
  have hk : k < zs.length := by have := HT.out; omega
  have hcell1 := g1.cell (hc k zs[k] (List.getElem?_eq_getElem hk)) (fun e => hbg (Option.some.inj e))
  have ht := List.getElem_mem hk
  generalize zs[k] = t at *
  clear hc
  go_wp2
  go_ret
  exact ⟨t, rfl, ht, h1, g1⟩

set_option maxHeartbeats 1600000 in
theorem new_dr (V : Value) (len : Nat) (w : World) (hcode : CodeIs w.heap.size w V len) :
    Calls Tryz.prog 34 #[V] w fun e w' => e = .returned (.pointer (some ⟨w.heap.size, 0, none⟩)) ∧ Dr w.heap.size w' w.heap.size V len ∧ Below w.heap.size w w' := by
  have hcode0 := hcode
  obtain ⟨a, cap, rfl, hlen, hcells⟩ := hcode
  have HC : Hid (CodeIs w.heap.size w (.slice a len cap) len) := hcode0
  clear hcode0
  have fin : ∀ h : Int, Dr w.heap.size (w.alloc (.cells #[.slice a len cap, .int .i64 0, .int .i64 h] 96)) w.heap.size (.slice a len cap) len := fun h =>
    ⟨HC.out.kept (fun k hk => Below.heap_alloc w _ k hk), ⟨Nat.le_refl _, 0, h, by omega, by omega, (MapKept.heap_alloc w _).1⟩, by simp⟩
  have HF : Hid (∀ h : Int, Dr w.heap.size (w.alloc (.cells #[.slice a len cap, .int .i64 0, .int .i64 h] 96)) w.heap.size (.slice a len cap) len) := fin
  clear fin
  go_enter Tryz.func34, Tryz.ntmps34
  go_wp2
  go_loop [3, 4] (fun hv i => ∃ (k : Nat) (h : Int), k ≤ len ∧ i = .int .i64 k ∧ hv = .int .i64 h) (fun _ i => len - (intOf i).toNat)
  case atStart => exact ⟨0, _, Nat.zero_le _, rfl, rfl⟩
  case round =>
    obtain ⟨k, h, hk, rfl, rfl⟩ := hrel
    by_cases hlt : k < len
    · obtain ⟨b, off, rfl, hbB, hcell⟩ := hcells (by omega)
      obtain ⟨z, z0, z1, hz⟩ := hcell k hlt
      have hlt' : ((k : Nat) : Int) < ((len : Nat) : Int) := by omega
      clear hcell hcells
      by_cases h4 : k < 4000
      · have h4' : ((k : Nat) : Int) < 4000 := by omega
        go_wp2
        go_round
        case rel => exact ⟨k + 1, _, by omega, by go_num, rfl⟩
        case measure => simp [intOf]; omega
      · have h4' : ¬ ((k : Nat) : Int) < 4000 := by omega
        go_wp2
        go_ret
        exact ⟨rfl, HF.out _, (Below.refl _ w).alloc (Nat.le_refl _) _⟩
    · clear hcells
      go_wp2
      go_ret
      exact ⟨rfl, HF.out _, (Below.refl _ w).alloc (Nat.le_refl _) _⟩
end Go.Proofs.YtkfmkhhjkioeoaaGreatDoor

namespace Go.Proofs.YtkfmkhhjkioeoaaGreatDoor
open Go.RowKit Go.Joins

set_option maxRecDepth 100000

theorem own_grown {W W' : World} {B n size g : Nat} {e : TypeId} {v : Value} {xs : List Value} (h : W.ownsRow B e size v n xs) (hg : W.grownBy W' (some g)) (hB : g < B) : W'.ownsRow B e size v n xs :=
  own_moved h (fun q hq => hg.block q (own_lt h q hq) (fun he => by have h1 := (own_type h q hq).1; have h2 := Option.some.inj he; omega))
theorem Dr.glt {B : Nat} {w : World} {g : Nat} {V : Value} {len : Nat} (h : Dr B w g V len) : g < w.heap.size := h.2.1.lt
theorem Dr.grownOwn {B : Nat} {w w' : World} {g : Nat} {V : Value} {len : Nat} {row : Option Nat} (h : Dr B w g V len) (hg : w.grownBy w' row) (hr : ∀ q, row = some q → B ≤ q ∧ q ≠ g) : Dr B w' g V len := by
  obtain ⟨h1, ⟨h2, i, hh, h3, h4, h5⟩, h6⟩ := h
  have hlt := (Array.getElem?_eq_some_iff.1 h5).1
  refine ⟨h1.kept (fun k hk => hg.block k (by omega) (fun e => by have := (hr k e.symm).1; omega)), ⟨h2, i, hh, h3, h4, (hg.block g hlt (fun e => (hr g e.symm).2 rfl)).trans h5⟩, Nat.le_trans h6 hg.size⟩
theorem no_kids {w : World} {S : Nat → Prop} : IntsAt w S (.slice none 0 0) [] := ⟨none, 0, rfl, by unfold maxLen; simp, fun i t h => by simp at h⟩
theorem Dr.set {B : Nat} {w : World} {g q off : Nat} {V : Value} {len : Nat} (h : Dr B w g V len) (hq : B ≤ q) (hne : q ≠ g) (u : Value) : Dr B (w.setCell ⟨q, off, none⟩ u) g V len := by
  obtain ⟨h1, ⟨h2, i, hh, h3, h4, h5⟩, h6⟩ := h
  exact ⟨h1.kept (fun k hk => Below.heap_setCell _ _ _ _ (by show k ≠ q; omega)), ⟨h2, i, hh, h3, h4, (Below.heap_setCell _ _ _ _ (by show g ≠ q; omega)).trans h5⟩, by simpa using h6⟩
theorem grown_set {w W : World} {g q off : Nat} (h : w.grownBy W (some g)) (hq : w.heap.size ≤ q) (u : Value) : w.grownBy (W.setCell ⟨q, off, none⟩ u) (some g) :=
  ⟨h.os, h.tape, h.output, by simpa using h.size, fun k hk hne => (Below.heap_setCell _ _ _ _ (by show k ≠ q; omega)).trans (h.block k hk hne)⟩
theorem ints_lit (zs : List Int) (w : World) : ∀ j z, zs[j]? = some z → (w.alloc (.cells (zs.map (fun z => Value.int .i64 z)).toArray 3)).cell? ⟨w.heap.size, j, none⟩ = some (.int .i64 z) := by
  intro j z hj
  rw [cell_of_block (MapKept.heap_alloc w _).1]
  simp [hj]
theorem ow_intsT {w : World} {B : Nat} {v : Value} {zs : List Int} (h : w.ownsRow B 3 1 v zs.length (zs.map (fun z => Value.int .i64 z))) (hz : ∀ z ∈ zs, inI64 z) : IntsAt w (fun b => B ≤ b ∧ ∃ cs, w.heap[b]? = some (.cells cs 3 (0, 0))) v zs := by
  obtain ⟨a, cap, h1, h2, h3⟩ := ow_ints h hz
  refine ⟨a, cap, h1, h2, fun i t ht => ?_⟩
  obtain ⟨b, off, rfl, _, h5, h6, h7⟩ := h3 i t ht
  obtain ⟨q, cap', hv⟩ := own_some h (by have := (List.getElem?_eq_some_iff.1 ht).1; omega)
  have hq := own_type h q (by rw [hv]; rfl)
  rw [hv] at h1
  cases h1
  exact ⟨_, _, rfl, hq, h5, h6, h7⟩
end Go.Proofs.YtkfmkhhjkioeoaaGreatDoor

namespace Go.Proofs.YtkfmkhhjkioeoaaGreatDoor
open Go.RowKit Go.Joins

set_option maxRecDepth 100000

set_option maxHeartbeats 1600000 in
theorem spoil_dr (B g : Nat) (V : Value) (len : Nat) (s : ByteArray) (w : World) (hs : s.size ≤ 100000) (h : Dr B w g V len) :
    Calls Tryz.prog 39 #[.pointer (some ⟨g, 0, none⟩), .string s] w fun e w' => ∃ s' : ByteArray, e = .returned (.string s') ∧ s'.size ≤ s.size + 1 ∧ Dr B w' g V len ∧ w.grownBy w' (some g) := by
  have HD := (show Hid _ from h)
  clear h
  go_enter Tryz.func39, Tryz.ntmps39
  go_wp2_with fail
  refine (below_dr B g V len _ _ (by omega) (by omega) HD.out).mono ?_
  rintro e w1 ⟨i, rfl, i0, i1, h1, g1⟩
  obtain ⟨i, rfl⟩ := Int.eq_ofNat_of_zero_le i0
  have H1 := (show Hid (_ ∧ _) from ⟨h1, g1⟩)
  clear h1 g1 HD
  go_wp2_with fail
  refine (below_dr B g V len 8 _ (by omega) (by omega) H1.out.1).mono ?_
  rintro e w2 ⟨k, rfl, k0, k1, h2, g2⟩
  have H2 := (show Hid (_ ∧ _) from ⟨h2, H1.out.2.trans g2⟩)
  clear h2 g2 H1
  have hk : k = 0 ∨ k = 1 ∨ k = 2 ∨ 3 ≤ k := by omega
  rcases hk with rfl | rfl | rfl | hk
  · go_wp2
    go_ret
    refine ⟨_, rfl, ?_, H2.out.1, H2.out.2⟩
    rw [ByteArray.size_extract]
    omega
  · go_wp2
    go_quiet (fail)
    go_wp2
    go_ret
    refine ⟨_, rfl, ?_, H2.out.1.below (drewN_below (Below.refl _ _) _), H2.out.2.trans grown_drewN⟩
    have e1 : (⟨#[0]⟩ : ByteArray).size = 1 := rfl
    rw [ByteArray.size_append, ByteArray.size_append, ByteArray.size_extract, ByteArray.size_extract, e1]
    omega
  · by_cases hi : i < s.size
    · go_wp2
      go_quiet (fail)
      go_wp2
      go_ret
      refine ⟨_, rfl, ?_, H2.out.1.below (drewN_below (Below.refl _ _) _), H2.out.2.trans grown_drewN⟩
      have e1 : (⟨#[1]⟩ : ByteArray).size = 1 := rfl
      rw [ByteArray.size_append, ByteArray.size_append, ByteArray.size_extract, ByteArray.size_extract, e1]
      omega
    · go_wp2
      go_ret
      exact ⟨_, rfl, by omega, H2.out.1, H2.out.2⟩
  · have n0 : (k == 0) = false := by simp; omega
    have n1 : (k == 1) = false := by simp; omega
    have n2 : (k == 2) = false := by simp; omega
    go_wp2
    go_ret
    exact ⟨_, rfl, by omega, H2.out.1, H2.out.2⟩
end Go.Proofs.YtkfmkhhjkioeoaaGreatDoor
