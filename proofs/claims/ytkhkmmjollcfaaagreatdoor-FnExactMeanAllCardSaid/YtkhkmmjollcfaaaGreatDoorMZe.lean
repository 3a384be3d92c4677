/-
  The marks that the laws write into an answer: the text of a number.
  The laws' marking of a row of numbers, and their look whether the marks still stand.
-/
import Derived.Test.YtkhkmmjollcfaaaGreatDoorRows
import Derived.WalkKit
import Derived.Lib.Strings
import Derived.Test.YtkhkmmjollcfaaaGreatDoorMZd
namespace Go.Proofs.YtkhkmmjollcfaaaGreatDoor
open Go.RowKit

set_option maxRecDepth 100000

def markD : Nat → Nat → List UInt8 → List UInt8
  | 0, _, acc => acc
  | f + 1, n, acc => if n = 0 then acc else markD f (n / 10) (UInt8.ofNat (48 + n % 10) :: acc)
/-- The mark of a number. -/
def markT (k : Int) : ByteArray := if k ≤ 0 then ⟨#[109, 48]⟩ else ⟨(109 :: markD k.toNat k.toNat []).toArray⟩

theorem cat_cons (c : UInt8) (l : List UInt8) : (⟨#[c]⟩ ++ ⟨l.toArray⟩ : ByteArray) = ⟨(c :: l).toArray⟩ := by
  apply ByteArray.ext
  simp [ByteArray.data_append]

theorem mark_conv (w : World) (n : Nat) : (convert 76 9 (.slice (some ⟨w.heap.size, 0, none⟩) 1 1)).run Tryz.prog (w.alloc (.cells #[.int .u8 (48 + (n : Int) % 10)] 5)) = .ok (.string ⟨[UInt8.ofNat (48 + n % 10)].toArray⟩) (w.alloc (.cells #[.int .u8 (48 + (n : Int) % 10)] 5)) := by
  refine run_convert_bytes_back (P := Tryz.prog) _ 76 9 5 ⟨w.heap.size, 0, none⟩ 1 [UInt8.ofNat (48 + n % 10)] Tryz.underlying76 Tryz.underlying5 Tryz.underlying9 ?_
  intro j hj
  obtain rfl : j = 0 := by simpa using hj
  have e : ((UInt8.ofNat (48 + n % 10)).toNat : Int) = 48 + (n : Int) % 10 := by
    simp [UInt8.toNat_ofNat']
    omega
  rw [show ([UInt8.ofNat (48 + n % 10)][0]'hj) = UInt8.ofNat (48 + n % 10) from rfl, e]
  simp [Addr.add]

set_option maxHeartbeats 1600000 in
theorem markText_any (k : Int) (w : World) (h : k ≤ 1000000000) :
    Calls Tryz.prog 43 #[.int .i64 k] w fun e w' => e = .returned (.string (markT k)) ∧ Below w.heap.size w w' := by
  by_cases hp : k ≤ 0
  · have HE : Hid (markT k = ⟨#[109, 48]⟩) := by unfold markT; rw [if_pos hp]; rfl
    go_enter Tryz.func43, Tryz.ntmps43
    go_wp2
    go_ret
    exact ⟨by rw [HE.out]; rfl, Below.refl _ _⟩
  obtain ⟨m, rfl⟩ := Int.eq_ofNat_of_zero_le (show 0 ≤ k by omega)
  have HE : Hid (markT (m : Int) = ⟨(109 :: markD m m []).toArray⟩) := by unfold markT; rw [if_neg hp]; rfl
  go_enter Tryz.func43, Tryz.ntmps43
  go_wp2
  go_loopw [0, 3] (fun v t wr => ∃ (n f : Nat) (acc : List UInt8), v = .int .i64 n ∧ n ≤ m ∧ n ≤ f ∧ t = .string ⟨acc.toArray⟩ ∧ acc.length + n ≤ m ∧ Hid (markD m m [] = markD f n acc) ∧ Below w.heap.size w wr) (fun v _ _ => (intOf v).toNat)
  case atStart => exact ⟨m, m, [], rfl, Nat.le_refl _, Nat.le_refl _, rfl, by simp, rfl, Below.refl _ _⟩
  case round =>
    obtain ⟨n, f, acc, rfl, hnm, hnf, rfl, hacc, hst, hbw⟩ := hrel
    have hsz := hbw.size
    by_cases hz : 0 < n
    · have hz' : (0 : Int) < (n : Int) := by omega
      have hcv := mark_conv wr n
      obtain ⟨g, rfl⟩ : ∃ g, f = g + 1 := ⟨f - 1, by omega⟩
      have hst2 : Hid (markD m m [] = markD g (n / 10) (UInt8.ofNat (48 + n % 10) :: acc)) := by
        have := hst.out
        rw [markD, if_neg (by omega)] at this
        exact this
      generalize UInt8.ofNat (48 + n % 10) = c at hcv hst2
      go_wp2
      refine ⟨⟨n / 10, g, c :: acc, by simp, by omega, by omega, by rw [cat_cons], by simp; omega, hst2, hbw.alloc hsz _⟩, by simp [intOf]; omega⟩
    · have hz' : ¬ (0 : Int) < (n : Int) := by omega
      have HF : Hid (markD m m [] = acc) := by
        obtain rfl : n = 0 := by omega
        rw [hst.out]
        cases f with
        | zero => rfl
        | succ f => rw [markD, if_pos rfl]; rfl
      go_wp2
      go_ret
      exact ⟨by rw [HE.out, HF.out, ← cat_cons]; rfl, hbw⟩
end Go.Proofs.YtkhkmmjollcfaaaGreatDoor

namespace Go.Proofs.YtkhkmmjollcfaaaGreatDoor
open Go.RowKit Go.Joins

set_option maxRecDepth 100000

def marksI (k : Int) (n : Nat) : List Int := (List.range n).map (fun i : Nat => k + (i : Int))
theorem marksI_len (k : Int) (n : Nat) : (marksI k n).length = n := by simp [marksI]
theorem marksI_succ (k : Int) (n : Nat) : marksI k (n + 1) = marksI k n ++ [k + (n : Int)] := by simp [marksI, List.range_succ]
theorem marksI_at (k : Int) (n j : Nat) (h : j < n) : (marksI k n)[j]? = some (k + (j : Int)) := by simp [marksI, h]

theorem row_nil {w : World} {B size n : Nat} {e : TypeId} {v : Value} {xs : List Value} (h : w.ownsRow B e size v n xs) (hn : n = 0) : ∃ a c, v = .slice a 0 c := by
  subst hn
  exact own_form h
theorem set_one (xs : Array Value) (k : Nat) (u : Value) (L : List Value) (hs : k + 1 ≤ xs.size) (ht : xs.toList.take k = L) : (xs.setIfInBounds k u).toList.take (k + 1) = L ++ [u] := by
  obtain ⟨l⟩ := xs
  simp only [List.setIfInBounds_toArray] at *
  have hl : k + 1 ≤ l.length := by simpa using hs
  have hL : L.length = k := by rw [← ht]; simp; omega
  apply List.ext_getElem?
  intro j
  rcases Nat.lt_trichotomy j k with h | h | h
  · rw [List.getElem?_append_left (by omega), ← ht, List.getElem?_take_of_lt (by omega), List.getElem?_take_of_lt (by omega), List.getElem?_set_ne (by omega)]
  · subst h
    rw [List.getElem?_take_of_lt (by omega), List.getElem?_append_right (by omega), hL, Nat.sub_self, List.getElem?_set_self (by omega)]
    rfl
  · rw [List.getElem?_eq_none (by simp; omega), List.getElem?_eq_none (by simp; omega)]

set_option maxHeartbeats 3200000 in
theorem markIntS_any (B : Nat) (v : Value) (n : Nat) (xs : List Value) (k0 : Int) (w : World) (hk0 : 0 ≤ k0) (hk1 : k0 ≤ 100000000) (hn : n ≤ 100000000) (hrow : w.ownsRow B 3 1 v n xs) :
    Calls Tryz.prog 14 #[v, .int .i64 k0] w fun e w' => e = .returned (.int .i64 (k0 + n)) ∧ w'.ownsRow B 3 1 v n (intVs (marksI k0 n)) ∧ w.grownBy w' v.ownBlock := by
  by_cases hz : n = 0
  · subst hz
    obtain ⟨a1, c1, hv⟩ := row_nil hrow rfl
    have hrow' : w.ownsRow B 3 1 v 0 (intVs (marksI k0 0)) := by
      have e1 : xs = [] := List.eq_nil_of_length_eq_zero (by simpa using hrow.1)
      rw [e1] at hrow
      exact hrow
    have HR : Hid (w.ownsRow B 3 1 v 0 (intVs (marksI k0 0))) := hrow'
    clear hrow hrow'
    rw [hv] at HR ⊢
    go_enter Tryz.func14, Tryz.ntmps14
    go_wp2
    refine wp_loop_rounds 1 ?_
    rw [rounds_succ]
    go_wp2
    go_ret
    exact ⟨int_ret (by simp), HR.out, World.grownBy.refl _ _⟩
  rcases hrow.2 with ⟨_, h0⟩ | ⟨g, cap, cur, rfl, hb, hg, hnc, hcm, hcs, htake⟩
  · omega
  have HG : Hid (w.heap[g]? = some (.cells cur 3 (0, 0))) := hg
  clear hg hrow htake
  go_enter Tryz.func14, Tryz.ntmps14
  go_wp2
  go_loopw [1, 5] (fun kv i wr => ∃ k : Nat, k ≤ n ∧ i = .int .i64 k ∧ kv = .int .i64 (k0 + k) ∧ Hid (∃ cur', wr.heap[g]? = some (.cells cur' 3 (0, 0)) ∧ cur'.size = cap * 1 ∧ cur'.toList.take k = intVs (marksI k0 k)) ∧ Hid (w.grownBy wr (some g))) (fun _ i _ => n - (intOf i).toNat)
  case atStart => exact ⟨0, Nat.zero_le _, rfl, by simp, ⟨cur, HG.out, hcs, by simp [marksI]⟩, World.grownBy.refl _ _⟩
  case round =>
    obtain ⟨k, hk, rfl, rfl, ⟨cur', hg', hcs', ht'⟩, hgw⟩ := hrel
    have HC : Hid (wr.heap[g]? = some (.cells cur' 3 (0, 0))) := hg'
    have HT : Hid (cur'.toList.take k = intVs (marksI k0 k)) := ht'
    have HS : Hid (cur'.size = cap * 1) := hcs'
    clear hg' ht' hcs'
    by_cases hlt : k < n
    · have x0 : wr.cell? ⟨g, k, none⟩ = some (cur'[k]'(by have := HS.out; omega)) := by rw [cell_of_block HC.out]; exact Array.getElem?_eq_getElem _
      generalize cur'[k]'(by have := HS.out; omega) = y0 at x0
      have f0 : wr.frozen? ⟨g, k, none⟩ = false := unfrozen_of_block HC.out _
      have hlt' : ((k : Nat) : Int) < ((n : Nat) : Int) := by omega
      go_wp2
      refine ⟨⟨k + 1, by omega, by go_num, int_eqv (by omega), ⟨_, block_setCell HC.out _, by simp only [Array.size_setIfInBounds]; exact HS.out, ?_⟩, hgw.out.trans (Go.Lib.grownBy_setCell _ g _ _)⟩, by simp [intOf]; omega⟩
      rw [marksI_succ]
      unfold intVs
      rw [List.map_append]
      exact set_one cur' k _ _ (by have := HS.out; omega) HT.out
    · obtain rfl : k = n := by omega
      go_wp2
      go_ret
      refine ⟨rfl, ⟨by rw [List.length_map, marksI_len]; omega, .inr ⟨g, cap, cur', rfl, hb, HC.out, hnc, hcm, HS.out, ?_⟩⟩, hgw.out⟩
      rw [Nat.mul_one]
      exact HT.out

set_option maxHeartbeats 3200000 in
theorem heldIntS_any (B : Nat) (v : Value) (n : Nat) (k0 : Int) (w : World) (hk0 : 0 ≤ k0) (hk1 : k0 ≤ 100000000) (hn : n ≤ 100000000) (hrow : w.ownsRow B 3 1 v n (intVs (marksI k0 n))) :
    Calls Tryz.prog 15 #[v, .int .i64 k0] w fun e w' => e = .returned (.int .i64 (k0 + n)) ∧ Below w.heap.size w w' := by
  by_cases hz : n = 0
  · subst hz
    obtain ⟨a1, c1, rfl⟩ := row_nil hrow rfl
    clear hrow
    go_enter Tryz.func15, Tryz.ntmps15
    go_wp2
    refine wp_loop_rounds 1 ?_
    rw [rounds_succ]
    go_wp2
    go_ret
    exact ⟨int_ret (by simp), Below.refl _ _⟩
  obtain ⟨g, cap, rfl⟩ := own_some hrow (by omega)
  have hca : ∀ j, j < n → w.cell? ⟨g, j, none⟩ = some (.int .i64 (k0 + (j : Int))) := fun j hj => by
    have := hrow.cells (g := g) rfl j (.int .i64 (k0 + (j : Int))) (by rw [List.getElem?_map, marksI_at _ _ _ hj]; rfl)
    rw [addr_addI, Nat.zero_add] at this
    exact this
  have hlg := own_lt hrow g rfl
  clear hrow
  go_enter Tryz.func15, Tryz.ntmps15
  go_wp2
  go_loopw [1, 5] (fun kv i wr => ∃ k : Nat, k ≤ n ∧ i = .int .i64 k ∧ kv = .int .i64 (k0 + k) ∧ Below w.heap.size w wr) (fun _ i _ => n - (intOf i).toNat)
  case atStart => exact ⟨0, Nat.zero_le _, rfl, by simp, Below.refl _ _⟩
  case round =>
    obtain ⟨k, hk, rfl, rfl, hbw⟩ := hrel
    by_cases hlt : k < n
    · have a0 := hca k hlt
      rw [← hbw.cell (by exact hlg)] at a0
      have hlt' : ((k : Nat) : Int) < ((n : Nat) : Int) := by omega
      have e0 : (k0 + (k : Int) != k0 + (k : Int)) = false := by simp
      clear hca
      go_wp2
      refine ⟨⟨k + 1, by omega, by go_num, int_eqv (by omega), hbw⟩, by simp [intOf]; omega⟩
    · clear hca
      obtain rfl : k = n := by omega
      go_wp2
      go_ret
      exact ⟨rfl, hbw⟩
end Go.Proofs.YtkhkmmjollcfaaaGreatDoor
