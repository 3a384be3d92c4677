/-
  The specification's look whether a number lies between two.
  The specification's own look through a list of texts, and its IsWord.
  The specification's IsWord answers whether the text is one of the words.
-/
import Derived.Test.YtkhkmmjollcfaaaGreatDoorRows
import Derived.WalkKit
import Derived.Test.YtkhkmmjollcfaaaGreatDoorMD
namespace Go.Proofs.YtkhkmmjollcfaaaGreatDoor
open Go.RowKit

set_option maxRecDepth 100000

def inB (x a b : Int) : Bool := decide (a ≤ x) && decide (x ≤ b)

theorem specIn_any (x a b : Int) (w : World) : Calls Tryz.prog 20 #[.int .i64 x, .int .i64 a, .int .i64 b] w fun e w' => e = .returned (.bool (inB x a b)) ∧ w' = w := by
  unfold inB
  by_cases h1 : a ≤ x
  · have d1 : decide (a ≤ x) = true := by simpa using h1
    go_enter Tryz.func20, Tryz.ntmps20
    go_wp2
    go_ret
    exact ⟨by simp [h1], rfl⟩
  · have d1 : decide (a ≤ x) = false := by simpa using h1
    go_enter Tryz.func20, Tryz.ntmps20
    go_wp2
    go_ret
    exact ⟨by simp, rfl⟩

theorem specIn_is (x a b : Int) (r : Bool) (h : inB x a b = r) (w : World) : Calls Tryz.prog 20 #[.int .i64 x, .int .i64 a, .int .i64 b] w fun e w' => e = .returned (.bool r) ∧ w' = w := by
  rw [← h]; exact specIn_any x a b w
end Go.Proofs.YtkhkmmjollcfaaaGreatDoor

namespace Go.Proofs.YtkhkmmjollcfaaaGreatDoor
open Go.RowKit Go.Maps Go.Joins Go.WideMaps

set_option maxRecDepth 100000

/-- Is s among the first k texts? -/
def among (ss : List ByteArray) (s : ByteArray) : Bool := ss.any (fun x => x.toList == s.toList)

theorem among_take_succ (ss : List ByteArray) (s : ByteArray) (k : Nat) (h : k < ss.length) : among (ss.take (k + 1)) s = (among (ss.take k) s || (ss.getD k ByteArray.empty).toList == s.toList) := by
  unfold among
  rw [List.take_succ_eq_append_getElem h, List.any_append]
  simp [List.getD, List.getElem?_eq_getElem h]

theorem among_of_take {ss : List ByteArray} {s : ByteArray} {k : Nat} (h : among (ss.take k) s = true) : among ss s = true := by
  unfold among at *
  rw [List.any_eq_true] at *
  obtain ⟨x, hx, h⟩ := h
  exact ⟨x, List.mem_of_mem_take hx, h⟩

theorem ret_bool {a b : Bool} (h : b = a) : Ending.returned (.bool a) = .returned (.bool b) := by rw [h]

set_option maxHeartbeats 400000 in
theorem has_any (g n cap : Nat) (ss : List ByteArray) (s : ByteArray) (w : World) (hn : n = ss.length) (hm : n ≤ maxLen)
    (hc : ∀ j, j < n → w.cell? ⟨g, j, none⟩ = some (.string (ss.getD j ByteArray.empty))) :
    Calls Tryz.prog 48 #[.slice (some ⟨g, 0, none⟩) n cap, .string s] w fun e w' => e = .returned (.bool (among ss s)) ∧ w' = w := by
  unfold maxLen at hm
  have HN : Hid (n = ss.length) := hn
  clear hn
  go_enter Tryz.func48, Tryz.ntmps48
  go_wp2
  go_loop [5] (fun i => ∃ k : Nat, k ≤ n ∧ i = .int .i64 k ∧ among (ss.take k) s = false) (fun i => n - (intOf i).toNat)
  case atStart => exact ⟨0, Nat.zero_le _, rfl, rfl⟩
  case round =>
    obtain ⟨k, hk, rfl, hno⟩ := hrel
    by_cases hlt : k < n
    · have hck := hc k hlt
      have hst := among_take_succ ss s k (by rw [← HN.out]; exact hlt)
      rw [hno, Bool.false_or] at hst
      have HS : Hid (among (ss.take (k + 1)) s = ((ss.getD k ByteArray.empty).toList == s.toList)) := hst
      clear hst hno hc
      generalize ss.getD k ByteArray.empty = x at hck HS
      cases hx : (x.toList == s.toList)
      · go_wp2
        go_round
        case rel => exact ⟨k + 1, by omega, by go_num, by rw [HS.out]; exact hx⟩
        case measure => simp [intOf]; omega
      · go_wp2
        go_ret
        exact ⟨ret_bool (among_of_take (HS.out.trans hx)), rfl⟩
    · have hno' : among ss s = false := by rw [List.take_of_length_le (by have := HN.out; omega)] at hno; exact hno
      have HF : Hid (among ss s = false) := hno'
      clear hno' hno
      go_wp2
      go_ret
      exact ⟨ret_bool HF.out, rfl⟩
end Go.Proofs.YtkhkmmjollcfaaaGreatDoor

namespace Go.Proofs.YtkhkmmjollcfaaaGreatDoor
open Go.RowKit Go.Maps Go.Joins Go.WideMaps

set_option maxRecDepth 100000

def wordsB : List ByteArray := [⟨#[108, 101, 116]⟩, ⟨#[105, 110]⟩, ⟨#[105, 102]⟩, ⟨#[116, 104, 101, 110]⟩, ⟨#[101, 108, 115, 101]⟩, ⟨#[99, 97, 115, 101]⟩, ⟨#[111, 102]⟩, ⟨#[112, 97, 114]⟩]

theorem any_beq (l : List UInt8) : ∀ ws : List (List UInt8), ws.any (fun x => x == l) = ws.contains l
  | [] => rfl
  | a :: r => by
    rw [List.any_cons, List.contains_cons, any_beq l r]
    have hc : (a == l) = (l == a) := Bool.eq_iff_iff.2 (by simp only [beq_iff_eq]; exact ⟨fun h => h.symm, fun h => h.symm⟩)
    rw [hc]

theorem among_wordsB (s : ByteArray) : among wordsB s = isW s := by
  unfold among isW
  rw [ByteArray.toList_eq s]
  rw [← any_beq, show words = wordsB.map (fun x => x.toList) from by simp only [ByteArray.toList_eq, wordsB, words, List.map_cons, List.map_nil], List.any_map]
  rfl

theorem lit_cells (ss : List ByteArray) (w : World) (t : TypeId) (j : Nat) (h : j < ss.length) : (w.alloc (.cells (ss.map Value.string).toArray t)).cell? ⟨w.heap.size, j, none⟩ = some (.string (ss.getD j ByteArray.empty)) := by
  rw [cell_of_block (MapKept.heap_alloc w _).1]
  simp [List.getElem?_eq_getElem h]

set_option maxHeartbeats 400000 in
theorem specIsWord_any (s : ByteArray) (w : World) :
    Calls Tryz.prog 46 #[.string s] w fun e w' => e = .returned (.bool (isW s)) ∧ Below w.heap.size w w' := by
  go_enter Tryz.func46, Tryz.ntmps46
  go_wp2_with fail
  refine (has_any w.heap.size 8 8 wordsB s _ rfl (by decide) (lit_cells wordsB w 9)).mono ?_
  rintro e w1 ⟨rfl, rfl⟩
  go_wp2
  go_ret
  exact ⟨ret_bool (among_wordsB s).symm, (Below.refl _ w).alloc (Nat.le_refl _) _⟩
end Go.Proofs.YtkhkmmjollcfaaaGreatDoor
