/-
  The program's firstWord: the next word of a text that is not empty.
-/
import Derived.Test.YtfnnodaggjgkfaaGreatDoorFirstWord
namespace Go.Proofs.YtfnnodaggjgkfaaGreatDoor
open Go.RowKit Go.Maps Go.Joins Go.WideMaps

set_option maxRecDepth 100000

theorem digs_pos (x : ByteArray) (h : 0 < x.size) (hd : dgb x[0] = true) : 1 ≤ digsLen x.data.toList := by
  have hl : 0 < x.data.toList.length := by simpa using h
  unfold digsLen
  cases e : x.data.toList with
  | nil => rw [e] at hl; simp at hl
  | cons a r =>
    have : a = x[0] := by
      have h0 := nameOk_first x h
      rw [e] at h0
      simpa using h0
    rw [List.takeWhile_cons, if_pos (by rw [this]; exact hd)]
    simp

theorem grown_of_below {w w' : World} {row : Option Nat} (h : Below w.heap.size w w') : w.grownBy w' row := ⟨h.os, h.tape, h.output, h.size, fun k hk _ => h.block k hk⟩

set_option maxHeartbeats 1600000 in
theorem firstWord_any (b : Nat) (x : ByteArray) (w : World) (hx : x.size ≤ 1048576) (h1 : 0 < x.size) (hb : Book w b) :
    Calls Tryz.prog 29 #[.pointer (some ⟨b, 0, none⟩), .string x] w fun e w' => e = .returned (firstNx x).val ∧ Book w' b ∧ w.grownBy w' (some b) := by
  have h1' : (0 : Int) < (x.size : Int) := by omega
  have hfst := nameOk_first x h1
  have hq : firstNx x = if ltb x[0] then letterNx x else if dgb x[0] then numberNx x else signNx x := by unfold firstNx; rw [hfst]
  have hp := digs_pos x h1
  have hlb := hb.lt
  clear hfst
  cases hl : lti (x[0].toNat : Int)
  · have e1 : ltb x[0] = false := hl
    cases hd : dgi (x[0].toNat : Int)
    · have e2 : dgb x[0] = false := hd
      have HQ : Hid (firstNx x = signNx x) := by rw [hq, e1, e2]; rfl
      clear hq hp e1 e2
      go_enter Tryz.func29, Tryz.ntmps29
      go_wp2_with (first
        | (go_at_call 45; refine (isLetter_is _ false hl _).mono ?_; rintro e w' ⟨rfl, rfl⟩)
        | (go_at_call 47; refine (isDigit_is _ false hd _).mono ?_; rintro e w' ⟨rfl, rfl⟩))
      refine (signWord_any x _ hx h1).mono ?_
      rintro e w1 ⟨rfl, hb1⟩
      have hg1 : w.grownBy w1 (some b) := (World.grownBy_alloc w _ _).trans (grown_of_below hb1)
      have hbk : Book w1 b := (hb.alloc _).below hb1 (Nat.le_refl _)
      have HB1 : Hid (w1.heap[w.heap.size]? = some (.cells #[.int .i64 0, .string ⟨#[]⟩, .int .i64 0, .int .i64 0] 36)) := (hb1.block w.heap.size (by simp)).trans (MapKept.heap_alloc w _).1
      clear hb1
      generalize signNx x = q at *
      unfold Nx.val
      obtain ⟨c0, c1, c2, c3⟩ := tok_cells HB1.out
      obtain ⟨f0, f1, f2, f3⟩ := tok_frozen HB1.out
      go_wp2
      obtain ⟨t0, t1, t2, t3⟩ := tok_cells (tok_stored HB1.out (.int .i64 q.kind) (.string q.text) (.int .i64 q.n) (.int .i64 0))
      refine bodyPost_ret (v := q.val) (by simp [results, Tryz.results29, go_sem, t0, t1, t2, t3, Nx.val]) rfl ⟨by rw [HQ.out], tok_book HB1.out hbk (by omega) _ _ _ _, tok_grown hg1 (Nat.le_refl _) _ _ _ _⟩
    · have e2 : dgb x[0] = true := hd
      have HQ : Hid (firstNx x = numberNx x) := by rw [hq, e1, e2]; rfl
      have hp1 := hp e2
      clear hq hp e1 e2
      go_enter Tryz.func29, Tryz.ntmps29
      go_wp2_with (first
        | (go_at_call 45; refine (isLetter_is _ false hl _).mono ?_; rintro e w' ⟨rfl, rfl⟩)
        | (go_at_call 47; refine (isDigit_is _ true hd _).mono ?_; rintro e w' ⟨rfl, rfl⟩))
      refine (numberWord_any x _ hx hp1).mono ?_
      rintro e w1 ⟨rfl, hb1⟩
      have hg1 : w.grownBy w1 (some b) := (World.grownBy_alloc w _ _).trans (grown_of_below hb1)
      have hbk : Book w1 b := (hb.alloc _).below hb1 (Nat.le_refl _)
      have HB1 : Hid (w1.heap[w.heap.size]? = some (.cells #[.int .i64 0, .string ⟨#[]⟩, .int .i64 0, .int .i64 0] 36)) := (hb1.block w.heap.size (by simp)).trans (MapKept.heap_alloc w _).1
      clear hb1
      generalize numberNx x = q at *
      unfold Nx.val
      obtain ⟨c0, c1, c2, c3⟩ := tok_cells HB1.out
      obtain ⟨f0, f1, f2, f3⟩ := tok_frozen HB1.out
      go_wp2
      obtain ⟨t0, t1, t2, t3⟩ := tok_cells (tok_stored HB1.out (.int .i64 q.kind) (.string q.text) (.int .i64 q.n) (.int .i64 0))
      refine bodyPost_ret (v := q.val) (by simp [results, Tryz.results29, go_sem, t0, t1, t2, t3, Nx.val]) rfl ⟨by rw [HQ.out], tok_book HB1.out hbk (by omega) _ _ _ _, tok_grown hg1 (Nat.le_refl _) _ _ _ _⟩
  · have e1 : ltb x[0] = true := hl
    have HQ : Hid (firstNx x = letterNx x) := by rw [hq, e1]; rfl
    clear hq hp e1
    go_enter Tryz.func29, Tryz.ntmps29
    go_wp2_with (go_at_call 45; refine (isLetter_is _ true hl _).mono ?_; rintro e w' ⟨rfl, rfl⟩)
    refine (letterWord_any b x _ hx (hb.alloc _)).mono ?_
    rintro e w1 ⟨rfl, hbk, hg0⟩
    have hg1 : w.grownBy w1 (some b) := (World.grownBy_alloc w _ _).trans hg0
    have HB1 : Hid (w1.heap[w.heap.size]? = some (.cells #[.int .i64 0, .string ⟨#[]⟩, .int .i64 0, .int .i64 0] 36)) := (hg0.block w.heap.size (by simp) (by simp; omega)).trans (MapKept.heap_alloc w _).1
    clear hg0
    generalize letterNx x = q at *
    unfold Nx.val
    obtain ⟨c0, c1, c2, c3⟩ := tok_cells HB1.out
    obtain ⟨f0, f1, f2, f3⟩ := tok_frozen HB1.out
    go_wp2
    obtain ⟨t0, t1, t2, t3⟩ := tok_cells (tok_stored HB1.out (.int .i64 q.kind) (.string q.text) (.int .i64 q.n) (.int .i64 0))
    refine bodyPost_ret (v := q.val) (by simp [results, Tryz.results29, go_sem, t0, t1, t2, t3, Nx.val]) rfl ⟨by rw [HQ.out], tok_book HB1.out hbk (by omega) _ _ _ _, tok_grown hg1 (Nat.le_refl _) _ _ _ _⟩
end Go.Proofs.YtfnnodaggjgkfaaGreatDoor
