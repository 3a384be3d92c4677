/-
  The specification's HeapOk.
-/
import Derived.Test.YtfhjkiimdkjhjaaGreatDoorCellsPure
namespace Go.Proofs.YtfhjkiimdkjhjaaGreatDoor
open Go.RowKit Go.Joins

set_option maxRecDepth 100000

theorem all_take {α : Type} (p : α → Bool) (es : List α) (k : Nat) {x : α} (h : es[k]? = some x) (hp : (es.take k).all p = true) (hx : p x = true) : (es.take (k + 1)).all p = true := by
  have hk := (List.getElem?_eq_some_iff.1 h).1
  rw [List.take_succ_eq_append_getElem hk, List.all_append, hp, (List.getElem?_eq_some_iff.1 h).2]
  simp [hx]
theorem all_not {α : Type} (p : α → Bool) (es : List α) (k : Nat) {x : α} (h : es[k]? = some x) (hx : p x = false) : es.all p = false := by
  cases hh : es.all p with
  | false => rfl
  | true => rw [List.all_eq_true] at hh; rw [hh x (List.mem_of_getElem? h)] at hx; cases hx

/-- The loop over a cell's kids aside, its fields by its kind. -/
theorem fields_other (c : Ce) (codes : Int) (h : ¬ (0 ≤ c.kind ∧ c.kind ≤ 7)) : c.fields codes = false := by
  unfold Ce.fields
  rw [if_neg (by omega), if_neg (by omega), if_neg (by omega), if_neg (by omega), if_neg (by omega), if_neg (by omega), if_neg (by omega)]

set_option maxHeartbeats 12800000 in
theorem l05Right_any (v : Value) (c : Ce) (cells codes : Int) (S : Nat → Prop) (w : World) (h : CeAt w S v c) (h0 : 0 ≤ cells) (h1 : cells ≤ 4611686018427387904) :
    Calls Tryz.prog 44 #[v, .int .i64 cells, .int .i64 codes] w fun e w' => e = .returned (.bool (c.right cells codes)) ∧ Below w.heap.size w w' := by
  obtain ⟨kv, rfl, r1, r2, r3, hk⟩ := h
  obtain ⟨a, cap, rfl⟩ := hk.form
  have B0 : Below w.heap.size w (w.alloc (.cells #[.int .i64 c.kind, .int .i64 c.n, .int .i64 c.pos, .slice a c.kids.length cap] 32)) := (Below.refl _ w).alloc (Nat.le_refl _) _
  obtain ⟨a', cap', hv, hkm, hkc⟩ := hk.below B0
  cases hv
  unfold maxLen at hkm
  have HC := (show Hid (_ ∧ True) from ⟨hkc, trivial⟩)
  clear hkc hk
  have HALLD : c.right cells codes = (c.kids.all (fun k => inB k 0 (cells - 1)) && c.fields codes) := rfl
  rw [HALLD]
  clear HALLD
  generalize hP : (fun k => inB k 0 (cells - 1)) = P
  have hPx : ∀ x, P x = inB x 0 (cells - 1) := fun x => by rw [← hP]
  clear hP
  have hF := (show Hid (_ ∧ True) from ⟨fun h => fields_other c codes h, trivial⟩)
  generalize hFF : c.fields codes = F at *
  have HFF := (show Hid (_ ∧ True) from ⟨hFF, trivial⟩)
  clear hFF
  obtain ⟨kind, n, pos, kids⟩ := c
  simp only [] at *
  go_enter Tryz.func44, Tryz.ntmps44
  go_wp2
  go_loopw [7] (fun i wr => ∃ k : Nat, k ≤ kids.length ∧ i = .int .i64 k ∧ (kids.take k).all P = true ∧ wr = w.alloc (.cells #[.int .i64 kind, .int .i64 n, .int .i64 pos, .slice a kids.length cap] 32)) (fun i _ => kids.length - (intOf i).toNat)
  case atStart => exact ⟨0, Nat.zero_le _, rfl, by simp, rfl⟩
  case round =>
    obtain ⟨k, hk, rfl, hall, rfl⟩ := hrel
    have HA := (show Hid (_ ∧ True) from ⟨hall, trivial⟩)
    clear hall
    by_cases hkl : k < kids.length
    · have he := List.getElem?_eq_getElem hkl
      generalize kids[k] = x at *
      obtain ⟨b, off, rfl, hSb, hlt2, c0, r0⟩ := HC.out.1 k x he
      have HE := (show Hid (_ ∧ True) from ⟨he, trivial⟩)
      have hlt' : ((k : Nat) : Int) < ((kids.length : Nat) : Int) := by omega
      clear he HC hF HFF
      cases hin : inB x 0 (cells - 1) with
      | true =>
        have HN := (show Hid (_ ∧ True) from ⟨all_take P kids k HE.out.1 HA.out.1 ((hPx x).trans hin), trivial⟩)
        clear hPx HE HA
        go_wp2_with fail
        refine (specIn_is _ _ _ true hin _).mono ?_
        rintro e w1 ⟨rfl, rfl⟩
        go_wp2
        refine ⟨⟨k + 1, by omega, by go_num, HN.out.1, trivial⟩, by simp [intOf]; omega⟩
      | false =>
        have HN := (show Hid (_ ∧ True) from ⟨all_not P kids k HE.out.1 ((hPx x).trans hin), trivial⟩)
        clear hPx HE HA
        go_wp2_with fail
        refine (specIn_is _ _ _ false hin _).mono ?_
        rintro e w1 ⟨rfl, rfl⟩
        go_wp2
        go_ret
        exact ⟨by rw [HN.out.1]; rfl, B0⟩
    · obtain rfl : k = kids.length := by omega
      have HALL := (show Hid (_ ∧ True) from ⟨(by rw [← HA.out.1, List.take_length] : kids.all P = true), trivial⟩)
      clear HC hPx HA
      by_cases hkd : 0 ≤ kind ∧ kind ≤ 7
      · clear hF
        have hcs : kind = 0 ∨ kind = 1 ∨ kind = 2 ∨ kind = 3 ∨ kind = 4 ∨ kind = 5 ∨ kind = 6 ∨ kind = 7 := by omega
        clear hkd
        rcases hcs with rfl | rfl | rfl | rfl | rfl | rfl | rfl | rfl
        · have HF2 : Hid (F = ((pos == 0) && ((kids.length : Int) == 0))) := by
            show F = ((pos == 0) && ((kids.length : Int) == 0))
            rw [← HFF.out.1]; rfl
          clear HFF
          cases b0 : (pos == 0) <;> cases b1 : ((kids.length : Int) == 0) <;>
          ( go_wp2
            go_ret
            exact ⟨by rw [HALL.out.1, HF2.out]; simp [b0, b1], B0⟩ )
        · have HF2 : Hid (F = (((n == 0) && (pos == 0)) && ((kids.length : Int) == 0))) := by
            show F = (((n == 0) && (pos == 0)) && ((kids.length : Int) == 0))
            rw [← HFF.out.1]; rfl
          clear HFF
          cases b0 : (n == 0) <;> cases b1 : (pos == 0) <;> cases b2 : ((kids.length : Int) == 0) <;>
          ( go_wp2
            go_ret
            exact ⟨by rw [HALL.out.1, HF2.out]; simp [b0, b1, b2], B0⟩ )
        · have HF2 : Hid (F = (((n == 0) && (pos == 0)) && ((kids.length : Int) == 2))) := by
            show F = (((n == 0) && (pos == 0)) && ((kids.length : Int) == 2))
            rw [← HFF.out.1]; rfl
          clear HFF
          cases b0 : (n == 0) <;> cases b1 : (pos == 0) <;> cases b2 : ((kids.length : Int) == 2) <;>
          ( go_wp2
            go_ret
            exact ⟨by rw [HALL.out.1, HF2.out]; simp [b0, b1, b2], B0⟩ )
        · have HF2 : Hid (F = ((inB n 1 6 && decide (0 ≤ pos)) && decide (pos < codes))) := by
            show F = ((inB n 1 6 && decide (0 ≤ pos)) && decide (pos < codes))
            rw [← HFF.out.1]; rfl
          clear HFF
          cases b0 : inB n 1 6 <;> cases b1 : decide (0 ≤ pos) <;> cases b2 : decide (pos < codes) <;>
          ( go_wp2_with fail
            refine (specIn_is _ _ _ _ b0 _).mono ?_
            rintro e w1 ⟨rfl, rfl⟩
            go_wp2
            go_ret
            exact ⟨by rw [HALL.out.1, HF2.out]; simp [b0, b1, b2], B0⟩ )
        · have HF2 : Hid (F = (((n == 0) && decide (0 ≤ pos)) && decide (pos < codes))) := by
            show F = (((n == 0) && decide (0 ≤ pos)) && decide (pos < codes))
            rw [← HFF.out.1]; rfl
          clear HFF
          cases b0 : (n == 0) <;> cases b1 : decide (0 ≤ pos) <;> cases b2 : decide (pos < codes) <;>
          ( go_wp2
            go_ret
            exact ⟨by rw [HALL.out.1, HF2.out]; simp [b0, b1, b2], B0⟩ )
        · have HF2 : Hid (F = (((n == 0) && (pos == 0)) && ((kids.length : Int) == 0))) := by
            show F = (((n == 0) && (pos == 0)) && ((kids.length : Int) == 0))
            rw [← HFF.out.1]; rfl
          clear HFF
          cases b0 : (n == 0) <;> cases b1 : (pos == 0) <;> cases b2 : ((kids.length : Int) == 0) <;>
          ( go_wp2
            go_ret
            exact ⟨by rw [HALL.out.1, HF2.out]; simp [b0, b1, b2], B0⟩ )
        · have HF2 : Hid (F = (((n == 0) && (pos == 0)) && ((kids.length : Int) == 1))) := by
            show F = (((n == 0) && (pos == 0)) && ((kids.length : Int) == 1))
            rw [← HFF.out.1]; rfl
          clear HFF
          cases b0 : (n == 0) <;> cases b1 : (pos == 0) <;> cases b2 : ((kids.length : Int) == 1) <;>
          ( go_wp2
            go_ret
            exact ⟨by rw [HALL.out.1, HF2.out]; simp [b0, b1, b2], B0⟩ )
        · have HF2 : Hid (F = (((inB n (-1) 30 && decide (0 ≤ pos)) && ((kids.length : Int) == 0)) && (decide (0 ≤ n) || (pos == 0)))) := by
            show F = (((inB n (-1) 30 && decide (0 ≤ pos)) && ((kids.length : Int) == 0)) && (decide (0 ≤ n) || (pos == 0)))
            rw [← HFF.out.1]; rfl
          clear HFF
          cases b0 : inB n (-1) 30 <;> cases b1 : decide (0 ≤ pos) <;> cases b2 : ((kids.length : Int) == 0) <;> cases b3 : decide (0 ≤ n) <;> cases b4 : (pos == 0) <;>
          ( go_wp2_with fail
            refine (specIn_is _ _ _ _ b0 _).mono ?_
            rintro e w1 ⟨rfl, rfl⟩
            go_wp2
            go_ret
            exact ⟨by rw [HALL.out.1, HF2.out]; simp [b0, b1, b2, b3, b4], B0⟩ )
      · have hFf := hF.out.1 hkd
        subst hFf
        have g0 : (kind == 0) = false := by simp; omega
        have g1 : (kind == 1) = false := by simp; omega
        have g2 : (kind == 2) = false := by simp; omega
        have g3 : (kind == 3) = false := by simp; omega
        have g4 : (kind == 4) = false := by simp; omega
        have g5 : (kind == 5) = false := by simp; omega
        have g6 : (kind == 6) = false := by simp; omega
        have g7 : (kind == 7) = false := by simp; omega
        go_wp2
        go_ret
        exact ⟨by first | rfl | simp, B0⟩

set_option maxHeartbeats 6400000 in
theorem specHeap_any (v : Value) (es : List Ce) (codes : Int) (S : Nat → Prop) (w : World) (h : CellsAt w S v es) (hn : es.length ≤ 4194304) :
    Calls Tryz.prog 19 #[v, .int .i64 codes] w fun e w' => e = .returned (.bool (heapOk es codes)) ∧ Below w.heap.size w w' := by
  obtain ⟨a, cap, rfl, hl, hc⟩ := h
  clear hl
  have HC := (show Hid (_ ∧ True) from ⟨hc, trivial⟩)
  clear hc
  unfold heapOk
  generalize hP : (fun c : Ce => c.right es.length codes) = P
  have hPx : ∀ x, P x = x.right es.length codes := fun x => by rw [← hP]
  clear hP
  go_enter Tryz.func19, Tryz.ntmps19
  go_wp2
  go_loopw [5] (fun i wr => ∃ k : Nat, k ≤ es.length ∧ i = .int .i64 k ∧ (es.take k).all P = true ∧ Below w.heap.size w wr) (fun i _ => es.length - (intOf i).toNat)
  case atStart => exact ⟨0, Nat.zero_le _, rfl, by simp, Below.refl _ _⟩
  case round =>
    obtain ⟨k, hk, rfl, hall, hbw⟩ := hrel
    have HA := (show Hid (_ ∧ True) from ⟨hall, trivial⟩)
    clear hall
    by_cases hkl : k < es.length
    · have he := List.getElem?_eq_getElem hkl
      generalize es[k] = x at *
      obtain ⟨b, off, kv, rfl, hSb, hlt2, c0, c1, c2, c3, r1, r2, r3, hkk⟩ := HC.out.1 k x he
      rw [← hbw.cell (by exact hlt2)] at c0 c1 c2 c3
      have HX : Hid (CeAt wr S (.agg #[.int .i64 x.kind, .int .i64 x.n, .int .i64 x.pos, kv]) x) := ⟨kv, rfl, r1, r2, r3, hkk.below hbw⟩
      obtain ⟨ka, kc, rfl⟩ := hkk.form
      have HE := (show Hid (_ ∧ True) from ⟨he, trivial⟩)
      have hlt' : ((k : Nat) : Int) < ((es.length : Nat) : Int) := by omega
      clear hkk he HC r1 r2 r3
      go_wp2_with fail
      refine (l05Right_any _ x es.length codes S _ HX.out (by omega) (by omega)).mono ?_
      rintro e w1 ⟨rfl, b1⟩
      have b2 : Below w.heap.size w w1 := hbw.trans (b1.mono hbw.size)
      clear b1 HX c0 c1 c2 c3
      cases hr : x.right es.length codes with
      | true =>
        have HN := (show Hid (_ ∧ True) from ⟨all_take P es k HE.out.1 HA.out.1 ((hPx x).trans hr), trivial⟩)
        clear hPx HE HA
        go_wp2
        refine ⟨⟨k + 1, by omega, by go_num, HN.out.1, b2⟩, by simp [intOf]; omega⟩
      | false =>
        have HN := (show Hid (_ ∧ True) from ⟨all_not P es k HE.out.1 ((hPx x).trans hr), trivial⟩)
        clear hPx HE HA
        go_wp2
        go_ret
        exact ⟨by rw [HN.out.1]; rfl, b2⟩
    · obtain rfl : k = es.length := by omega
      have HALL := (show Hid (_ ∧ True) from ⟨(by rw [← HA.out.1, List.take_length] : es.all P = true), trivial⟩)
      clear HC hPx HA
      go_wp2
      go_ret
      exact ⟨by rw [HALL.out.1]; simp; omega, hbw⟩
end Go.Proofs.YtfhjkiimdkjhjaaGreatDoor
