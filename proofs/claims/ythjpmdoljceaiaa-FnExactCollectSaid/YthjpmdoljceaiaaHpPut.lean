/-
  A heap made with room for so many cells; a cell put into its place.
-/
import Derived.Test.YthjpmdoljceaiaaToldBy
import Derived.Test.YthjpmdoljceaiaaHpRow
namespace Go.Proofs.Ythjpmdoljceaiaa
open Go.RowKit Go.Joins

set_option maxRecDepth 100000

def ce0 : Ce := ⟨0, 0, 0, []⟩
def room (n : Nat) : List (Ce × Value) := List.replicate n (ce0, .slice none 0 0)
theorem room_cells (n : Nat) : (room n).flatMap ceCells = (madeCells #[.int .i64 0, .int .i64 0, .int .i64 0, .slice none 0 0] (n * 4)).toList := by
  refine List.ext_getElem? fun i => ?_
  by_cases hi : i < n * 4
  · have hq : i / 4 < n := by omega
    have hsp : room n = room (i / 4) ++ (ce0, .slice none 0 0) :: room (n - i / 4 - 1) := by
      have h : List.replicate (i / 4 + (n - i / 4 - 1 + 1)) (ce0, Value.slice none 0 0) = room (i / 4) ++ (ce0, .slice none 0 0) :: room (n - i / 4 - 1) := by
        unfold room
        rw [← List.replicate_append_replicate, List.replicate_succ]
      rw [show i / 4 + (n - i / 4 - 1 + 1) = n by omega] at h
      exact h
    have hm := ce_mid (room (i / 4)) (room (n - i / 4 - 1)) ce0 (.slice none 0 0) (i % 4) (by omega)
    rw [← hsp, show (room (i / 4)).length = i / 4 by simp [room], show i / 4 * 4 + i % 4 = i by omega] at hm
    rw [hm]
    unfold madeCells
    simp only [Array.toList_map, Array.toList_range, List.getElem?_map, List.getElem?_range hi, Option.map_some]
    have h4 : i % 4 = 0 ∨ i % 4 = 1 ∨ i % 4 = 2 ∨ i % 4 = 3 := by omega
    rcases h4 with h | h | h | h <;> simp [h, ceCells, ce0]
  · rw [List.getElem?_eq_none (by rw [ce_len]; simp [room]; omega), List.getElem?_eq_none (by rw [Array.length_toList, size_madeCells]; omega)]
theorem hp_room (w : World) (B n : Nat) (hb : B ≤ w.heap.size) (hn : n ≤ maxLen) : HpAt (w.alloc (.cells (madeCells #[.int .i64 0, .int .i64 0, .int .i64 0, .slice none 0 0] (n * 4)) 42)) B (.slice (some ⟨w.heap.size, 0, none⟩) n n) (room n) := by
  have hl : (room n).length = n := by simp [room]
  refine ⟨?_, fun r hr => ?_, ?_⟩
  · rw [room_cells, hl]
    exact made_row w B 42 #[.int .i64 0, .int .i64 0, .int .i64 0, .slice none 0 0] 4 n hb hn
  · have := List.eq_of_mem_replicate hr
    subst this
    exact ⟨⟨rfl, .inl ⟨rfl, rfl⟩⟩, ⟨by simp [ce0], by simp [ce0]⟩, ⟨by simp [ce0], by simp [ce0]⟩, ⟨by simp [ce0], by simp [ce0]⟩, fun z hz => by simp [ce0] at hz⟩
  · refine List.pairwise_map.2 (List.pairwise_iff_getElem.2 fun i j hi hj _ => .inl ?_)
    simp [room, Value.ownBlock]
theorem makeC_row (n : Nat) (hn : n ≤ 4194304) (w : World) : (Instr.makeSlice 25 (.int .i64 (n : Int)) (.int .i64 (n : Int))).run Try.prog w = .ok (.slice (some ⟨w.heap.size, 0, none⟩) n n) (w.alloc (.cells (madeCells #[.int .i64 0, .int .i64 0, .int .i64 0, .slice none 0 0] (n * 4)) 42)) := by
  obtain ⟨i0, hi, hz0, hz1, hz2⟩ := info_parts infoCell
  have h := run_make (P := Try.prog) w 25 42 i0 _ Try.underlying25 hi hz0 .i64 .i64 n n (by omega) (Int.le_refl _) (by rw [hz2]; omega) (by omega)
  rw [hz1] at h
  simp only [Int.toNat_natCast] at h
  exact h

theorem put_list (A D : List (Ce × Value)) (c x : Ce) (u kv : Value) : (((((A ++ (c, u) :: D).flatMap ceCells).set (A.length * 4) (.int .i64 x.kind)).set (A.length * 4 + 1) (.int .i64 x.n)).set (A.length * 4 + 2) (.int .i64 x.pos)).set (A.length * 4 + 3) kv = (A ++ (x, kv) :: D).flatMap ceCells := by
  have h := fun (l : List Value) (i : Nat) (v : Value) => List.set_append_right (s := A.flatMap ceCells) (t := l) (A.length * 4 + i) v (by rw [ce_len]; omega)
  have hl := ce_len A
  rw [List.flatMap_append, List.flatMap_append, List.flatMap_cons, List.flatMap_cons]
  have h0 := h (ceCells (c, u) ++ D.flatMap ceCells) 0 (.int .i64 x.kind)
  rw [Nat.add_zero] at h0
  rw [h0, h, h, h, hl]
  simp [ceCells, show A.length * 4 + 1 - A.length * 4 = 1 by omega, show A.length * 4 + 2 - A.length * 4 = 2 by omega, show A.length * 4 + 3 - A.length * 4 = 3 by omega]
/-- A cell is put into its place. -/
theorem HpAt.put {W : World} {B g cap n : Nat} {u kv : Value} {A D : List (Ce × Value)} {c x : Ce} (h : HpAt W B (.slice (some ⟨g, 0, none⟩) n cap) (A ++ (c, u) :: D)) (hn : n = (A ++ (c, u) :: D).length)
    (hx : W.ownsRow B 3 1 kv x.kids.length (intVs x.kids)) (hok : CeOk x) (hap : ∀ r ∈ A ++ D, AptV r.2 kv) :
    HpAt ((((W.setCell ⟨g, A.length * 4, none⟩ (.int .i64 x.kind)).setCell ⟨g, A.length * 4 + 1, none⟩ (.int .i64 x.n)).setCell ⟨g, A.length * 4 + 2, none⟩ (.int .i64 x.pos)).setCell ⟨g, A.length * 4 + 3, none⟩ kv) B (.slice (some ⟨g, 0, none⟩) n cap) (A ++ (x, kv) :: D) := by
  have hcod := h.cells
  rw [← hn] at hcod
  have s1 := (hcod.stored (A.length * 4) (.int .i64 x.kind)).1
  have s2 := (s1.stored (A.length * 4 + 1) (.int .i64 x.n)).1
  have s3 := (s2.stored (A.length * 4 + 2) (.int .i64 x.pos)).1
  have s4 := (s3.stored (A.length * 4 + 3) kv).1
  rw [put_list] at s4
  have hint : ∀ (m : Nat) (v' : Value) (xs : List Value), W.ownsRow B 3 1 v' m xs → ((((W.setCell ⟨g, A.length * 4, none⟩ (.int .i64 x.kind)).setCell ⟨g, A.length * 4 + 1, none⟩ (.int .i64 x.n)).setCell ⟨g, A.length * 4 + 2, none⟩ (.int .i64 x.pos)).setCell ⟨g, A.length * 4 + 3, none⟩ kv).ownsRow B 3 1 v' m xs := fun m v' xs ho =>
    own_moved ho (fun k hk => by
      have hne : ∀ (j : Nat), k ≠ (⟨g, j, none⟩ : Addr).block := fun j e => own_ne ho hcod (by decide) k hk (congrArg some e)
      rw [Below.heap_setCell _ _ _ _ (hne _), Below.heap_setCell _ _ _ _ (hne _), Below.heap_setCell _ _ _ _ (hne _), Below.heap_setCell _ _ _ _ (hne _)])
  refine ⟨?_, fun r hr => ?_, ?_⟩
  · rw [show (A ++ (x, kv) :: D).length = (A ++ (c, u) :: D).length by simp, ← hn]
    exact s4
  · rw [List.mem_append, List.mem_cons] at hr
    rcases hr with hr | rfl | hr
    · have := h.kids r (by simp [hr])
      exact ⟨hint _ _ _ this.1, this.2⟩
    · exact ⟨hint _ _ _ hx, hok⟩
    · have := h.kids r (by simp [hr])
      exact ⟨hint _ _ _ this.1, this.2⟩
  · have ha := h.apart
    rw [List.map_append, List.map_cons, List.pairwise_append, List.pairwise_cons] at ha ⊢
    refine ⟨ha.1, ⟨fun v hv => ?_, ha.2.1.2⟩, fun v hv v' hv' => ?_⟩
    · obtain ⟨r, hr, rfl⟩ := List.mem_map.1 hv
      exact (hap r (by simp [hr])).symm
    · rw [List.mem_cons] at hv'
      rcases hv' with rfl | hv'
      · obtain ⟨r, hr, rfl⟩ := List.mem_map.1 hv
        exact hap r (by simp [hr])
      · exact ha.2.2 v hv v' (by simp [hv'])
end Go.Proofs.Ythjpmdoljceaiaa
