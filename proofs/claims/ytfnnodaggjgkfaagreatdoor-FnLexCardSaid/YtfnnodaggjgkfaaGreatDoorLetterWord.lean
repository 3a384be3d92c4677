/-
  The program's letterWord: the next word where a letter begins it.
-/
import Derived.Test.YtfnnodaggjgkfaaGreatDoorTok
import Derived.Test.YtfnnodaggjgkfaaGreatDoorShelf
namespace Go.Proofs.YtfnnodaggjgkfaaGreatDoor
open Go.RowKit Go.Maps Go.Joins Go.WideMaps

set_option maxRecDepth 100000

theorem Clone_any (s : ByteArray) (w : World) (hlim : s.size ≤ 281474976710656) :
    Calls Tryz.prog 42 #[.string s] w fun e w' => e = .returned (.string s) ∧ Below w.heap.size w w' := by
  go_enter Tryz.func42, Tryz.ntmps42
  go_wp2_with (go_at_call 56; refine (Tryz.stringslite_Clone s _ hlim).mono ?_; rintro e w1 ⟨rfl, hb⟩)
  go_ret
  exact ⟨rfl, hb⟩

theorem Fresh.kept {w w' : World} {b : Nat} {row : Option Nat} (h : Fresh w b) (hg : w.grownBy w' row) (hne : some b ≠ row) : Fresh w' b :=
  (hg.block b (Array.getElem?_eq_some_iff.1 h).1 hne).trans h
theorem Done.kept {w w' : World} {b B : Nat} (h : Done w b) (hg : Below B w w') (hB : w.heap.size ≤ B) : Done w' b := by
  obtain ⟨m, hm, hb, ho⟩ := h
  have hb1 : b < B := Nat.lt_of_lt_of_le (Array.getElem?_eq_some_iff.1 hb).1 hB
  refine ⟨m, hm, (hg.block b hb1).trans hb, ?_⟩
  obtain ⟨es, clock, h1, h2⟩ := ho
  exact ⟨es, clock, (hg.block m (Nat.lt_of_lt_of_le (Array.getElem?_eq_some_iff.1 h1).1 hB)).trans h1, h2⟩

def Book (w : World) (b : Nat) : Prop := Fresh w b ∨ Done w b
theorem Book.below {w w' : World} {b B : Nat} (h : Book w b) (hg : Below B w w') (hB : w.heap.size ≤ B) : Book w' b := by
  rcases h with h | h
  · exact .inl ((hg.block b (Nat.lt_of_lt_of_le (Array.getElem?_eq_some_iff.1 h).1 hB)).trans h)
  · exact .inr (h.kept hg hB)
theorem Book.lt {w : World} {b : Nat} (h : Book w b) : b < w.heap.size := by
  rcases h with h | ⟨m, _, h, _⟩
  · exact (Array.getElem?_eq_some_iff.1 h).1
  · exact (Array.getElem?_eq_some_iff.1 h).1
theorem Book.alloc {w : World} {b : Nat} (h : Book w b) (o : Obj) : Book (w.alloc o) b := h.below ((Below.refl _ w).alloc (Nat.le_refl _) o) (Nat.le_refl _)
theorem Book.setCell {w : World} {b : Nat} (h : Book w b) {a : Addr} (v : Value) (hne : b ≠ a.block) (hc : ∃ cs t fr, w.heap[a.block]? = some (.cells cs t fr)) : Book (w.setCell a v) b := by
  obtain ⟨cs, t, fr, hc⟩ := hc
  rcases h with h | ⟨m, hmb, h, ho⟩
  · exact .inl ((Below.heap_setCell w a v b hne).trans h)
  · refine .inr ⟨m, hmb, (Below.heap_setCell w a v b hne).trans h, ho.setCell (fun e => ?_) v⟩
    obtain ⟨es, clock, h1, _⟩ := ho
    rw [e, hc] at h1
    cases h1

theorem tok_cells {w : World} {g : Nat} {a b c d : Value} {t : TypeId} {fr : Nat × Nat} (h : w.heap[g]? = some (.cells #[a, b, c, d] t fr)) : w.cell? ⟨g, 0, none⟩ = some a ∧ w.cell? ⟨g, 1, none⟩ = some b ∧ w.cell? ⟨g, 2, none⟩ = some c ∧ w.cell? ⟨g, 3, none⟩ = some d := by
  refine ⟨?_, ?_, ?_, ?_⟩ <;> (rw [cell_of_block h]; rfl)
theorem tok_frozen {w : World} {g : Nat} {a b c d : Value} {t : TypeId} (h : w.heap[g]? = some (.cells #[a, b, c, d] t)) : w.frozen? ⟨g, 0, none⟩ = false ∧ w.frozen? ⟨g, 1, none⟩ = false ∧ w.frozen? ⟨g, 2, none⟩ = false ∧ w.frozen? ⟨g, 3, none⟩ = false :=
  ⟨unfrozen_of_block h 0, unfrozen_of_block h 1, unfrozen_of_block h 2, unfrozen_of_block h 3⟩

theorem tok_stored {w : World} {g : Nat} {a b c d : Value} {t : TypeId} {fr : Nat × Nat} (h : w.heap[g]? = some (.cells #[a, b, c, d] t fr)) (a' b' c' d' : Value) :
    ((((w.setCell ⟨g, 0, none⟩ a').setCell ⟨g, 1, none⟩ b').setCell ⟨g, 2, none⟩ c').setCell ⟨g, 3, none⟩ d').heap[g]? = some (.cells #[a', b', c', d'] t fr) :=
  block_setCell (block_setCell (block_setCell (block_setCell h a') b') c') d'
theorem tok_book {w : World} {g k : Nat} {a b c d : Value} {t : TypeId} {fr : Nat × Nat} (h : w.heap[g]? = some (.cells #[a, b, c, d] t fr)) (hb : Book w k) (hne : k ≠ g) (a' b' c' d' : Value) :
    Book ((((w.setCell ⟨g, 0, none⟩ a').setCell ⟨g, 1, none⟩ b').setCell ⟨g, 2, none⟩ c').setCell ⟨g, 3, none⟩ d') k := by
  have h1 := block_setCell (i := 0) h a'
  have h2 := block_setCell (i := 1) h1 b'
  have h3 := block_setCell (i := 2) h2 c'
  exact (((hb.setCell a' hne ⟨_, _, _, h⟩).setCell b' hne ⟨_, _, _, h1⟩).setCell c' hne ⟨_, _, _, h2⟩).setCell d' hne ⟨_, _, _, h3⟩
theorem tok_grown {w0 w : World} {g : Nat} {row : Option Nat} (hg : w0.grownBy w row) (hB : w0.heap.size ≤ g) (a' b' c' d' : Value) :
    w0.grownBy ((((w.setCell ⟨g, 0, none⟩ a').setCell ⟨g, 1, none⟩ b').setCell ⟨g, 2, none⟩ c').setCell ⟨g, 3, none⟩ d') row :=
  hg.andThen ((Go.Lib.grownBy_setCell _ g 0 _).trans ((Go.Lib.grownBy_setCell _ g 1 _).trans ((Go.Lib.grownBy_setCell _ g 2 _).trans (Go.Lib.grownBy_setCell _ g 3 _)))) (fun j hj => by cases hj; exact .inl hB)

set_option maxHeartbeats 1600000 in
theorem letterWord_any (b : Nat) (x : ByteArray) (w : World) (hx : x.size ≤ 1048576) (hb : Book w b) :
    Calls Tryz.prog 46 #[.pointer (some ⟨b, 0, none⟩), .string x] w fun e w' => e = .returned (letterNx x).val ∧ Book w' b ∧ w.grownBy w' (some b) := by
  have hkl := nameLen_le x
  have hml : x.size ≤ maxLen := by unfold maxLen; omega
  have hkl' : ((nameLen x.data.toList : Nat) : Int) ≤ (x.size : Int) := by omega
  have hsz : (x.extract 0 (nameLen x.data.toList)).size ≤ 1048576 := by simp; omega
  have HQ : Hid (letterNx x = if isW (x.extract 0 (nameLen x.data.toList)) then ⟨2, x.extract 0 (nameLen x.data.toList), 0, nameLen x.data.toList⟩ else if nameOk (x.extract 0 (nameLen x.data.toList)) then ⟨0, x.extract 0 (nameLen x.data.toList), 0, nameLen x.data.toList⟩ else Nx.none) := rfl
  go_enter Tryz.func46, Tryz.ntmps46
  go_wp2_with fail
  refine (nameLength_any x _ hml).mono ?_
  rintro e w' ⟨rfl, rfl⟩
  generalize nameLen x.data.toList = k at *
  go_wp2_with fail
  refine (Clone_any _ _ (by omega)).mono ?_
  rintro e w1 ⟨rfl, hb1⟩
  have hB1 : w1.heap[w.heap.size]? = some (.cells #[.int .i64 0, .string ⟨#[]⟩, .int .i64 0, .int .i64 0] 36) := (hb1.block w.heap.size (by simp)).trans (MapKept.heap_alloc w _).1
  have hbk1 : Book w1 b := (hb.alloc _).below hb1 (Nat.le_refl _)
  have hg1 : w.grownBy w1 (some b) := (World.grownBy_alloc w _ _).trans ⟨hb1.os, hb1.tape, hb1.output, hb1.size, fun j hj _ => hb1.block j hj⟩
  have hlb := hb.lt
  have HB1 : Hid (w1.heap[w.heap.size]? = some (.cells #[.int .i64 0, .string ⟨#[]⟩, .int .i64 0, .int .i64 0] 36)) := hB1
  clear hB1
  go_wp2_with fail
  refine (isWord_any b _ _ (by unfold maxLen; omega) hbk1).mono ?_
  rintro e w2 ⟨rfl, hd2, hg2⟩
  have hB2 : w2.heap[w.heap.size]? = some (.cells #[.int .i64 0, .string ⟨#[]⟩, .int .i64 0, .int .i64 0] 36) := (hg2.block w.heap.size (Array.getElem?_eq_some_iff.1 HB1.out).1 (by simp; omega)).trans HB1.out
  have HB2 : Hid (w2.heap[w.heap.size]? = some (.cells #[.int .i64 0, .string ⟨#[]⟩, .int .i64 0, .int .i64 0] 36)) := hB2
  clear hB2
  cases hw : isW (x.extract 0 k)
  · clear HB1
    go_wp2_with fail
    refine (isName_any b _ _ (by unfold maxLen; omega) (.inr hd2)).mono ?_
    rintro e w3 ⟨rfl, hd3, hg3⟩
    have HB3 : Hid (w3.heap[w.heap.size]? = some (.cells #[.int .i64 0, .string ⟨#[]⟩, .int .i64 0, .int .i64 0] 36)) := (hg3.block w.heap.size (Array.getElem?_eq_some_iff.1 HB2.out).1 (by simp; omega)).trans HB2.out
    obtain ⟨c0, c1, c2, c3⟩ := tok_cells HB3.out
    obtain ⟨f0, f1, f2, f3⟩ := tok_frozen HB3.out
    cases hn : nameOk (x.extract 0 k)
    · have HQ2 : Hid (letterNx x = Nx.none) := by rw [HQ.out, hw, hn]; rfl
      go_wp2
      obtain ⟨t0, t1, t2, t3⟩ := tok_cells (tok_stored HB3.out (.int .i64 0) (.string ⟨#[]⟩) (.int .i64 0) (.int .i64 0))
      refine bodyPost_ret (v := Nx.none.val) (by simp [results, Tryz.results46, go_sem, t0, t1, t2, t3, Nx.val, Nx.none]) rfl ⟨by rw [HQ2.out], tok_book HB3.out hd3 (by omega) _ _ _ _, tok_grown ((hg1.trans hg2).trans hg3) (Nat.le_refl _) _ _ _ _⟩
    · have HQ2 : Hid (letterNx x = ⟨0, x.extract 0 k, 0, k⟩) := by rw [HQ.out, hw, hn]; rfl
      go_wp2
      obtain ⟨t0, t1, t2, t3⟩ := tok_cells (tok_stored HB3.out (.int .i64 0) (.string (x.extract 0 k)) (.int .i64 0) (.int .i64 0))
      refine bodyPost_ret (v := (⟨0, x.extract 0 k, 0, k⟩ : Nx).val) (by simp [results, Tryz.results46, go_sem, t0, t1, t2, t3, Nx.val]) rfl ⟨by rw [HQ2.out], tok_book HB3.out hd3 (by omega) _ _ _ _, tok_grown ((hg1.trans hg2).trans hg3) (Nat.le_refl _) _ _ _ _⟩
  · have HQ2 : Hid (letterNx x = ⟨2, x.extract 0 k, 0, k⟩) := by rw [HQ.out, hw]; rfl
    obtain ⟨c0, c1, c2, c3⟩ := tok_cells HB2.out
    obtain ⟨f0, f1, f2, f3⟩ := tok_frozen HB2.out
    go_wp2
    obtain ⟨t0, t1, t2, t3⟩ := tok_cells (tok_stored HB2.out (.int .i64 2) (.string (x.extract 0 k)) (.int .i64 0) (.int .i64 0))
    refine bodyPost_ret (v := (⟨2, x.extract 0 k, 0, k⟩ : Nx).val) (by simp [results, Tryz.results46, go_sem, t0, t1, t2, t3, Nx.val]) rfl ⟨by rw [HQ2.out], tok_book HB2.out (.inr hd2) (by omega) _ _ _ _, tok_grown (hg1.trans hg2) (Nat.le_refl _) _ _ _ _⟩
end Go.Proofs.YtfnnodaggjgkfaaGreatDoor
