/-
  The program's numberWord, signWord and firstWord: the next word of a text.
-/
import Derived.Test.YtfnnodaggjgkfaaGreatDoorLetterWord
namespace Go.Proofs.YtfnnodaggjgkfaaGreatDoor
open Go.RowKit Go.Maps Go.Joins Go.WideMaps

set_option maxRecDepth 100000

theorem take_takeWhile {α : Type} (p : α → Bool) (l : List α) : l.take (l.takeWhile p).length = l.takeWhile p := (List.prefix_iff_eq_take.1 (List.takeWhile_prefix p)).symm

theorem digs_of (x : ByteArray) (k : Nat) (hk : k = digsLen x.data.toList) : digitsV (x.extract 0 k) = if 1 ≤ k ∧ k ≤ 9 then digVal (x.data.toList.take k) else -1 := by
  have hle := digsLen_le x
  have hd : (x.extract 0 k).data.toList = x.data.toList.take k := by rw [Go.Lib.extract_data]; simp
  have hsz : (x.extract 0 k).size = k := by simp; omega
  have hall : (x.data.toList.take k).all dgb = true := by
    subst hk
    unfold digsLen
    rw [take_takeWhile]
    exact List.all_takeWhile
  unfold digitsV
  rw [hd, hsz, hall]
  by_cases h : 1 ≤ k ∧ k ≤ 9
  · rw [if_pos ⟨h.1, h.2, rfl⟩, if_pos h]
  · rw [if_neg (fun e => h ⟨e.1, e.2.1⟩), if_neg h]

theorem digs_nonneg (x : ByteArray) (h : digsLen x.data.toList ≤ 9) : 0 ≤ digVal (x.data.toList.take (digsLen x.data.toList)) ∧ digVal (x.data.toList.take (digsLen x.data.toList)) < 1000000000 := by
  refine digVal_small _ _ (takeWhile_len_le _ _) h (fun y hy => ?_)
  unfold digsLen at hy
  rw [take_takeWhile] at hy
  exact List.all_eq_true.1 List.all_takeWhile y hy

theorem below_of_tok {w w' : World} {g : Nat} (h : Below w.heap.size w w') (hB : w.heap.size ≤ g) (a' b' c' d' : Value) :
    Below w.heap.size w ((((w'.setCell ⟨g, 0, none⟩ a').setCell ⟨g, 1, none⟩ b').setCell ⟨g, 2, none⟩ c').setCell ⟨g, 3, none⟩ d') :=
  (((h.setCell (p := ⟨g, 0, none⟩) hB a').setCell (p := ⟨g, 1, none⟩) hB b').setCell (p := ⟨g, 2, none⟩) hB c').setCell (p := ⟨g, 3, none⟩) hB d'

set_option maxHeartbeats 1600000 in
theorem numberWord_any (x : ByteArray) (w : World) (hx : x.size ≤ 1048576) (h1 : 1 ≤ digsLen x.data.toList) :
    Calls Tryz.prog 48 #[.string x] w fun e w' => e = .returned (numberNx x).val ∧ Below w.heap.size w w' := by
  have hkl := digsLen_le x
  have hml : x.size ≤ maxLen := by unfold maxLen; omega
  have hkl' : ((digsLen x.data.toList : Nat) : Int) ≤ (x.size : Int) := by omega
  have hsz : (x.extract 0 (digsLen x.data.toList)).size ≤ maxLen := by unfold maxLen; simp; omega
  have hv := digs_of x _ rfl
  have hq : numberNx x = if digsLen x.data.toList ≤ 9 then ⟨1, ⟨#[]⟩, digVal (x.data.toList.take (digsLen x.data.toList)), digsLen x.data.toList⟩ else Nx.none := rfl
  have hnn := digs_nonneg x
  have hcall := digitsLength_any x
  generalize digsLen x.data.toList = k at *
  by_cases h9 : k ≤ 9
  · rw [if_pos ⟨h1, h9⟩] at hv
    rw [if_pos h9] at hq
    obtain ⟨b1, b2⟩ := hnn h9
    generalize digVal (x.data.toList.take k) = n at *
    have HQ : Hid (numberNx x = ⟨1, ⟨#[]⟩, n, k⟩) := hq
    have HV : Hid (digitsV (x.extract 0 k) = n) := hv
    clear hq hv hnn
    go_enter Tryz.func48, Tryz.ntmps48
    go_wp2_with fail
    refine (hcall _ hml).mono ?_
    rintro e w' ⟨rfl, rfl⟩
    clear hcall
    go_wp2_with fail
    refine (digitsValue_any (x.extract 0 k) _ hsz).mono ?_
    rintro e w' ⟨rfl, rfl⟩
    rw [HV.out]
    go_wp2
    refine bodyPost_ret (v := (⟨1, ⟨#[]⟩, n, k⟩ : Nx).val) (by simp [results, Tryz.results48, go_sem, Nx.val]) rfl ⟨by rw [HQ.out], (Below.refl _ w).alloc (Nat.le_refl _) _⟩
  · rw [if_neg (fun e => h9 e.2)] at hv
    rw [if_neg h9] at hq
    have HQ : Hid (numberNx x = Nx.none) := hq
    have HV : Hid (digitsV (x.extract 0 k) = -1) := hv
    clear hq hv hnn
    go_enter Tryz.func48, Tryz.ntmps48
    go_wp2_with fail
    refine (hcall _ hml).mono ?_
    rintro e w' ⟨rfl, rfl⟩
    clear hcall
    go_wp2_with fail
    refine (digitsValue_any (x.extract 0 k) _ hsz).mono ?_
    rintro e w' ⟨rfl, rfl⟩
    rw [HV.out]
    go_wp2
    refine bodyPost_ret (v := Nx.none.val) (by simp [results, Tryz.results48, go_sem, Nx.val, Nx.none]) rfl ⟨by rw [HQ.out], (Below.refl _ w).alloc (Nat.le_refl _) _⟩

theorem isSign_is (s : ByteArray) (b : Bool) (h : isSg s = b) (w : World) : Calls Tryz.prog 58 #[.string s] w fun e w' => e = .returned (.bool b) ∧ w' = w := by
  rw [← h]; exact isSign_any s w

set_option maxHeartbeats 1600000 in
theorem signWord_any (x : ByteArray) (w : World) (hx : x.size ≤ 1048576) (h1 : 1 ≤ x.size) :
    Calls Tryz.prog 49 #[.string x] w fun e w' => e = .returned (signNx x).val ∧ Below w.heap.size w w' := by
  have i0 : ∀ w, (Instr.index 79 (.agg #[.int .i64 2, .int .i64 1]) (.int .i64 0)).run Tryz.prog w = .ok (.int .i64 2) w := fun _ => by kernel_rfl
  have i1 : ∀ w, (Instr.index 79 (.agg #[.int .i64 2, .int .i64 1]) (.int .i64 1)).run Tryz.prog w = .ok (.int .i64 1) w := fun _ => by kernel_rfl
  have hx' : (x.size : Int) ≤ 1048576 := by omega
  have h1' : (1 : Int) ≤ (x.size : Int) := by omega
  have hs2 : (x.extract 0 2).size ≤ 281474976710656 := by simp; omega
  have hs1 : (x.extract 0 1).size ≤ 281474976710656 := by simp; omega
  by_cases h2 : 2 ≤ x.size
  · have h2' : (2 : Int) ≤ (x.size : Int) := by omega
    cases hg2 : isSg (x.extract 0 2)
    · cases hg1 : isSg (x.extract 0 1)
      · have HQ : Hid (signNx x = Nx.none) := by unfold signNx; rw [if_neg (fun e => by rw [hg2] at e; exact absurd e.2 Bool.false_ne_true), hg1]; rfl
        go_enter Tryz.func49, Tryz.ntmps49
        go_wp2
        refine wp_loop_rounds 3 ?_
        rw [rounds_succ]
        go_wp2_with (go_at_call 58; refine (isSign_is _ false hg2 _).mono ?_; rintro e w' ⟨rfl, rfl⟩)
        rw [rounds_succ]
        go_wp2_with (go_at_call 58; refine (isSign_is _ false hg1 _).mono ?_; rintro e w' ⟨rfl, rfl⟩)
        rw [rounds_succ]
        go_wp2
        refine bodyPost_ret (v := Nx.none.val) (by simp [results, Tryz.results49, go_sem, Nx.val, Nx.none]) rfl ⟨by rw [HQ.out], (Below.refl _ w).alloc (Nat.le_refl _) _⟩
      · have HQ : Hid (signNx x = ⟨2, x.extract 0 1, 0, 1⟩) := by unfold signNx; rw [if_neg (fun e => by rw [hg2] at e; exact absurd e.2 Bool.false_ne_true), hg1]; rfl
        go_enter Tryz.func49, Tryz.ntmps49
        go_wp2
        refine wp_loop_rounds 3 ?_
        rw [rounds_succ]
        go_wp2_with (go_at_call 58; refine (isSign_is _ false hg2 _).mono ?_; rintro e w' ⟨rfl, rfl⟩)
        rw [rounds_succ]
        go_wp2_with (go_at_call 58; refine (isSign_is _ true hg1 _).mono ?_; rintro e w' ⟨rfl, rfl⟩)
        refine (Clone_any _ _ hs1).mono ?_
        rintro e w1 ⟨rfl, hb1⟩
        have HB1 : Hid (w1.heap[w.heap.size]? = some (.cells #[.int .i64 0, .string ⟨#[]⟩, .int .i64 0, .int .i64 0] 36)) := (hb1.block w.heap.size (by simp)).trans (MapKept.heap_alloc w _).1
        have hbw : Below w.heap.size w w1 := ((Below.refl _ w).alloc (Nat.le_refl _) _).trans (hb1.mono (by simp))
        clear hb1
        obtain ⟨c0, c1, c2, c3⟩ := tok_cells HB1.out
        obtain ⟨f0, f1, f2, f3⟩ := tok_frozen HB1.out
        go_wp2
        obtain ⟨t0, t1, t2, t3⟩ := tok_cells (tok_stored HB1.out (.int .i64 2) (.string (x.extract 0 1)) (.int .i64 0) (.int .i64 0))
        refine bodyPost_ret (v := (⟨2, x.extract 0 1, 0, 1⟩ : Nx).val) (by simp [results, Tryz.results49, go_sem, t0, t1, t2, t3, Nx.val]) rfl ⟨by rw [HQ.out], below_of_tok hbw (Nat.le_refl _) _ _ _ _⟩
    · have HQ : Hid (signNx x = ⟨2, x.extract 0 2, 0, 2⟩) := by unfold signNx; rw [if_pos ⟨h2, hg2⟩]; rfl
      go_enter Tryz.func49, Tryz.ntmps49
      go_wp2
      refine wp_loop_rounds 3 ?_
      rw [rounds_succ]
      go_wp2_with (go_at_call 58; refine (isSign_is _ true hg2 _).mono ?_; rintro e w' ⟨rfl, rfl⟩)
      refine (Clone_any _ _ hs2).mono ?_
      rintro e w1 ⟨rfl, hb1⟩
      have HB1 : Hid (w1.heap[w.heap.size]? = some (.cells #[.int .i64 0, .string ⟨#[]⟩, .int .i64 0, .int .i64 0] 36)) := (hb1.block w.heap.size (by simp)).trans (MapKept.heap_alloc w _).1
      have hbw : Below w.heap.size w w1 := ((Below.refl _ w).alloc (Nat.le_refl _) _).trans (hb1.mono (by simp))
      clear hb1
      obtain ⟨c0, c1, c2, c3⟩ := tok_cells HB1.out
      obtain ⟨f0, f1, f2, f3⟩ := tok_frozen HB1.out
      go_wp2
      obtain ⟨t0, t1, t2, t3⟩ := tok_cells (tok_stored HB1.out (.int .i64 2) (.string (x.extract 0 2)) (.int .i64 0) (.int .i64 0))
      refine bodyPost_ret (v := (⟨2, x.extract 0 2, 0, 2⟩ : Nx).val) (by simp [results, Tryz.results49, go_sem, t0, t1, t2, t3, Nx.val]) rfl ⟨by rw [HQ.out], below_of_tok hbw (Nat.le_refl _) _ _ _ _⟩
  · have h2' : decide ((2 : Int) ≤ (x.size : Int)) = false := by simp; omega
    cases hg1 : isSg (x.extract 0 1)
    · have HQ : Hid (signNx x = Nx.none) := by unfold signNx; rw [if_neg (fun e => h2 e.1), hg1]; rfl
      go_enter Tryz.func49, Tryz.ntmps49
      go_wp2
      refine wp_loop_rounds 3 ?_
      rw [rounds_succ]
      go_wp2
      rw [rounds_succ]
      go_wp2_with (go_at_call 58; refine (isSign_is _ false hg1 _).mono ?_; rintro e w' ⟨rfl, rfl⟩)
      rw [rounds_succ]
      go_wp2
      refine bodyPost_ret (v := Nx.none.val) (by simp [results, Tryz.results49, go_sem, Nx.val, Nx.none]) rfl ⟨by rw [HQ.out], (Below.refl _ w).alloc (Nat.le_refl _) _⟩
    · have HQ : Hid (signNx x = ⟨2, x.extract 0 1, 0, 1⟩) := by unfold signNx; rw [if_neg (fun e => h2 e.1), hg1]; rfl
      go_enter Tryz.func49, Tryz.ntmps49
      go_wp2
      refine wp_loop_rounds 3 ?_
      rw [rounds_succ]
      go_wp2
      rw [rounds_succ]
      go_wp2_with (go_at_call 58; refine (isSign_is _ true hg1 _).mono ?_; rintro e w' ⟨rfl, rfl⟩)
      refine (Clone_any _ _ hs1).mono ?_
      rintro e w1 ⟨rfl, hb1⟩
      have HB1 : Hid (w1.heap[w.heap.size]? = some (.cells #[.int .i64 0, .string ⟨#[]⟩, .int .i64 0, .int .i64 0] 36)) := (hb1.block w.heap.size (by simp)).trans (MapKept.heap_alloc w _).1
      have hbw : Below w.heap.size w w1 := ((Below.refl _ w).alloc (Nat.le_refl _) _).trans (hb1.mono (by simp))
      clear hb1
      obtain ⟨c0, c1, c2, c3⟩ := tok_cells HB1.out
      obtain ⟨f0, f1, f2, f3⟩ := tok_frozen HB1.out
      go_wp2
      obtain ⟨t0, t1, t2, t3⟩ := tok_cells (tok_stored HB1.out (.int .i64 2) (.string (x.extract 0 1)) (.int .i64 0) (.int .i64 0))
      refine bodyPost_ret (v := (⟨2, x.extract 0 1, 0, 1⟩ : Nx).val) (by simp [results, Tryz.results49, go_sem, t0, t1, t2, t3, Nx.val]) rfl ⟨by rw [HQ.out], below_of_tok hbw (Nat.le_refl _) _ _ _ _⟩
end Go.Proofs.YtfnnodaggjgkfaaGreatDoor
