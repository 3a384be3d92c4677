/-
  The program's Lex: the words of a text, in memory of its own.
-/
import Derived.Test.YtfnnodaggjgkfaaGreatDoorImplFirst
import Derived.Test.YtfnnodaggjgkfaaGreatDoorLexDef
namespace Go.Proofs.YtfnnodaggjgkfaaGreatDoor
open Go.RowKit Go.Maps Go.Joins Go.WideMaps

set_option maxRecDepth 100000

theorem infoTok : (Tryz.prog.info? 36).map (fun i => (i.zero, i.size, i.bytes)) = some (some (.agg #[.int .i64 0, .string ⟨#[]⟩, .int .i64 0, .int .i64 0]), 4, 40) := by kernel_rfl

theorem cell_four_new (w : World) (x0 x1 x2 x3 : Value) (t : TypeId) : ∀ j u, [x0, x1, x2, x3][j]? = some u → (w.alloc (.cells #[x0, x1, x2, x3] t)).cell? ((⟨w.heap.size, 0, none⟩ : Addr).add j) = some u := by
  intro j u hj
  match j, hj with
  | 0, hj => simp at hj; subst hj; simp [Addr.add]
  | 1, hj => simp at hj; subst hj; simp [Addr.add]
  | 2, hj => simp at hj; subst hj; simp [Addr.add]
  | 3, hj => simp at hj; subst hj; simp [Addr.add]
  | (j + 4), hj => simp at hj

theorem cell_four_new2 (w : World) (o : Obj) (x0 x1 x2 x3 : Value) (t : TypeId) : ∀ j u, [x0, x1, x2, x3][j]? = some u → ((w.alloc o).alloc (.cells #[x0, x1, x2, x3] t)).cell? ((⟨w.heap.size + 1, 0, none⟩ : Addr).add j) = some u := by
  have h := cell_four_new (w.alloc o) x0 x1 x2 x3 t
  have e : (w.alloc o).heap.size = w.heap.size + 1 := by simp
  rw [e] at h
  exact h

theorem tok_oneCell (a c d : Int) (b : ByteArray) : ∀ u ∈ [Value.int .i64 a, .string b, .int .i64 c, .int .i64 d], u.oneCell' = true := by
  intro u hu
  simp at hu
  rcases hu with rfl | rfl | rfl | rfl <;> rfl

theorem ret2 {v : Value} {a b : Int} (h : b = a) : Ending.returned (.tuple #[v, .int .i64 a]) = .returned (.tuple #[v, .int .i64 b]) := by rw [h]

theorem row_ne {w : World} {base : Nat} {e : TypeId} {size : Nat} {v : Value} {n : Nat} {xs : List Value} (h : w.ownsRow base e size v n xs) {b : Nat} (hb : b < base) : v.ownBlock ≠ some b := fun e1 => by
  have := (h.lt b e1).1
  omega

theorem row_base {w : World} {B B' : Nat} {e : TypeId} {size n : Nat} {v : Value} {xs : List Value} (h : w.ownsRow B' e size v n xs) (hB : B ≤ B') : w.ownsRow B e size v n xs :=
  ⟨h.1, h.2.imp id (fun ⟨g, cap, cur, a, b, c⟩ => ⟨g, cap, cur, a, Nat.le_trans hB b, c⟩)⟩

theorem Book.row {w w' : World} {b base : Nat} {e : TypeId} {size n : Nat} {v : Value} {xs : List Value} (h : Book w b) (hg : w.grownBy w' v.ownBlock) (hrow : w.ownsRow base e size v n xs) (hb : b < base) : Book w' b := by
  have hne := row_ne hrow hb
  rcases h with h | ⟨m, hmb, h, ho⟩
  · exact .inl ((hg.block b (Array.getElem?_eq_some_iff.1 h).1 (fun e1 => hne e1.symm)).trans h)
  · refine .inr ⟨m, hmb, (hg.block b (Array.getElem?_eq_some_iff.1 h).1 (fun e1 => hne e1.symm)).trans h, ho.kept hg (fun e1 => ?_)⟩
    obtain ⟨es, clock, h1, _⟩ := ho
    rcases hrow.2 with ⟨h2, _⟩ | ⟨g, cap, cur, h2, _, h3, _⟩
    · rw [h2] at e1
      simp [Value.ownBlock] at e1
    · rw [h2] at e1
      simp [Value.ownBlock] at e1
      rw [← e1, h1] at h3
      cases h3

set_option maxHeartbeats 3200000 in
theorem Lex_any (s : ByteArray) (w : World) (hs : s.size ≤ 1048576) :
    Calls Tryz.prog 6 #[.string s] w fun e w' => ∃ v, e = .returned (.tuple #[v, .int .i64 (lexR s).2]) ∧ w'.ownsRow w.heap.size 36 4 v (lexR s).1.length (toksCells (lexR s).1) ∧ Below w.heap.size w w' := by
  by_cases hbig : 2000 < s.size
  · have HR : Hid (lexR s = ([], 1)) := by unfold lexR; rw [if_pos hbig]; rfl
    have hb' : (2000 : Int) < (s.size : Int) := by omega
    go_enter Tryz.func6, Tryz.ntmps6
    go_wp2
    go_ret2
    exact ⟨.slice none 0 0, ret2 (by rw [HR.out]), by rw [HR.out]; exact World.ownsRow_nil _ _ _ _, Below.refl _ _⟩
  have HR : Hid (lexR s = lexS s s.size 0 1 []) := by unfold lexR; rw [if_neg hbig]; rfl
  have hb' : (s.size : Int) ≤ 2000 := by omega
  obtain ⟨i0, hi, hz0, hz1, hz2⟩ := info_parts infoTok
  go_enter Tryz.func6, Tryz.ntmps6
  go_wp2
  go_loopw [5, 6, 7] (fun v ln i wr => ∃ (k f : Nat) (l : Int) (acc : List Tok), k ≤ s.size ∧ i = .int .i64 k ∧ ln = .int .i64 l ∧ 1 ≤ l ∧ l ≤ k + 1 ∧ acc.length ≤ k ∧
      wr.ownsRow (w.heap.size + 1) 36 4 v acc.length (toksCells acc) ∧ Book wr w.heap.size ∧ Below w.heap.size w wr ∧ Hid (lexR s = lexS s f k l acc ∧ s.size - k ≤ f))
    (fun _ _ i _ => s.size - (intOf i).toNat)
  case atStart => exact ⟨0, s.size, 1, [], Nat.zero_le _, rfl, rfl, by omega, by omega, Nat.zero_le _, World.ownsRow_nil _ _ _ _, .inl (fresh_new w), (Below.refl _ w).alloc (Nat.le_refl _) _, HR.out, by omega⟩
  case round =>
    obtain ⟨k, f, l, acc, hk, rfl, rfl, hl1, hl2, hal, hrow, hbk, hbw, hlex⟩ := hrel
    have hlb := hbk.lt
    by_cases hlt : k < s.size
    · by_cases h32 : (s[k].toNat : Int) = 32
      · obtain ⟨g, hg1, hg2⟩ := lexS_blank s f k l acc hlt hlex.out.2 h32
        have HX : Hid (lexR s = lexS s g (k + 1) l acc ∧ s.size - (k + 1) ≤ g) := ⟨hlex.out.1.trans hg1, hg2⟩
        have hb32 : ((s[k].toNat : Int) == 32) = true := by simp [h32]
        have hb10 : ((s[k].toNat : Int) == 10) = false := by simp [h32]
        clear hg1 hg2 hlex h32
        go_wp2
        go_roundw
        case rel => exact ⟨k + 1, g, l, acc, by omega, by go_num, rfl, hl1, by omega, by omega, hrow, hbk, hbw, HX⟩
        case measure => simp [intOf]; omega
      · by_cases h10 : (s[k].toNat : Int) = 10
        · obtain ⟨g, hg1, hg2⟩ := lexS_line s f k l acc hlt hlex.out.2 h10
          have HX : Hid (lexR s = lexS s g (k + 1) (l + 1) acc ∧ s.size - (k + 1) ≤ g) := ⟨hlex.out.1.trans hg1, hg2⟩
          have hb32 : ((s[k].toNat : Int) == 32) = false := by simp [h32]
          have hb10 : ((s[k].toNat : Int) == 10) = true := by simp [h10]
          clear hg1 hg2 hlex h32 h10
          go_wp2
          go_roundw
          case rel => exact ⟨k + 1, g, l + 1, acc, by omega, by go_num, rfl, by omega, by omega, by omega, hrow, hbk, hbw, HX⟩
          case measure => simp [intOf]; omega
        · have hb32 : ((s[k].toNat : Int) == 32) = false := by simp [h32]
          have hb10 : ((s[k].toNat : Int) == 10) = false := by simp [h10]
          have hxs : (s.extract k s.size).size = s.size - k := by simp
          have hln := firstNx_len (s.extract k s.size) (by omega)
          go_wp2_with fail
          refine (firstWord_any w.heap.size (s.extract k s.size) _ (by omega) (by omega) hbk).mono ?_
          rintro e w1 ⟨rfl, hbk1, hg1⟩
          have hnone := lexS_none s f k l acc hlt hlex.out.2 h32 h10
          have hword := lexS_word s f k l acc hlt hlex.out.2 h32 h10
          have hl0 := hlex.out.1
          clear hlex h32 h10
          generalize firstNx (s.extract k s.size) = q at *
          have hrow1 := hrow.kept hg1 (.inr (row_ne hrow (Nat.lt_succ_self _)))
          have hbw1 : Below w.heap.size w w1 := hbw.grown hg1 hbw.size (fun j hj => by cases hj; exact Nat.le_refl _)
          have hsz1 := hbk1.lt
          unfold Nx.val
          by_cases hz : q.len = 0
          · have HF : Hid (lexR s = ([], l)) := hl0.trans (hnone hz)
            have hz' : (((q.len : Nat) : Int) == 0) = true := by simp [hz]
            clear hnone hword hl0
            go_wp2
            go_ret2
            exact ⟨.slice none 0 0, ret2 (by rw [HF.out]), by rw [HF.out]; exact World.ownsRow_nil _ _ _ _, hbw1.alloc (by omega) _⟩
          · obtain ⟨g, hx1, hx2⟩ := hword hz
            have HX : Hid (lexR s = lexS s g (k + q.len) l (acc ++ [q.tok l]) ∧ s.size - (k + q.len) ≤ g) := ⟨hl0.trans hx1, hx2⟩
            have hz' : (((q.len : Nat) : Int) == 0) = false := by simp [hz]
            clear hnone hword hl0 hx1 hx2
            go_wp2_with (at_builtin; refine wpList_append_own _ rfl _ _ 25 rfl (w.heap.size + 1) 36 i0 (.agg #[.int .i64 0, .string ⟨#[]⟩, .int .i64 0, .int .i64 0]) 4 40 Tryz.underlying25 hi hz0 hz1 hz2 rfl (by decide) _ _ _ rfl ((hrow1.alloc _).alloc _) ⟨w1.heap.size + 1, 0, none⟩ 1 1 [.int .i64 q.kind, .string q.text, .int .i64 q.n, .int .i64 l] rfl rfl (cell_four_new2 _ _ _ _ _ _ _) (tok_oneCell _ _ _ _) (by unfold maxLen; omega) (by omega) (by simp; omega) ?_; intro v2 w2 hown2 hgrow2 hnil2)
            have s2 := hgrow2.size
            simp at s2
            go_roundw
            case rel =>
              refine ⟨k + q.len, g, l, acc ++ [q.tok l], by omega, by go_num, rfl, hl1, by omega, by simp; omega, ?_, ?_, ?_, HX⟩
              · rw [toksCells_snoc, List.length_append]; exact hown2
              · exact Book.row ((hbk1.alloc _).alloc _) hgrow2 ((hrow1.alloc _).alloc _) (Nat.lt_succ_self _)
              · exact ((hbw1.alloc (by omega) _).alloc (by simp; omega) _).grown hgrow2 (by simp; omega) (fun j hj => by have := (hrow1.lt j hj).1; omega)
            case measure => simp [intOf]; omega
    · have HF : Hid (lexR s = (acc, 0)) := hlex.out.1.trans (lexS_end s f k l acc hlt)
      clear hlex
      go_wp2
      go_ret2
      exact ⟨_, ret2 (by rw [HF.out]), by rw [HF.out]; exact row_base hrow (Nat.le_succ _), hbw⟩
end Go.Proofs.YtfnnodaggjgkfaaGreatDoor
