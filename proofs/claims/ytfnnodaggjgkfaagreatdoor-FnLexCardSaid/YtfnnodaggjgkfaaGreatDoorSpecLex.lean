/-
  The specification's Lex: the words of a text, in memory of its own.
-/
import Derived.Test.YtfnnodaggjgkfaaGreatDoorSpecSign
import Derived.Test.YtfnnodaggjgkfaaGreatDoorImplLex
namespace Go.Proofs.YtfnnodaggjgkfaaGreatDoor
open Go.RowKit Go.Maps Go.Joins Go.WideMaps

set_option maxRecDepth 100000

theorem row_empty (w : World) (base : Nat) (e : TypeId) (size : Nat) (h : base ≤ w.heap.size) : (w.alloc (.cells #[] e)).ownsRow base e size (.slice (some ⟨w.heap.size, 0, none⟩) 0 0) 0 [] := by
  have := World.ownsRow_made (size := size) (e := e) w #[] 0 h (Nat.zero_le _) (by simp)
  exact this

theorem row_none {w w' : World} {base : Nat} {e : TypeId} {size : Nat} {v : Value} {n : Nat} {xs : List Value} (h : w.ownsRow base e size v n xs) (hg : w.grownBy w' none) : w'.ownsRow base e size v n xs :=
  h.kept hg (by cases hv : v.ownBlock <;> simp)

theorem row_two (w : World) (o : Obj) (base : Nat) (e : TypeId) (size : Nat) (h : base ≤ w.heap.size) : ((w.alloc o).alloc (.cells #[] e)).ownsRow base e size (.slice (some ⟨w.heap.size + 1, 0, none⟩) 0 0) 0 [] := by
  have h1 := row_empty (w.alloc o) base e size (by simp; omega)
  have e1 : (w.alloc o).heap.size = w.heap.size + 1 := by simp
  rw [e1] at h1
  exact h1

set_option maxHeartbeats 3200000 in
theorem specLex_any (s : ByteArray) (w : World) (hs : s.size ≤ 1048576) :
    Calls Tryz.prog 7 #[.string s] w fun e w' => ∃ v, e = .returned (.tuple #[v, .int .i64 (lexR s).2]) ∧ w'.ownsRow w.heap.size 36 4 v (lexR s).1.length (toksCells (lexR s).1) ∧ Below w.heap.size w w' := by
  by_cases hbig : 2000 < s.size
  · have HR : Hid (lexR s = ([], 1)) := by unfold lexR; rw [if_pos hbig]; rfl
    have hb' : (2000 : Int) < (s.size : Int) := by omega
    go_enter Tryz.func7, Tryz.ntmps7
    go_wp2
    go_ret2
    exact ⟨_, ret2 (by rw [HR.out]), by rw [HR.out]; exact row_empty w _ _ _ (Nat.le_refl _), (Below.refl _ w).alloc (Nat.le_refl _) _⟩
  have HR : Hid (lexR s = lexS s s.size 0 1 []) := by unfold lexR; rw [if_neg hbig]; rfl
  have hb' : (s.size : Int) ≤ 2000 := by omega
  obtain ⟨i0, hi, hz0, hz1, hz2⟩ := info_parts infoTok
  go_enter Tryz.func7, Tryz.ntmps7
  go_wp2
  go_loopw [4, 5, 6] (fun v ln i wr => ∃ (k f : Nat) (l : Int) (acc : List Tok), k ≤ s.size ∧ i = .int .i64 k ∧ ln = .int .i64 l ∧ 1 ≤ l ∧ l ≤ k + 1 ∧ acc.length ≤ k ∧
      wr.ownsRow w.heap.size 36 4 v acc.length (toksCells acc) ∧ Below w.heap.size w wr ∧ Hid (lexR s = lexS s f k l acc ∧ s.size - k ≤ f))
    (fun _ _ i _ => s.size - (intOf i).toNat)
  case atStart => exact ⟨0, s.size, 1, [], Nat.zero_le _, rfl, rfl, by omega, by omega, Nat.zero_le _, row_empty w _ _ _ (Nat.le_refl _), (Below.refl _ w).alloc (Nat.le_refl _) _, HR.out, by omega⟩
  case round =>
    obtain ⟨k, f, l, acc, hk, rfl, rfl, hl1, hl2, hal, hrow, hbw, hlex⟩ := hrel
    by_cases hlt : k < s.size
    · by_cases h32 : (s[k].toNat : Int) = 32
      · obtain ⟨g, hg1, hg2⟩ := lexS_blank s f k l acc hlt hlex.out.2 h32
        have HX : Hid (lexR s = lexS s g (k + 1) l acc ∧ s.size - (k + 1) ≤ g) := ⟨hlex.out.1.trans hg1, hg2⟩
        have hb32 : ((s[k].toNat : Int) == 32) = true := by simp [h32]
        have hb10 : ((s[k].toNat : Int) == 10) = false := by simp [h32]
        clear hg1 hg2 hlex h32
        go_wp2
        go_roundw
        case rel => exact ⟨k + 1, g, l, acc, by omega, by go_num, rfl, hl1, by omega, by omega, hrow, hbw, HX⟩
        case measure => simp [intOf]; omega
      · by_cases h10 : (s[k].toNat : Int) = 10
        · obtain ⟨g, hg1, hg2⟩ := lexS_line s f k l acc hlt hlex.out.2 h10
          have HX : Hid (lexR s = lexS s g (k + 1) (l + 1) acc ∧ s.size - (k + 1) ≤ g) := ⟨hlex.out.1.trans hg1, hg2⟩
          have hb32 : ((s[k].toNat : Int) == 32) = false := by simp [h32]
          have hb10 : ((s[k].toNat : Int) == 10) = true := by simp [h10]
          clear hg1 hg2 hlex h32 h10
          go_wp2
          go_roundw
          case rel => exact ⟨k + 1, g, l + 1, acc, by omega, by go_num, rfl, by omega, by omega, by omega, hrow, hbw, HX⟩
          case measure => simp [intOf]; omega
        · have hb32 : ((s[k].toNat : Int) == 32) = false := by simp [h32]
          have hb10 : ((s[k].toNat : Int) == 10) = false := by simp [h10]
          have hxs : (s.extract k s.size).size = s.size - k := by simp
          have hln := firstNx_len (s.extract k s.size) (by omega)
          have hnone := lexS_none s f k l acc hlt hlex.out.2 h32 h10
          have hword := lexS_word s f k l acc hlt hlex.out.2 h32 h10
          have hl0 := hlex.out.1
          clear hlex h32 h10
          go_wp2_with fail
          refine (next_any s k _ hs hlt).mono ?_
          rintro e w1 ⟨rfl, hb1⟩
          generalize firstNx (s.extract k s.size) = q at *
          have hg1 : wr.grownBy w1 none := grown_of_below hb1
          have hrow1 := row_none hrow hg1
          have hbw1 : Below w.heap.size w w1 := hbw.trans (hb1.mono hbw.size)
          have hsz1 := hbw1.size
          unfold Nx.valAt
          by_cases hz : q.len = 0
          · have HF : Hid (lexR s = ([], l)) := hl0.trans (hnone hz)
            rw [if_pos hz]
            clear hnone hword hl0
            go_wp2
            go_ret2
            exact ⟨_, ret2 (by rw [HF.out]), by rw [HF.out]; exact row_two w1 _ _ _ _ hsz1, (hbw1.alloc (by omega) _).alloc (by simp; omega) _⟩
          · obtain ⟨g, hx1, hx2⟩ := hword hz
            have HX : Hid (lexR s = lexS s g (k + q.len) l (acc ++ [q.tok l]) ∧ s.size - (k + q.len) ≤ g) := ⟨hl0.trans hx1, hx2⟩
            rw [if_neg hz]
            have hz' : ¬ (((k + q.len : Nat) : Int) < 0) := by omega
            clear hnone hword hl0 hx1 hx2
            go_wp2_with (at_builtin; refine wpList_append_own _ rfl _ _ 25 rfl w.heap.size 36 i0 (.agg #[.int .i64 0, .string ⟨#[]⟩, .int .i64 0, .int .i64 0]) 4 40 Tryz.underlying25 hi hz0 hz1 hz2 rfl (by decide) _ _ _ rfl ((hrow1.alloc _).alloc _) ⟨w1.heap.size + 1, 0, none⟩ 1 1 [.int .i64 q.kind, .string q.text, .int .i64 q.n, .int .i64 l] rfl rfl (cell_four_new2 _ _ _ _ _ _ _) (tok_oneCell _ _ _ _) (by unfold maxLen; omega) (by omega) (by simp; omega) ?_; intro v2 w2 hown2 hgrow2 hnil2)
            have s2 := hgrow2.size
            simp at s2
            go_roundw
            case rel =>
              refine ⟨k + q.len, g, l, acc ++ [q.tok l], by omega, by go_num, rfl, hl1, by omega, by simp; omega, ?_, ?_, HX⟩
              · rw [toksCells_snoc, List.length_append]; exact hown2
              · exact ((hbw1.alloc (by omega) _).alloc (by simp; omega) _).grown hgrow2 (by simp; omega) (fun j hj => by have := (hrow1.lt j hj).1; omega)
            case measure => simp [intOf]; omega
    · have HF : Hid (lexR s = (acc, 0)) := hlex.out.1.trans (lexS_end s f k l acc hlt)
      clear hlex
      go_wp2
      go_ret2
      exact ⟨_, ret2 (by rw [HF.out]), by rw [HF.out]; exact hrow, hbw⟩
end Go.Proofs.YtfnnodaggjgkfaaGreatDoor
