/-
  Asking the book: the slow road, the quick road, and the function IsWord of the program.
-/
import Derived.Test.YtdadppjncdkpiaaBook
namespace Go.Proofs.Ytdadppjncdkpiaa
open Go.RowKit Go.Maps Go.Joins Go.WideMaps

set_option maxRecDepth 100000

theorem grown_drew {w : World} {row : Option Nat} : w.grownBy w.drew row := ⟨rfl, rfl, rfl, Nat.le_refl _, fun _ _ _ => rfl⟩

set_option maxHeartbeats 1600000 in
theorem slow_any (b : Nat) (w : World) (hb : Fresh w b) :
    Calls Try.prog 141 #[.pointer (some ⟨b, 0, none⟩), .func (.func 139) #[.pointer (some ⟨b, 0, none⟩)] #[]] w fun e w' => e = .returned (.tuple #[]) ∧ Done w' b ∧ w.grownBy w' (some b) := by
  unfold Fresh at hb
  have h0 : w.cell? ⟨b, 0, none⟩ = some (.int .u32 0) := by rw [cell_of_block hb]; rfl
  have h1 : w.cell? ⟨b, 1, none⟩ = some (.int .i32 0) := by rw [cell_of_block hb]; rfl
  have f1 : w.frozen? ⟨b, 1, none⟩ = false := unfrozen_of_block hb 1
  have hb1 : (w.setCell ⟨b, 1, none⟩ (.int .i32 1)).heap[b]? = some (.cells #[.int .u32 0, .int .i32 1, .int .u32 0, .map none] 164) := block_setCell hb _
  have hl := run_call_load (P := Try.prog) Try.func142 (by kernel_rfl) (by kernel_rfl) (by kernel_rfl) .u32 (by kernel_rfl) (w := w.setCell ⟨b, 1, none⟩ (.int .i32 1)) (a := ⟨b, 0, none⟩) (x := 0) (by rw [cell_of_block hb1]; rfl)
  have hnot : ∀ (x : Bool) (w : World), (Op.unary .not (.bool x)).run Try.prog w = .ok (.bool (!x)) w := fun _ _ => rfl
  have HB : Hid (w.heap[b]? = some (.cells #[.int .u32 0, .int .i32 0, .int .u32 0, .map none] 164)) := hb
  have HB1 : Hid ((w.setCell ⟨b, 1, none⟩ (.int .i32 1)).heap[b]? = some (.cells #[.int .u32 0, .int .i32 1, .int .u32 0, .map none] 164)) := hb1
  clear hb hb1
  go_enter_defers Try.func141, Try.ntmps141
  go_wp2_with (first | (go_at_call 143; refine (o_lock_free ⟨b, 1, none⟩ _ h1 f1).mono ?_; rintro e w' ⟨rfl, rfl⟩) | (go_at_call 140; go_in))
  refine (fill_any b _ HB1.out).mono ?_
  rintro e w2 ⟨rfl, m, hmb, hb2, hown2, hg2⟩
  have HB2 : Hid (w2.heap[b]? = some (.cells #[.int .u32 0, .int .i32 1, .int .u32 0, .map (some m)] 164)) := hb2
  clear hb2
  go_wp2
  -- THE DOOR: two deferred calls, the last laid first
  refine leaves_cons (f := 145) (args := #[.pointer (some ⟨b, 0, none⟩), .bool true]) (by simp) (by simp [go_sem]) ?_
  refine (o_store_deferred ⟨b, 0, none⟩ (.int .u32 0) .returning _ (by rw [cell_of_block HB2.out]; rfl) (unfrozen_of_block HB2.out 0)).mono ?_
  rintro e u' w'' ⟨rfl, rfl, rfl⟩
  have hb3 : (w2.drew.setCell ⟨b, 0, none⟩ (.int .u32 1)).heap[b]? = some (.cells #[.int .u32 1, .int .i32 1, .int .u32 0, .map (some m)] 164) := block_setCell (w := w2.drew) HB2.out _
  refine leaves_cons (f := 144) (args := #[.pointer (some ⟨b, 1, none⟩)]) (by simp [settle]) (by simp [go_sem]) ?_
  refine (o_unlock_deferred ⟨b, 1, none⟩ _ _ (by rw [cell_of_block hb3]; rfl) (unfrozen_of_block hb3 1)).mono ?_
  rintro e u' w'' ⟨rfl, rfl, rfl⟩
  have fin : Done ((w2.drew.setCell ⟨b, 0, none⟩ (.int .u32 1)).setCell ⟨b, 1, none⟩ (.int .i32 0)) b :=
    ⟨m, hmb, block_setCell hb3 _, (World.ownsMap.setCell (w := w2.drew) hown2 hmb _).setCell hmb _⟩
  have grw : w.grownBy ((w2.drew.setCell ⟨b, 0, none⟩ (.int .u32 1)).setCell ⟨b, 1, none⟩ (.int .i32 0)) (some b) :=
    (Go.Lib.grownBy_setCell w b 1 _).trans (hg2.trans (grown_drew.trans ((Go.Lib.grownBy_setCell _ b 0 _).trans (Go.Lib.grownBy_setCell _ b 1 _))))
  simp [Leaves, settle, results, Try.results141]
  exact ⟨fin, grw⟩

set_option maxHeartbeats 1600000 in
theorem do_fresh (b : Nat) (w : World) (hb : Fresh w b) :
    Calls Try.prog 138 #[.pointer (some ⟨b, 0, none⟩), .func (.func 139) #[.pointer (some ⟨b, 0, none⟩)] #[]] w fun e w' => e = .returned (.tuple #[]) ∧ Done w' b ∧ w.grownBy w' (some b) := by
  have hl := run_call_load (P := Try.prog) Try.func142 (by kernel_rfl) (by kernel_rfl) (by kernel_rfl) .u32 (by kernel_rfl) (w := w) (a := ⟨b, 0, none⟩) (x := 0) (by rw [cell_of_block hb]; rfl)
  have h0 : w.cell? ⟨b, 0, none⟩ = some (.int .u32 0) := by rw [cell_of_block hb]; rfl
  have hnot : ∀ (x : Bool) (w : World), (Op.unary .not (.bool x)).run Try.prog w = .ok (.bool (!x)) w := fun _ _ => rfl
  go_enter Try.func138, Try.ntmps138
  go_wp2_with (first | (go_at_call 141; refine (slow_any b _ hb).mono ?_; rintro e w' ⟨rfl, hd, hg⟩) | (go_at_call 140; go_in))
  go_end0
  exact ⟨rfl, hd, hg⟩

theorem do_done (b : Nat) (fv : Value) (w : World) (hb : Done w b) :
    Calls Try.prog 138 #[.pointer (some ⟨b, 0, none⟩), fv] w fun e w' => e = .returned (.tuple #[]) ∧ w' = w := by
  obtain ⟨m, _, hb1, _⟩ := hb
  have h0 : w.cell? ⟨b, 0, none⟩ = some (.int .u32 1) := by rw [cell_of_block hb1]; rfl
  have hl := run_call_load (P := Try.prog) Try.func142 (by kernel_rfl) (by kernel_rfl) (by kernel_rfl) .u32 (by kernel_rfl) h0
  have hnot : ∀ (x : Bool) (w : World), (Op.unary .not (.bool x)).run Try.prog w = .ok (.bool (!x)) w := fun _ _ => rfl
  clear hb1
  go_enter Try.func138, Try.ntmps138
  go_wp2
  go_end0
  exact ⟨rfl, rfl⟩

/-- 'Do' at a book, fresh or filled. -/
theorem do_any (b : Nat) (w : World) (hb : Fresh w b ∨ Done w b) :
    Calls Try.prog 138 #[.pointer (some ⟨b, 0, none⟩), .func (.func 139) #[.pointer (some ⟨b, 0, none⟩)] #[]] w fun e w' => e = .returned (.tuple #[]) ∧ Done w' b ∧ w.grownBy w' (some b) := by
  rcases hb with h | h
  · exact do_fresh b w h
  · refine (do_done b _ w h).mono ?_
    rintro e w' ⟨rfl, rfl⟩
    exact ⟨rfl, h, World.grownBy.refl _ _⟩

theorem Done.alloc {w : World} {b : Nat} (h : Done w b) (o : Obj) : Done (w.alloc o) b := by
  obtain ⟨m, hm, hb, ho⟩ := h
  exact ⟨m, hm, (Below.heap_alloc w o b (Array.getElem?_eq_some_iff.1 hb).1).trans hb, ho.alloc o⟩

set_option maxHeartbeats 1600000 in
theorem isWord_any (b : Nat) (s : ByteArray) (w : World) (hs : s.size ≤ maxLen) (hb : Fresh w b ∨ Done w b) :
    Calls Try.prog 127 #[.pointer (some ⟨b, 0, none⟩), .string s] w fun e w' => e = .returned (.bool (isW s)) ∧ Done w' b ∧ w.grownBy w' (some b) := by
  have hmf : ∀ (fn : Fn) (first cap : Array Value) (w : World), (Instr.makeFunc fn first cap).run Try.prog w = .ok (.func fn first cap) w := fun _ _ _ _ => rfl
  have hkey := keyOf_string_mk (P := Try.prog) Try.underlying9 hs
  go_enter Try.func127, Try.ntmps127
  go_wp2_with fail
  refine (do_any b _ hb).mono ?_
  rintro e w1 ⟨rfl, hd, hg⟩
  obtain ⟨m, hmb, hb1, hown⟩ := hd
  have c3 : w1.cell? ⟨b, 3, none⟩ = some (.map (some m)) := by rw [cell_of_block hb1]; rfl
  have HB1 : Hid (w1.heap[b]? = some (.cells #[.int .u32 1, .int .i32 0, .int .u32 0, .map (some m)] 164)) := hb1
  clear hb1 hb
  go_wp2_with (at_lookup; refine wpList_lookup_own_unit _ rfl _ _ 162 rfl 9 150 lawS Try.underlying162 (zeroU _) m 8 _ rfl hown _ _ rfl hkey ?_)
  go_ret
  refine ⟨by rw [has_wordsD]; rfl, Done.alloc ⟨m, hmb, HB1.out, hown⟩ _, hg.trans (World.grownBy_alloc _ _ _)⟩

theorem below_of_new {w w' : World} {o : Obj} (h : (w.alloc o).grownBy w' (some w.heap.size)) : Below w.heap.size w w' :=
  ((Below.refl _ w).alloc (Nat.le_refl _) o).grown h (by simp) (fun k hk => by cases hk; exact Nat.le_refl _)

theorem fresh_new (w : World) : Fresh (w.alloc (.cells #[.int .u32 0, .int .i32 0, .int .u32 0, .map none] 164)) w.heap.size := (MapKept.heap_alloc w _).1

end Go.Proofs.Ytdadppjncdkpiaa
