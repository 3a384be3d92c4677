/-
  The book of words: filling it, asking it whether a text is a word; each a contract, the book fresh or filled.
  Asking the book: the slow road, the quick road, and the function IsWord of the program.
  The program's NameOk: whether a text is a name.
  When a program is right, in plain words: its names, each once, and its bodies.
-/
import Derived.Test.YtkhkmmjollcfaaaGreatDoorOnce
import Derived.Maps.OwnSet
import Derived.Maps.OwnOps
import Derived.Maps.AppendAt
import Derived.Maps.RangeWalk
import Derived.Lib.SmallJoins
import Derived.Lib.BufferOwn
import Derived.Test.YtkhkmmjollcfaaaGreatDoorMC
import Derived.Test.YtkhkmmjollcfaaaGreatDoorMA
import Derived.Test.YtkhkmmjollcfaaaGreatDoorMB
namespace Go.Proofs.YtkhkmmjollcfaaaGreatDoor
open Go.RowKit Go.Maps Go.Joins Go.WideMaps

set_option maxRecDepth 100000

def words : List (List UInt8) := [[108, 101, 116], [105, 110], [105, 102], [116, 104, 101, 110], [101, 108, 115, 101], [99, 97, 115, 101], [111, 102], [112, 97, 114]]
def isW (s : ByteArray) : Bool := words.contains s.data.toList
def wordsD : DataW Unit := setOf (.agg []) (words.map Lit.string)

theorem has_wordsD (s : ByteArray) : Maps.has wordsD (.string s.data.toList) = isW s := by
  unfold wordsD isW
  rw [has_setOf _ _ _ (fun y hy => by obtain ⟨_, _, rfl⟩ := List.mem_map.1 hy; trivial), List.any_map]
  generalize s.data.toList = l
  induction words with
  | nil => rfl
  | cons a r ih =>
    rw [List.any_cons, List.contains_cons, ih]
    have hc : ((fun x : Lit => x.sameKey (.string l)) ∘ Lit.string) a = (l == a) := by
      show (a == l) = (l == a)
      exact Bool.eq_iff_iff.2 (by simp only [beq_iff_eq]; exact ⟨fun h => h.symm, fun h => h.symm⟩)
    rw [hc]

theorem lawS : Keyed Tryz.prog 9 := string_keyed Tryz.underlying9
theorem zeroU (w : World) : (zeroValue 67).run Tryz.prog w = .ok (.agg #[]) w := by kernel_rfl

theorem wpList_insert_own {H : Type} {P : Program} (w : World) {ops : Array Oper} {rest : List Oper} {o : Oper} {a : Act} {Q : Exit → Act → World → Prop}
    (hg : o.guard = none) (m x v : Operand) (t : TypeId) (hop : o.op = Op.insert t m x v)
    (k e : TypeId) (K : Keyed P k) (ht : P.underlying t = some (.map k e)) (R : Value → Option (DataW H × List MemPlace)) (b n : Nat) (D : DataW H)
    (hm : a.eval m = .map (some b)) (hown : w.ownsMap P k R b n D) (hn : n < maxLen) (key val : Value) (kl : Lit) (hx : a.eval x = key) (hv : a.eval v = val) (hkey : keyOf P k key = some kl)
    (d : DataW H) (ps : List MemPlace) (hval : R val = some (d, ps))
    (hK : ∀ w', w'.ownsMap P k R b (n + 1) (D.put kl d) → w.grownBy w' (some b) → wpList P ops Q rest (a.put o.dst undef) w') :
    wpList P ops Q (o :: rest) a w := by
  refine wpList_plain hg fun K' hK' => ?_
  obtain ⟨w', hrun, r1, r2⟩ := hown.update K ht hn hkey hval
  unfold Oper.wp
  simp [execOp, hop, hm, hx, hv, hrun, Result.andThen]
  exact hK' _ _ (hK w' r1 r2)

theorem fill_chain {w w1 w2 w3 w4 w5 w6 w7 w8 : World} {o : Obj} (h1 : (w.alloc o).grownBy w1 (some w.heap.size)) (h2 : w1.grownBy w2 (some w.heap.size)) (h3 : w2.grownBy w3 (some w.heap.size)) (h4 : w3.grownBy w4 (some w.heap.size))
    (h5 : w4.grownBy w5 (some w.heap.size)) (h6 : w5.grownBy w6 (some w.heap.size)) (h7 : w6.grownBy w7 (some w.heap.size)) (h8 : w7.grownBy w8 (some w.heap.size)) : w.grownBy w8 none :=
  (World.grownBy_alloc w o none).andThen (h1.trans (h2.trans (h3.trans (h4.trans (h5.trans (h6.trans (h7.trans h8))))))) (fun j hj => by cases hj; exact .inl (Nat.le_refl _))

/-- A book that was never asked. -/
def Fresh (w : World) (b : Nat) : Prop := w.heap[b]? = some (.cells #[.int .u32 0, .int .i32 0, .int .u32 0, .map none] 136)
/-- A book that was filled. -/
def Done (w : World) (b : Nat) : Prop := ∃ m, m ≠ b ∧ w.heap[b]? = some (.cells #[.int .u32 1, .int .i32 0, .int .u32 0, .map (some m)] 136) ∧ w.ownsMap Tryz.prog 9 unitElem m 8 wordsD

set_option maxHeartbeats 1600000 in
theorem fill_any (b : Nat) (w : World) (hb : w.heap[b]? = some (.cells #[.int .u32 0, .int .i32 1, .int .u32 0, .map none] 136)) :
    Calls Tryz.prog 91 #[.pointer (some ⟨b, 0, none⟩)] w fun e w' => e = .returned (.tuple #[]) ∧
      ∃ m, m ≠ b ∧ w'.heap[b]? = some (.cells #[.int .u32 0, .int .i32 1, .int .u32 0, .map (some m)] 136) ∧ w'.ownsMap Tryz.prog 9 unitElem m 8 wordsD ∧ w.grownBy w' (some b) := by
  have hlt : b < w.heap.size := (Array.getElem?_eq_some_iff.1 hb).1
  have hmm := @run_makeMap Tryz.prog
  have hown0 := World.ownsMap_made w Tryz.prog 9 (unitElem (H := Unit))
  have ml : (8 : Nat) < maxLen := by decide
  go_enter Tryz.func91, Tryz.ntmps91
  go_wp2_with (first
    | (refine wpList_insert_own _ rfl _ _ _ 134 rfl 9 67 lawS Tryz.underlying134 (unitElem (H := Unit)) w.heap.size 0 _ rfl hown0 (by omega) _ _ (.string [108, 101, 116]) rfl rfl (keyOf_string_mk (s := ⟨#[108, 101, 116]⟩) Tryz.underlying9 (by decide)) (.agg []) [] unitElem_mk ?_; intro w1 hown1 hg1)
    | (refine wpList_insert_own _ rfl _ _ _ 134 rfl 9 67 lawS Tryz.underlying134 (unitElem (H := Unit)) w.heap.size 1 _ rfl hown1 (by omega) _ _ (.string [105, 110]) rfl rfl (keyOf_string_mk (s := ⟨#[105, 110]⟩) Tryz.underlying9 (by decide)) (.agg []) [] unitElem_mk ?_; intro w2 hown2 hg2)
    | (refine wpList_insert_own _ rfl _ _ _ 134 rfl 9 67 lawS Tryz.underlying134 (unitElem (H := Unit)) w.heap.size 2 _ rfl hown2 (by omega) _ _ (.string [105, 102]) rfl rfl (keyOf_string_mk (s := ⟨#[105, 102]⟩) Tryz.underlying9 (by decide)) (.agg []) [] unitElem_mk ?_; intro w3 hown3 hg3)
    | (refine wpList_insert_own _ rfl _ _ _ 134 rfl 9 67 lawS Tryz.underlying134 (unitElem (H := Unit)) w.heap.size 3 _ rfl hown3 (by omega) _ _ (.string [116, 104, 101, 110]) rfl rfl (keyOf_string_mk (s := ⟨#[116, 104, 101, 110]⟩) Tryz.underlying9 (by decide)) (.agg []) [] unitElem_mk ?_; intro w4 hown4 hg4)
    | (refine wpList_insert_own _ rfl _ _ _ 134 rfl 9 67 lawS Tryz.underlying134 (unitElem (H := Unit)) w.heap.size 4 _ rfl hown4 (by omega) _ _ (.string [101, 108, 115, 101]) rfl rfl (keyOf_string_mk (s := ⟨#[101, 108, 115, 101]⟩) Tryz.underlying9 (by decide)) (.agg []) [] unitElem_mk ?_; intro w5 hown5 hg5)
    | (refine wpList_insert_own _ rfl _ _ _ 134 rfl 9 67 lawS Tryz.underlying134 (unitElem (H := Unit)) w.heap.size 5 _ rfl hown5 (by omega) _ _ (.string [99, 97, 115, 101]) rfl rfl (keyOf_string_mk (s := ⟨#[99, 97, 115, 101]⟩) Tryz.underlying9 (by decide)) (.agg []) [] unitElem_mk ?_; intro w6 hown6 hg6)
    | (refine wpList_insert_own _ rfl _ _ _ 134 rfl 9 67 lawS Tryz.underlying134 (unitElem (H := Unit)) w.heap.size 6 _ rfl hown6 (by omega) _ _ (.string [111, 102]) rfl rfl (keyOf_string_mk (s := ⟨#[111, 102]⟩) Tryz.underlying9 (by decide)) (.agg []) [] unitElem_mk ?_; intro w7 hown7 hg7)
    | (refine wpList_insert_own _ rfl _ _ _ 134 rfl 9 67 lawS Tryz.underlying134 (unitElem (H := Unit)) w.heap.size 7 _ rfl hown7 (by omega) _ _ (.string [112, 97, 114]) rfl rfl (keyOf_string_mk (s := ⟨#[112, 97, 114]⟩) Tryz.underlying9 (by decide)) (.agg []) [] unitElem_mk ?_; intro w8 hown8 hg8
       have hG8 := fill_chain hg1 hg2 hg3 hg4 hg5 hg6 hg7 hg8
       have hb8 := (hG8.block b hlt (by simp)).trans hb
       have c3 : w8.cell? ⟨b, 3, none⟩ = some (.map none) := by rw [cell_of_block hb8]; rfl
       have f3 : w8.frozen? ⟨b, 3, none⟩ = false := unfrozen_of_block hb8 3))
  go_end0
  have hne : w.heap.size ≠ b := Nat.ne_of_gt hlt
  exact ⟨rfl, w.heap.size, hne, block_setCell hb8 _, hown8.setCell hne _, (hG8.but (some b)).trans (Go.Lib.grownBy_setCell _ _ _ _)⟩
end Go.Proofs.YtkhkmmjollcfaaaGreatDoor

namespace Go.Proofs.YtkhkmmjollcfaaaGreatDoor
open Go.RowKit Go.Maps Go.Joins Go.WideMaps

set_option maxRecDepth 100000

theorem grown_drew {w : World} {row : Option Nat} : w.grownBy w.drew row := ⟨rfl, rfl, rfl, Nat.le_refl _, fun _ _ _ => rfl⟩

set_option maxHeartbeats 1600000 in
theorem slow_any (b : Nat) (w : World) (hb : Fresh w b) :
    Calls Tryz.prog 95 #[.pointer (some ⟨b, 0, none⟩), .func (.func 91) #[.pointer (some ⟨b, 0, none⟩)] #[]] w fun e w' => e = .returned (.tuple #[]) ∧ Done w' b ∧ w.grownBy w' (some b) := by
  unfold Fresh at hb
  have h0 : w.cell? ⟨b, 0, none⟩ = some (.int .u32 0) := by rw [cell_of_block hb]; rfl
  have h1 : w.cell? ⟨b, 1, none⟩ = some (.int .i32 0) := by rw [cell_of_block hb]; rfl
  have f1 : w.frozen? ⟨b, 1, none⟩ = false := unfrozen_of_block hb 1
  have hb1 : (w.setCell ⟨b, 1, none⟩ (.int .i32 1)).heap[b]? = some (.cells #[.int .u32 0, .int .i32 1, .int .u32 0, .map none] 136) := block_setCell hb _
  have hl := run_call_load (P := Tryz.prog) Tryz.func100 (by kernel_rfl) (by kernel_rfl) (by kernel_rfl) .u32 (by kernel_rfl) (w := w.setCell ⟨b, 1, none⟩ (.int .i32 1)) (a := ⟨b, 0, none⟩) (x := 0) (by rw [cell_of_block hb1]; rfl)
  have hnot : ∀ (x : Bool) (w : World), (Op.unary .not (.bool x)).run Tryz.prog w = .ok (.bool (!x)) w := fun _ _ => rfl
  have HB : Hid (w.heap[b]? = some (.cells #[.int .u32 0, .int .i32 0, .int .u32 0, .map none] 136)) := hb
  have HB1 : Hid ((w.setCell ⟨b, 1, none⟩ (.int .i32 1)).heap[b]? = some (.cells #[.int .u32 0, .int .i32 1, .int .u32 0, .map none] 136)) := hb1
  clear hb hb1
  go_enter_defers Tryz.func95, Tryz.ntmps95
  go_wp2_with (first | (go_at_call 101; refine (o_lock_free ⟨b, 1, none⟩ _ h1 f1).mono ?_; rintro e w' ⟨rfl, rfl⟩) | (go_at_call 94; go_in))
  refine (fill_any b _ HB1.out).mono ?_
  rintro e w2 ⟨rfl, m, hmb, hb2, hown2, hg2⟩
  have HB2 : Hid (w2.heap[b]? = some (.cells #[.int .u32 0, .int .i32 1, .int .u32 0, .map (some m)] 136)) := hb2
  clear hb2
  go_wp2
  -- THE DOOR: two deferred calls, the last laid first
  refine leaves_cons (f := 103) (args := #[.pointer (some ⟨b, 0, none⟩), .bool true]) (by simp) (by simp [go_sem]) ?_
  refine (o_store_deferred ⟨b, 0, none⟩ (.int .u32 0) .returning _ (by rw [cell_of_block HB2.out]; rfl) (unfrozen_of_block HB2.out 0)).mono ?_
  rintro e u' w'' ⟨rfl, rfl, rfl⟩
  have hb3 : (w2.drew.setCell ⟨b, 0, none⟩ (.int .u32 1)).heap[b]? = some (.cells #[.int .u32 1, .int .i32 1, .int .u32 0, .map (some m)] 136) := block_setCell (w := w2.drew) HB2.out _
  refine leaves_cons (f := 102) (args := #[.pointer (some ⟨b, 1, none⟩)]) (by simp [settle]) (by simp [go_sem]) ?_
  refine (o_unlock_deferred ⟨b, 1, none⟩ _ _ (by rw [cell_of_block hb3]; rfl) (unfrozen_of_block hb3 1)).mono ?_
  rintro e u' w'' ⟨rfl, rfl, rfl⟩
  have fin : Done ((w2.drew.setCell ⟨b, 0, none⟩ (.int .u32 1)).setCell ⟨b, 1, none⟩ (.int .i32 0)) b :=
    ⟨m, hmb, block_setCell hb3 _, (World.ownsMap.setCell (w := w2.drew) hown2 hmb _).setCell hmb _⟩
  have grw : w.grownBy ((w2.drew.setCell ⟨b, 0, none⟩ (.int .u32 1)).setCell ⟨b, 1, none⟩ (.int .i32 0)) (some b) :=
    (Go.Lib.grownBy_setCell w b 1 _).trans (hg2.trans (grown_drew.trans ((Go.Lib.grownBy_setCell _ b 0 _).trans (Go.Lib.grownBy_setCell _ b 1 _))))
  simp [Leaves, settle, results, Tryz.results95]
  exact ⟨fin, grw⟩

set_option maxHeartbeats 1600000 in
theorem do_fresh (b : Nat) (w : World) (hb : Fresh w b) :
    Calls Tryz.prog 90 #[.pointer (some ⟨b, 0, none⟩), .func (.func 91) #[.pointer (some ⟨b, 0, none⟩)] #[]] w fun e w' => e = .returned (.tuple #[]) ∧ Done w' b ∧ w.grownBy w' (some b) := by
  have hl := run_call_load (P := Tryz.prog) Tryz.func100 (by kernel_rfl) (by kernel_rfl) (by kernel_rfl) .u32 (by kernel_rfl) (w := w) (a := ⟨b, 0, none⟩) (x := 0) (by rw [cell_of_block hb]; rfl)
  have h0 : w.cell? ⟨b, 0, none⟩ = some (.int .u32 0) := by rw [cell_of_block hb]; rfl
  have hnot : ∀ (x : Bool) (w : World), (Op.unary .not (.bool x)).run Tryz.prog w = .ok (.bool (!x)) w := fun _ _ => rfl
  go_enter Tryz.func90, Tryz.ntmps90
  go_wp2_with (first | (go_at_call 95; refine (slow_any b _ hb).mono ?_; rintro e w' ⟨rfl, hd, hg⟩) | (go_at_call 94; go_in))
  go_end0
  exact ⟨rfl, hd, hg⟩

theorem do_done (b : Nat) (fv : Value) (w : World) (hb : Done w b) :
    Calls Tryz.prog 90 #[.pointer (some ⟨b, 0, none⟩), fv] w fun e w' => e = .returned (.tuple #[]) ∧ w' = w := by
  obtain ⟨m, _, hb1, _⟩ := hb
  have h0 : w.cell? ⟨b, 0, none⟩ = some (.int .u32 1) := by rw [cell_of_block hb1]; rfl
  have hl := run_call_load (P := Tryz.prog) Tryz.func100 (by kernel_rfl) (by kernel_rfl) (by kernel_rfl) .u32 (by kernel_rfl) h0
  have hnot : ∀ (x : Bool) (w : World), (Op.unary .not (.bool x)).run Tryz.prog w = .ok (.bool (!x)) w := fun _ _ => rfl
  clear hb1
  go_enter Tryz.func90, Tryz.ntmps90
  go_wp2
  go_end0
  exact ⟨rfl, rfl⟩

/-- 'Do' at a book, fresh or filled. -/
theorem do_any (b : Nat) (w : World) (hb : Fresh w b ∨ Done w b) :
    Calls Tryz.prog 90 #[.pointer (some ⟨b, 0, none⟩), .func (.func 91) #[.pointer (some ⟨b, 0, none⟩)] #[]] w fun e w' => e = .returned (.tuple #[]) ∧ Done w' b ∧ w.grownBy w' (some b) := by
  rcases hb with h | h
  · exact do_fresh b w h
  · refine (do_done b _ w h).mono ?_
    rintro e w' ⟨rfl, rfl⟩
    exact ⟨rfl, h, World.grownBy.refl _ _⟩

theorem Done.alloc {w : World} {b : Nat} (h : Done w b) (o : Obj) : Done (w.alloc o) b := by
  obtain ⟨m, hm, hb, ho⟩ := h
  exact ⟨m, hm, (Below.heap_alloc w o b (Array.getElem?_eq_some_iff.1 hb).1).trans hb, ho.alloc o⟩

set_option maxHeartbeats 1600000 in
theorem isWord_any (b : Nat) (s : ByteArray) (w : World) (hs : s.size ≤ maxLen) (hb : Fresh w b ∨ Done w b) :
    Calls Tryz.prog 84 #[.pointer (some ⟨b, 0, none⟩), .string s] w fun e w' => e = .returned (.bool (isW s)) ∧ Done w' b ∧ w.grownBy w' (some b) := by
  have hmf : ∀ (fn : Fn) (first cap : Array Value) (w : World), (Instr.makeFunc fn first cap).run Tryz.prog w = .ok (.func fn first cap) w := fun _ _ _ _ => rfl
  have hkey := keyOf_string_mk (P := Tryz.prog) Tryz.underlying9 hs
  go_enter Tryz.func84, Tryz.ntmps84
  go_wp2_with fail
  refine (do_any b _ hb).mono ?_
  rintro e w1 ⟨rfl, hd, hg⟩
  obtain ⟨m, hmb, hb1, hown⟩ := hd
  have c3 : w1.cell? ⟨b, 3, none⟩ = some (.map (some m)) := by rw [cell_of_block hb1]; rfl
  have HB1 : Hid (w1.heap[b]? = some (.cells #[.int .u32 1, .int .i32 0, .int .u32 0, .map (some m)] 136)) := hb1
  clear hb1 hb
  go_wp2_with (at_lookup; refine wpList_lookup_own_unit _ rfl _ _ 134 rfl 9 67 lawS Tryz.underlying134 (zeroU _) m 8 _ rfl hown _ _ rfl hkey ?_)
  go_ret
  refine ⟨by rw [has_wordsD]; rfl, Done.alloc ⟨m, hmb, HB1.out, hown⟩ _, hg.trans (World.grownBy_alloc _ _ _)⟩

theorem below_of_new {w w' : World} {o : Obj} (h : (w.alloc o).grownBy w' (some w.heap.size)) : Below w.heap.size w w' :=
  ((Below.refl _ w).alloc (Nat.le_refl _) o).grown h (by simp) (fun k hk => by cases hk; exact Nat.le_refl _)

theorem fresh_new (w : World) : Fresh (w.alloc (.cells #[.int .u32 0, .int .i32 0, .int .u32 0, .map none] 136)) w.heap.size := (MapKept.heap_alloc w _).1

end Go.Proofs.YtkhkmmjollcfaaaGreatDoor

namespace Go.Proofs.YtkhkmmjollcfaaaGreatDoor
open Go.RowKit Go.Maps Go.Joins Go.WideMaps

set_option maxRecDepth 100000

/-- Is a text a name? -/
def nameOk (s : ByteArray) : Bool := decide (1 ≤ s.size) && decide (s.size ≤ 8) && ltb (s.data.toList.getD 0 0) && s.data.toList.all nmb && !isW s

theorem nameOk_first (s : ByteArray) (h : 0 < s.size) : s.data.toList.getD 0 0 = s[0] := by
  have : 0 < s.data.toList.length := by simpa using h
  rw [List.getD, List.getElem?_eq_getElem this]
  rfl

theorem hn_not (x : Bool) (w : World) : (Op.unary .not (.bool x)).run Tryz.prog w = .ok (.bool (!x)) w := rfl

set_option maxHeartbeats 800000 in
theorem isName_any (b : Nat) (s : ByteArray) (w : World) (hs : s.size ≤ maxLen) (hb : Fresh w b ∨ Done w b) :
    Calls Tryz.prog 67 #[.pointer (some ⟨b, 0, none⟩), .string s] w fun e w' => e = .returned (.bool (nameOk s)) ∧ (Fresh w' b ∨ Done w' b) ∧ w.grownBy w' (some b) := by
  have hnot := hn_not
  have hs' := hs
  unfold maxLen at hs'
  have HB : Hid (Fresh w b ∨ Done w b) := hb
  clear hb
  by_cases h1 : s.size < 1
  · have e1 : nameOk s = false := by simp [nameOk]; omega
    have h1' : (s.size : Int) < 1 := by omega
    have HE : Hid (nameOk s = false) := e1
    clear e1
    go_enter Tryz.func67, Tryz.ntmps67
    go_wp2
    go_ret
    exact ⟨by rw [HE.out]; rfl, HB.out, World.grownBy.refl _ _⟩
  by_cases h8 : 8 < s.size
  · have e1 : nameOk s = false := by simp [nameOk]; omega
    have h1' : decide ((s.size : Int) < 1) = false := by simp; omega
    have h8' : (8 : Int) < (s.size : Int) := by omega
    have HE : Hid (nameOk s = false) := e1
    clear e1
    go_enter Tryz.func67, Tryz.ntmps67
    go_wp2
    go_ret
    exact ⟨by rw [HE.out]; rfl, HB.out, World.grownBy.refl _ _⟩
  have hpos : 0 < s.size := by omega
  have hfst := nameOk_first s hpos
  have h1' : decide ((s.size : Int) < 1) = false := by simp; omega
  have h8' : decide ((8 : Int) < (s.size : Int)) = false := by simp; omega
  have eq0 : nameOk s = (lti (s[0].toNat : Int) && s.data.toList.all nmb && !isW s) := by
    unfold nameOk
    rw [hfst, decide_eq_true (by omega : 1 ≤ s.size), decide_eq_true (by omega : s.size ≤ 8)]
    rfl
  have HQ : Hid (nameOk s = (lti (s[0].toNat : Int) && s.data.toList.all nmb && !isW s)) := eq0
  have hp0 : (0 : Int) < (s.size : Int) := by omega
  clear hfst eq0
  cases hl : lti (s[0].toNat : Int)
  · have HE : Hid (nameOk s = false) := by rw [HQ.out, hl]; rfl
    go_enter Tryz.func67, Tryz.ntmps67
    go_wp2_with (go_at_call 82; refine (isLetter_is _ false hl _).mono ?_; rintro e w' ⟨rfl, rfl⟩)
    go_ret
    exact ⟨by rw [HE.out]; rfl, HB.out, World.grownBy.refl _ _⟩
  · have hfull := takeWhile_full nmb s.data.toList
    have HL : s.data.toList.length = s.size := by simp
    cases ha : s.data.toList.all nmb
    · have hne : (((nameLen s.data.toList : Nat) : Int) == (s.size : Int)) = false := by
        have : ¬ nameLen s.data.toList = s.size := fun e => by rw [← HL] at e; rw [hfull.1 e] at ha; cases ha
        simp; omega
      have HE : Hid (nameOk s = false) := by rw [HQ.out, hl, ha]; rfl
      clear HL hfull
      go_enter Tryz.func67, Tryz.ntmps67
      go_wp2_with (first
        | (go_at_call 82; refine (isLetter_is _ true hl _).mono ?_; rintro e w' ⟨rfl, rfl⟩)
        | (go_at_call 83; refine (nameLength_any _ _ hs).mono ?_; rintro e w' ⟨rfl, rfl⟩))
      go_ret
      exact ⟨by rw [HE.out]; rfl, HB.out, World.grownBy.refl _ _⟩
    · have hne : (((nameLen s.data.toList : Nat) : Int) == (s.size : Int)) = true := by
        have : nameLen s.data.toList = s.size := by rw [← HL]; exact hfull.2 ha
        simp; omega
      have HE : Hid (nameOk s = !isW s) := by rw [HQ.out, hl, ha]; rfl
      clear HL hfull
      go_enter Tryz.func67, Tryz.ntmps67
      go_wp2_with (first
        | (go_at_call 82; refine (isLetter_is _ true hl _).mono ?_; rintro e w' ⟨rfl, rfl⟩)
        | (go_at_call 83; refine (nameLength_any _ _ hs).mono ?_; rintro e w' ⟨rfl, rfl⟩)
        | (go_at_call 84; refine (isWord_any b s _ hs HB.out).mono ?_; rintro e w1 ⟨rfl, hd, hg⟩))
      go_ret
      exact ⟨by rw [HE.out]; rfl, .inr hd, hg⟩

end Go.Proofs.YtkhkmmjollcfaaaGreatDoor

namespace Go.Proofs.YtkhkmmjollcfaaaGreatDoor
open Go.RowKit Go.Joins Go.Maps

set_option maxRecDepth 100000

/-- The place of the last one of a text among the first k, or -1. -/
def lastN (ts : List ByteArray) (s : ByteArray) : Nat → Int
  | 0 => -1
  | k + 1 => if ((ts.getD k ByteArray.empty).toList == s.toList) = true then (k : Int) else lastN ts s k

theorem lastN_range (ts : List ByteArray) (s : ByteArray) : ∀ n : Nat, -1 ≤ lastN ts s n ∧ lastN ts s n < n
  | 0 => by simp [lastN]
  | k + 1 => by
    have := lastN_range ts s k
    rw [lastN]
    split <;> omega

theorem lastN_is (ts : List ByteArray) (s : ByteArray) (i : Nat) : ∀ n : Nat, i < n → (ts.getD i ByteArray.empty).toList = s.toList → (lastN ts s n = i ↔ ∀ j, i < j → j < n → (ts.getD j ByteArray.empty).toList ≠ s.toList)
  | 0, h, _ => by omega
  | n + 1, h, he => by
    rw [lastN]
    by_cases hn : ((ts.getD n ByteArray.empty).toList == s.toList) = true
    · rw [if_pos hn]
      constructor
      · intro h1 j hj hjn; omega
      · intro h1
        by_cases hi : i = n
        · omega
        · exact absurd (by simpa using hn) (h1 n (by omega) (by omega))
    · rw [if_neg hn]
      have hin : i ≠ n := by rintro rfl; exact hn (by simpa using he)
      rw [lastN_is ts s i n (by omega) he]
      constructor
      · intro h1 j hj hjn
        by_cases hjn' : j = n
        · subst hjn'; simpa using hn
        · exact h1 j hj (by omega)
      · intro h1 j hj hjn; exact h1 j hj (by omega)

def keysS (ts : List ByteArray) : List (List UInt8) := ts.map (fun t => t.data.toList)
theorem toList_eq (s : ByteArray) : s.toList = s.data.toList := ByteArray.toList_eq s

theorem keys_at {ts : List ByteArray} {i : Nat} (h : i < ts.length) : (keysS ts)[i]'(by simpa [keysS] using h) = (ts.getD i ByteArray.empty).toList := by
  simp [keysS, List.getD, List.getElem?_eq_getElem h, toList_eq]

theorem nodup_last (ts : List ByteArray) : (keysS ts).Nodup ↔ ∀ i, i < ts.length → lastN ts (ts.getD i ByteArray.empty) ts.length = i := by
  have hl : (keysS ts).length = ts.length := by simp [keysS]
  rw [List.Nodup, List.pairwise_iff_getElem]
  constructor
  · intro h i hi
    refine (lastN_is ts _ i ts.length hi rfl).2 fun j hij hj he => ?_
    refine h i j (by omega) (by omega) hij ?_
    rw [keys_at hi, keys_at hj, he]
  · intro h i j hi hj hij he
    refine (lastN_is ts _ i ts.length (by omega) rfl).1 (h i (by omega)) j hij (by omega) ?_
    rw [← keys_at (by omega : i < ts.length), ← keys_at (by omega : j < ts.length), he]

theorem addKey_str (L : List (List UInt8)) (x : List UInt8) : addKey (L.map Lit.string) (.string x) = if x ∈ L then L.map Lit.string else (L ++ [x]).map Lit.string := by
  unfold addKey
  have : ((L.map Lit.string).any fun y => y.sameKey (.string x)) = L.contains x := by
    rw [List.any_map]
    induction L with
    | nil => rfl
    | cons a r ih =>
      rw [List.any_cons, List.contains_cons, ih]
      have hc : ((fun y : Lit => y.sameKey (.string x)) ∘ Lit.string) a = (x == a) := by
        show (a == x) = (x == a)
        exact Bool.eq_iff_iff.2 (by simp only [beq_iff_eq]; exact ⟨fun h => h.symm, fun h => h.symm⟩)
      rw [hc]
  rw [this]
  by_cases h : x ∈ L
  · rw [if_pos h, if_pos (by simpa using h)]
  · rw [if_neg h, if_neg (by simpa using h)]; simp

theorem fold_le : ∀ (xs L : List (List UInt8)), ((xs.map Lit.string).foldl addKey (L.map Lit.string)).length ≤ L.length + xs.length
  | [], L => by simp
  | x :: r, L => by
    rw [List.map_cons, List.foldl_cons, addKey_str]
    split
    · have := fold_le r L; simp only [List.length_cons]; omega
    · have := fold_le r (L ++ [x]); simp only [List.length_append, List.length_cons, List.length_nil] at this; simp only [List.length_cons]; omega

theorem fold_nodup : ∀ (xs L : List (List UInt8)), L.Nodup → (((xs.map Lit.string).foldl addKey (L.map Lit.string)).length = L.length + xs.length ↔ (L ++ xs).Nodup)
  | [], L, h => by simp [h]
  | x :: r, L, h => by
    rw [List.map_cons, List.foldl_cons, addKey_str]
    by_cases hx : x ∈ L
    · rw [if_pos hx]
      constructor
      · intro he; have := fold_le r L; simp only [List.length_cons] at he; omega
      · intro hn
        rw [List.nodup_append] at hn
        exact absurd rfl (hn.2.2 x hx x (by simp))
    · rw [if_neg hx]
      have h1 : (L ++ [x]).Nodup := by
        rw [List.nodup_append]
        exact ⟨h, by simp, fun a ha b hb => by simp at hb; subst hb; exact fun e => hx (e ▸ ha)⟩
      have := fold_nodup r (L ++ [x]) h1
      rw [show L ++ [x] ++ r = L ++ x :: r by simp] at this
      rw [← this]
      simp only [List.length_append, List.length_cons, List.length_nil]
      omega

theorem size_names (u : DataW Unit) (ts : List ByteArray) : Maps.size (setOf u ((keysS ts).map Lit.string)) = ts.length ↔ (keysS ts).Nodup := by
  rw [size_setOf _ _ (fun y hy => by obtain ⟨_, _, rfl⟩ := List.mem_map.1 hy; trivial)]
  have := fold_nodup (keysS ts) [] List.nodup_nil
  simp only [List.map_nil, List.length_nil, Nat.zero_add, List.nil_append] at this
  rw [← this]
  simp [keysS]

/-- A program is right. -/
def Pr.ok (p : Pr) : Bool := decide (p.names.length = p.bodies.length) && decide (1 ≤ p.names.length) && decide (p.names.length ≤ 30) && p.names.all nameOk && decide (keysS p.names).Nodup && p.bodies.all (fun b => b.right 0 (p.names.length : Int) 60)
theorem Pr.ok_iff (p : Pr) : p.ok = true ↔ p.names.length = p.bodies.length ∧ 1 ≤ p.names.length ∧ p.names.length ≤ 30 ∧ (∀ t ∈ p.names, nameOk t = true) ∧ (keysS p.names).Nodup ∧ ∀ b ∈ p.bodies, b.right 0 (p.names.length : Int) 60 = true := by
  unfold Pr.ok
  simp only [Bool.and_eq_true, decide_eq_true_eq, List.all_eq_true]
  constructor
  · rintro ⟨⟨⟨⟨⟨h1, h2⟩, h3⟩, h4⟩, h5⟩, h6⟩; exact ⟨h1, h2, h3, h4, h5, h6⟩
  · rintro ⟨h1, h2, h3, h4, h5, h6⟩; exact ⟨⟨⟨⟨⟨h1, h2⟩, h3⟩, h4⟩, h5⟩, h6⟩
theorem Pr.ok_false {p : Pr} (h : ¬ (p.names.length = p.bodies.length ∧ 1 ≤ p.names.length ∧ p.names.length ≤ 30 ∧ (∀ t ∈ p.names, nameOk t = true) ∧ (keysS p.names).Nodup ∧ ∀ b ∈ p.bodies, b.right 0 (p.names.length : Int) 60 = true)) : p.ok = false := by
  cases hp : p.ok with
  | false => rfl
  | true => exact absurd (p.ok_iff.1 hp) h
end Go.Proofs.YtkhkmmjollcfaaaGreatDoor
