/-
  The book of words: filling it, asking it whether a text is a word; each a contract, the book fresh or filled.
-/
import Derived.Test.YtdadppjncdkpiaaOnce
import Derived.Maps.OwnSet
import Derived.Maps.OwnOps
import Derived.Maps.AppendAt
import Derived.Maps.RangeWalk
import Derived.Lib.SmallJoins
import Derived.Lib.BufferOwn
namespace Go.Proofs.Ytdadppjncdkpiaa
open Go.RowKit Go.Maps Go.Joins Go.WideMaps

set_option maxRecDepth 100000

def words : List (List UInt8) := [[108, 101, 116], [105, 110], [105, 102], [116, 104, 101, 110], [101, 108, 115, 101], [99, 97, 115, 101], [111, 102], [112, 97, 114]]
def isW (s : ByteArray) : Bool := words.contains s.data.toList
def wordsD : DataW Unit := setOf (.agg []) (words.map Lit.string)

theorem has_wordsD (s : ByteArray) : Maps.has wordsD (.string s.data.toList) = isW s := by
  unfold wordsD isW
  rw [has_setOf _ _ _ (fun y hy => by obtain ⟨_, _, rfl⟩ := List.mem_map.1 hy; trivial), List.any_map]
  generalize s.data.toList = l
  induction words with
  | nil => rfl
  | cons a r ih =>
    rw [List.any_cons, List.contains_cons, ih]
    have hc : ((fun x : Lit => x.sameKey (.string l)) ∘ Lit.string) a = (l == a) := by
      show (a == l) = (l == a)
      exact Bool.eq_iff_iff.2 (by simp only [beq_iff_eq]; exact ⟨fun h => h.symm, fun h => h.symm⟩)
    rw [hc]

theorem lawS : Keyed Try.prog 9 := string_keyed Try.underlying9
theorem zeroU (w : World) : (zeroValue 150).run Try.prog w = .ok (.agg #[]) w := by kernel_rfl

theorem wpList_insert_own {H : Type} {P : Program} (w : World) {ops : Array Oper} {rest : List Oper} {o : Oper} {a : Act} {Q : Exit → Act → World → Prop}
    (hg : o.guard = none) (m x v : Operand) (t : TypeId) (hop : o.op = Op.insert t m x v)
    (k e : TypeId) (K : Keyed P k) (ht : P.underlying t = some (.map k e)) (R : Value → Option (DataW H × List MemPlace)) (b n : Nat) (D : DataW H)
    (hm : a.eval m = .map (some b)) (hown : w.ownsMap P k R b n D) (hn : n < maxLen) (key val : Value) (kl : Lit) (hx : a.eval x = key) (hv : a.eval v = val) (hkey : keyOf P k key = some kl)
    (d : DataW H) (ps : List MemPlace) (hval : R val = some (d, ps))
    (hK : ∀ w', w'.ownsMap P k R b (n + 1) (D.put kl d) → w.grownBy w' (some b) → wpList P ops Q rest (a.put o.dst undef) w') :
    wpList P ops Q (o :: rest) a w := by
  refine wpList_plain hg fun K' hK' => ?_
  obtain ⟨w', hrun, r1, r2⟩ := hown.update K ht hn hkey hval
  unfold Oper.wp
  simp [execOp, hop, hm, hx, hv, hrun, Result.andThen]
  exact hK' _ _ (hK w' r1 r2)

theorem fill_chain {w w1 w2 w3 w4 w5 w6 w7 w8 : World} {o : Obj} (h1 : (w.alloc o).grownBy w1 (some w.heap.size)) (h2 : w1.grownBy w2 (some w.heap.size)) (h3 : w2.grownBy w3 (some w.heap.size)) (h4 : w3.grownBy w4 (some w.heap.size))
    (h5 : w4.grownBy w5 (some w.heap.size)) (h6 : w5.grownBy w6 (some w.heap.size)) (h7 : w6.grownBy w7 (some w.heap.size)) (h8 : w7.grownBy w8 (some w.heap.size)) : w.grownBy w8 none :=
  (World.grownBy_alloc w o none).andThen (h1.trans (h2.trans (h3.trans (h4.trans (h5.trans (h6.trans (h7.trans h8))))))) (fun j hj => by cases hj; exact .inl (Nat.le_refl _))

/-- A book that was never asked. -/
def Fresh (w : World) (b : Nat) : Prop := w.heap[b]? = some (.cells #[.int .u32 0, .int .i32 0, .int .u32 0, .map none] 164)
/-- A book that was filled. -/
def Done (w : World) (b : Nat) : Prop := ∃ m, m ≠ b ∧ w.heap[b]? = some (.cells #[.int .u32 1, .int .i32 0, .int .u32 0, .map (some m)] 164) ∧ w.ownsMap Try.prog 9 unitElem m 8 wordsD

set_option maxHeartbeats 1600000 in
theorem fill_any (b : Nat) (w : World) (hb : w.heap[b]? = some (.cells #[.int .u32 0, .int .i32 1, .int .u32 0, .map none] 164)) :
    Calls Try.prog 139 #[.pointer (some ⟨b, 0, none⟩)] w fun e w' => e = .returned (.tuple #[]) ∧
      ∃ m, m ≠ b ∧ w'.heap[b]? = some (.cells #[.int .u32 0, .int .i32 1, .int .u32 0, .map (some m)] 164) ∧ w'.ownsMap Try.prog 9 unitElem m 8 wordsD ∧ w.grownBy w' (some b) := by
  have hlt : b < w.heap.size := (Array.getElem?_eq_some_iff.1 hb).1
  have hmm := @run_makeMap Try.prog
  have hown0 := World.ownsMap_made w Try.prog 9 (unitElem (H := Unit))
  have ml : (8 : Nat) < maxLen := by decide
  go_enter Try.func139, Try.ntmps139
  go_wp2_with (first
    | (refine wpList_insert_own _ rfl _ _ _ 162 rfl 9 150 lawS Try.underlying162 (unitElem (H := Unit)) w.heap.size 0 _ rfl hown0 (by omega) _ _ (.string [108, 101, 116]) rfl rfl (keyOf_string_mk (s := ⟨#[108, 101, 116]⟩) Try.underlying9 (by decide)) (.agg []) [] unitElem_mk ?_; intro w1 hown1 hg1)
    | (refine wpList_insert_own _ rfl _ _ _ 162 rfl 9 150 lawS Try.underlying162 (unitElem (H := Unit)) w.heap.size 1 _ rfl hown1 (by omega) _ _ (.string [105, 110]) rfl rfl (keyOf_string_mk (s := ⟨#[105, 110]⟩) Try.underlying9 (by decide)) (.agg []) [] unitElem_mk ?_; intro w2 hown2 hg2)
    | (refine wpList_insert_own _ rfl _ _ _ 162 rfl 9 150 lawS Try.underlying162 (unitElem (H := Unit)) w.heap.size 2 _ rfl hown2 (by omega) _ _ (.string [105, 102]) rfl rfl (keyOf_string_mk (s := ⟨#[105, 102]⟩) Try.underlying9 (by decide)) (.agg []) [] unitElem_mk ?_; intro w3 hown3 hg3)
    | (refine wpList_insert_own _ rfl _ _ _ 162 rfl 9 150 lawS Try.underlying162 (unitElem (H := Unit)) w.heap.size 3 _ rfl hown3 (by omega) _ _ (.string [116, 104, 101, 110]) rfl rfl (keyOf_string_mk (s := ⟨#[116, 104, 101, 110]⟩) Try.underlying9 (by decide)) (.agg []) [] unitElem_mk ?_; intro w4 hown4 hg4)
    | (refine wpList_insert_own _ rfl _ _ _ 162 rfl 9 150 lawS Try.underlying162 (unitElem (H := Unit)) w.heap.size 4 _ rfl hown4 (by omega) _ _ (.string [101, 108, 115, 101]) rfl rfl (keyOf_string_mk (s := ⟨#[101, 108, 115, 101]⟩) Try.underlying9 (by decide)) (.agg []) [] unitElem_mk ?_; intro w5 hown5 hg5)
    | (refine wpList_insert_own _ rfl _ _ _ 162 rfl 9 150 lawS Try.underlying162 (unitElem (H := Unit)) w.heap.size 5 _ rfl hown5 (by omega) _ _ (.string [99, 97, 115, 101]) rfl rfl (keyOf_string_mk (s := ⟨#[99, 97, 115, 101]⟩) Try.underlying9 (by decide)) (.agg []) [] unitElem_mk ?_; intro w6 hown6 hg6)
    | (refine wpList_insert_own _ rfl _ _ _ 162 rfl 9 150 lawS Try.underlying162 (unitElem (H := Unit)) w.heap.size 6 _ rfl hown6 (by omega) _ _ (.string [111, 102]) rfl rfl (keyOf_string_mk (s := ⟨#[111, 102]⟩) Try.underlying9 (by decide)) (.agg []) [] unitElem_mk ?_; intro w7 hown7 hg7)
    | (refine wpList_insert_own _ rfl _ _ _ 162 rfl 9 150 lawS Try.underlying162 (unitElem (H := Unit)) w.heap.size 7 _ rfl hown7 (by omega) _ _ (.string [112, 97, 114]) rfl rfl (keyOf_string_mk (s := ⟨#[112, 97, 114]⟩) Try.underlying9 (by decide)) (.agg []) [] unitElem_mk ?_; intro w8 hown8 hg8
       have hG8 := fill_chain hg1 hg2 hg3 hg4 hg5 hg6 hg7 hg8
       have hb8 := (hG8.block b hlt (by simp)).trans hb
       have c3 : w8.cell? ⟨b, 3, none⟩ = some (.map none) := by rw [cell_of_block hb8]; rfl
       have f3 : w8.frozen? ⟨b, 3, none⟩ = false := unfrozen_of_block hb8 3))
  go_end0
  have hne : w.heap.size ≠ b := Nat.ne_of_gt hlt
  exact ⟨rfl, w.heap.size, hne, block_setCell hb8 _, hown8.setCell hne _, (hG8.but (some b)).trans (Go.Lib.grownBy_setCell _ _ _ _)⟩
end Go.Proofs.Ytdadppjncdkpiaa
