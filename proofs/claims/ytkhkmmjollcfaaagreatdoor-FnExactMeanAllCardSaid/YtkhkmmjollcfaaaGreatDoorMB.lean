/-
  Small things about rows in memory.
  Rows of texts in memory.
  Programs in memory.
-/
import Derived.Test.YtkhkmmjollcfaaaGreatDoorMA
import Derived.RegionTactic
import Derived.OwnWalk
namespace Go.Proofs.YtkhkmmjollcfaaaGreatDoor
open Go.RowKit Go.Joins

set_option maxRecDepth 100000

def szR (left : Int) (b : Nat) : Int := if (b : Int) ≤ left then left - b else -1
theorem int_val {a b : Int} (h : a = b) : Value.int .i64 a = .int .i64 b := by rw [h]
theorem int_ret {a b : Int} (h : a = b) : Ending.returned (.int .i64 a) = .returned (.int .i64 b) := by rw [h]

theorem set4_other (cur : Array Value) (p q : Nat) (a b c e : Value) (h0 : q ≠ p) (h1 : q ≠ p + 1) (h2 : q ≠ p + 2) (h3 : q ≠ p + 3) : ((((cur.setIfInBounds p a).setIfInBounds (p + 1) b).setIfInBounds (p + 2) c).setIfInBounds (p + 3) e)[q]? = cur[q]? := by
  rw [Array.getElem?_setIfInBounds_ne (Ne.symm h3), Array.getElem?_setIfInBounds_ne (Ne.symm h2), Array.getElem?_setIfInBounds_ne (Ne.symm h1), Array.getElem?_setIfInBounds_ne (Ne.symm h0)]
theorem set4_same (cur : Array Value) (p : Nat) (a b c e : Value) (h : p + 4 ≤ cur.size) : ((((cur.setIfInBounds p a).setIfInBounds (p + 1) b).setIfInBounds (p + 2) c).setIfInBounds (p + 3) e)[p]? = some a ∧ ((((cur.setIfInBounds p a).setIfInBounds (p + 1) b).setIfInBounds (p + 2) c).setIfInBounds (p + 3) e)[p + 1]? = some b ∧ ((((cur.setIfInBounds p a).setIfInBounds (p + 1) b).setIfInBounds (p + 2) c).setIfInBounds (p + 3) e)[p + 2]? = some c ∧ ((((cur.setIfInBounds p a).setIfInBounds (p + 1) b).setIfInBounds (p + 2) c).setIfInBounds (p + 3) e)[p + 3]? = some e := by
  refine ⟨?_, ?_, ?_, ?_⟩
  · rw [Array.getElem?_setIfInBounds_ne (by omega), Array.getElem?_setIfInBounds_ne (by omega), Array.getElem?_setIfInBounds_ne (by omega), Array.getElem?_setIfInBounds_self_of_lt (by omega)]
  · rw [Array.getElem?_setIfInBounds_ne (by omega), Array.getElem?_setIfInBounds_ne (by omega), Array.getElem?_setIfInBounds_self_of_lt (by simp; omega)]
  · rw [Array.getElem?_setIfInBounds_ne (by omega), Array.getElem?_setIfInBounds_self_of_lt (by simp; omega)]
  · rw [Array.getElem?_setIfInBounds_self_of_lt (by simp; omega)]

abbrev set4 (w : World) (g p : Nat) (a b c e : Value) : World := (((w.setCell ⟨g, p, none⟩ a).setCell ⟨g, p + 1, none⟩ b).setCell ⟨g, p + 2, none⟩ c).setCell ⟨g, p + 3, none⟩ e
theorem set4_heap (w : World) (g p : Nat) (a b c e : Value) (k : Nat) (hk : k ≠ g) : (set4 w g p a b c e).heap[k]? = w.heap[k]? := by
  unfold set4
  rw [Below.heap_setCell _ _ _ k (by simpa using hk), Below.heap_setCell _ _ _ k (by simpa using hk), Below.heap_setCell _ _ _ k (by simpa using hk), Below.heap_setCell _ _ _ k (by simpa using hk)]

theorem ex_not (x : Bool) (w : World) : (Op.unary .not (.bool x)).run Tryz.prog w = .ok (.bool (!x)) w := rfl

theorem cells4 {w : World} {a : Addr} {cs : List Value} (h : w.cells? 0 a 4 = some cs) : ∃ c0 c1 c2 c3, cs = [c0, c1, c2, c3] ∧ w.cell? a = some c0 ∧ w.cell? (a.add 1) = some c1 ∧ w.cell? (a.add 2) = some c2 ∧ w.cell? (a.add 3) = some c3 := by
  unfold World.cells? at h
  rw [if_pos (Nat.zero_le _)] at h
  simp only [show List.range 4 = [0, 1, 2, 3] from rfl, List.mapM_cons, List.mapM_nil] at h
  cases h0 : w.cell? (a.add 0) with
  | none => simp [h0] at h
  | some c0 =>
    cases h1 : w.cell? (a.add 1) with
    | none => simp [h0, h1] at h
    | some c1 =>
      cases h2 : w.cell? (a.add 2) with
      | none => simp [h0, h1, h2] at h
      | some c2 =>
        cases h3 : w.cell? (a.add 3) with
        | none => simp [h0, h1, h2, h3] at h
        | some c3 =>
          simp [h0, h1, h2, h3] at h
          exact ⟨c0, c1, c2, c3, h.symm, by simpa [Addr.add] using h0, rfl, rfl, rfl⟩

theorem addr_add (b off k : Nat) : (⟨b, off, none⟩ : Addr).add k = ⟨b, off + k, none⟩ := by
  unfold Addr.add
  split
  · rename_i h; subst h; rfl
  · rfl

end Go.Proofs.YtkhkmmjollcfaaaGreatDoor

namespace Go.Proofs.YtkhkmmjollcfaaaGreatDoor
open Go.RowKit Go.Joins

set_option maxRecDepth 100000

theorem addr_add' (b off k : Nat) : (⟨b, off, none⟩ : Addr).add k = ⟨b, off + k, none⟩ := by
  unfold Addr.add
  split
  · rename_i h; subst h; rfl
  · rfl

def StrsAt (w : World) (S : Nat → Prop) (v : Value) (ts : List ByteArray) : Prop :=
  ∃ a cap, v = .slice a ts.length cap ∧ ts.length ≤ maxLen ∧ ∀ i t, ts[i]? = some t → ∃ b off, a = some ⟨b, off, none⟩ ∧ S b ∧ b < w.heap.size ∧ w.cell? ⟨b, off + i, none⟩ = some (.string t) ∧ t.size ≤ maxLen
theorem StrsAt.kept {w w' : World} {S S' : Nat → Prop} (hw : ∀ b, S b → b < w.heap.size → w'.heap[b]? = w.heap[b]?) (hsz : w.heap.size ≤ w'.heap.size) (hS : ∀ b, S b → b < w.heap.size → S' b) {v : Value} {ts : List ByteArray} (h : StrsAt w S v ts) : StrsAt w' S' v ts := by
  obtain ⟨a, cap, hv, hl, hc⟩ := h
  refine ⟨a, cap, hv, hl, fun i t ht => ?_⟩
  obtain ⟨b, off, ha, hb, hlt, c0, r⟩ := hc i t ht
  exact ⟨b, off, ha, hS b hb hlt, Nat.lt_of_lt_of_le hlt hsz, (World.cell?_of_block (hw b hb hlt)).trans c0, r⟩
theorem StrsAt.below {w w' : World} {S : Nat → Prop} {v : Value} {ts : List ByteArray} (h : StrsAt w S v ts) (hb : Below w.heap.size w w') : StrsAt w' S v ts :=
  h.kept (fun b _ hlt => hb.block b hlt) hb.size (fun _ h _ => h)
theorem StrsAt.form {w : World} {S : Nat → Prop} {v : Value} {ts : List ByteArray} (h : StrsAt w S v ts) : ∃ a cap, v = .slice a ts.length cap := by
  obtain ⟨a, cap, hv, _⟩ := h; exact ⟨a, cap, hv⟩

def preS (ts : List ByteArray) (k : Nat) : Nat := ((ts.take k).map ByteArray.size).sum
def bulkS (ts : List ByteArray) : Nat := ts.length + preS ts ts.length
end Go.Proofs.YtkhkmmjollcfaaaGreatDoor

namespace Go.Proofs.YtkhkmmjollcfaaaGreatDoor
open Go.RowKit Go.Joins

set_option maxRecDepth 100000

structure Pr where
  names : List ByteArray
  bodies : List Ex
def Pr.bulk (p : Pr) : Nat := bulkS p.names + Ex.bulkL p.bodies

def PrAt (w : World) (S : Nat → Prop) (d : Nat) (v : Value) (p : Pr) : Prop :=
  ∃ nv bv, v = .agg #[nv, bv] ∧ StrsAt w S nv p.names ∧ KidsAt w S d bv p.bodies
theorem PrAt.below {w w' : World} {S : Nat → Prop} {d : Nat} {v : Value} {p : Pr} (h : PrAt w S d v p) (hb : Below w.heap.size w w') : PrAt w' S d v p := by
  obtain ⟨nv, bv, hv, h1, h2⟩ := h
  exact ⟨nv, bv, hv, h1.below hb, h2.below hb⟩

theorem StrsAt.belowP {w w' : World} {n : Nat} {v : Value} {ts : List ByteArray} (h : StrsAt w (fun b => n ≤ b ∧ Pl w b) v ts) (hb : Below w.heap.size w w') : StrsAt w' (fun b => n ≤ b ∧ Pl w' b) v ts :=
  h.kept (fun b _ hlt => hb.block b hlt) hb.size (fun _ h _ => ⟨h.1, h.2.below hb⟩)
theorem PrAt.belowP {w w' : World} {n d : Nat} {v : Value} {p : Pr} (h : PrAt w (fun b => n ≤ b ∧ Pl w b) d v p) (hb : Below w.heap.size w w') : PrAt w' (fun b => n ≤ b ∧ Pl w' b) d v p := by
  obtain ⟨nv, bv, hv, h1, h2⟩ := h
  exact ⟨nv, bv, hv, h1.belowP hb, h2.belowP hb⟩
theorem PrAt.plain {w : World} {n d : Nat} {v : Value} {p : Pr} (h : PrAt w (fun b => n ≤ b ∧ Pl w b) d v p) : PrAt w (Pl w) d v p := by
  obtain ⟨nv, bv, hv, h1, h2⟩ := h
  exact ⟨nv, bv, hv, h1.kept (fun _ _ _ => rfl) (Nat.le_refl _) (fun _ h _ => h.2), h2.plain⟩
theorem bulkS_len (ts : List ByteArray) : ts.length ≤ bulkS ts := by unfold bulkS; omega

end Go.Proofs.YtkhkmmjollcfaaaGreatDoor
