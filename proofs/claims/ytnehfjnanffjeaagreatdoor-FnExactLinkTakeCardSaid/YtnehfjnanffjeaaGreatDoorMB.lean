/-
  Maps keyed by pointers, carried from world to world.
  Links in memory.
  Rows of numbers in memory: their bulk, and copies of them.
  Two rows of numbers that are alike.
  One of what was sent, one of what was taken: two that are alike.
-/
import Derived.Test.YtnehfjnanffjeaaGreatDoorMA
import Derived.Maps.AppendAt
namespace Go.Proofs.YtnehfjnanffjeaaGreatDoor
open Go.RowKit Go.Joins

set_option maxRecDepth 100000

theorem nil_or_last {α : Type} (L : List α) : L = [] ∨ ∃ L' t, L = L' ++ [t] := by
  rcases List.eq_nil_or_concat L with h | ⟨L', t, h⟩
  · exact Or.inl h
  · exact Or.inr ⟨L', t, by rw [h, List.concat_eq_append]⟩
theorem PtMap.kept {Kd : World → Value → Prop} {w w' : World} {b : Nat} {f : Value → Option Value} (h : PtMap Kd w b f) (hb : w'.heap[b]? = w.heap[b]?) (hg : ∀ v, Kd w v → Kd w' v) : PtMap Kd w' b f := by
  obtain ⟨es, clock, h1, h2, h3⟩ := h
  exact ⟨es, clock, hb.trans h1, fun e he => hg _ (h2 e he), h3⟩
theorem KeysGo.sub {P : Program} {k : TypeId} {Kd Kd' : World → Value → Prop} (K : KeysGo P k Kd) (h : ∀ w v, Kd' w v → Kd w v) (hg : ∀ (w w' : World) (v : Value), (∀ b, Pl w b → Pl w' b) → Kd' w v → Kd' w' v) : KeysGo P k Kd' :=
  ⟨fun w em v hv => K.check w em v (h w v hv), fun w v hv => K.same w v (h w v hv), fun w u v hu hv => K.other w u v (h w u hu) (h w v hv), fun w u v hu hv => K.slow w u v (h w u hu) (h w v hv), fun w v hv => K.bits w v (h w v hv), hg⟩
theorem Below.grown {B : Nat} {a w w' : World} {row : Option Nat} (h : Below B a w) (hg : w.grownBy w' row) (hr : ∀ k, row = some k → B ≤ k) (hB : B ≤ w.heap.size) : Below B a w' :=
  h.trans ⟨hg.os, hg.tape, hg.output, hg.size, fun k hk => hg.block k (by omega) (fun e => by have := hr k e.symm; omega)⟩
theorem drewN_below {B : Nat} {a w : World} (h : Below B a w) (n : Nat) : Below B a (w.drewN n) := h.trans ⟨rfl, rfl, rfl, Nat.le_refl _, fun _ _ => rfl⟩


theorem Pl.more {w : World} {b : Nat} (h : Pl w b) (o : Obj) : Pl (w.alloc o) b := by
  obtain ⟨cs, t, hc⟩ := h
  exact ⟨cs, t, (Below.heap_alloc _ _ _ (Array.getElem?_eq_some_iff.1 hc).1).trans hc⟩
end Go.Proofs.YtnehfjnanffjeaaGreatDoor

namespace Go.Proofs.YtnehfjnanffjeaaGreatDoor
open Go.RowKit Go.Joins

set_option maxRecDepth 100000

/-- What was sent: its number, to whom, its bytes. -/
structure Sn where
  seq : Int
  dst : Int
  body : ByteArray
/-- What was taken of a node. -/
structure Se where
  low : Int
  ids : List Int
/-- A link. -/
structure Lk where
  id : Int
  next : Int
  out : List Sn
  seen : List Se
def Sn.bulk (s : Sn) : Nat := s.body.size
def Se.bulk (s : Se) : Nat := s.ids.length

def SentsAt (w : World) (S : Nat → Prop) (v : Value) (es : List Sn) : Prop :=
  ∃ a cap, v = .slice a es.length cap ∧ es.length ≤ maxLen ∧ ∀ i e, es[i]? = some e → ∃ b off, a = some ⟨b, off, none⟩ ∧ S b ∧ b < w.heap.size ∧
      w.cell? ⟨b, off + i * 3, none⟩ = some (.int .i64 e.seq) ∧ w.cell? ⟨b, off + i * 3 + 1, none⟩ = some (.int .i64 e.dst) ∧ w.cell? ⟨b, off + i * 3 + 2, none⟩ = some (.string e.body) ∧
      inI64 e.seq ∧ inI64 e.dst ∧ e.body.size ≤ maxLen
def SeensAt (w : World) (S : Nat → Prop) (v : Value) (es : List Se) : Prop :=
  ∃ a cap, v = .slice a es.length cap ∧ es.length ≤ maxLen ∧ ∀ i e, es[i]? = some e → ∃ b off kv, a = some ⟨b, off, none⟩ ∧ S b ∧ b < w.heap.size ∧
      w.cell? ⟨b, off + i * 2, none⟩ = some (.int .i64 e.low) ∧ w.cell? ⟨b, off + i * 2 + 1, none⟩ = some kv ∧ inI64 e.low ∧ IntsAt w S kv e.ids
/-- A link's value. -/
def LkAt (w : World) (S : Nat → Prop) (v : Value) (l : Lk) : Prop :=
  ∃ ov sv, v = .agg #[.int .i64 l.id, .int .i64 l.next, ov, sv] ∧ inI64 l.id ∧ inI64 l.next ∧ SentsAt w S ov l.out ∧ SeensAt w S sv l.seen

theorem SentsAt.kept {w w' : World} {S S' : Nat → Prop} (hw : ∀ b, S b → b < w.heap.size → w'.heap[b]? = w.heap[b]?) (hsz : w.heap.size ≤ w'.heap.size) (hS : ∀ b, S b → b < w.heap.size → S' b) {v : Value} {es : List Sn} (h : SentsAt w S v es) : SentsAt w' S' v es := by
  obtain ⟨a, cap, hv, hl, hc⟩ := h
  refine ⟨a, cap, hv, hl, fun i e he => ?_⟩
  obtain ⟨b, off, ha, hb, hlt, c0, c1, c2, r⟩ := hc i e he
  have hcell : ∀ o, w'.cell? ⟨b, o, none⟩ = w.cell? ⟨b, o, none⟩ := fun o => World.cell?_of_block (hw b hb hlt)
  exact ⟨b, off, ha, hS b hb hlt, Nat.lt_of_lt_of_le hlt hsz, (hcell _).trans c0, (hcell _).trans c1, (hcell _).trans c2, r⟩
theorem SeensAt.kept {w w' : World} {S S' : Nat → Prop} (hw : ∀ b, S b → b < w.heap.size → w'.heap[b]? = w.heap[b]?) (hsz : w.heap.size ≤ w'.heap.size) (hS : ∀ b, S b → b < w.heap.size → S' b) {v : Value} {es : List Se} (h : SeensAt w S v es) : SeensAt w' S' v es := by
  obtain ⟨a, cap, hv, hl, hc⟩ := h
  refine ⟨a, cap, hv, hl, fun i e he => ?_⟩
  obtain ⟨b, off, kv, ha, hb, hlt, c0, c1, r, hk⟩ := hc i e he
  have hcell : ∀ o, w'.cell? ⟨b, o, none⟩ = w.cell? ⟨b, o, none⟩ := fun o => World.cell?_of_block (hw b hb hlt)
  exact ⟨b, off, kv, ha, hS b hb hlt, Nat.lt_of_lt_of_le hlt hsz, (hcell _).trans c0, (hcell _).trans c1, r, hk.kept hw hsz hS⟩
theorem LkAt.kept {w w' : World} {S S' : Nat → Prop} (hw : ∀ b, S b → b < w.heap.size → w'.heap[b]? = w.heap[b]?) (hsz : w.heap.size ≤ w'.heap.size) (hS : ∀ b, S b → b < w.heap.size → S' b) {v : Value} {l : Lk} (h : LkAt w S v l) : LkAt w' S' v l := by
  obtain ⟨ov, sv, hv, h1, h2, h3, h4⟩ := h
  exact ⟨ov, sv, hv, h1, h2, h3.kept hw hsz hS, h4.kept hw hsz hS⟩
theorem SentsAt.below {w w' : World} {S : Nat → Prop} {v : Value} {es : List Sn} (h : SentsAt w S v es) (hb : Below w.heap.size w w') : SentsAt w' S v es :=
  h.kept (fun b _ hlt => hb.block b hlt) hb.size (fun _ h _ => h)
theorem SeensAt.below {w w' : World} {S : Nat → Prop} {v : Value} {es : List Se} (h : SeensAt w S v es) (hb : Below w.heap.size w w') : SeensAt w' S v es :=
  h.kept (fun b _ hlt => hb.block b hlt) hb.size (fun _ h _ => h)
theorem LkAt.below {w w' : World} {S : Nat → Prop} {v : Value} {l : Lk} (h : LkAt w S v l) (hb : Below w.heap.size w w') : LkAt w' S v l :=
  h.kept (fun b _ hlt => hb.block b hlt) hb.size (fun _ h _ => h)
theorem SentsAt.form {w : World} {S : Nat → Prop} {v : Value} {es : List Sn} (h : SentsAt w S v es) : ∃ a cap, v = .slice a es.length cap := by
  obtain ⟨a, cap, hv, _⟩ := h; exact ⟨a, cap, hv⟩
theorem SeensAt.form {w : World} {S : Nat → Prop} {v : Value} {es : List Se} (h : SeensAt w S v es) : ∃ a cap, v = .slice a es.length cap := by
  obtain ⟨a, cap, hv, _⟩ := h; exact ⟨a, cap, hv⟩
theorem LkAt.form {w : World} {S : Nat → Prop} {v : Value} {l : Lk} (h : LkAt w S v l) : ∃ oa oc sa sc, v = .agg #[.int .i64 l.id, .int .i64 l.next, .slice oa l.out.length oc, .slice sa l.seen.length sc] ∧ SentsAt w S (.slice oa l.out.length oc) l.out ∧ SeensAt w S (.slice sa l.seen.length sc) l.seen := by
  obtain ⟨ov, sv, rfl, _, _, h3, h4⟩ := h
  obtain ⟨oa, oc, rfl⟩ := h3.form
  obtain ⟨sa, sc, rfl⟩ := h4.form
  exact ⟨oa, oc, sa, sc, rfl, h3, h4⟩
theorem SentsAt.len {w : World} {S : Nat → Prop} {v : Value} {es : List Sn} (h : SentsAt w S v es) : es.length ≤ maxLen := by
  obtain ⟨a, cap, _, hl, _⟩ := h; exact hl
theorem SeensAt.len {w : World} {S : Nat → Prop} {v : Value} {es : List Se} (h : SeensAt w S v es) : es.length ≤ maxLen := by
  obtain ⟨a, cap, _, hl, _⟩ := h; exact hl

def preO (es : List Sn) (k : Nat) : Nat := ((es.take k).map Sn.bulk).sum
def bulkO (es : List Sn) : Nat := es.length + preO es es.length
theorem preO_succ {es : List Sn} {k : Nat} {e : Sn} (h : es[k]? = some e) : preO es (k + 1) = preO es k + e.bulk := by
  unfold preO
  have hk := (List.getElem?_eq_some_iff.1 h).1
  rw [List.take_succ_eq_append_getElem hk, List.map_append, List.sum_append]
  rw [(List.getElem?_eq_some_iff.1 h).2]
  simp
theorem preO_le (es : List Sn) (k : Nat) : preO es k ≤ preO es es.length := by
  unfold preO
  rw [List.take_length]
  conv => rhs; rw [← List.take_append_drop k es, List.map_append, List.sum_append]
  omega
theorem bulkO_at {es : List Sn} {i : Nat} {e : Sn} (h : es[i]? = some e) : es.length + e.bulk ≤ bulkO es := by
  have h1 := preO_succ h
  have h2 := preO_le es (i + 1)
  unfold bulkO
  omega
def preN (es : List Se) (k : Nat) : Nat := ((es.take k).map Se.bulk).sum
def bulkN (es : List Se) : Nat := es.length + preN es es.length
theorem preN_succ {es : List Se} {k : Nat} {e : Se} (h : es[k]? = some e) : preN es (k + 1) = preN es k + e.bulk := by
  unfold preN
  have hk := (List.getElem?_eq_some_iff.1 h).1
  rw [List.take_succ_eq_append_getElem hk, List.map_append, List.sum_append]
  rw [(List.getElem?_eq_some_iff.1 h).2]
  simp
theorem preN_le (es : List Se) (k : Nat) : preN es k ≤ preN es es.length := by
  unfold preN
  rw [List.take_length]
  conv => rhs; rw [← List.take_append_drop k es, List.map_append, List.sum_append]
  omega
theorem bulkN_at {es : List Se} {i : Nat} {e : Se} (h : es[i]? = some e) : es.length + e.bulk ≤ bulkN es := by
  have h1 := preN_succ h
  have h2 := preN_le es (i + 1)
  unfold bulkN
  omega
def Lk.bulk (l : Lk) : Nat := bulkO l.out + bulkN l.seen

theorem infoSent : (Tryz.prog.info? 65).map (fun i => (i.zero, i.size, i.bytes)) = some (some (.agg #[.int .i64 0, .int .i64 0, .string ByteArray.empty]), 3, 32) := by kernel_rfl
theorem infoSeen : (Tryz.prog.info? 83).map (fun i => (i.zero, i.size, i.bytes)) = some (some (.agg #[.int .i64 0, .slice none 0 0]), 2, 32) := by kernel_rfl
end Go.Proofs.YtnehfjnanffjeaaGreatDoor

namespace Go.Proofs.YtnehfjnanffjeaaGreatDoor
open Go.RowKit Go.Joins

set_option maxRecDepth 100000

theorem szIntS_any (v : Value) (ts : List Int) (S : Nat → Prop) (w : World) (left : Int) (h : IntsAt w S v ts) (h0 : 0 ≤ left) (h1 : left ≤ 1048576) :
    Calls Tryz.prog 48 #[v, .int .i64 left] w fun e w' => e = .returned (.int .i64 (szR left ts.length)) ∧ Below w.heap.size w w' := by
  obtain ⟨a, cap, rfl, hl, hc⟩ := h
  unfold maxLen at hl
  clear hc
  by_cases hlt : left - (ts.length : Int) < 0
  · go_enter Tryz.func48, Tryz.ntmps48
    go_wp2
    go_ret
    exact ⟨int_ret (by unfold szR; rw [if_neg (by omega)]), Below.refl _ w⟩
  · go_enter Tryz.func48, Tryz.ntmps48
    go_wp2
    go_ret
    exact ⟨int_ret (by unfold szR; rw [if_pos (by omega)]), Below.refl _ w⟩

theorem infoIntX : (Tryz.prog.info? 3).map (fun i => (i.zero, i.size, i.bytes)) = some (some (.int .i64 0), 1, 8) := by kernel_rfl
theorem make_ints (n : Nat) (hn : n ≤ 1048576) (w : World) : (Instr.makeSlice 26 (.int .i64 (n : Int)) (.int .i64 (n : Int))).run Tryz.prog w = .ok (.slice (some ⟨w.heap.size, 0, none⟩) n n) (w.alloc (.cells (madeCells #[.int .i64 0] n) 3)) := by
  obtain ⟨i0, hi, hz0, hz1, hz2⟩ := info_parts infoIntX
  have h := run_make (P := Tryz.prog) w 26 3 i0 _ Tryz.underlying26 hi hz0 .i64 .i64 (n : Int) (n : Int) (by omega) (by omega) (by rw [hz2]; omega) (by omega)
  rw [h, hz1]
  simp [Value.cells]

/-- A row of numbers under way. -/
def IntTo (w : World) (g n k : Nat) (ts : List Int) : Prop :=
  ∃ cur, w.heap[g]? = some (.cells cur 3 (0, 0)) ∧ cur.size = n ∧ ∀ i t, i < k → ts[i]? = some t → cur[i]? = some (.int .i64 t) ∧ inI64 t

theorem IntTo.next {w : World} {g n k : Nat} {ts : List Int} {t : Int} (h : IntTo w g n k ts) (hk : k < n) (ht : ts[k]? = some t) (hr : inI64 t) : IntTo (w.setCell ⟨g, k, none⟩ (.int .i64 t)) g n (k + 1) ts := by
  obtain ⟨cur, hg, hs, hc⟩ := h
  refine ⟨_, block_setCell hg _, by simp [hs], fun i u hi hu => ?_⟩
  by_cases hik : i < k
  · rw [Array.getElem?_setIfInBounds_ne (by omega)]; exact hc i u hik hu
  · obtain rfl : i = k := by omega
    obtain rfl : t = u := Option.some.inj (ht.symm.trans hu)
    exact ⟨Array.getElem?_setIfInBounds_self_of_lt (by omega), hr⟩

set_option maxHeartbeats 3200000 in
theorem toIntO_any (v : Value) (ts : List Int) (S : Nat → Prop) (w : World) (h : IntsAt w S v ts) (hb : ts.length ≤ 1048576) :
    Calls Tryz.prog 59 #[v] w fun e w' => ∃ v', e = .returned v' ∧ w'.ownsRow w.heap.size 3 1 v' ts.length (intVs ts) ∧ (∀ z ∈ ts, inI64 z) ∧ v'.ownBlock = some w.heap.size ∧ Below w.heap.size w w' := by
  obtain ⟨a, cap, rfl, -, hc⟩ := h
  have HC := (show Hid (_ ∧ True) from ⟨hc, trivial⟩)
  have hmk := make_ints ts.length hb
  clear hc
  have R0 : IntTo (w.alloc (.cells (madeCells #[.int .i64 0] ts.length) 3)) w.heap.size ts.length 0 ts :=
    ⟨_, (MapKept.heap_alloc w _).1, size_madeCells _ _, fun i e h => by omega⟩
  have B0 : Below w.heap.size w (w.alloc (.cells (madeCells #[.int .i64 0] ts.length) 3)) := (Below.refl _ w).alloc (Nat.le_refl _) _
  generalize madeCells #[.int .i64 0] ts.length = c0 at *
  go_enter Tryz.func59, Tryz.ntmps59
  go_wp2
  clear hmk
  go_loopw [4] (fun i wr => ∃ k : Nat, k ≤ ts.length ∧ i = .int .i64 k ∧ IntTo wr w.heap.size ts.length k ts ∧ Below w.heap.size w wr) (fun i _ => ts.length - (intOf i).toNat)
  case atStart => exact ⟨0, Nat.zero_le _, rfl, R0, B0⟩
  case round =>
    obtain ⟨k, hk, rfl, hrow, hbw⟩ := hrel
    by_cases hkl : k < ts.length
    · have he := List.getElem?_eq_getElem hkl
      generalize ts[k] = t at *
      obtain ⟨b, off, rfl, -, hl1, c0, r0⟩ := HC.out.1 k t he
      rw [← hbw.cell (by exact hl1)] at c0
      have HN : Hid (∀ wx : World, wx.heap = wr.heap → IntTo (wx.setCell ⟨w.heap.size, k, none⟩ (.int .i64 t)) w.heap.size ts.length (k + 1) ts) := fun wx hx => by
        refine IntTo.next (k := k) ?_ hkl he r0
        obtain ⟨cur, hg, hs, hc⟩ := hrow
        exact ⟨cur, by rw [hx]; exact hg, hs, hc⟩
      obtain ⟨cur, hg, hs, -⟩ := hrow
      have d0 : wr.cell? ⟨w.heap.size, k, none⟩ = some (cur[k]'(by omega)) := by rw [cell_of_block hg]; exact Array.getElem?_eq_getElem _
      generalize cur[k]'(by omega) = y0 at d0
      have f0 : wr.frozen? ⟨w.heap.size, k, none⟩ = false := unfrozen_of_block hg _
      clear he HC hg hs B0 R0
      have hlt' : ((k : Nat) : Int) < ((ts.length : Nat) : Int) := by omega
      go_wp2
      exact ⟨⟨k + 1, by omega, by go_num, HN.out _ rfl, hbw.setCell (p := ⟨w.heap.size, k, none⟩) (Nat.le_refl _) _⟩, by simp [intOf]; omega⟩
    · obtain rfl : k = ts.length := by omega
      obtain ⟨cur, hg, hcs, hcur⟩ := hrow
      have HF : Hid (wr.ownsRow w.heap.size 3 1 (.slice (some ⟨w.heap.size, 0, none⟩) ts.length ts.length) ts.length (intVs ts) ∧ ∀ z ∈ ts, inI64 z) := by
        refine ⟨⟨by simp, .inr ⟨_, _, cur, rfl, Nat.le_refl _, hg, Nat.le_refl _, by unfold maxLen; omega, by omega, ?_⟩⟩, fun z hz => ?_⟩
        · rw [List.take_of_length_le (by simp; omega)]
          refine List.ext_getElem? fun i => ?_
          by_cases hi : i < ts.length
          · have he := List.getElem?_eq_getElem hi
            have := (hcur i _ hi he).1
            rw [List.getElem?_map, he, Option.map_some, ← this]
            simp
          · rw [List.getElem?_eq_none (by simp; omega), List.getElem?_eq_none (by simp; omega)]
        · obtain ⟨i, hi⟩ := List.getElem?_of_mem hz
          exact (hcur i z (List.getElem?_eq_some_iff.1 hi).1 hi).2
      clear hg hcur HC
      go_wp2
      go_ret
      exact ⟨_, rfl, HF.out.1, HF.out.2, rfl, hbw⟩
theorem toIntS_any (v : Value) (ts : List Int) (S : Nat → Prop) (w : World) (h : IntsAt w S v ts) (hb : ts.length ≤ 1048576) :
    Calls Tryz.prog 59 #[v] w fun e w' => ∃ v', e = .returned v' ∧ IntsAt w' (fun b => w.heap.size ≤ b ∧ Pl w' b) v' ts ∧ Below w.heap.size w w' := by
  refine (toIntO_any v ts S w h hb).mono ?_
  rintro e w1 ⟨v', rfl, h1, h2, _, h3⟩
  exact ⟨v', rfl, own_ints h1 h2, h3⟩

section
variable {H : Type} {enc : TypeId × Value → H} {w : World} {spare : Nat → Bool} {held : Bool}
theorem open_ints (fuel : Nat) (cs : List Value) (x : DataW H × List MemPlace) (h : DataW.trod enc Tryz.prog w 0 spare held fuel 26 cs = some x) : ∃ v ts, cs = [v] ∧ IntsAt w (fun _ => True) v ts := by
  have cells1 : Tryz.prog.cellsOf 3 = 1 := by kernel_rfl
  rcases DataW.trod_slice Tryz.underlying26 h with ⟨hcs, _⟩ | ⟨a, len, cap, elems, rest, n, hn, hcs, _, _, hlc, hcm, hel, hat, _, _⟩
  · exact ⟨_, [], hcs, none, 0, rfl, Nat.zero_le _, fun i e he => by simp at he⟩
  · have one : ∀ (i : Nat), i < len → ∃ t : Int, w.cell? (a.add i) = some (.int .i64 t) ∧ inI64 t := by
      intro i hi
      have hb := hat i hi
      rw [List.getElem?_eq_getElem (by omega), cells1] at hb
      obtain ⟨cs', hc', ht'⟩ := Option.bind_eq_some_iff.1 hb
      obtain ⟨t, rfl, _, wt⟩ := DataW.trod_int Tryz.underlying3 ht'
      refine ⟨t, ?_, bounds_i64 wt⟩
      unfold World.cells? at hc'
      rw [if_pos (Nat.zero_le _)] at hc'
      simp only [show List.range 1 = [0] from rfl, List.mapM_cons, List.mapM_nil, Nat.mul_one] at hc'
      cases h0 : w.cell? ((a.add i).add 0) with
      | none => simp [h0] at hc'
      | some c0 =>
        simp [h0] at hc'
        subst hc'
        simpa [Addr.add] using h0
    have key : ∀ i, i < len → ∃ t : Int, ∃ b off, a = ⟨b, off, none⟩ ∧ b < w.heap.size ∧ w.cell? ⟨b, off + i, none⟩ = some (.int .i64 t) ∧ inI64 t := by
      intro i hi
      obtain ⟨t, ht, wt⟩ := one i hi
      obtain ⟨t0, ht0, _⟩ := one 0 (by omega)
      obtain ⟨b, off, spot⟩ := a
      obtain rfl : spot = none := by simpa [Addr.add] using World.cell?_spot ht0
      rw [addr_addI] at ht
      exact ⟨t, b, off, rfl, World.block_lt_of_cell? _ _ ht, ht, wt⟩
    obtain ⟨f, hf⟩ := Deep.choose_lt key
    refine ⟨_, (List.range len).map f, hcs, some a, cap, by simp, by simp; omega, fun i t ht => ?_⟩
    have hi : i < len := by have := (List.getElem?_eq_some_iff.1 ht).1; simpa using this
    obtain rfl : f i = t := by simpa [hi] using ht
    obtain ⟨b, off, ha, hlt, c0, r0⟩ := hf i hi
    exact ⟨b, off, by rw [ha], trivial, hlt, c0, r0⟩
end
end Go.Proofs.YtnehfjnanffjeaaGreatDoor

namespace Go.Proofs.YtnehfjnanffjeaaGreatDoor
open Go.RowKit Go.Joins

set_option maxRecDepth 100000

set_option maxHeartbeats 3200000 in
theorem eqIntS_same (v1 v2 : Value) (ts : List Int) (S1 S2 : Nat → Prop) (w : World) (h1 : IntsAt w S1 v1 ts) (h2 : IntsAt w S2 v2 ts) (hb : ts.length ≤ 4194304) :
    Calls Tryz.prog 74 #[v1, v2] w fun e w' => e = .returned (.bool true) ∧ Below w.heap.size w w' := by
  obtain ⟨a1, cap1, rfl, -, hc1⟩ := h1
  obtain ⟨a2, cap2, rfl, -, hc2⟩ := h2
  have HC1 := (show Hid (_ ∧ True) from ⟨hc1, trivial⟩)
  have HC2 := (show Hid (_ ∧ True) from ⟨hc2, trivial⟩)
  clear hc1 hc2
  have hne : (((ts.length : Nat) : Int) != ((ts.length : Nat) : Int)) = false := by simp
  go_enter Tryz.func74, Tryz.ntmps74
  go_wp2
  go_loopw [5] (fun i wr => ∃ k : Nat, k ≤ ts.length ∧ i = .int .i64 k ∧ Below w.heap.size w wr) (fun i _ => ts.length - (intOf i).toNat)
  case atStart => exact ⟨0, Nat.zero_le _, rfl, Below.refl _ _⟩
  case round =>
    obtain ⟨k, hk, rfl, hbw⟩ := hrel
    by_cases hkl : k < ts.length
    · have he := List.getElem?_eq_getElem hkl
      generalize ts[k] = t at *
      obtain ⟨b1, off1, rfl, -, hl1, c0, -⟩ := HC1.out.1 k t he
      obtain ⟨b2, off2, rfl, -, hl2, d0, -⟩ := HC2.out.1 k t he
      rw [← hbw.cell (by exact hl1)] at c0
      rw [← hbw.cell (by exact hl2)] at d0
      clear he HC1 HC2
      have hlt' : ((k : Nat) : Int) < ((ts.length : Nat) : Int) := by omega
      have hst : (t == t) = true := by simp
      have hsn : (t != t) = false := by simp
      go_wp2
      go_region
      all_goals
        go_wp2
        go_roundw
        case rel => exact ⟨k + 1, by omega, by go_num, hbw.drew⟩
        case measure => simp [intOf]; omega
    · clear HC1 HC2
      go_wp2
      go_ret
      exact ⟨rfl, hbw⟩
end Go.Proofs.YtnehfjnanffjeaaGreatDoor

namespace Go.Proofs.YtnehfjnanffjeaaGreatDoor
open Go.RowKit Go.Joins

set_option maxRecDepth 100000

abbrev Sn.row (s : Sn) : Array Value := #[.int .i64 s.seq, .int .i64 s.dst, .string s.body]

set_option maxHeartbeats 1600000 in
theorem eqSent_any (s : Sn) (w : World) :
    Calls Tryz.prog 72 #[.agg s.row, .agg s.row] w fun e w' => e = .returned (.bool true) ∧ Below w.heap.size w w' := by
  have e1 : (s.seq != s.seq) = false := by simp
  have e2 : (s.dst != s.dst) = false := by simp
  have e3 : (s.body.toList == s.body.toList) = true := by simp
  have B0 : Hid (∀ o o' : Obj, Below w.heap.size w ((w.alloc o).alloc o')) := fun o o' => ((Below.refl _ w).alloc (Nat.le_refl _) o).alloc (by simp) o'
  go_enter Tryz.func72, Tryz.ntmps72
  go_wp2
  go_ret
  exact ⟨rfl, B0.out _ _⟩

set_option maxHeartbeats 3200000 in
theorem eqSeen_any (kv1 kv2 : Value) (x : Se) (S1 S2 : Nat → Prop) (w : World) (k1 : IntsAt w S1 kv1 x.ids) (k2 : IntsAt w S2 kv2 x.ids) (hb : x.bulk ≤ 4194304) :
    Calls Tryz.prog 73 #[.agg #[.int .i64 x.low, kv1], .agg #[.int .i64 x.low, kv2]] w fun e w' => e = .returned (.bool true) ∧ Below w.heap.size w w' := by
  have hbe := (show x.bulk = x.ids.length from rfl)
  obtain ⟨a1, c1, rfl⟩ := k1.form
  obtain ⟨a2, c2, rfl⟩ := k2.form
  have e1 : (x.low != x.low) = false := by simp
  have B0 : Below w.heap.size w ((w.alloc (.cells #[.int .i64 x.low, .slice a1 x.ids.length c1] 83)).alloc (.cells #[.int .i64 x.low, .slice a2 x.ids.length c2] 83)) :=
    ((Below.refl _ w).alloc (Nat.le_refl _) _).alloc (by simp) _
  have HK1 := (show Hid (_ ∧ True) from ⟨k1.below B0, trivial⟩)
  have HK2 := (show Hid (_ ∧ True) from ⟨k2.below B0, trivial⟩)
  have HB0 := (show Hid (_ ∧ True) from ⟨B0, trivial⟩)
  have hnot := ex_not
  clear k1 k2 B0
  go_enter Tryz.func73, Tryz.ntmps73
  go_wp2_with fail
  refine (eqIntS_same _ _ x.ids S1 S2 _ HK1.out.1 HK2.out.1 (by omega)).mono ?_
  rintro e w1 ⟨rfl, b1⟩
  have B1 : Below w.heap.size w w1 := HB0.out.1.trans (b1.mono HB0.out.1.size)
  clear b1 HB0 HK1 HK2
  go_wp2
  go_ret
  exact ⟨rfl, B1⟩
end Go.Proofs.YtnehfjnanffjeaaGreatDoor
