/-
  The builtin copy at elements of so many cells, also within one block.
  The program's taken in memory: a Seen whose ids stand in an array; its whole row as one.
  The program's takenOf: a Seen whose ids stand in an array.
  The program's placeOf: where among the ids a number is, or would be.
  The program's goOn: the ids below are forgotten.
  The program's take of a taken: a number is put among the ids, or there is an error.
  The program's seen: the ids of a taken in a row of their own.
-/
import Derived.Test.YtlbinamlehapoaaGreatDoorMB
import Derived.Laws.CopyOwn
import Derived.Test.YtlbinamlehapoaaGreatDoorMW
import Derived.Test.YtlbinamlehapoaaGreatDoorMZ
import Derived.Laws.Rows
import Derived.Laws.Tables
import Derived.Deep.WholeRow
import Derived.Deep.RegionHeld3
import Derived.Test.YtlbinamlehapoaaGreatDoorShelfB
import Derived.Test.YtlbinamlehapoaaGreatDoorMX
import Derived.Test.YtlbinamlehapoaaGreatDoorMD
namespace Go.Proofs.YtlbinamlehapoaaGreatDoor
open Go.RowKit Go.Joins

set_option maxRecDepth 100000

/-- copy where an element has so many cells. -/
theorem run_copy_rowN {P : Program} (w : World) (dT sT ty elem : TypeId) (sz g o dLen dCap : Nat) (a : Addr) (sLen sCap : Nat) (cur : Array Value) (t : TypeId) (cs : List Value)
    (hu : P.underlying dT = some (.slice elem)) (hs : (P.info? elem).map (·.size) = some sz)
    (hg : w.heap[g]? = some (.cells cur t (0, 0))) (hn : cs.length = Nat.min sLen dLen * sz)
    (hsrc : ∀ j v, cs[j]? = some v → w.cell? (a.add j) = some v) (hfit : o + cs.length ≤ cur.size) (h1 : ∀ v ∈ cs, v.oneCell' = true) :
    (Builtin.copy_ #[dT, sT] ty #[.slice (some ⟨g, o, none⟩) dLen dCap, .slice (some a) sLen sCap]).run P w =
      .ok (goInt (Nat.min sLen dLen)) (w.setRow g (cur.toList.take o ++ cs ++ cur.toList.drop (o + cs.length)).toArray) := by
  have hl := run_loadCells_list (P := P) w a cs hsrc
  have hst := run_storeCells_at P g o t cs 0 cur w hg (by simpa using hfit) h1
  cases hq : P.info? elem with
  | none => simp [hq] at hs
  | some i =>
    have hi : i.size = sz := by simpa [hq] using hs
    simp [Builtin.copy_, run_underlying hu, Builtin.lenOf, Builtin.firstCells, sizeOf, typeInfo, hq, hi, ← hn, hl, hst]
/-- The same, with what is known of the world behind it. -/
theorem copy_rowN {P : Program} (w : World) (dT sT ty elem : TypeId) (sz g o dLen dCap : Nat) (a : Addr) (sLen sCap : Nat) (cur : Array Value) (t : TypeId) (cs : List Value) (m : Nat) (hm : m = Nat.min sLen dLen)
    (hu : P.underlying dT = some (.slice elem)) (hs : (P.info? elem).map (·.size) = some sz)
    (hg : w.heap[g]? = some (.cells cur t (0, 0))) (hn : cs.length = m * sz)
    (hsrc : ∀ j v, cs[j]? = some v → w.cell? (a.add j) = some v) (hfit : o + cs.length ≤ cur.size) (h1 : ∀ v ∈ cs, v.oneCell' = true) :
    ∃ w', (Builtin.copy_ #[dT, sT] ty #[.slice (some ⟨g, o, none⟩) dLen dCap, .slice (some a) sLen sCap]).run P w = .ok (.int .i64 (m : Int)) w' ∧
      w'.heap[g]? = some (.cells (cur.toList.take o ++ cs ++ cur.toList.drop (o + cs.length)).toArray t (0, 0)) ∧ ∀ B w0, Below B w0 w → B ≤ g → Below B w0 w' := by
  subst hm
  exact ⟨_, run_copy_rowN (P := P) w dT sT ty elem sz g o dLen dCap a sLen sCap cur t cs hu hs hg hn hsrc hfit h1, setRow_heap w g _ _ t _ hg, fun B w0 hb hBg => below_setRow hb hBg _⟩
/-- The same as one step of a region that draws its order. -/
theorem step_copyN {P : Program} {ops : Array Oper} {o : Oper} {a : Act} {w : World} {K : Act → World → Prop} {Q : Exit → Act → World → Prop} {E : Prop} (hgd : o.guard = none) (d s : Operand) (dT sT : TypeId)
    (ho : o.op = .call { callee := .builtin .copy, args := #[d, s], argTypes := #[dT, sT] }) (u v : Value) (hd : a.eval d = u) (hs : a.eval s = v) (m : Int) (Post : World → Prop)
    (hrun : ∃ w', (Builtin.copy_ #[dT, sT] o.type #[u, v]).run P w = .ok (.int .i64 m) w' ∧ Post w') (h : ∀ w', Post w' → K (a.put o.dst (.int .i64 m)) w') :
    if Region.wanted o (yielded ops a.tmps) = true then Oper.wp P o a w K Q else E := by
  have hw : Region.wanted o (yielded ops a.tmps) = true := by simp [Region.wanted, hgd]
  rw [if_pos hw]
  obtain ⟨w', hr, hp⟩ := hrun
  unfold Oper.wp execOp
  simp only [ho, resolve, invoke, builtin, Sem.run_bind, Sem.run_pure, Result.andThen_ok, List.map_toArray, List.map_cons, List.map_nil, hd, hs, hr]
  exact h w' hp
end Go.Proofs.YtlbinamlehapoaaGreatDoor

namespace Go.Proofs.YtlbinamlehapoaaGreatDoor
open Go.RowKit Go.Joins Go.Shelf

set_option maxRecDepth 100000

/-- The cells of a taken. -/
def tkRow (low : Int) (xs : List Int) (c : Nat) : Array Value := (Value.int .i64 low :: (intVs xs ++ [Value.int .i64 (c : Int)])).toArray
theorem tkRow_size {low : Int} {xs : List Int} {c : Nat} (h : xs.length = 60) : (tkRow low xs c).size = 62 := by simp [tkRow, intVs, h]
theorem tkRow_low (low : Int) (xs : List Int) (c : Nat) : (tkRow low xs c)[0]? = some (.int .i64 low) := by simp [tkRow]
theorem tkRow_at {low : Int} {xs : List Int} {c j : Nat} (hj : j < xs.length) : (tkRow low xs c)[1 + j]? = some (.int .i64 (xs.getD j 0)) := by
  have e : 1 + j = j + 1 := Nat.add_comm _ _
  simp only [tkRow, intVs, e, List.getElem?_toArray, List.getElem?_cons_succ]
  rw [List.getElem?_append_left (by simpa using hj)]
  simp [hj]
theorem tkRow_count {low : Int} {xs : List Int} {c : Nat} (h : xs.length = 60) : (tkRow low xs c)[61]? = some (.int .i64 (c : Int)) := by
  simp [tkRow, intVs, h]
theorem tkRow_one (low : Int) (xs : List Int) (c : Nat) : (tkRow low xs c).all (·.oneCell') = true := by
  simp [tkRow, intVs, Value.oneCell']
theorem tkRow_setLow (low l' : Int) (xs : List Int) (c : Nat) : (tkRow low xs c).setIfInBounds 0 (.int .i64 l') = tkRow l' xs c := by simp [tkRow]
theorem tkRow_setCount {low : Int} {xs : List Int} {c : Nat} (h : xs.length = 60) (c' : Nat) : (tkRow low xs c).setIfInBounds 61 (.int .i64 (c' : Int)) = tkRow low xs c' := by
  simp [tkRow, intVs, h, List.set_append_right]
theorem tkRow_set {low : Int} {xs : List Int} {c j : Nat} (hj : j < xs.length) (z : Int) : (tkRow low xs c).setIfInBounds (1 + j) (.int .i64 z) = tkRow low (xs.set j z) c := by
  have e : 1 + j = j + 1 := Nat.add_comm _ _
  simp [tkRow, intVs, e, List.set_append_left, hj, List.map_set]
/-- A row of numbers laid over it from a place on. -/
theorem tkRow_over {low : Int} {xs ys : List Int} {c k : Nat} (h : k + ys.length ≤ xs.length) : ((tkRow low xs c).toList.take (1 + k) ++ intVs ys ++ (tkRow low xs c).toList.drop (1 + k + (intVs ys).length)).toArray = tkRow low (xs.take k ++ ys ++ xs.drop (k + ys.length)) c := by
  have e1 : 1 + k = k + 1 := Nat.add_comm _ _
  have e2 : 1 + k + (intVs ys).length = (k + ys.length) + 1 := by simp [intVs]; omega
  rw [e2, e1]
  simp only [tkRow, List.take_succ_cons, List.drop_succ_cons]
  have h1 : (intVs xs ++ [Value.int .i64 (c : Int)]).take k = intVs (xs.take k) := by
    rw [List.take_append_of_le_length (by simp [intVs]; omega)]
    simp [intVs, List.map_take]
  have h2 : (intVs xs ++ [Value.int .i64 (c : Int)]).drop (k + ys.length) = intVs (xs.drop (k + ys.length)) ++ [Value.int .i64 (c : Int)] := by
    rw [List.drop_append_of_le_length (by simp [intVs]; omega)]
    simp [intVs, List.map_drop]
  rw [h1, h2]
  simp [intVs]
def nils60 : List Int := List.replicate 60 0
theorem nils60_len : nils60.length = 60 := by simp [nils60]
def tkZero : Array Value := tkRow 0 nils60 0
theorem infoTk : (Tryz.prog.info? 109).map (fun i => (i.zero, i.size)) = some (some (.agg tkZero), 62) := by kernel_rfl
theorem sizeTk : (Tryz.prog.info? 109).map (·.size) = some 62 := by kernel_rfl
theorem run_allocT (w : World) : (Instr.alloc 109 true (.tuple #[])).run Tryz.prog w = .ok (.pointer (some ⟨w.heap.size, 0, none⟩)) (w.alloc (.cells tkZero 109)) := by
  have h := (zero_of_info infoTk).1
  simp only [Instr.alloc, Sem.run_bind, h, Result.andThen_ok, newVar, newRow, Value.cells]
  rfl
theorem run_buildT (low : Int) (w : World) : (Instr.build 109 #[(0, .int .i64 low)]).run Tryz.prog w = .ok (.agg (tkRow low nils60 0)) w := by kernel_rfl
/-- One step of a region that runs to a value. -/
theorem wpl_run {P : Program} {ops : Array Oper} {o : Oper} {rest : List Oper} {a : Act} {w : World} {Q : Exit → Act → World → Prop} (hg : o.guard = none) (v : Value) (w' : World)
    (hr : (execOp a.eval o).run P w = .ok (.value v) w') (h : wpList P ops Q rest (a.put o.dst v) w') : wpList P ops Q (o :: rest) a w :=
  wpList_plain hg fun K hK => by unfold Oper.wp; rw [hr]; exact hK _ _ h
theorem wpl_skip {P : Program} {ops : Array Oper} {o : Oper} {rest : List Oper} {a : Act} {w : World} {Q : Exit → Act → World → Prop} (hg : o.guard = none) (w' : World)
    (hr : (execOp a.eval o).run P w = .ok .skip w') (h : wpList P ops Q rest (a.put o.dst undef) w') : wpList P ops Q (o :: rest) a w :=
  wpList_plain hg fun K hK => by unfold Oper.wp; rw [hr]; exact hK _ _ h
theorem ex_alloc (e : Operand → Value) (o : Oper) (ho : o.op = .alloc 109) (w : World) : (execOp e o).run Tryz.prog w = .ok (.value (.pointer (some ⟨w.heap.size, 0, none⟩))) (w.alloc (.cells tkZero 109)) := by
  unfold execOp
  rw [ho]
  simp only [Sem.run_bind, run_allocT, Result.andThen_ok, Sem.run_pure]
theorem ex_build (e : Operand → Value) (o : Oper) (x : Operand) (low : Int) (ho : o.op = .build 109 #[(0, x)]) (hx : e x = .int .i64 low) (w : World) : (execOp e o).run Tryz.prog w = .ok (.value (.agg (tkRow low nils60 0))) w := by
  unfold execOp
  rw [ho]
  simp only [List.map_toArray, List.map_cons, List.map_nil, hx, Sem.run_bind, run_buildT, Result.andThen_ok, Sem.run_pure]
theorem ex_loadT (e : Operand → Value) (o : Oper) (x : Operand) (b : Nat) (cs : Array Value) (t : TypeId) (ho : o.op = .load 109 x) (hx : e x = .pointer (some ⟨b, 0, none⟩)) (w : World) (hb : w.heap[b]? = some (.cells cs t (0, 0))) (hs : cs.size = 62) : (execOp e o).run Tryz.prog w = .ok (.value (.agg cs)) w := by
  unfold execOp
  rw [ho]
  simp only [hx, Instr.loadAt, Instr.sureAddr, Sem.run_bind, Sem.run_pure, Result.andThen_ok, run_loadVar_row w b t 109 cs (0, 0) _ hb Tryz.underlying109 rfl (by rw [hs]; exact sizeTk)]
theorem ex_storeT (e : Operand → Value) (o : Oper) (x y : Operand) (b : Nat) (cs cs' : Array Value) (t : TypeId) (ho : o.op = .store 109 x y) (hx : e x = .pointer (some ⟨b, 0, none⟩)) (hy : e y = .agg cs') (w : World) (hb : w.heap[b]? = some (.cells cs t (0, 0))) (hs : cs.size = 62) (hs' : cs'.size = 62) (h1 : cs'.all (·.oneCell') = true) :
    (execOp e o).run Tryz.prog w = .ok .skip (w.setRow b cs') := by
  unfold execOp
  rw [ho]
  simp only [hx, hy, Instr.storeAt, Instr.sureAddr, Sem.run_bind, Sem.run_pure, Result.andThen_ok, run_storeVar_row w b t 109 cs cs' hb (by rw [hs']; exact sizeTk) (by rw [hs, hs']) h1]
/-- A taken in memory. -/
structure TkAt (W : World) (t : Nat) (low : Int) (xs : List Int) (c : Nat) : Prop where
  blk : W.heap[t]? = some (.cells (tkRow low xs c) 109 (0, 0))
  len : xs.length = 60
  cnt : c ≤ 60
theorem TkAt.cells {W : World} {t : Nat} {low : Int} {xs : List Int} {c : Nat} (h : TkAt W t low xs c) : W.cell? ⟨t, 0, none⟩ = some (.int .i64 low) ∧ W.cell? ⟨t, 61, none⟩ = some (.int .i64 (c : Int)) ∧ ∀ j, j < xs.length → W.cell? ⟨t, 1 + j, none⟩ = some (.int .i64 (xs.getD j 0)) := by
  refine ⟨?_, ?_, fun j hj => ?_⟩
  · rw [cell_of_row _ _ _ _ _ _ h.blk]; exact tkRow_low _ _ _
  · rw [cell_of_row _ _ _ _ _ _ h.blk]; exact tkRow_count h.len
  · rw [cell_of_row _ _ _ _ _ _ h.blk]; exact tkRow_at hj
theorem TkAt.below {W W' : World} {t : Nat} {low : Int} {xs : List Int} {c : Nat} (h : TkAt W t low xs c) (hb : Below W.heap.size W W') : TkAt W' t low xs c := ⟨(hb.block _ (lt_heap h.blk)).trans h.blk, h.len, h.cnt⟩
theorem KB.setRow {X : Nat → Prop} {a w : World} (h : KB X a w) {g : Nat} (hp : X g) (cs : Array Value) : KB X a (w.setRow g cs) :=
  ⟨h.os, h.tape, h.output, Nat.le_trans h.size (by simp [World.setRow]), fun k hk hx => (setRow_other w g k cs (fun e => hx (by rw [e]; exact hp))).trans (h.block k hk hx)⟩
theorem TkAt.setLow {W : World} {t : Nat} {low : Int} {xs : List Int} {c : Nat} (h : TkAt W t low xs c) (l' : Int) : TkAt (W.setCell ⟨t, 0, none⟩ (.int .i64 l')) t l' xs c :=
  ⟨by rw [← tkRow_setLow low l' xs c]; exact block_setCell h.blk _, h.len, h.cnt⟩
theorem TkAt.setCount {W : World} {t : Nat} {low : Int} {xs : List Int} {c : Nat} (h : TkAt W t low xs c) (c' : Nat) (hc : c' ≤ 60) : TkAt (W.setCell ⟨t, 61, none⟩ (.int .i64 (c' : Int))) t low xs c' :=
  ⟨by rw [← tkRow_setCount h.len c']; exact block_setCell h.blk _, h.len, hc⟩
theorem TkAt.set {W : World} {t : Nat} {low : Int} {xs : List Int} {c : Nat} (h : TkAt W t low xs c) (j : Nat) (hj : j < 60) (z : Int) : TkAt (W.setCell ⟨t, 1 + j, none⟩ (.int .i64 z)) t low (xs.set j z) c :=
  ⟨by rw [← tkRow_set (by rw [h.len]; exact hj) z]; exact block_setCell h.blk _, by rw [List.length_set]; exact h.len, h.cnt⟩
theorem sizeI : (Tryz.prog.info? 3).map (·.size) = some 1 := by kernel_rfl
theorem intVs_one (zs : List Int) : ∀ u ∈ intVs zs, u.oneCell' = true := by
  intro u hu
  obtain ⟨z, _, rfl⟩ := List.mem_map.1 hu
  rfl
/-- Numbers are copied into it, from a place on. -/
theorem TkAt.copy {W : World} {t : Nat} {low : Int} {xs : List Int} {c : Nat} (h : TkAt W t low xs c) (ty : TypeId) (o dLen dCap : Nat) (ad : Addr) (ys : List Int) (sCap : Nat) (hd : ys.length ≤ dLen) (ho : o + ys.length ≤ 60)
    (hsrc : ∀ j z, ys[j]? = some z → W.cell? (ad.add j) = some (.int .i64 z)) :
    ∃ W', (Builtin.copy_ #[28, 28] ty #[.slice (some ⟨t, 1 + o, none⟩) dLen dCap, .slice (some ad) ys.length sCap]).run Tryz.prog W = .ok (.int .i64 (ys.length : Int)) W' ∧ TkAt W' t low (xs.take o ++ ys ++ xs.drop (o + ys.length)) c ∧ KB (fun b => b = t) W W' := by
  have hm : Nat.min ys.length dLen = ys.length := Nat.min_eq_left hd
  have hlen : (intVs ys).length = ys.length := by simp [intVs]
  have hr := run_copy_rowN (P := Tryz.prog) W 28 28 ty 3 1 t (1 + o) dLen dCap ad ys.length sCap (tkRow low xs c) 109 (intVs ys) Tryz.underlying28 sizeI h.blk (by rw [hlen, hm]; omega)
    (fun j v hj => by
      simp only [intVs, List.getElem?_map, Option.map_eq_some_iff] at hj
      obtain ⟨z, hz, rfl⟩ := hj
      exact hsrc j z hz) (by rw [hlen, tkRow_size h.len]; omega) (intVs_one ys)
  refine ⟨W.setRow t ((tkRow low xs c).toList.take (1 + o) ++ intVs ys ++ (tkRow low xs c).toList.drop (1 + o + (intVs ys).length)).toArray, ?_, ⟨?_, ?_, h.cnt⟩, KB.setRow (X := fun b => b = t) (KB.refl _ W) rfl _⟩
  · rw [hr, hm]; rfl
  · rw [tkRow_over (by rw [h.len]; exact ho)]
    exact setRow_heap W t _ _ _ _ h.blk
  · simp [h.len]; omega
/-- The same out of a row that may be nil. -/
theorem TkAt.copyAt {W : World} {t : Nat} {low : Int} {xs ys : List Int} {c : Nat} {S : Nat → Prop} {a : Option Addr} {cap : Nat} (h : TkAt W t low xs c) (ty : TypeId) (hs : IntsAt W S (.slice a ys.length cap) ys) (ho : ys.length ≤ 60) :
    ∃ W', (Builtin.copy_ #[28, 28] ty #[.slice (some ⟨t, 1, none⟩) 60 60, .slice a ys.length cap]).run Tryz.prog W = .ok (.int .i64 (ys.length : Int)) W' ∧ TkAt W' t low (ys ++ xs.drop ys.length) c ∧ KB (fun b => b = t) W W' := by
  obtain ⟨a', cap', he, hl, hc⟩ := hs
  simp only [Value.slice.injEq] at he
  obtain ⟨rfl, -, rfl⟩ := he
  cases a with
  | some ad =>
    obtain ⟨W', h1, h2, h3⟩ := h.copy ty 0 60 60 ad ys cap ho (by omega) (fun j z hz => by
      obtain ⟨b, off, hab, _, _, hcell, _⟩ := hc j z hz
      obtain rfl : ad = ⟨b, off, none⟩ := by simpa using hab
      rw [addr_addI]
      exact hcell)
    exact ⟨W', h1, by simpa using h2, h3⟩
  | none =>
    have hy : ys = [] := by
      cases ys with
      | nil => rfl
      | cons y r => obtain ⟨b, off, hab, _⟩ := hc 0 y rfl; simp at hab
    subst hy
    refine ⟨W, ?_, by simpa using h, KB.refl _ _⟩
    obtain ⟨i, hi, hsz⟩ := Option.map_eq_some_iff.1 sizeI
    simp [Builtin.copy_, run_underlying Tryz.underlying28, Builtin.lenOf, Builtin.firstCells, sizeOf, typeInfo, hi, storeCells]
    rfl
end Go.Proofs.YtlbinamlehapoaaGreatDoor

namespace Go.Proofs.YtlbinamlehapoaaGreatDoor
open Go.RowKit Go.Joins Go.Shelf

set_option maxRecDepth 100000

set_option maxHeartbeats 800000 in
theorem takenOf_any (s : Se) (kv : Value) (S : Nat → Prop) (w : World) (h : IntsAt w S kv s.ids) (hl : s.ids.length ≤ 60) :
    Calls Tryz.prog 70 #[.agg #[.int .i64 s.low, kv]] w fun e w' => ∃ xs : List Int, e = .returned (.agg (tkRow s.low xs s.ids.length)) ∧ xs.length = 60 ∧ xs.take s.ids.length = s.ids ∧ Below w.heap.size w w' := by
  obtain ⟨a, cap, rfl⟩ := h.form
  obtain ⟨W0, hW0⟩ : ∃ W0, W0 = w.alloc (.cells #[.int .i64 s.low, .slice a s.ids.length cap] 76) := ⟨_, rfl⟩
  have B0 : Below w.heap.size w W0 := by rw [hW0]; exact (Below.refl _ w).alloc (Nat.le_refl _) _
  have O0 : W0.heap[w.heap.size]? = some (.cells #[.int .i64 s.low, .slice a s.ids.length cap] 76 (0, 0)) := by rw [hW0]; exact (MapKept.heap_alloc w _).1
  have hs0 : W0.heap.size = w.heap.size + 1 := by rw [hW0]; simp
  have B1 : Below w.heap.size w (W0.alloc (.cells tkZero 109)) := B0.alloc (by omega) _
  have O1 : (W0.alloc (.cells tkZero 109)).heap[w.heap.size]? = some (.cells #[.int .i64 s.low, .slice a s.ids.length cap] 76 (0, 0)) := by
    rw [Below.heap_alloc _ _ _ (by omega)]; exact O0
  have P1 : (W0.alloc (.cells tkZero 109)).heap[W0.heap.size]? = some (.cells tkZero 109 (0, 0)) := (MapKept.heap_alloc W0 _).1
  have hs1 : (W0.alloc (.cells tkZero 109)).heap.size = W0.heap.size + 1 := by simp
  generalize hW1 : W0.alloc (.cells tkZero 109) = W1 at B1 O1 P1 hs1
  go_enter Tryz.func70, Tryz.ntmps70
  refine wp_seq_k (fun K hK => ?_)
  refine wp_region_list ?_
  refine wpl_run rfl (.pointer (some ⟨w.heap.size, 0, none⟩)) W0 (by rw [hW0]; go_simp) ?_
  simp only [Act.put, List.setIfInBounds_toArray, List.set_cons_zero, List.set_cons_succ]
  refine wpl_run rfl (.pointer (some ⟨W0.heap.size, 0, none⟩)) W1 (by rw [← hW1]; exact ex_alloc _ _ rfl W0) ?_
  simp only [Act.put, List.setIfInBounds_toArray, List.set_cons_zero, List.set_cons_succ]
  refine wpList_nil ?_
  refine hK _ _ ?_
  clear hK K
  have c10 : W1.cell? ⟨w.heap.size, 0, none⟩ = some (.int .i64 s.low) := by rw [cell_of_row _ _ _ _ _ _ O1]; rfl
  obtain ⟨W2, hW2⟩ : ∃ W2, W2 = W1.alloc (.cells tkZero 109) := ⟨_, rfl⟩
  have B2 : Below W1.heap.size W1 W2 := by rw [hW2]; exact (Below.refl _ W1).alloc (Nat.le_refl _) _
  have P2 : W2.heap[W1.heap.size]? = some (.cells tkZero 109 (0, 0)) := by rw [hW2]; exact (MapKept.heap_alloc W1 _).1
  have hz := nils60_len
  have T3 : TkAt (W2.setRow W1.heap.size (tkRow s.low nils60 0)) W1.heap.size s.low nils60 0 := ⟨setRow_heap W2 _ _ _ _ _ P2, hz, by omega⟩
  have B3 : Below W1.heap.size W1 (W2.setRow W1.heap.size (tkRow s.low nils60 0)) := below_setRow B2 (Nat.le_refl _) _
  refine wp_seq_k (fun K hK => ?_)
  refine wp_region_list ?_
  refine wpl_run rfl (.pointer (some ⟨w.heap.size, 0, none⟩)) W1 (by go_simp) ?_
  simp only [Act.put, List.setIfInBounds_toArray, List.set_cons_zero, List.set_cons_succ]
  refine wpl_run rfl (.int .i64 s.low) W1 (by go_simp) ?_
  simp only [Act.put, List.setIfInBounds_toArray, List.set_cons_zero, List.set_cons_succ]
  refine wpl_run rfl (.agg (tkRow s.low nils60 0)) W1 (ex_build _ _ (.tmp 5) s.low rfl rfl W1) ?_
  simp only [Act.put, List.setIfInBounds_toArray, List.set_cons_zero, List.set_cons_succ]
  refine wpl_run rfl (.pointer (some ⟨W1.heap.size, 0, none⟩)) W2 (by rw [hW2]; exact ex_alloc _ _ rfl W1) ?_
  simp only [Act.put, List.setIfInBounds_toArray, List.set_cons_zero, List.set_cons_succ]
  refine wpl_skip rfl (W2.setRow W1.heap.size (tkRow s.low nils60 0)) (ex_storeT _ _ (.tmp 3) (.tmp 6) W1.heap.size tkZero _ _ rfl rfl rfl W2 P2 (tkRow_size hz) (tkRow_size hz) (tkRow_one _ _ _)) ?_
  simp only [Act.put]
  refine wpList_nil ?_
  refine hK _ _ ?_
  clear hK K
  generalize W2.setRow W1.heap.size (tkRow s.low nils60 0) = W3 at T3 B3
  have B13 : Below w.heap.size w W3 := B1.trans (B3.mono (by omega))
  have T3d : TkAt W3.drew W1.heap.size s.low nils60 0 := ⟨T3.blk, T3.len, T3.cnt⟩
  have c31 : W3.drew.cell? ⟨w.heap.size, 1, none⟩ = some (.slice a s.ids.length cap) := by rw [cell_of_row W3.drew _ _ _ _ _ ((B3.block _ (lt_heap O1)).trans O1)]; rfl
  obtain ⟨W4, hcp, T4, K4⟩ := T3d.copyAt 3 (h.below B13.drew) hl
  have T5 := T4.setCount s.ids.length hl
  have c4 := T4.cells.2.1
  have f4 : W4.frozen? ⟨W1.heap.size, 61, none⟩ = false := frozen_of_row _ _ _ _ _ T4.blk
  have K5 : KB (fun b => b = W1.heap.size) W3.drew (W4.setCell ⟨W1.heap.size, 61, none⟩ (.int .i64 (s.ids.length : Int))) := KB.setCell (X := fun b => b = W1.heap.size) K4 rfl _
  generalize hW5 : W4.setCell ⟨W1.heap.size, 61, none⟩ (.int .i64 (s.ids.length : Int)) = W5 at T5 K5
  have HK := (show Hid (_ ∧ _ ∧ _ ∧ _ ∧ _ ∧ _) from ⟨B13, T5, K5, P1, B3, hcp⟩)
  have HS := (show Hid (_ ∧ _) from ⟨hs0, hs1⟩)
  clear B13 T5 K5 P1 B3 hcp T3d T4 K4 T3 B2 P2 hW2 c10 B1 O1 B0 O0 hW0 hW1 hz hs0 hs1
  refine wp_seq_k (fun K hK => ?_)
  go_region_law (refine step_copyN rfl (.tmp 8) (.tmp 10) 28 28 rfl (.slice (some ⟨W1.heap.size, 1, none⟩) 60 60) (.slice a s.ids.length cap) (by simp [Act.eval]) (by simp [Act.eval]) (s.ids.length : Int) (fun w' => w' = W4) ⟨W4, HK.out.2.2.2.2.2, rfl⟩ ?_; rintro w3 rfl)
  refine hK _ _ ?_
  clear hK K
  obtain ⟨B13, T5, K5, P1, B3, -⟩ := HK.out
  obtain ⟨hs0, hs1⟩ := HS.out
  have P5 : W5.heap[W0.heap.size]? = some (.cells tkZero 109 (0, 0)) := K5.heap ((B3.block _ (by omega)).trans P1 : W3.drew.heap[W0.heap.size]? = _) (by show ¬ _ = _; omega)
  refine wp_seq_k (fun K hK => ?_)
  refine wp_region_list ?_
  refine wpl_run rfl (.agg (tkRow s.low (s.ids ++ nils60.drop s.ids.length) s.ids.length)) W5 (ex_loadT _ _ (.tmp 3) W1.heap.size _ _ rfl rfl W5 T5.blk (tkRow_size T5.len)) ?_
  simp only [Act.put, List.setIfInBounds_toArray, List.set_cons_zero, List.set_cons_succ]
  refine wpl_skip rfl (W5.setRow W0.heap.size (tkRow s.low (s.ids ++ nils60.drop s.ids.length) s.ids.length)) (ex_storeT _ _ (.tmp 2) (.tmp 13) W0.heap.size tkZero _ _ rfl rfl rfl W5 P5 (tkRow_size nils60_len) (tkRow_size T5.len) (tkRow_one _ _ _)) ?_
  simp only [Act.put]
  refine wpList_nil ?_
  refine hK _ _ ?_
  clear hK K
  have P6 := setRow_heap W5 W0.heap.size _ (tkRow s.low (s.ids ++ nils60.drop s.ids.length) s.ids.length) _ _ P5
  have B6 : Below w.heap.size w (W5.setRow W0.heap.size (tkRow s.low (s.ids ++ nils60.drop s.ids.length) s.ids.length)) := below_setRow (B13.drew.trans (K5.below (fun k hk => by have hk' : k = W1.heap.size := hk; omega) B13.size)) (by omega) _
  have HF := (show Hid (_ ∧ _ ∧ _) from ⟨P6, B6, T5.len⟩)
  clear P6 B6 T5 hs0 hs1 K5 P1 B3 B13 P5 HK HS
  generalize W5.setRow W0.heap.size (tkRow s.low (s.ids ++ nils60.drop s.ids.length) s.ids.length) = W6 at HF ⊢
  go_wp2
  refine bodyPost_ret (results_cell_row (p := 2) (ty := 109) rfl _ W6 W0.heap.size _ _ (0, 0) _ rfl HF.out.1 Tryz.underlying109 rfl (by rw [tkRow_size HF.out.2.2]; exact sizeTk)) rfl ?_
  exact ⟨_, rfl, HF.out.2.2, by simp, HF.out.2.1⟩
end Go.Proofs.YtlbinamlehapoaaGreatDoor

namespace Go.Proofs.YtlbinamlehapoaaGreatDoor
open Go.RowKit Go.Joins Go.Shelf

set_option maxRecDepth 100000

/-- A call of two arguments as one step of a region that draws. -/
theorem step_callT {P : Program} {ops : Array Oper} {o : Oper} {a : Act} {w : World} {K : Act → World → Prop} {Q : Exit → Act → World → Prop} {E : Prop}
    (hg : o.guard = none) (f : FuncId) (x y : Operand) (ts : Array TypeId) (hop : o.op = Op.call { callee := Callee.value (.func f), args := #[x, y], argTypes := ts }) (hent : ∀ args w, (callFunc f args).run P w = .ok (.enter f args) w)
    (u v : Value) (hx : a.eval x = u) (hy : a.eval y = v) (Post : Value → World → Prop) (hc : Calls P f #[u, v] w fun e w' => ∃ r, e = .returned r ∧ Post r w') (hK : ∀ r w', Post r w' → K (a.put o.dst r) w') :
    if Region.wanted o (yielded ops a.tmps) = true then Oper.wp P o a w K Q else E := by
  have hw : Region.wanted o (yielded ops a.tmps) = true := by simp [Region.wanted, hg]
  rw [if_pos hw]
  unfold Oper.wp execOp
  have hf : a.eval (.func f) = .func (.func f) #[] #[] := rfl
  simp [hop, resolve, invoke, hx, hy, hf, hent, Deferred.ofValue]
  refine hc.mono ?_
  rintro e w' ⟨r, rfl, h⟩
  exact hK r w' h
theorem ent_search : ∀ args w, (callFunc 110 args).run Tryz.prog w = .ok (.enter 110 args) w := enters_of Tryz.func110 (by kernel_rfl) rfl

set_option maxHeartbeats 800000 in
theorem placeOf_any {W : World} {t : Nat} {low : Int} {xs : List Int} {c : Nat} (h : TkAt W t low xs c) (hs : (xs.take c).Pairwise (· ≤ ·)) (q : Int) :
    Calls Tryz.prog 99 #[.pointer (some ⟨t, 0, none⟩), .int .i64 q] W fun e W' => e = .returned (.tuple #[.int .i64 ((xs.take c).countP (· < q) : Nat), .bool ((xs.take c).contains q)]) ∧ ∃ k, W' = W.drewN k := by
  obtain ⟨c0, c61, cj⟩ := h.cells
  have c61d : W.drew.cell? ⟨t, 61, none⟩ = some (.int .i64 (c : Int)) := c61
  have hc := h.cnt
  have hci : (c : Int) ≤ 60 := by omega
  have hb := Tryz.slices_BinarySearch_int t 1 c 60 xs q W.drew (by rw [h.len]; exact hc) (by omega) (fun j hj => cj j hj) hs
  generalize (xs.take c).countP (· < q) = n at hb ⊢
  generalize (xs.take c).contains q = y at hb ⊢
  have HB : Hid (Calls Tryz.prog 110 #[.slice (some ⟨t, 1, none⟩) c 60, .int .i64 q] W.drew fun e w' => e = .returned (.tuple #[.int .i64 (n : Nat), .bool y]) ∧ ∃ q, w' = W.drew.drewN q) := hb
  clear hb cj hs c0 c61
  go_enter Tryz.func99, Tryz.ntmps99
  go_wp2_with fail
  go_region_law (refine step_callT rfl 110 (.tmp 13) (.tmp 14) _ rfl ent_search (.slice (some ⟨t, 1, none⟩) c 60) (.int .i64 q) (by rfl) (by rfl) (fun r w' => r = .tuple #[.int .i64 (n : Nat), .bool y] ∧ ∃ k, w' = W.drew.drewN k) (Calls.mono (show Calls _ _ _ _ _ from HB.out) (fun e w' he => ⟨_, he.1, rfl, he.2⟩)) ?_; rintro r w1 ⟨rfl, k1, rfl⟩)
  go_wp2
  go_ret2
  exact ⟨rfl, _, rfl⟩
end Go.Proofs.YtlbinamlehapoaaGreatDoor

namespace Go.Proofs.YtlbinamlehapoaaGreatDoor
open Go.RowKit Go.Joins Go.Shelf

set_option maxRecDepth 100000

theorem upTo_max (a b : Int) : upTo a b = max a b := by
  unfold upTo
  split <;> omega
theorem TkAt.drewN {W : World} {t : Nat} {low : Int} {xs : List Int} {c : Nat} (h : TkAt W t low xs c) (k : Nat) : TkAt (W.drewN k) t low xs c := ⟨h.blk, h.len, h.cnt⟩

set_option maxHeartbeats 800000 in
theorem goOn_any {W : World} {t : Nat} {low : Int} {xs : List Int} {c : Nat} (h : TkAt W t low xs c) (hs : (xs.take c).Pairwise (· ≤ ·)) (lw : Int) (n : Nat) (hn : n = (xs.take c).countP (· < upTo low lw)) :
    Calls Tryz.prog 71 #[.pointer (some ⟨t, 0, none⟩), .int .i64 lw] W fun e W' => e = .returned (.tuple #[]) ∧ (∃ xs', TkAt W' t (upTo low lw) xs' (c - n) ∧ xs'.take (c - n) = (xs.take c).drop n) ∧ KB (fun b => b = t) W W' := by
  rw [upTo_max] at hn ⊢
  have hnc : n ≤ c := by
    have h1 := List.countP_le_length (p := fun z => decide (z < max low lw)) (l := xs.take c)
    rw [← hn, List.length_take] at h1
    omega
  obtain ⟨c0, c61, cj⟩ := h.cells
  have f0 : W.frozen? ⟨t, 0, none⟩ = false := frozen_of_row _ _ _ _ _ h.blk
  have hc60 := h.cnt
  have T1 := h.setLow (max low lw)
  have K1 : KB (fun b => b = t) W (W.setCell ⟨t, 0, none⟩ (.int .i64 (max low lw))) := KB.setCell (X := fun b => b = t) (KB.refl _ W) rfl _
  have H1 := (show Hid (_ ∧ _ ∧ _ ∧ _) from ⟨T1, K1, hs, hn⟩)
  clear T1 K1 hs hn cj h c61
  go_enter Tryz.func71, Tryz.ntmps71
  go_wp2_with fail
  clear c0 f0
  generalize W.setCell ⟨t, 0, none⟩ (.int .i64 (max low lw)) = W1 at H1 ⊢
  refine (placeOf_any H1.out.1 H1.out.2.2.1 _).mono ?_
  rintro e w2 ⟨rfl, k2, hw2⟩
  rw [← H1.out.2.2.2]
  have T2 : TkAt w2.drew t (max low lw) xs c := by rw [hw2]; exact ⟨H1.out.1.blk, H1.out.1.len, H1.out.1.cnt⟩
  have K2 : KB (fun b => b = t) W w2.drew := by rw [hw2]; exact ⟨H1.out.2.1.os, H1.out.2.1.tape, H1.out.2.1.output, H1.out.2.1.size, H1.out.2.1.block⟩
  clear hw2 H1
  generalize (xs.take c).contains (max low lw) = y
  have c61 : w2.drew.cell? ⟨t, 61, none⟩ = some (.int .i64 (c : Int)) := T2.cells.2.1
  have hyl : ((xs.take c).drop n).length = c - n := by rw [List.length_drop, List.length_take, T2.len]; omega
  have hci : (c : Int) ≤ 60 := by omega
  have hni : (n : Int) ≤ (c : Int) := by omega
  by_cases hn60 : n = 60
  · subst hn60
    obtain rfl : c = 60 := by omega
    obtain ⟨W4, hcp, T4, K4⟩ := T2.copy 3 0 60 60 ⟨t, 1, none⟩ [] 0 (by simp) (by simp) (fun j z hz => by simp at hz)
    have T5 := T4.setCount 0 (by omega)
    have K5 : KB (fun b => b = t) w2.drew (W4.setCell ⟨t, 61, none⟩ (.int .i64 ((0 : Nat) : Int))) := KB.setCell (X := fun b => b = t) K4 rfl _
    have c4 := T4.cells.2.1
    have f4 : W4.frozen? ⟨t, 61, none⟩ = false := frozen_of_row _ _ _ _ _ T4.blk
    generalize hW5 : W4.setCell ⟨t, 61, none⟩ (.int .i64 ((0 : Nat) : Int)) = W5 at T5 K5
    have HK := (show Hid (_ ∧ _ ∧ _ ∧ _) from ⟨hcp, T5, K2.trans K5, hyl⟩)
    clear hcp T5 K2 K5 hyl T4 K4 T2
    go_wp2_with fail
    go_region_law (refine step_copyN rfl (.tmp 28) (.tmp 37) 28 28 rfl (.slice (some ⟨t, 1, none⟩) 60 60) (.slice (some ⟨t, 1, none⟩) 0 0) (by rfl) (by rfl) ((0 : Nat) : Int) (fun w' => w' = W4) ⟨W4, HK.out.1, rfl⟩ ?_; rintro w3 rfl)
    go_wp2
    go_end0
    subst hW5
    refine ⟨rfl, ⟨_, HK.out.2.1, ?_⟩, HK.out.2.2.1⟩
    rw [List.take_append_of_le_length (by simp), List.take_append_of_le_length (by simp)]
    simp
  · have hn60' : ¬ 60 = n := fun e => hn60 e.symm
    obtain ⟨W4, hcp, T4, K4⟩ := T2.copy 3 0 60 60 ⟨t, 1 + n, none⟩ ((xs.take c).drop n) (60 - n) (by omega) (by omega) (fun j z hz => by
      rw [addr_addI]
      have hj := (List.getElem?_eq_some_iff.1 hz).1
      have := T2.cells.2.2 (n + j) (by rw [T2.len]; omega)
      rw [Nat.add_assoc, this]
      rw [List.getElem?_drop, List.getElem?_take_of_lt (by omega)] at hz
      simp [List.getD, hz])
    rw [hyl] at hcp
    have T5 := T4.setCount (c - n) (by omega)
    have K5 : KB (fun b => b = t) w2.drew (W4.setCell ⟨t, 61, none⟩ (.int .i64 ((c - n : Nat) : Int))) := KB.setCell (X := fun b => b = t) K4 rfl _
    have c4 := T4.cells.2.1
    have f4 : W4.frozen? ⟨t, 61, none⟩ = false := frozen_of_row _ _ _ _ _ T4.blk
    generalize hW5 : W4.setCell ⟨t, 61, none⟩ (.int .i64 ((c - n : Nat) : Int)) = W5 at T5 K5
    have HK := (show Hid (_ ∧ _ ∧ _ ∧ _) from ⟨hcp, T5, K2.trans K5, hyl⟩)
    clear hcp T5 K2 K5 hyl T4 K4 T2
    go_wp2_with fail
    go_region_law (refine step_copyN rfl (.tmp 28) (.tmp 37) 28 28 rfl (.slice (some ⟨t, 1, none⟩) 60 60) (.slice (some ⟨t, 1 + n, none⟩) (c - n) (60 - n)) (by rfl) (by rfl) ((c - n : Nat) : Int) (fun w' => w' = W4) ⟨W4, HK.out.1, rfl⟩ ?_; rintro w3 rfl)
    go_wp2
    go_end0
    refine ⟨rfl, ⟨_, HK.out.2.1, ?_⟩, HK.out.2.2.1⟩
    have hy := HK.out.2.2.2
    rw [List.take_zero, List.nil_append, List.take_append_of_le_length (by omega), List.take_of_length_le (by omega)]
end Go.Proofs.YtlbinamlehapoaaGreatDoor

namespace Go.Proofs.YtlbinamlehapoaaGreatDoor
open Go.RowKit Go.Joins Go.Shelf

set_option maxRecDepth 100000

theorem put_ids {xs : List Int} {c n : Nat} (hl : xs.length = 60) (hn : n ≤ c) (hc : c < 60) (q : Int) : ((xs.take (n + 1) ++ (xs.take c).drop n ++ xs.drop (n + 1 + ((xs.take c).drop n).length)).set n q).take (c + 1) = (xs.take c).take n ++ q :: (xs.take c).drop n := by
  have h1 : (xs.take (n + 1)).set n q = xs.take n ++ [q] := by
    rw [List.take_add_one, List.set_append_right _ _ (by simp; omega)]
    have : n - (xs.take n).length = 0 := by simp; omega
    rw [this, List.getElem?_eq_getElem (by omega)]
    rfl
  have hl1 : ((xs.take c).drop n).length = c - n := by simp; omega
  rw [List.append_assoc, List.set_append_left _ _ (by simp; omega), h1, ← List.append_assoc, List.take_append_of_le_length (by simp; omega), List.take_of_length_le (by simp; omega), List.take_take]
  simp [Nat.min_eq_left hn]

/-- What take answers. -/
def TkPost (W : World) (t : Nat) (low : Int) (xs : List Int) (c : Nat) (q : Int) (a2 a4 : Addr) (n : Nat) (e : Ending) (W' : World) : Prop :=
  KB (fun b => b = t) W W' ∧
      ((((xs.take c).contains q || decide (q < low)) = true ∧ e = .returned (errV a4) ∧ TkAt W' t low xs c) ∨
       (((xs.take c).contains q || decide (q < low)) = false ∧ c = 60 ∧ e = .returned (errV a2) ∧ TkAt W' t low xs c) ∨
       (((xs.take c).contains q || decide (q < low)) = false ∧ c < 60 ∧ e = .returned .nilIface ∧ ∃ xs', TkAt W' t low xs' (c + 1) ∧ xs'.take (c + 1) = (xs.take c).take n ++ q :: (xs.take c).drop n))

set_option maxHeartbeats 1600000 in
theorem tkTake_any {W : World} {t : Nat} {low : Int} {xs : List Int} {c : Nat} (h : TkAt W t low xs c) (hs : (xs.take c).Pairwise (· ≤ ·)) (q : Int) (a2 a4 : Addr) (n : Nat) (hn : n = (xs.take c).countP (· < q))
    (g2 : W.cell? ⟨2, 0, none⟩ = some (errV a2)) (g4 : W.cell? ⟨4, 0, none⟩ = some (errV a4)) :
    Calls Tryz.prog 72 #[.pointer (some ⟨t, 0, none⟩), .int .i64 q] W (TkPost W t low xs c q a2 a4 n) := by
  have hnc : n ≤ c := by
    have h1 := List.countP_le_length (p := fun z => decide (z < q)) (l := xs.take c)
    rw [← hn, List.length_take] at h1
    omega
  have hc60 := h.cnt
  have H1 := (show Hid (_ ∧ _ ∧ _) from ⟨h, hs, hn⟩)
  clear hs hn h
  go_enter Tryz.func72, Tryz.ntmps72
  go_wp2_with fail
  refine (placeOf_any H1.out.1 H1.out.2.1 _).mono ?_
  rintro e w2 ⟨rfl, k2, hw2⟩
  rw [← H1.out.2.2]
  have T2 : TkAt w2 t low xs c := by rw [hw2]; exact ⟨H1.out.1.blk, H1.out.1.len, H1.out.1.cnt⟩
  have K2 : KB (fun b => b = t) W w2 := by rw [hw2]; exact ⟨rfl, rfl, rfl, Nat.le_refl _, fun _ _ _ => rfl⟩
  have g2' : w2.cell? ⟨2, 0, none⟩ = some (errV a2) := by rw [hw2]; exact g2
  have g4' : w2.cell? ⟨4, 0, none⟩ = some (errV a4) := by rw [hw2]; exact g4
  clear hw2 H1 g2 g4
  obtain ⟨c0, c61, -⟩ := T2.cells
  have HT := (show Hid (_ ∧ _) from ⟨T2, K2⟩)
  clear T2 K2
  obtain ⟨y, hy⟩ : ∃ y, y = (xs.take c).contains q := ⟨_, rfl⟩
  have HY := (show Hid (y = _) from hy)
  rw [← hy]
  clear hy
  cases y with
  | true =>
    go_wp2_with fail
    go_ret
    exact ⟨HT.out.2, .inl ⟨by rw [← HY.out]; rfl, rfl, HT.out.1⟩⟩
  | false =>
  by_cases hlow : q < low
  · go_wp2_with fail
    go_ret
    exact ⟨HT.out.2, .inl ⟨by rw [← HY.out]; simpa using hlow, rfl, HT.out.1⟩⟩
  have HY2 : Hid (((xs.take c).contains q || decide (q < low)) = false) := by show _ = _; rw [← HY.out]; simpa using hlow
  clear HY
  by_cases hc : c = 60
  · subst hc
    go_wp2_with fail
    go_ret
    exact ⟨HT.out.2, .inr (.inl ⟨HY2.out, rfl, rfl, HT.out.1⟩)⟩
  clear g2' g4'
  have hci : ¬ (c : Int) = 60 := by omega
  have hwn : IntKind.i64.wrap ((n : Int) + 1) = ((n + 1 : Nat) : Int) := by rw [IntKind.wrap_i64]; omega
  have hwc : IntKind.i64.wrap ((c : Int) + 1) = ((c + 1 : Nat) : Int) := by rw [IntKind.wrap_i64]; omega
  have hni : (n : Int) ≤ (c : Int) := by omega
  have hn60 : ¬ 60 = n := by omega
  have T2 : TkAt w2.drew t low xs c := ⟨HT.out.1.blk, HT.out.1.len, HT.out.1.cnt⟩
  have hyl : ((xs.take c).drop n).length = c - n := by rw [List.length_drop, List.length_take, T2.len]; omega
  have c61d : w2.drew.cell? ⟨t, 61, none⟩ = some (.int .i64 (c : Int)) := c61
  have hci6 : (c : Int) ≤ 60 := by omega
  have hp0 : (0 : Int) ≤ (n : Int) + 1 := by omega
  have hp1 : (n : Int) + 1 ≤ 60 := by omega
  have hp2 : ((n : Int) + 1).toNat = n + 1 := by omega
  by_cases hn1 : 60 = n + 1
  · obtain rfl : n = 59 := by omega
    obtain rfl : c = 59 := by omega
    have hw60 : IntKind.i64.wrap 60 = 60 := by decide
    obtain ⟨W4, hcp, T4, K4⟩ := T2.copy 3 0 0 0 ⟨t, 60, none⟩ [] 1 (by simp) (by simp) (fun j z hz => by simp at hz)
    have hcp : (Builtin.copy_ #[28, 28] 3 #[.slice (some ⟨t, 1, none⟩) 0 0, .slice (some ⟨t, 60, none⟩) 0 1]).run Tryz.prog w2.drew = .ok (.int .i64 ((0 : Nat) : Int)) W4 := hcp
    have T4 : TkAt W4 t low (xs.take (59 + 1) ++ (xs.take 59).drop 59 ++ xs.drop (59 + 1 + ((xs.take 59).drop 59).length)) 59 := by simpa using T4
    have HW := (show Hid (_ ∧ _ ∧ _) from ⟨hcp, T4, K4⟩)
    have T5 := T4.set 59 (by omega) q
    have c4 : W4.cell? ⟨t, 60, none⟩ = some (.int .i64 ((xs.take (59 + 1) ++ (xs.take 59).drop 59 ++ xs.drop (59 + 1 + ((xs.take 59).drop 59).length)).getD 59 0)) := T4.cells.2.2 59 (by rw [T4.len]; omega)
    generalize (xs.take (59 + 1) ++ (xs.take 59).drop 59 ++ xs.drop (59 + 1 + ((xs.take 59).drop 59).length)).getD 59 0 = z4 at c4
    have f4 : W4.frozen? ⟨t, 60, none⟩ = false := frozen_of_row _ _ _ _ _ T4.blk
    have c5 : (W4.setCell ⟨t, 60, none⟩ (.int .i64 q)).cell? ⟨t, 61, none⟩ = some (.int .i64 59) := T5.cells.2.1
    have f5 : (W4.setCell ⟨t, 60, none⟩ (.int .i64 q)).frozen? ⟨t, 61, none⟩ = false := frozen_of_row _ _ _ _ _ T5.blk
    have T6 : TkAt ((W4.setCell ⟨t, 60, none⟩ (.int .i64 q)).setCell ⟨t, 61, none⟩ (.int .i64 60)) t low _ 60 := T5.setCount (59 + 1) (by omega)
    have K6 : KB (fun b => b = t) w2.drew ((W4.setCell ⟨t, 60, none⟩ (.int .i64 q)).setCell ⟨t, 61, none⟩ (.int .i64 60)) := KB.setCell (X := fun b => b = t) (KB.setCell (X := fun b => b = t) K4 rfl _) rfl _
    have HF := (show Hid (_ ∧ _ ∧ _) from ⟨T6, HT.out.2, K6⟩)
    clear T4 K4 T5 T6 K6 hcp hwn hwc hp0 hp1 hp2 hn1 hci6 hnc hc60 hci hni hn60 hc
    generalize hW5 : W4.setCell ⟨t, 60, none⟩ (.int .i64 q) = W5 at HF c5 f5
    generalize hW6 : W5.setCell ⟨t, 61, none⟩ (.int .i64 60) = W6 at HF
    go_wp2_with fail
    go_region_law (refine step_copyN rfl (.tmp 34) (.tmp 43) 28 28 rfl (.slice (some ⟨t, 1, none⟩) 0 0) (.slice (some ⟨t, 60, none⟩) 0 1) (by rfl) (by rfl) ((0 : Nat) : Int) (fun w' => w' = W4) ⟨W4, HW.out.1, rfl⟩ ?_; rintro w3 rfl)
    go_wp2_with fail
    go_ret
    subst hW6
    subst hW5
    exact ⟨HF.out.2.1.trans (KB.trans (b := w2.drew) ⟨rfl, rfl, rfl, Nat.le_refl _, fun _ _ _ => rfl⟩ HF.out.2.2), .inr (.inr ⟨HY2.out, by omega, rfl, _, HF.out.1, put_ids T2.len (by omega) (by omega) q⟩)⟩
  · obtain ⟨W4, hcp, T4, K4⟩ := T2.copy 3 (n + 1) (59 - n) (59 - n) ⟨t, 1 + n, none⟩ ((xs.take c).drop n) (60 - n) (by omega) (by omega) (fun j z hz => by
      rw [addr_addI]
      have hj := (List.getElem?_eq_some_iff.1 hz).1
      have := T2.cells.2.2 (n + j) (by rw [T2.len]; omega)
      rw [Nat.add_assoc, this]
      rw [List.getElem?_drop, List.getElem?_take_of_lt (by omega)] at hz
      simp [List.getD, hz])
    have hcp := (hyl ▸ hcp : (Builtin.copy_ #[28, 28] 3 #[.slice (some ⟨t, 1 + (n + 1), none⟩) (59 - n) (59 - n), .slice (some ⟨t, 1 + n, none⟩) (c - n) (60 - n)]).run Tryz.prog w2.drew = .ok (.int .i64 ((c - n : Nat) : Int)) W4)
    have HW := (show Hid (_ ∧ _ ∧ _) from ⟨hcp, T4, K4⟩)
    have T5 := T4.set n (by omega) q
    have c4 : W4.cell? ⟨t, 1 + n, none⟩ = some (.int .i64 ((xs.take (n + 1) ++ (xs.take c).drop n ++ xs.drop (n + 1 + ((xs.take c).drop n).length)).getD n 0)) := T4.cells.2.2 n (by rw [T4.len]; omega)
    generalize (xs.take (n + 1) ++ (xs.take c).drop n ++ xs.drop (n + 1 + ((xs.take c).drop n).length)).getD n 0 = z4 at c4
    have f4 : W4.frozen? ⟨t, 1 + n, none⟩ = false := frozen_of_row _ _ _ _ _ T4.blk
    have c5 := T5.cells.2.1
    have f5 : (W4.setCell ⟨t, 1 + n, none⟩ (.int .i64 q)).frozen? ⟨t, 61, none⟩ = false := frozen_of_row _ _ _ _ _ T5.blk
    have T6 := T5.setCount (c + 1) (by omega)
    have K6 : KB (fun b => b = t) w2.drew ((W4.setCell ⟨t, 1 + n, none⟩ (.int .i64 q)).setCell ⟨t, 61, none⟩ (.int .i64 ((c + 1 : Nat) : Int))) := KB.setCell (X := fun b => b = t) (KB.setCell (X := fun b => b = t) K4 rfl _) rfl _
    have HF := (show Hid (_ ∧ _ ∧ _) from ⟨T6, HT.out.2, K6⟩)
    clear T4 K4 T5 T6 K6 hcp
    generalize hW5 : W4.setCell ⟨t, 1 + n, none⟩ (.int .i64 q) = W5 at HF c5 f5
    generalize hW6 : W5.setCell ⟨t, 61, none⟩ (.int .i64 ((c + 1 : Nat) : Int)) = W6 at HF
    go_wp2_with fail
    go_region_law (refine step_copyN rfl (.tmp 34) (.tmp 43) 28 28 rfl (.slice (some ⟨t, 1 + (n + 1), none⟩) (59 - n) (59 - n)) (.slice (some ⟨t, 1 + n, none⟩) (c - n) (60 - n)) (by rfl) (by rfl) ((c - n : Nat) : Int) (fun w' => w' = W4) ⟨W4, HW.out.1, rfl⟩ ?_; rintro w3 rfl)
    go_wp2_with fail
    go_ret
    subst hW6
    subst hW5
    rw [show (c : Int) + 1 = ((c + 1 : Nat) : Int) from by omega]
    exact ⟨HF.out.2.1.trans (KB.trans (b := w2.drew) ⟨rfl, rfl, rfl, Nat.le_refl _, fun _ _ _ => rfl⟩ HF.out.2.2), .inr (.inr ⟨HY2.out, by omega, rfl, _, HF.out.1, put_ids T2.len (by omega) (by omega) q⟩)⟩
end Go.Proofs.YtlbinamlehapoaaGreatDoor

namespace Go.Proofs.YtlbinamlehapoaaGreatDoor
open Go.RowKit Go.Joins Go.Shelf

set_option maxRecDepth 100000

set_option maxHeartbeats 1600000 in
theorem tkSeen_any {W : World} {t : Nat} {low : Int} {xs : List Int} {c : Nat} (h : TkAt W t low xs c) :
    Calls Tryz.prog 73 #[.pointer (some ⟨t, 0, none⟩)] W fun e W' => ∃ kv, e = .returned (.agg #[.int .i64 low, kv]) ∧ W'.ownsRow W.heap.size 3 1 kv c (intVs (xs.take c)) ∧ Below W.heap.size W W' := by
  obtain ⟨i0, hi, hz0, hz1, hz2⟩ := info_parts infoCdI
  obtain ⟨W0, hW0⟩ : ∃ W0, W0 = W.alloc (.cells #[.int .i64 0, .slice none 0 0] 76) := ⟨_, rfl⟩
  have B0 : Below W.heap.size W W0 := by rw [hW0]; exact (Below.refl _ W).alloc (Nat.le_refl _) _
  have O0 : W0.heap[W.heap.size]? = some (.cells #[.int .i64 0, .slice none 0 0] 76 (0, 0)) := by rw [hW0]; exact (MapKept.heap_alloc W _).1
  have T0 : TkAt W0.drew t low xs c := ⟨(h.below B0).blk, h.len, h.cnt⟩
  obtain ⟨c0, c61, cj⟩ := T0.cells
  have hc := h.cnt
  have hci : (c : Int) ≤ 60 := by omega
  have hnil : W0.drew.ownsRow W.heap.size 3 1 (.slice none 0 0) 0 [] := ⟨rfl, .inl ⟨rfl, rfl⟩⟩
  have hsrc : ∀ j u, (intVs (xs.take c))[j]? = some u → W0.drew.cell? ((⟨t, 1, none⟩ : Addr).add j) = some u := fun j u hj => by
    have hj2 : j < c := by have := (List.getElem?_eq_some_iff.1 hj).1; simp [intVs] at this; omega
    rw [addr_addI, cj j (by rw [h.len]; omega), ← hj]
    simp [intVs, hj2, h.len, show j < 60 by omega]
  have hlen : (intVs (xs.take c)).length = c * 1 := by simp [intVs, h.len]; omega
  have KK : ∀ w' : World, W0.drew.grownBy w' (Value.slice none 0 0).ownBlock → w'.heap[t]? = some (.cells (tkRow low xs c) 109 (0, 0)) ∧ w'.heap[W.heap.size]? = some (.cells #[.int .i64 0, .slice none 0 0] 76 (0, 0)) := fun w' hg =>
    ⟨(hg.block _ (lt_heap T0.blk) (by simp [Value.ownBlock])).trans T0.blk, (hg.block _ (lt_heap O0) (by simp [Value.ownBlock])).trans O0⟩
  have HH := (show Hid (_ ∧ _ ∧ _ ∧ _ ∧ _ ∧ _) from ⟨hnil, hsrc, hlen, KK, B0.drew, B0.size⟩)
  have hs0 : W.heap.size ≤ W0.drew.heap.size := B0.size
  clear hnil hsrc hlen KK cj T0
  go_enter Tryz.func73, Tryz.ntmps73
  go_wp2_with fail
  rw [← hW0]
  clear hW0
  go_region_law (refine step_append_row rfl (.const (.slice none 0 0)) (.tmp 14) 28 rfl W.heap.size 3 i0 (.int .i64 0) 1 8 Tryz.underlying28 hi hz0 hz1 hz2 rfl (by decide) (.slice none 0 0) 0 [] rfl HH.out.1 ⟨t, 1, none⟩ c 60 (intVs (xs.take c)) (by rfl) HH.out.2.2.1 HH.out.2.1 (fun u hu => intVs_one _ u hu) (by unfold maxLen; omega) (by omega) hs0 ?_; intro v5 w5 hown5 hgrow5 hat5; obtain ⟨a5, k5, rfl⟩ := own_form hown5; have q0 : w5.cell? ⟨t, 0, none⟩ = some (.int .i64 low) := (by rw [cell_of_row _ _ _ _ _ _ (HH.out.2.2.2.1 w5 hgrow5).1]; exact tkRow_low _ _ _); have r0 : w5.cell? ⟨W.heap.size, 0, none⟩ = some (.int .i64 0) := (by rw [cell_of_row _ _ _ _ _ _ (HH.out.2.2.2.1 w5 hgrow5).2]; rfl); have r1 : w5.cell? ⟨W.heap.size, 1, none⟩ = some (.slice none 0 0) := (by rw [cell_of_row _ _ _ _ _ _ (HH.out.2.2.2.1 w5 hgrow5).2]; rfl); have f0 : w5.frozen? ⟨W.heap.size, 0, none⟩ = false := frozen_of_row _ _ _ _ _ (HH.out.2.2.2.1 w5 hgrow5).2; have f1 : w5.frozen? ⟨W.heap.size, 1, none⟩ = false := frozen_of_row _ _ _ _ _ (HH.out.2.2.2.1 w5 hgrow5).2; have H5 := (show Hid (_ ∧ _ ∧ _) from ⟨hown5, hgrow5, hat5⟩); clear hown5 hgrow5 hat5)
  all_goals
    have hO5 := (HH.out.2.2.2.1 w5 H5.out.2.1).2
    have hown : w5.ownsRow W.heap.size 3 1 (.slice a5 c k5) c (intVs (xs.take c)) := by simpa using H5.out.1
    have hblk : ∀ g, (Value.slice a5 c k5).ownBlock = some g → g ≠ W.heap.size := fun g hg e => by
      have hat := H5.out.2.2
      have hlt := lt_heap O0
      simp only [Nat.zero_add] at hat
      rw [hg] at hat
      rcases hat with hat | hat
      · simp [Value.ownBlock] at hat
      · have h2 : g = W0.heap.size := by simpa using hat
        omega
    have B5 : Below W.heap.size W w5 := Below.grown HH.out.2.2.2.2.1 H5.out.2.1 (hB := HH.out.2.2.2.2.2) (hr := fun b hb => by simp [Value.ownBlock] at hb)
    have o6 := block_setCell (i := 1) (block_setCell (i := 0) hO5 (.int .i64 low)) (.slice a5 c k5)
    have B6 : Below W.heap.size W ((w5.setCell ⟨W.heap.size, 0, none⟩ (.int .i64 low)).setCell ⟨W.heap.size, 1, none⟩ (.slice a5 c k5)) := (B5.setCell (p := ⟨W.heap.size, 0, none⟩) (Nat.le_refl _) _).setCell (p := ⟨W.heap.size, 1, none⟩) (Nat.le_refl _) _
    have own6 : ((w5.setCell ⟨W.heap.size, 0, none⟩ (.int .i64 low)).setCell ⟨W.heap.size, 1, none⟩ (.slice a5 c k5)).ownsRow W.heap.size 3 1 (.slice a5 c k5) c (intVs (xs.take c)) := own_moved hown (fun g hg => by
      rw [Below.heap_setCell _ _ _ g (by simpa using hblk g hg), Below.heap_setCell _ _ _ g (by simpa using hblk g hg)])
    generalize (w5.setCell ⟨W.heap.size, 0, none⟩ (.int .i64 low)).setCell ⟨W.heap.size, 1, none⟩ (.slice a5 c k5) = W6 at o6 B6 own6 ⊢
    have s0 : W6.cell? ⟨W.heap.size, 0, none⟩ = some (.int .i64 low) := by rw [cell_of_row _ _ _ _ _ _ o6]; rfl
    have s1 : W6.cell? ⟨W.heap.size, 1, none⟩ = some (.slice a5 c k5) := by rw [cell_of_row _ _ _ _ _ _ o6]; rfl
    have HF := (show Hid (_ ∧ _) from ⟨own6, B6⟩)
    clear own6 B6 o6 B5 hown hblk hO5 H5 HH
    go_wp2
    refine bodyPost_ret (v := .agg #[.int .i64 low, .slice a5 c k5]) (by simp [results, Tryz.results73, go_sem, s0, s1]) rfl ⟨_, rfl, HF.out.1, HF.out.2⟩
end Go.Proofs.YtlbinamlehapoaaGreatDoor
