/-
  slices.Repeat of one that was never taken of.
-/
import Derived.Test.YtbaakhpmfljgnaaLinkOwn
import Derived.Test.YtbaakhpmfljgnaaShelf
import Derived.Laws.CopyOwn
namespace Go.Proofs.Ytbaakhpmfljgnaa
open Go.RowKit Go.Joins

set_option maxRecDepth 100000

/-- copy where an element has so many cells. -/
theorem run_copy_rowN {P : Program} (w : World) (dT sT ty elem : TypeId) (sz g o dLen dCap : Nat) (a : Addr) (sLen sCap : Nat) (cur : Array Value) (t : TypeId) (cs : List Value)
    (hu : P.underlying dT = some (.slice elem)) (hs : (P.info? elem).map (·.size) = some sz)
    (hg : w.heap[g]? = some (.cells cur t (0, 0))) (hn : cs.length = Nat.min sLen dLen * sz)
    (hsrc : ∀ j v, cs[j]? = some v → w.cell? (a.add j) = some v) (hfit : o + cs.length ≤ cur.size) (h1 : ∀ v ∈ cs, v.oneCell' = true) :
    (Builtin.copy_ #[dT, sT] ty #[.slice (some ⟨g, o, none⟩) dLen dCap, .slice (some a) sLen sCap]).run P w =
      .ok (goInt (Nat.min sLen dLen)) (w.setRow g (cur.toList.take o ++ cs ++ cur.toList.drop (o + cs.length)).toArray) := by
  have hl := run_loadCells_list (P := P) w a cs hsrc
  have hst := run_storeCells_at P g o t cs 0 cur w hg (by simpa using hfit) h1
  cases hq : P.info? elem with
  | none => simp [hq] at hs
  | some i =>
    have hi : i.size = sz := by simpa [hq] using hs
    simp [Builtin.copy_, run_underlying hu, Builtin.lenOf, Builtin.firstCells, sizeOf, typeInfo, hq, hi, ← hn, hl, hst]
/-- The same, with what is known of the world behind it. -/
theorem copy_rowN {P : Program} (w : World) (dT sT ty elem : TypeId) (sz g o dLen dCap : Nat) (a : Addr) (sLen sCap : Nat) (cur : Array Value) (t : TypeId) (cs : List Value) (m : Nat) (hm : m = Nat.min sLen dLen)
    (hu : P.underlying dT = some (.slice elem)) (hs : (P.info? elem).map (·.size) = some sz)
    (hg : w.heap[g]? = some (.cells cur t (0, 0))) (hn : cs.length = m * sz)
    (hsrc : ∀ j v, cs[j]? = some v → w.cell? (a.add j) = some v) (hfit : o + cs.length ≤ cur.size) (h1 : ∀ v ∈ cs, v.oneCell' = true) :
    ∃ w', (Builtin.copy_ #[dT, sT] ty #[.slice (some ⟨g, o, none⟩) dLen dCap, .slice (some a) sLen sCap]).run P w = .ok (.int .i64 (m : Int)) w' ∧
      w'.heap[g]? = some (.cells (cur.toList.take o ++ cs ++ cur.toList.drop (o + cs.length)).toArray t (0, 0)) ∧ ∀ B w0, Below B w0 w → B ≤ g → Below B w0 w' := by
  subst hm
  exact ⟨_, run_copy_rowN (P := P) w dT sT ty elem sz g o dLen dCap a sLen sCap cur t cs hu hs hg hn hsrc hfit h1, setRow_heap w g _ _ t _ hg, fun B w0 hb hBg => below_setRow hb hBg _⟩
/-- The same as one step of a region that draws its order. -/
theorem step_copyN {P : Program} {ops : Array Oper} {o : Oper} {a : Act} {w : World} {K : Act → World → Prop} {Q : Exit → Act → World → Prop} {E : Prop} (hgd : o.guard = none) (d s : Operand) (dT sT : TypeId)
    (ho : o.op = .call { callee := .builtin .copy, args := #[d, s], argTypes := #[dT, sT] }) (u v : Value) (hd : a.eval d = u) (hs : a.eval s = v) (m : Int) (Post : World → Prop)
    (hrun : ∃ w', (Builtin.copy_ #[dT, sT] o.type #[u, v]).run P w = .ok (.int .i64 m) w' ∧ Post w') (h : ∀ w', Post w' → K (a.put o.dst (.int .i64 m)) w') :
    if Region.wanted o (yielded ops a.tmps) = true then Oper.wp P o a w K Q else E := by
  have hw : Region.wanted o (yielded ops a.tmps) = true := by simp [Region.wanted, hgd]
  rw [if_pos hw]
  obtain ⟨w', hr, hp⟩ := hrun
  unfold Oper.wp execOp
  simp only [ho, resolve, invoke, builtin, Sem.run_bind, Sem.run_pure, Result.andThen_ok, List.map_toArray, List.map_cons, List.map_nil, hd, hs, hr]
  exact h w' hp
def newRows (n : Nat) : List (Se × Value) := List.replicate n (⟨1, []⟩, .slice none 0 0)
/-- The cells of so many of them. -/
def newCells (n : Nat) : List Value := (newRows n).flatMap seCells
theorem newCells_len (n : Nat) : (newCells n).length = n * 2 := by unfold newCells; rw [se_len]; simp [newRows]
theorem newCells_add (a b : Nat) : newCells (a + b) = newCells a ++ newCells b := by
  unfold newCells newRows
  rw [← List.replicate_append_replicate, List.flatMap_append]
theorem newCells_one (n : Nat) : ∀ u ∈ newCells n, u.oneCell' = true := by
  intro u hu
  unfold newCells at hu
  obtain ⟨r, hr, hu⟩ := List.mem_flatMap.1 hu
  have hr' : r = (⟨1, []⟩, .slice none 0 0) := List.eq_of_mem_replicate hr
  subst hr'
  simp [seCells] at hu
  rcases hu with rfl | rfl <;> rfl
theorem newCells_pre {a b : Nat} (h : a ≤ b) : (newCells b).take (a * 2) = newCells a := by
  obtain ⟨c, rfl⟩ := Nat.exists_eq_add_of_le h
  rw [newCells_add, List.take_append_of_le_length (by rw [newCells_len]; omega), List.take_of_length_le (by rw [newCells_len]; omega)]

theorem make_seen2 (n : Nat) (hn : n ≤ 1000) (w : World) : (Instr.makeSlice 23 (.int .i64 (n : Int)) (.int .i64 (n : Int))).run Try.prog w = .ok (.slice (some ⟨w.heap.size, 0, none⟩) n n) (w.alloc (.cells (madeCells #[.int .i64 0, .slice none 0 0] (n * 2)) 33)) := by
  obtain ⟨i0, hi, hz0, hz1, hz2⟩ := info_parts infoSeen
  have h := run_make (P := Try.prog) w 23 33 i0 _ Try.underlying23 hi hz0 .i64 .i64 (n : Int) (n : Int) (by omega) (by omega) (by rw [hz2]; omega) (by omega)
  rw [h, hz1]
  rfl

set_option maxHeartbeats 1600000 in
theorem repeat_any (b c : Nat) (w : World) (hb : w.heap[b]? = some (.cells #[.int .i64 1, .slice none 0 0] 33)) (h1 : 1 ≤ c) (h31 : c ≤ 31) :
    Calls Try.prog 11 #[.slice (some ⟨b, 0, none⟩) 1 1, .int .i64 (c : Int)] w fun e w' => e = .returned (.slice (some ⟨w.heap.size, 0, none⟩) c c) ∧ w'.heap[w.heap.size]? = some (.cells (newCells c).toArray 33 (0, 0)) ∧ Below w.heap.size w w' := by
  have hmk := make_seen2 c (by omega)
  have hmul := Try.bits_Mul 1 c (by decide) (by omega)
  have hd1 : 1 * c / 18446744073709551616 = 0 := Nat.div_eq_of_lt (by omega)
  have hd2 : 1 * c % 18446744073709551616 = c := by rw [Nat.one_mul]; exact Nat.mod_eq_of_lt (by omega)
  rw [hd1, hd2] at hmul
  have HM := (show Hid (_ ∧ _) from ⟨hmul, hb⟩)
  clear hmul hd1 hd2
  have hms : (madeCells #[.int .i64 0, .slice none 0 0] (c * 2)).size = c * 2 := size_madeCells _ _
  generalize madeCells #[.int .i64 0, .slice none 0 0] (c * 2) = c0 at *
  have hsz2 : (Try.prog.info? 33).map (·.size) = some 2 := by kernel_rfl
  have B0 : Below w.heap.size w (w.alloc (.cells c0 33)) := (Below.refl _ w).alloc (Nat.le_refl _) _
  have HB0 := (show Hid (_ ∧ _ ∧ _) from ⟨B0, (MapKept.heap_alloc w (.cells c0 33)).1, (B0.block _ (lt_heap hb)).trans hb⟩)
  clear B0 hb
  obtain ⟨W2, hcp, hg2, hb2⟩ := copy_rowN (P := Try.prog) (w.alloc (.cells c0 33)) 23 23 3 33 2 w.heap.size 0 c c ⟨b, 0, none⟩ 1 1 c0 33 (newCells 1) 1 (by have : Nat.min 1 c = 1 := Nat.min_eq_left h1; omega) Try.underlying23 hsz2 HB0.out.2.1 (newCells_len 1) (fun j v hj => by
    have hj2 : j < 2 := by have := (List.getElem?_eq_some_iff.1 hj).1; rw [newCells_len] at this; omega
    rw [addr_addI, cell_of_block HB0.out.2.2, Nat.zero_add]
    have e : newCells 1 = [.int .i64 1, .slice none 0 0] := rfl
    rw [e] at hj
    simpa using hj) (by rw [newCells_len]; omega) (newCells_one 1)
  have H2 := (show Hid (_ ∧ _) from ⟨hg2, hb2 _ _ HB0.out.1 (Nat.le_refl _)⟩)
  clear hg2 hb2
  rw [show ((1 : Nat) : Int) = 1 from rfl] at hcp
  go_enter Try.func11, Try.ntmps11
  go_wp2_with (go_at_call 20; refine (HM.out.1 _).mono ?_; rintro e w1 ⟨rfl, he⟩; rw [he]; clear he)
  clear hcp
  clear hmk
  go_loopw [8] (fun nv wr => ∃ n : Nat, 1 ≤ n ∧ n ≤ c ∧ nv = .int .i64 n ∧ Hid (∃ cur, wr.heap[w.heap.size]? = some (.cells cur 33 (0, 0)) ∧ cur.size = c * 2 ∧ cur.toList.take (n * 2) = newCells n) ∧ Hid (Below w.heap.size w wr)) (fun nv _ => c - (intOf nv).toNat)
  case atStart =>
    refine ⟨1, Nat.le_refl _, h1, rfl, ⟨_, H2.out.1, ?_, ?_⟩, H2.out.2⟩
    · simp [newCells_len]; omega
    · simp [newCells_len]
  case round =>
    obtain ⟨n, hn1, hnc, rfl, hcur, hbw⟩ := hrel
    by_cases hlt : n < c
    · obtain ⟨cur, hg, hcs, htk⟩ := hcur.out
      have hlt' : ((n : Nat) : Int) < ((c : Nat) : Int) := by omega
      have hne : ¬ ((n : Nat) : Int) = ((c : Nat) : Int) := by omega
      have hne' : ¬ n = c := by omega
      have hcn : ¬ c = n := by omega
      obtain ⟨m, hm⟩ : ∃ m, m = Nat.min n (c - n) := ⟨_, rfl⟩
      have hm1 : 1 ≤ m ∧ m ≤ n ∧ m ≤ c - n := by
        have : Nat.min n (c - n) = n ∨ Nat.min n (c - n) = c - n := by rcases Nat.le_total n (c - n) with h | h; exact .inl (Nat.min_eq_left h); exact .inr (Nat.min_eq_right h)
        have h1 := Nat.min_le_left n (c - n)
        have h2 := Nat.min_le_right n (c - n)
        have e1 : Nat.min n (c - n) = min n (c - n) := rfl
        omega
      have hcp := copy_rowN (P := Try.prog) wr.drew 23 23 3 33 2 w.heap.size (n * 2) (c - n) (c - n) ⟨w.heap.size, 0, none⟩ n c cur 33 (newCells m) m hm Try.underlying23 hsz2 hg (newCells_len m) (fun j v hj => by
        have hj2 : j < m * 2 := by have := (List.getElem?_eq_some_iff.1 hj).1; rw [newCells_len] at this; exact this
        have e := congrArg (fun l : List Value => (l.take (m * 2))[j]?) htk
        simp only [newCells_pre hm1.2.1] at e
        rw [addr_addI, cell_of_block (show wr.drew.heap[w.heap.size]? = _ from hg), Nat.zero_add, ← hj, ← e, List.getElem?_take_of_lt hj2, List.getElem?_take_of_lt (by omega)]
        simp) (by rw [newCells_len]; omega) (newCells_one m)
      have HC := (show Hid (_ ∧ _ ∧ _ ∧ _) from ⟨hcp, hbw.out.drew, hcs, htk⟩)
      clear hcp hg hcs htk hcur hbw hm
      go_wp2_with fail
      go_region_law (refine step_copyN rfl (.tmp 41) (.tmp 44) 23 23 rfl (.slice (some ⟨w.heap.size, n * 2, none⟩) (c - n) (c - n)) (.slice (some ⟨w.heap.size, 0, none⟩) n c) (by simp [Act.eval, Act.put]) (by simp [Act.eval, Act.put]) (m : Int) _ HC.out.1 ?_; rintro w3 ⟨hg3, hb3⟩)
      all_goals
        have hsz3 : (cur.toList.take (n * 2) ++ newCells m ++ cur.toList.drop (n * 2 + (newCells m).length)).length = c * 2 := by
          have := HC.out.2.2.1
          simp [newCells_len]
          omega
        have htk3 : (cur.toList.take (n * 2) ++ newCells m ++ cur.toList.drop (n * 2 + (newCells m).length)).take ((n + m) * 2) = newCells (n + m) := by
          rw [HC.out.2.2.2, List.take_append_of_le_length (by rw [List.length_append, newCells_len, newCells_len]; omega), List.take_of_length_le (by rw [List.length_append, newCells_len, newCells_len]; omega), newCells_add]
        have HF := (show Hid (_ ∧ _ ∧ _ ∧ _) from ⟨hg3, hb3 _ _ HC.out.2.1 (Nat.le_refl _), hsz3, htk3⟩)
        clear hg3 hb3 hsz3 htk3
        have hwr : IntKind.i64.wrap ((n : Int) + (m : Int)) = ((n + m : Nat) : Int) := by rw [IntKind.wrap_i64]; omega
        rw [hwr]
        go_wp2
        refine ⟨⟨.int .i64 ((n + m : Nat) : Int), _, _, _, _, _, _, _, _, _, _, _, _, _, ⟨n + m, by omega, by omega, rfl, ⟨_, HF.out.1, by simpa using HF.out.2.2.1, by simpa using HF.out.2.2.2⟩, HF.out.2.1⟩, rfl⟩, ?_⟩
        simp [intOf, Act.put]
        omega
    · obtain rfl : n = c := by omega
      obtain ⟨cur, hg, hcs, htk⟩ := hcur.out
      have HF := (show Hid (_ ∧ _) from ⟨(by rw [hg, ← htk, List.take_of_length_le (by simp; omega)] : wr.heap[w.heap.size]? = some (.cells (newCells n).toArray 33 (0, 0))), hbw.out⟩)
      clear hg hcs htk hcur hbw
      go_wp2
      go_ret
      exact ⟨rfl, HF.out.1, HF.out.2⟩
end Go.Proofs.Ytbaakhpmfljgnaa
