/-
  slices.Repeat of one that was never taken of.
  The program's LinkNew.
  The specification's LinkNew.
-/
import Derived.Test.YtlbinamlehapoaaGreatDoorMB
import Derived.Test.YtlbinamlehapoaaGreatDoorShelfM
import Derived.Test.YtlbinamlehapoaaGreatDoorNA
import Derived.Test.YtlbinamlehapoaaGreatDoorMK
import Derived.BigQuiet
import Derived.Deep.QuietTactic
import Derived.WalkSmall
namespace Go.Proofs.YtlbinamlehapoaaGreatDoor
open Go.RowKit Go.Joins

set_option maxRecDepth 100000

def newRows (n : Nat) : List (Se × Value) := List.replicate n (⟨1, []⟩, .slice none 0 0)
/-- The cells of so many of them. -/
def newCells (n : Nat) : List Value := (newRows n).flatMap seCells
theorem newCells_len (n : Nat) : (newCells n).length = n * 2 := by unfold newCells; rw [se_len]; simp [newRows]
theorem newCells_add (a b : Nat) : newCells (a + b) = newCells a ++ newCells b := by
  unfold newCells newRows
  rw [← List.replicate_append_replicate, List.flatMap_append]
theorem newCells_one (n : Nat) : ∀ u ∈ newCells n, u.oneCell' = true := by
  intro u hu
  unfold newCells at hu
  obtain ⟨r, hr, hu⟩ := List.mem_flatMap.1 hu
  have hr' : r = (⟨1, []⟩, .slice none 0 0) := List.eq_of_mem_replicate hr
  subst hr'
  simp [seCells] at hu
  rcases hu with rfl | rfl <;> rfl
theorem newCells_pre {a b : Nat} (h : a ≤ b) : (newCells b).take (a * 2) = newCells a := by
  obtain ⟨c, rfl⟩ := Nat.exists_eq_add_of_le h
  rw [newCells_add, List.take_append_of_le_length (by rw [newCells_len]; omega), List.take_of_length_le (by rw [newCells_len]; omega)]

theorem make_seen2 (n : Nat) (hn : n ≤ 1000) (w : World) : (Instr.makeSlice 25 (.int .i64 (n : Int)) (.int .i64 (n : Int))).run Tryz.prog w = .ok (.slice (some ⟨w.heap.size, 0, none⟩) n n) (w.alloc (.cells (madeCells #[.int .i64 0, .slice none 0 0] (n * 2)) 76)) := by
  obtain ⟨i0, hi, hz0, hz1, hz2⟩ := info_parts infoSeen
  have h := run_make (P := Tryz.prog) w 25 76 i0 _ Tryz.underlying25 hi hz0 .i64 .i64 (n : Int) (n : Int) (by omega) (by omega) (by rw [hz2]; omega) (by omega)
  rw [h, hz1]
  rfl

set_option maxHeartbeats 1600000 in
theorem repeat_any (b c : Nat) (w : World) (hb : w.heap[b]? = some (.cells #[.int .i64 1, .slice none 0 0] 76)) (h1 : 1 ≤ c) (h31 : c ≤ 31) :
    Calls Tryz.prog 43 #[.slice (some ⟨b, 0, none⟩) 1 1, .int .i64 (c : Int)] w fun e w' => e = .returned (.slice (some ⟨w.heap.size, 0, none⟩) c c) ∧ w'.heap[w.heap.size]? = some (.cells (newCells c).toArray 76 (0, 0)) ∧ Below w.heap.size w w' := by
  have hmk := make_seen2 c (by omega)
  have hmul := Tryz.bits_Mul 1 c (by decide) (by omega)
  have hd1 : 1 * c / 18446744073709551616 = 0 := Nat.div_eq_of_lt (by omega)
  have hd2 : 1 * c % 18446744073709551616 = c := by rw [Nat.one_mul]; exact Nat.mod_eq_of_lt (by omega)
  rw [hd1, hd2] at hmul
  have HM := (show Hid (_ ∧ _) from ⟨hmul, hb⟩)
  clear hmul hd1 hd2
  have hms : (madeCells #[.int .i64 0, .slice none 0 0] (c * 2)).size = c * 2 := size_madeCells _ _
  generalize madeCells #[.int .i64 0, .slice none 0 0] (c * 2) = c0 at *
  have hsz2 : (Tryz.prog.info? 76).map (·.size) = some 2 := by kernel_rfl
  have B0 : Below w.heap.size w (w.alloc (.cells c0 76)) := (Below.refl _ w).alloc (Nat.le_refl _) _
  have HB0 := (show Hid (_ ∧ _ ∧ _) from ⟨B0, (MapKept.heap_alloc w (.cells c0 76)).1, (B0.block _ (lt_heap hb)).trans hb⟩)
  clear B0 hb
  obtain ⟨W2, hcp, hg2, hb2⟩ := copy_rowN (P := Tryz.prog) (w.alloc (.cells c0 76)) 25 25 3 76 2 w.heap.size 0 c c ⟨b, 0, none⟩ 1 1 c0 76 (newCells 1) 1 (by have : Nat.min 1 c = 1 := Nat.min_eq_left h1; omega) Tryz.underlying25 hsz2 HB0.out.2.1 (newCells_len 1) (fun j v hj => by
    have hj2 : j < 2 := by have := (List.getElem?_eq_some_iff.1 hj).1; rw [newCells_len] at this; omega
    rw [addr_addI, cell_of_block HB0.out.2.2, Nat.zero_add]
    have e : newCells 1 = [.int .i64 1, .slice none 0 0] := rfl
    rw [e] at hj
    simpa using hj) (by rw [newCells_len]; omega) (newCells_one 1)
  have H2 := (show Hid (_ ∧ _) from ⟨hg2, hb2 _ _ HB0.out.1 (Nat.le_refl _)⟩)
  clear hg2 hb2
  rw [show ((1 : Nat) : Int) = 1 from rfl] at hcp
  go_enter Tryz.func43, Tryz.ntmps43
  go_wp2_with (go_at_call 75; refine (HM.out.1 _).mono ?_; rintro e w1 ⟨rfl, he⟩; rw [he]; clear he)
  clear hcp
  clear hmk
  go_loopw [8] (fun nv wr => ∃ n : Nat, 1 ≤ n ∧ n ≤ c ∧ nv = .int .i64 n ∧ Hid (∃ cur, wr.heap[w.heap.size]? = some (.cells cur 76 (0, 0)) ∧ cur.size = c * 2 ∧ cur.toList.take (n * 2) = newCells n) ∧ Hid (Below w.heap.size w wr)) (fun nv _ => c - (intOf nv).toNat)
  case atStart =>
    refine ⟨1, Nat.le_refl _, h1, rfl, ⟨_, H2.out.1, ?_, ?_⟩, H2.out.2⟩
    · simp [newCells_len]; omega
    · simp [newCells_len]
  case round =>
    obtain ⟨n, hn1, hnc, rfl, hcur, hbw⟩ := hrel
    by_cases hlt : n < c
    · obtain ⟨cur, hg, hcs, htk⟩ := hcur.out
      have hlt' : ((n : Nat) : Int) < ((c : Nat) : Int) := by omega
      have hne : ¬ ((n : Nat) : Int) = ((c : Nat) : Int) := by omega
      have hne' : ¬ n = c := by omega
      have hcn : ¬ c = n := by omega
      obtain ⟨m, hm⟩ : ∃ m, m = Nat.min n (c - n) := ⟨_, rfl⟩
      have hm1 : 1 ≤ m ∧ m ≤ n ∧ m ≤ c - n := by
        have : Nat.min n (c - n) = n ∨ Nat.min n (c - n) = c - n := by rcases Nat.le_total n (c - n) with h | h; exact .inl (Nat.min_eq_left h); exact .inr (Nat.min_eq_right h)
        have h1 := Nat.min_le_left n (c - n)
        have h2 := Nat.min_le_right n (c - n)
        have e1 : Nat.min n (c - n) = min n (c - n) := rfl
        omega
      have hcp := copy_rowN (P := Tryz.prog) wr.drew 25 25 3 76 2 w.heap.size (n * 2) (c - n) (c - n) ⟨w.heap.size, 0, none⟩ n c cur 76 (newCells m) m hm Tryz.underlying25 hsz2 hg (newCells_len m) (fun j v hj => by
        have hj2 : j < m * 2 := by have := (List.getElem?_eq_some_iff.1 hj).1; rw [newCells_len] at this; exact this
        have e := congrArg (fun l : List Value => (l.take (m * 2))[j]?) htk
        simp only [newCells_pre hm1.2.1] at e
        rw [addr_addI, cell_of_block (show wr.drew.heap[w.heap.size]? = _ from hg), Nat.zero_add, ← hj, ← e, List.getElem?_take_of_lt hj2, List.getElem?_take_of_lt (by omega)]
        simp) (by rw [newCells_len]; omega) (newCells_one m)
      have HC := (show Hid (_ ∧ _ ∧ _ ∧ _) from ⟨hcp, hbw.out.drew, hcs, htk⟩)
      clear hcp hg hcs htk hcur hbw hm
      go_wp2_with fail
      go_region_law (refine step_copyN rfl (.tmp 41) (.tmp 44) 25 25 rfl (.slice (some ⟨w.heap.size, n * 2, none⟩) (c - n) (c - n)) (.slice (some ⟨w.heap.size, 0, none⟩) n c) (by simp [Act.eval, Act.put]) (by simp [Act.eval, Act.put]) (m : Int) _ HC.out.1 ?_; rintro w3 ⟨hg3, hb3⟩)
      all_goals
        have hsz3 : (cur.toList.take (n * 2) ++ newCells m ++ cur.toList.drop (n * 2 + (newCells m).length)).length = c * 2 := by
          have := HC.out.2.2.1
          simp [newCells_len]
          omega
        have htk3 : (cur.toList.take (n * 2) ++ newCells m ++ cur.toList.drop (n * 2 + (newCells m).length)).take ((n + m) * 2) = newCells (n + m) := by
          rw [HC.out.2.2.2, List.take_append_of_le_length (by rw [List.length_append, newCells_len, newCells_len]; omega), List.take_of_length_le (by rw [List.length_append, newCells_len, newCells_len]; omega), newCells_add]
        have HF := (show Hid (_ ∧ _ ∧ _ ∧ _) from ⟨hg3, hb3 _ _ HC.out.2.1 (Nat.le_refl _), hsz3, htk3⟩)
        clear hg3 hb3 hsz3 htk3
        have hwr : IntKind.i64.wrap ((n : Int) + (m : Int)) = ((n + m : Nat) : Int) := by rw [IntKind.wrap_i64]; omega
        rw [hwr]
        go_wp2
        refine ⟨⟨.int .i64 ((n + m : Nat) : Int), _, _, _, _, _, _, _, _, _, _, _, _, _, ⟨n + m, by omega, by omega, rfl, ⟨_, HF.out.1, by simpa using HF.out.2.2.1, by simpa using HF.out.2.2.2⟩, HF.out.2.1⟩, rfl⟩, ?_⟩
        simp [intOf, Act.put]
        omega
    · obtain rfl : n = c := by omega
      obtain ⟨cur, hg, hcs, htk⟩ := hcur.out
      have HF := (show Hid (_ ∧ _) from ⟨(by rw [hg, ← htk, List.take_of_length_le (by simp; omega)] : wr.heap[w.heap.size]? = some (.cells (newCells n).toArray 76 (0, 0))), hbw.out⟩)
      clear hg hcs htk hcur hbw
      go_wp2
      go_ret
      exact ⟨rfl, HF.out.1, HF.out.2⟩
end Go.Proofs.YtlbinamlehapoaaGreatDoor

namespace Go.Proofs.YtlbinamlehapoaaGreatDoor
open Go.RowKit Go.Joins

set_option maxRecDepth 100000

/-- A new link. -/
def newL (id : Int) (n : Nat) : Lk := ⟨id, 1, [], List.replicate n ⟨1, []⟩⟩
def zeroLk : Lk := ⟨0, 0, [], []⟩
def newOf (id nodes : Int) : Lk := if amongB id nodes then newL id nodes.toNat else zeroLk
theorem newRows_fst (n : Nat) : (newRows n).map Prod.fst = List.replicate n ⟨1, []⟩ := by simp [newRows]
theorem inI64_one : inI64 1 := inI64_small (k := 1) (by decide) (by decide)
theorem inI64_nil : inI64 0 := inI64_small (k := 0) (by decide) (by decide)
theorem newSe_kids {W : World} {B n : Nat} : (∀ r ∈ newRows n, W.ownsRow B 3 1 r.2 r.1.ids.length (intVs r.1.ids) ∧ SeOk r.1) ∧ ((newRows n).map Prod.snd).Pairwise AptV := by
  refine ⟨fun r hr => ?_, ?_⟩
  · have hr' : r = (⟨1, []⟩, .slice none 0 0) := List.eq_of_mem_replicate hr
    subst hr'
    exact ⟨⟨rfl, .inl ⟨rfl, rfl⟩⟩, inI64_one, fun z hz => by simp at hz⟩
  · refine List.pairwise_map.2 (List.pairwise_iff_getElem.2 fun i j hi hj _ => .inl ?_)
    simp [newRows, Value.ownBlock]
theorem newSe {W : World} {B g n : Nat} (h : W.heap[g]? = some (.cells (newCells n).toArray 76 (0, 0))) (hB : B ≤ g) (hn : n ≤ 1000) : SeOwn W B (.slice (some ⟨g, 0, none⟩) n n) (newRows n) := by
  have hl : (newRows n).length = n := by simp [newRows]
  refine ⟨⟨by rw [se_len], .inr ⟨g, n, _, by rw [hl], hB, h, by omega, by unfold maxLen; omega, by simp [newCells_len], ?_⟩⟩, (newSe_kids (W := W) (B := B)).1, (newSe_kids (W := W) (B := B)).2⟩
  rw [hl]
  show List.take (n * 2) (newCells n) = newCells n
  exact List.take_of_length_le (by rw [newCells_len]; omega)
theorem zeroOwn (W : World) (B : Nat) : LkOwn W B (.agg #[.int .i64 0, .int .i64 0, .slice none 0 0, .slice none 0 0]) zeroLk (.slice none 0 0) (.slice none 0 0) [] :=
  ⟨rfl, ⟨inI64_nil, inI64_nil⟩, ⟨⟨rfl, .inl ⟨rfl, rfl⟩⟩, fun s hs => by cases hs⟩, ⟨⟨rfl, .inl ⟨rfl, rfl⟩⟩, fun r hr => by simp at hr, by simp⟩, rfl⟩

theorem isAmong_rN (a b : Int) (r : Bool) (h : amongB a b = r) (w : World) : Calls Tryz.prog 42 #[.int .i64 a, .int .i64 b] w fun e w' => e = .returned (.bool r) ∧ w' = w := by
  subst h
  unfold amongB
  cases h0 : decide (b ≤ 31) with
  | false =>
    go_enter Tryz.func42, Tryz.ntmps42
    go_wp2
    go_ret
    exact ⟨rfl, rfl⟩
  | true =>
    cases h1 : decide (0 ≤ a) with
    | false =>
      go_enter Tryz.func42, Tryz.ntmps42
      go_wp2
      go_ret
      exact ⟨rfl, rfl⟩
    | true =>
      go_enter Tryz.func42, Tryz.ntmps42
      go_wp2
      go_ret
      exact ⟨by simp, rfl⟩

set_option maxHeartbeats 1600000 in
theorem implLinkNew_any (id nodes : Int) (w : World) (hid : inI64 id) :
    Calls Tryz.prog 15 #[.int .i64 id, .int .i64 nodes] w fun e w' => ∃ v ov sv rs, e = .returned (.tuple #[v, .bool (amongB id nodes)]) ∧ LkOwn w' w.heap.size v (newOf id nodes) ov sv rs ∧ Below w.heap.size w w' := by
  have hnot := ex_not
  have B0 : Hid (∀ o : Obj, Below w.heap.size w (w.alloc o)) := fun o => (Below.refl _ w).alloc (Nat.le_refl _) o
  cases ha : amongB id nodes with
  | false =>
    have HE : Hid (newOf id nodes = zeroLk) := by show _ = _; unfold newOf; rw [ha]; rfl
    go_enter Tryz.func15, Tryz.ntmps15
    go_wp2_with (go_at_call 42; refine (isAmong_rN _ _ _ ha _).mono ?_; rintro e w1 ⟨rfl, he⟩; rw [he]; clear he)
    refine bodyPost_ret (v := .tuple #[.agg #[.int .i64 0, .int .i64 0, .slice none 0 0, .slice none 0 0], .bool false]) (by simp [results, Tryz.results15, go_sem]) rfl ?_
    rw [HE.out]
    exact ⟨_, _, _, [], rfl, zeroOwn _ _, B0.out _⟩
  | true =>
    have hb : (0 ≤ id ∧ id < nodes) ∧ nodes ≤ 31 := by
      have := ha
      unfold amongB at this
      simp only [Bool.and_eq_true, decide_eq_true_eq] at this
      omega
    obtain ⟨n, hn⟩ : ∃ n : Nat, nodes = n := ⟨nodes.toNat, by omega⟩
    subst hn
    have HE : Hid (newOf id n = newL id n) := by show _ = _; unfold newOf; rw [ha, if_pos rfl, Int.toNat_natCast]
    obtain ⟨W1, hW1⟩ : ∃ W1, W1 = (w.alloc (.cells (zeroLk.row (.slice none 0 0) (.slice none 0 0)) 27)).alloc (.cells #[.int .i64 1, .slice none 0 0] 76) := ⟨_, rfl⟩
    have b1 : Below w.heap.size w W1 := by rw [hW1]; exact ((Below.refl _ w).alloc (Nat.le_refl _) _).alloc (by simp) _
    have O0 : W1.heap[w.heap.size]? = some (.cells (zeroLk.row (.slice none 0 0) (.slice none 0 0)) 27) := by
      rw [hW1, Below.heap_alloc _ _ _ (by simp)]; exact (MapKept.heap_alloc w _).1
    have O1 : W1.heap[w.heap.size + 1]? = some (.cells #[.int .i64 1, .slice none 0 0] 76) := by
      have := (MapKept.heap_alloc (w.alloc (.cells (zeroLk.row (.slice none 0 0) (.slice none 0 0)) 27)) (.cells #[.int .i64 1, .slice none 0 0] 76)).1
      rw [hW1]
      simpa using this
    have hs1 : w.heap.size + 2 = W1.heap.size := by rw [hW1]; simp
    have hR := repeat_any (w.heap.size + 1) n W1 O1 (by omega) (by omega)
    have H1 := (show Hid (_ ∧ _ ∧ _ ∧ _) from ⟨hR, b1, O0, hW1⟩)
    clear hR b1 O0 O1 hW1
    go_enter Tryz.func15, Tryz.ntmps15
    go_wp2_with (go_at_call 42; refine (isAmong_rN _ _ _ ha _).mono ?_; rintro e w1 ⟨rfl, he⟩; rw [he]; clear he)
    rw [← (show W1 = (w.alloc (.cells #[.int .i64 0, .int .i64 0, .slice none 0 0, .slice none 0 0] 27)).alloc (.cells #[.int .i64 1, .slice none 0 0] 76) from H1.out.2.2.2)]
    refine H1.out.1.mono ?_
    rintro e w2 ⟨rfl, hg2, b2⟩
    have hs2 : W1.heap.size ≤ w2.heap.size := b2.size
    have P0 := (b2.block _ (lt_heap H1.out.2.2.1)).trans H1.out.2.2.1
    obtain ⟨c10, c11, c12, c13⟩ := lbox P0
    have f10 : w2.frozen? ⟨w.heap.size, 0, none⟩ = false := unfrozen_of_block P0 0
    have f11 : w2.frozen? ⟨w.heap.size, 1, none⟩ = false := unfrozen_of_block P0 1
    have f12 : w2.frozen? ⟨w.heap.size, 2, none⟩ = false := unfrozen_of_block P0 2
    have f13 : w2.frozen? ⟨w.heap.size, 3, none⟩ = false := unfrozen_of_block P0 3
    have H2 := (show Hid (_ ∧ _) from ⟨hg2, H1.out.2.1.trans (b2.mono (by omega))⟩)
    clear hg2 b2 P0 H1
    go_wp2
    refine bodyPost_ret (v := .tuple #[.agg #[.int .i64 id, .int .i64 1, .slice none 0 0, .slice (some ⟨W1.heap.size, 0, none⟩) n n], .bool true]) (by simp [results, Tryz.results15, go_sem, c10, c11, c12, c13]) rfl ?_
    rw [HE.out]
    refine ⟨_, _, _, newRows n, rfl, ⟨rfl, ⟨hid, inI64_one⟩, ⟨⟨rfl, .inl ⟨rfl, rfl⟩⟩, fun s hs => by cases hs⟩, newSe ?_ (by omega) (by omega), newRows_fst n⟩, ?_⟩
    · rw [Below.heap_setCell _ _ _ _ (by simp; omega), Below.heap_setCell _ _ _ _ (by simp; omega), Below.heap_setCell _ _ _ _ (by simp; omega), Below.heap_setCell _ _ _ _ (by simp; omega)]
      exact H2.out.1
    · exact (((H2.out.2.setCell (p := ⟨w.heap.size, 0, none⟩) (by simp) _).setCell (p := ⟨w.heap.size, 1, none⟩) (by simp) _).setCell (p := ⟨w.heap.size, 2, none⟩) (by simp) _).setCell (p := ⟨w.heap.size, 3, none⟩) (by simp) _
end Go.Proofs.YtlbinamlehapoaaGreatDoor

namespace Go.Proofs.YtlbinamlehapoaaGreatDoor
open Go.RowKit Go.Joins

set_option maxRecDepth 100000

set_option maxHeartbeats 1600000 in
/-- The specification's LinkOk of a new link. -/
theorem specOkNew (id : Int) (n : Nat) (sa : Option Addr) (sc B : Nat) (w : World) (hn : n ≤ 31) (hS : SeOwn w B (.slice sa n sc) (newRows n)) :
    Calls Tryz.prog 23 #[.agg #[.int .i64 id, .int .i64 1, .slice none 0 0, .slice sa n sc]] w fun e w' => e = .returned (.bool (amongB id n)) ∧ Below w.heap.size w w' := by
  have hnot := ex_not
  obtain ⟨W0, hW0⟩ : ∃ W0, W0 = w.alloc (.cells #[.int .i64 id, .int .i64 1, .slice none 0 0, .slice sa n sc] 27) := ⟨_, rfl⟩
  have B0 : Below w.heap.size w W0 := by rw [hW0]; exact (Below.refl _ w).alloc (Nat.le_refl _) _
  have O0 : W0.heap[w.heap.size]? = some (.cells (Lk.row ⟨id, 1, [], []⟩ (.slice none 0 0) (.slice sa n sc)) 27) := by rw [hW0]; exact (MapKept.heap_alloc w _).1
  have hsn := hS.at
  rw [newRows_fst] at hsn
  have H0 := (show Hid (_ ∧ _ ∧ _ ∧ _) from ⟨hsn, B0, O0, hW0⟩)
  have hin : inB 1 1 999999 = true := rfl
  have hin2 : inB 1 1 1000000 = true := rfl
  clear hS hsn O0
  cases g1 : inB id 0 ((n : Int) - 1) with
  | false =>
    have HR : Hid (amongB id n = false) := by
      show _ = _
      unfold inB at g1
      unfold amongB
      by_cases u1 : 0 ≤ id
      · have u2 : ¬ id < (n : Int) := by intro u; have : id ≤ (n : Int) - 1 := by omega
                                         simp [u1, this] at g1
        simp [u2]
      · simp [u1]
    subst hW0
    go_enter Tryz.func23, Tryz.ntmps23
    go_wp2_with (go_at_call 49; refine (specIn_is _ _ _ _ g1 _).mono ?_; rintro e w1 ⟨rfl, rfl⟩)
    go_ret
    exact ⟨by rw [HR.out]; rfl, H0.out.2.1⟩
  | true =>
  have HR : Hid (amongB id n = true) := by
    show _ = _
    unfold inB at g1
    simp only [Bool.and_eq_true, decide_eq_true_eq] at g1
    unfold amongB
    simp
    omega
  have g2 : ¬ (31 : Int) < (n : Int) := by omega
  clear B0
  go_enter Tryz.func23, Tryz.ntmps23
  go_wp2_with (go_at_call 49; refine (specIn_any _ _ _ _).mono ?_; simp only [g1, hin]; rintro e w1 ⟨rfl, rfl⟩)
  rw [← hW0]
  clear hW0
  obtain ⟨q0, q1, q2, q3⟩ := lbox H0.out.2.2.1
  refine wp_loop_rounds 1 ?_
  rw [rounds_succ]
  go_wp2
  clear q0 q1 q2 q3
  go_loopw [7] (fun i wr => ∃ k : Nat, k ≤ n ∧ i = .int .i64 k ∧ wr.heap[w.heap.size]? = some (.cells (Lk.row ⟨id, 1, [], []⟩ (.slice none 0 0) (.slice sa n sc)) 27) ∧ Below w.heap.size w wr) (fun i _ => n - (intOf i).toNat)
  case atStart => exact ⟨0, Nat.zero_le _, rfl, H0.out.2.2.1, H0.out.2.1⟩
  case round =>
    obtain ⟨k, hk, rfl, hbox, hbw⟩ := hrel
    have hsz := hbw.size
    have hsz1 : w.heap.size < wr.heap.size := lt_heap hbox
    obtain ⟨q0, q1, q2, q3⟩ := lbox hbox
    by_cases hkl : k < n
    · obtain ⟨a', cap', hv', -, hc'⟩ := H0.out.1
      simp only [Value.slice.injEq, List.length_replicate] at hv'
      obtain ⟨rfl, -, rfl⟩ := hv'
      obtain ⟨b, off, kv, hoa, hSb, hlt2, c0, c1, r0, hkk⟩ := hc' k ⟨1, []⟩ (by rw [List.getElem?_replicate, if_pos hkl])
      subst hoa
      obtain ⟨xa, xc, rfl⟩ := hkk.form
      simp only [List.length_nil] at c1
      rw [← hbw.cell (by exact hlt2)] at c0 c1
      have hlt3 : b < wr.heap.size := Nat.lt_of_lt_of_le hlt2 hsz
      have hlt' : ((k : Nat) : Int) < ((n : Nat) : Int) := by omega
      have HX := (show Hid (_ ∧ _) from ⟨(Below.heap_alloc wr (.cells #[.int .i64 1, .slice xa 0 xc] 76) _ hsz1).trans hbox, hbw.alloc hsz (.cells #[.int .i64 1, .slice xa 0 xc] 76)⟩)
      clear hc' hbox hbw hkk hSb r0
      go_wp2_with (go_at_call 49; refine (specIn_is _ _ _ _ hin2 _).mono ?_; rintro e w1 ⟨rfl, rfl⟩)
      refine wp_loop_rounds 1 ?_
      rw [rounds_succ]
      go_wp2
      refine ⟨⟨k + 1, by omega, by go_num, HX.out.1, HX.out.2⟩, by simp [intOf]; omega⟩
    · obtain rfl : k = n := by omega
      have HF := (show Hid (_ ∧ True) from ⟨hbw, trivial⟩)
      clear hbox hbw
      go_wp2
      go_ret
      exact ⟨by rw [HR.out]; rfl, HF.out.1⟩

/-- How many there will be. -/
def limN (nodes : Int) : Nat := if nodes ≤ 31 then nodes.toNat else 0
theorem among_lim (id nodes : Int) : amongB id (limN nodes) = amongB id nodes := by
  unfold amongB limN
  by_cases h : nodes ≤ 31
  · rw [if_pos h]
    by_cases h0 : 0 ≤ nodes
    · have e : ((nodes.toNat : Nat) : Int) = nodes := by omega
      rw [e]
    · have e : nodes.toNat = 0 := by omega
      rw [e]
      by_cases h1 : 0 ≤ id
      · have h2 : ¬ id < nodes := by omega
        have h3 : ¬ id < ((0 : Nat) : Int) := by omega
        simp [h2]
      · simp [h1]
  · rw [if_neg h]
    by_cases h1 : 0 ≤ id
    · have h3 : ¬ id < ((0 : Nat) : Int) := by omega
      simp [h]
    · simp [h1]
theorem new_of_lim (id nodes : Int) (h : amongB id nodes = true) : newOf id nodes = newL id (limN nodes) := by
  unfold newOf
  rw [h, if_pos rfl]
  unfold amongB at h
  simp only [Bool.and_eq_true, decide_eq_true_eq] at h
  unfold limN
  rw [if_pos h.1.1]
theorem newSe_push {W' : World} {B k : Nat} {cv' : Value} (hown : W'.ownsRow B 76 2 cv' (k + 1) ((newRows k).flatMap seCells ++ [.int .i64 1, .slice none 0 0])) : SeOwn W' B cv' (newRows (k + 1)) := by
  have hl : (newRows (k + 1)).length = k + 1 := by simp [newRows]
  refine ⟨?_, (newSe_kids (W := W') (B := B)).1, (newSe_kids (W := W') (B := B)).2⟩
  rw [hl]
  have e : (newRows (k + 1)).flatMap seCells = (newRows k).flatMap seCells ++ [.int .i64 1, .slice none 0 0] := by
    have := newCells_add k 1
    exact this
  rw [e]
  exact hown

set_option maxHeartbeats 1600000 in
theorem specLinkNew_any (id nodes : Int) (w : World) (hid : inI64 id) :
    Calls Tryz.prog 16 #[.int .i64 id, .int .i64 nodes] w fun e w' => ∃ v ov sv rs, e = .returned (.tuple #[v, .bool (amongB id nodes)]) ∧ LkOwn w' w.heap.size v (newOf id nodes) ov sv rs ∧ Below w.heap.size w w' := by
  have hnot := ex_not
  obtain ⟨i0, hi, hz0, hz1, hz2⟩ := info_parts infoSeen
  have hlim : (limN nodes : Int) ≤ 31 := by unfold limN; split <;> omega
  obtain ⟨W0, hW0⟩ : ∃ W0, W0 = (w.alloc (.cells #[.int .i64 0, .int .i64 0, .slice none 0 0, .slice none 0 0] 27)).alloc (.cells #[.int .i64 id, .int .i64 1, .slice none 0 0, .slice none 0 0] 27) := ⟨_, rfl⟩
  have B0 : Below w.heap.size w W0 := by rw [hW0]; exact ((Below.refl _ w).alloc (Nat.le_refl _) _).alloc (by simp) _
  have O0 : W0.heap[w.heap.size]? = some (.cells (zeroLk.row (.slice none 0 0) (.slice none 0 0)) 27) := by
    rw [hW0, Below.heap_alloc _ _ _ (by simp)]; exact (MapKept.heap_alloc w _).1
  have O1 : W0.heap[w.heap.size + 1]? = some (.cells (Lk.row ⟨id, 1, [], []⟩ (.slice none 0 0) (.slice none 0 0)) 27) := by
    have := (MapKept.heap_alloc (w.alloc (.cells #[.int .i64 0, .int .i64 0, .slice none 0 0, .slice none 0 0] 27)) (.cells #[.int .i64 id, .int .i64 1, .slice none 0 0, .slice none 0 0] 27)).1
    rw [hW0]
    simpa using this
  have H0 := (show Hid (_ ∧ _ ∧ _ ∧ _) from ⟨B0, O0, O1, hW0⟩)
  clear B0 O0 O1 hW0
  go_enter Tryz.func16, Tryz.ntmps16
  go_wp2
  rw [← (show W0 = _ from H0.out.2.2.2)]
  go_loopw [7] (fun i wr => ∃ (k : Nat) (sa : Option Addr) (sc : Nat), k ≤ limN nodes ∧ i = .int .i64 k ∧ SeOwn wr (w.heap.size + 2) (.slice sa k sc) (newRows k) ∧ wr.heap[w.heap.size]? = some (.cells (zeroLk.row (.slice none 0 0) (.slice none 0 0)) 27) ∧ wr.heap[w.heap.size + 1]? = some (.cells (Lk.row ⟨id, 1, [], []⟩ (.slice none 0 0) (.slice sa k sc)) 27) ∧ Below w.heap.size w wr) (fun i _ => limN nodes - (intOf i).toNat)
  case atStart => exact ⟨0, none, 0, Nat.zero_le _, rfl, ⟨⟨rfl, .inl ⟨rfl, rfl⟩⟩, fun r hr => by simp [newRows] at hr, by simp [newRows]⟩, H0.out.2.1, H0.out.2.2.1, H0.out.1⟩
  case round =>
    obtain ⟨k, sa, sc, hk, rfl, hS, hres, hbox, hbw⟩ := hrel
    have hsz := hbw.size
    have hsz2 : w.heap.size + 1 < wr.heap.size := lt_heap hbox
    obtain ⟨q0, q1, q2, q3⟩ := lbox hbox
    by_cases hkl : k < limN nodes
    · have hnn : nodes ≤ 31 ∧ (k : Int) < nodes := by
        unfold limN at hkl
        split at hkl
        · omega
        · omega
      have d1 : decide ((k : Int) < nodes) = true := decide_eq_true hnn.2
      have d2 : decide (nodes ≤ 31) = true := decide_eq_true hnn.1
      have hrow := hS.cells
      have hrl : (newRows k).length = k := by simp [newRows]
      rw [hrl] at hrow
      have hO := hrow.alloc (.cells #[.int .i64 1, .slice none 0 0] 76)
      have bA : Below wr.heap.size wr (wr.alloc (.cells #[.int .i64 1, .slice none 0 0] 76)) := (Below.refl _ wr).alloc (Nat.le_refl _) _
      have H5 := (show Hid (_ ∧ _ ∧ _ ∧ _) from ⟨hO, (bA.block _ (lt_heap hres)).trans hres, (bA.block _ (lt_heap hbox)).trans hbox, hbw.trans (bA.mono hsz)⟩)
      clear hS hres hbox hbw hrow hO bA hnn
      go_wp2_with (at_builtin; refine wpList_append_own_at _ rfl _ _ 25 rfl (w.heap.size + 2) 76 i0 (.agg #[.int .i64 0, .slice none 0 0]) 2 32 Tryz.underlying25 hi hz0 hz1 hz2 rfl (by decide) _ k _ rfl H5.out.1 ⟨wr.heap.size, 0, none⟩ 1 1 [.int .i64 1, .slice none 0 0] rfl rfl (Go.cell_two_new _ _ _ _) (by simp [Value.oneCell']) (by unfold maxLen; omega) (by omega) (by simp; omega) ?_; intro v5 w5 hown5 hgrow5 hnil5 hat5; have hg5 : ∀ b, (Value.slice sa k sc).ownBlock = some b → w.heap.size + 2 ≤ b := (fun b hb => (own_type H5.out.1 b hb).1); have O5 := (hgrow5.block _ (lt_heap H5.out.2.2.1) (fun e => by have := hg5 _ e.symm; omega)).trans H5.out.2.2.1; have R5 := (hgrow5.block _ (lt_heap H5.out.2.1) (fun e => by have := hg5 _ e.symm; omega)).trans H5.out.2.1; obtain ⟨z0, z1, z2, z3⟩ := lbox O5; have f3 : w5.frozen? ⟨w.heap.size + 1, 3, none⟩ = false := unfrozen_of_block O5 3; have B5 : Below w.heap.size w w5 := Below.grown H5.out.2.2.2 hgrow5 (hB := H5.out.2.2.2.size) (hr := fun b hb => by have := hg5 b hb; omega); obtain ⟨n5, va, vc, hn5, rfl⟩ := own_formN hown5; have H6 := (show Hid (_ ∧ _ ∧ _ ∧ _ ∧ _) from ⟨hown5, O5, R5, B5, hn5⟩); clear hown5 hgrow5 hnil5 hat5 hg5 O5 R5 B5 hn5)
      obtain rfl : n5 = k + 1 := H6.out.2.2.2.2
      refine ⟨⟨k + 1, va, vc, by omega, by go_num, ?_, ?_, ?_, ?_⟩, by simp [intOf]; omega⟩
      · have h5 := H6.out.1
        have hne : ∀ g, (Value.slice va (k + 1) vc).ownBlock = some g → g ≠ w.heap.size + 1 := fun g hg e => by have := (own_type h5 g hg).1; omega
        exact newSe_push (own_moved h5 (fun g hg => Below.heap_setCell _ _ _ g (by simpa using hne g hg)))
      · rw [Below.heap_setCell _ _ _ _ (by simp)]
        exact H6.out.2.2.1
      · rw [block_setCell H6.out.2.1]
        rfl
      · exact H6.out.2.2.2.1.setCell (p := ⟨w.heap.size + 1, 3, none⟩) (by simp) _
    · obtain rfl : k = limN nodes := by omega
      have hok := specOkNew id (limN nodes) sa sc _ wr (by omega) hS
      rw [among_lim] at hok
      have H5 := (show Hid (_ ∧ _ ∧ _ ∧ _ ∧ _) from ⟨hok, hS, hres, hbox, hbw⟩)
      clear hok hS hres hbox hbw
      by_cases hc : ((limN nodes : Nat) : Int) < nodes
      · have hc2 : ¬ nodes ≤ 31 := fun h => by unfold limN at hc; rw [if_pos h] at hc; omega
        have d1 : decide (((limN nodes : Nat) : Int) < nodes) = true := decide_eq_true hc
        have d2 : decide (nodes ≤ 31) = false := decide_eq_false hc2
        clear hc hc2
        go_wp2_with fail
        refine H5.out.1.mono ?_
        rintro e w2 ⟨rfl, b2⟩
        clear q0 q1 q2 q3
        have hs2 : wr.heap.size ≤ w2.heap.size := b2.size
        have P0 := (b2.block _ (lt_heap H5.out.2.2.1)).trans H5.out.2.2.1
        have P1 := (b2.block _ (lt_heap H5.out.2.2.2.1)).trans H5.out.2.2.2.1
        obtain ⟨c10, c11, c12, c13⟩ := lbox P0
        obtain ⟨e10, e11, e12, e13⟩ := lbox P1
        have f10 : w2.frozen? ⟨w.heap.size, 0, none⟩ = false := unfrozen_of_block P0 0
        have f11 : w2.frozen? ⟨w.heap.size, 1, none⟩ = false := unfrozen_of_block P0 1
        have f12 : w2.frozen? ⟨w.heap.size, 2, none⟩ = false := unfrozen_of_block P0 2
        have f13 : w2.frozen? ⟨w.heap.size, 3, none⟩ = false := unfrozen_of_block P0 3
        have H6 := (show Hid (_ ∧ _) from ⟨H5.out.2.1.below b2, H5.out.2.2.2.2.trans (b2.mono (by omega))⟩)
        clear b2 P0 P1 H5
        cases ha : amongB id nodes with
        | false =>
          have HE : Hid (newOf id nodes = zeroLk) := by show _ = _; unfold newOf; rw [ha]; rfl
          have HA := (show Hid (_ ∧ True) from ⟨ha, trivial⟩)
          clear ha
          go_wp2
          refine bodyPost_ret (v := .tuple #[.agg #[.int .i64 0, .int .i64 0, .slice none 0 0, .slice none 0 0], .bool false]) (by simp [results, Tryz.results16, go_sem, c10, c11, c12, c13]) rfl ?_
          rw [HE.out]
          refine ⟨_, _, _, [], by rw [HA.out.1], zeroOwn _ _, ?_⟩
          exact (((H6.out.2.setCell (p := ⟨w.heap.size, 0, none⟩) (by simp) _).setCell (p := ⟨w.heap.size, 1, none⟩) (by simp) _).setCell (p := ⟨w.heap.size, 2, none⟩) (by simp) _).setCell (p := ⟨w.heap.size, 3, none⟩) (by simp) _
        | true =>
          have HE := (show Hid (_ ∧ True) from ⟨new_of_lim id nodes ha, trivial⟩)
          have HA := (show Hid (_ ∧ True) from ⟨ha, trivial⟩)
          clear ha
          go_wp2
          refine bodyPost_ret (v := .tuple #[.agg #[.int .i64 id, .int .i64 1, .slice none 0 0, .slice sa (limN nodes) sc], .bool true]) (by simp [results, Tryz.results16, go_sem, c10, c11, c12, c13]) rfl ?_
          rw [HE.out.1]
          have hm := H6.out.1
          refine ⟨.agg #[.int .i64 id, .int .i64 1, .slice none 0 0, .slice sa (limN nodes) sc], .slice none 0 0, .slice sa (limN nodes) sc, newRows (limN nodes), by rw [HA.out.1], ⟨rfl, ⟨hid, inI64_one⟩, ⟨⟨rfl, .inl ⟨rfl, rfl⟩⟩, fun s hs => by cases hs⟩, ?_, newRows_fst _⟩, ?_⟩
          · have hm' : SeOwn w2 w.heap.size (.slice sa (limN nodes) sc) (newRows (limN nodes)) := ⟨own_mono hm.cells (by omega), fun r hr => ⟨own_mono (hm.kids r hr).1 (by omega), (hm.kids r hr).2⟩, hm.apart⟩
            refine hm'.moved (fun b hb => ?_)
            have := (hm.own hb).1
            rw [Below.heap_setCell _ _ _ _ (by simp; omega), Below.heap_setCell _ _ _ _ (by simp; omega), Below.heap_setCell _ _ _ _ (by simp; omega), Below.heap_setCell _ _ _ _ (by simp; omega)]
          · exact (((H6.out.2.setCell (p := ⟨w.heap.size, 0, none⟩) (by simp) _).setCell (p := ⟨w.heap.size, 1, none⟩) (by simp) _).setCell (p := ⟨w.heap.size, 2, none⟩) (by simp) _).setCell (p := ⟨w.heap.size, 3, none⟩) (by simp) _
      · have d1 : decide (((limN nodes : Nat) : Int) < nodes) = false := decide_eq_false hc
        clear hc
        go_wp2_with fail
        refine H5.out.1.mono ?_
        rintro e w2 ⟨rfl, b2⟩
        clear q0 q1 q2 q3
        have hs2 : wr.heap.size ≤ w2.heap.size := b2.size
        have P0 := (b2.block _ (lt_heap H5.out.2.2.1)).trans H5.out.2.2.1
        have P1 := (b2.block _ (lt_heap H5.out.2.2.2.1)).trans H5.out.2.2.2.1
        obtain ⟨c10, c11, c12, c13⟩ := lbox P0
        obtain ⟨e10, e11, e12, e13⟩ := lbox P1
        have f10 : w2.frozen? ⟨w.heap.size, 0, none⟩ = false := unfrozen_of_block P0 0
        have f11 : w2.frozen? ⟨w.heap.size, 1, none⟩ = false := unfrozen_of_block P0 1
        have f12 : w2.frozen? ⟨w.heap.size, 2, none⟩ = false := unfrozen_of_block P0 2
        have f13 : w2.frozen? ⟨w.heap.size, 3, none⟩ = false := unfrozen_of_block P0 3
        have H6 := (show Hid (_ ∧ _) from ⟨H5.out.2.1.below b2, H5.out.2.2.2.2.trans (b2.mono (by omega))⟩)
        clear b2 P0 P1 H5
        cases ha : amongB id nodes with
        | false =>
          have HE : Hid (newOf id nodes = zeroLk) := by show _ = _; unfold newOf; rw [ha]; rfl
          have HA := (show Hid (_ ∧ True) from ⟨ha, trivial⟩)
          clear ha
          go_wp2
          refine bodyPost_ret (v := .tuple #[.agg #[.int .i64 0, .int .i64 0, .slice none 0 0, .slice none 0 0], .bool false]) (by simp [results, Tryz.results16, go_sem, c10, c11, c12, c13]) rfl ?_
          rw [HE.out]
          refine ⟨_, _, _, [], by rw [HA.out.1], zeroOwn _ _, ?_⟩
          exact (((H6.out.2.setCell (p := ⟨w.heap.size, 0, none⟩) (by simp) _).setCell (p := ⟨w.heap.size, 1, none⟩) (by simp) _).setCell (p := ⟨w.heap.size, 2, none⟩) (by simp) _).setCell (p := ⟨w.heap.size, 3, none⟩) (by simp) _
        | true =>
          have HE := (show Hid (_ ∧ True) from ⟨new_of_lim id nodes ha, trivial⟩)
          have HA := (show Hid (_ ∧ True) from ⟨ha, trivial⟩)
          clear ha
          go_wp2
          refine bodyPost_ret (v := .tuple #[.agg #[.int .i64 id, .int .i64 1, .slice none 0 0, .slice sa (limN nodes) sc], .bool true]) (by simp [results, Tryz.results16, go_sem, c10, c11, c12, c13]) rfl ?_
          rw [HE.out.1]
          have hm := H6.out.1
          refine ⟨.agg #[.int .i64 id, .int .i64 1, .slice none 0 0, .slice sa (limN nodes) sc], .slice none 0 0, .slice sa (limN nodes) sc, newRows (limN nodes), by rw [HA.out.1], ⟨rfl, ⟨hid, inI64_one⟩, ⟨⟨rfl, .inl ⟨rfl, rfl⟩⟩, fun s hs => by cases hs⟩, ?_, newRows_fst _⟩, ?_⟩
          · have hm' : SeOwn w2 w.heap.size (.slice sa (limN nodes) sc) (newRows (limN nodes)) := ⟨own_mono hm.cells (by omega), fun r hr => ⟨own_mono (hm.kids r hr).1 (by omega), (hm.kids r hr).2⟩, hm.apart⟩
            refine hm'.moved (fun b hb => ?_)
            have := (hm.own hb).1
            rw [Below.heap_setCell _ _ _ _ (by simp; omega), Below.heap_setCell _ _ _ _ (by simp; omega), Below.heap_setCell _ _ _ _ (by simp; omega), Below.heap_setCell _ _ _ _ (by simp; omega)]
          · exact (((H6.out.2.setCell (p := ⟨w.heap.size, 0, none⟩) (by simp) _).setCell (p := ⟨w.heap.size, 1, none⟩) (by simp) _).setCell (p := ⟨w.heap.size, 2, none⟩) (by simp) _).setCell (p := ⟨w.heap.size, 3, none⟩) (by simp) _
end Go.Proofs.YtlbinamlehapoaaGreatDoor
