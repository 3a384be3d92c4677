/-
  The program's LinkNew.
-/
import Derived.Test.YtbaakhpmfljgnaaRepeatSe
import Derived.Test.YtbaakhpmfljgnaaLinkAsc
import Derived.Test.YtbaakhpmfljgnaaLinkEq
namespace Go.Proofs.Ytbaakhpmfljgnaa
open Go.RowKit Go.Joins

set_option maxRecDepth 100000

/-- A new link. -/
def newL (id : Int) (n : Nat) : Lk := ⟨id, 1, [], List.replicate n ⟨1, []⟩⟩
def zeroLk : Lk := ⟨0, 0, [], []⟩
def newOf (id nodes : Int) : Lk := if amongB id nodes then newL id nodes.toNat else zeroLk
theorem newRows_fst (n : Nat) : (newRows n).map Prod.fst = List.replicate n ⟨1, []⟩ := by simp [newRows]
theorem inI64_one : inI64 1 := inI64_small (k := 1) (by decide) (by decide)
theorem inI64_nil : inI64 0 := inI64_small (k := 0) (by decide) (by decide)
theorem newSe_kids {W : World} {B n : Nat} : (∀ r ∈ newRows n, W.ownsRow B 3 1 r.2 r.1.ids.length (intVs r.1.ids) ∧ SeOk r.1) ∧ ((newRows n).map Prod.snd).Pairwise AptV := by
  refine ⟨fun r hr => ?_, ?_⟩
  · have hr' : r = (⟨1, []⟩, .slice none 0 0) := List.eq_of_mem_replicate hr
    subst hr'
    exact ⟨⟨rfl, .inl ⟨rfl, rfl⟩⟩, inI64_one, fun z hz => by simp at hz⟩
  · refine List.pairwise_map.2 (List.pairwise_iff_getElem.2 fun i j hi hj _ => .inl ?_)
    simp [newRows, Value.ownBlock]
theorem newSe {W : World} {B g n : Nat} (h : W.heap[g]? = some (.cells (newCells n).toArray 33 (0, 0))) (hB : B ≤ g) (hn : n ≤ 1000) : SeOwn W B (.slice (some ⟨g, 0, none⟩) n n) (newRows n) := by
  have hl : (newRows n).length = n := by simp [newRows]
  refine ⟨⟨by rw [se_len], .inr ⟨g, n, _, by rw [hl], hB, h, by omega, by unfold maxLen; omega, by simp [newCells_len], ?_⟩⟩, (newSe_kids (W := W) (B := B)).1, (newSe_kids (W := W) (B := B)).2⟩
  rw [hl]
  show List.take (n * 2) (newCells n) = newCells n
  exact List.take_of_length_le (by rw [newCells_len]; omega)
theorem zeroOwn (W : World) (B : Nat) : LkOwn W B (.agg #[.int .i64 0, .int .i64 0, .slice none 0 0, .slice none 0 0]) zeroLk (.slice none 0 0) (.slice none 0 0) [] :=
  ⟨rfl, ⟨inI64_nil, inI64_nil⟩, ⟨⟨rfl, .inl ⟨rfl, rfl⟩⟩, fun s hs => by cases hs⟩, ⟨⟨rfl, .inl ⟨rfl, rfl⟩⟩, fun r hr => by simp at hr, by simp⟩, rfl⟩

theorem isAmong_rN (a b : Int) (r : Bool) (h : amongB a b = r) (w : World) : Calls Try.prog 10 #[.int .i64 a, .int .i64 b] w fun e w' => e = .returned (.bool r) ∧ w' = w := by
  subst h
  unfold amongB
  cases h0 : decide (b ≤ 31) with
  | false =>
    go_enter Try.func10, Try.ntmps10
    go_wp2
    go_ret
    exact ⟨rfl, rfl⟩
  | true =>
    cases h1 : decide (0 ≤ a) with
    | false =>
      go_enter Try.func10, Try.ntmps10
      go_wp2
      go_ret
      exact ⟨rfl, rfl⟩
    | true =>
      go_enter Try.func10, Try.ntmps10
      go_wp2
      go_ret
      exact ⟨by simp, rfl⟩

set_option maxHeartbeats 1600000 in
theorem implLinkNew_any (id nodes : Int) (w : World) (hid : inI64 id) :
    Calls Try.prog 5 #[.int .i64 id, .int .i64 nodes] w fun e w' => ∃ v ov sv rs, e = .returned (.tuple #[v, .bool (amongB id nodes)]) ∧ LkOwn w' w.heap.size v (newOf id nodes) ov sv rs ∧ Below w.heap.size w w' := by
  have hnot := ex_not
  have B0 : Hid (∀ o : Obj, Below w.heap.size w (w.alloc o)) := fun o => (Below.refl _ w).alloc (Nat.le_refl _) o
  cases ha : amongB id nodes with
  | false =>
    have HE : Hid (newOf id nodes = zeroLk) := by show _ = _; unfold newOf; rw [ha]; rfl
    go_enter Try.func5, Try.ntmps5
    go_wp2_with (go_at_call 10; refine (isAmong_rN _ _ _ ha _).mono ?_; rintro e w1 ⟨rfl, he⟩; rw [he]; clear he)
    refine bodyPost_ret (v := .tuple #[.agg #[.int .i64 0, .int .i64 0, .slice none 0 0, .slice none 0 0], .bool false]) (by simp [results, Try.results5, go_sem]) rfl ?_
    rw [HE.out]
    exact ⟨_, _, _, [], rfl, zeroOwn _ _, B0.out _⟩
  | true =>
    have hb : (0 ≤ id ∧ id < nodes) ∧ nodes ≤ 31 := by
      have := ha
      unfold amongB at this
      simp only [Bool.and_eq_true, decide_eq_true_eq] at this
      omega
    obtain ⟨n, hn⟩ : ∃ n : Nat, nodes = n := ⟨nodes.toNat, by omega⟩
    subst hn
    have HE : Hid (newOf id n = newL id n) := by show _ = _; unfold newOf; rw [ha, if_pos rfl, Int.toNat_natCast]
    obtain ⟨W1, hW1⟩ : ∃ W1, W1 = (w.alloc (.cells (zeroLk.row (.slice none 0 0) (.slice none 0 0)) 25)).alloc (.cells #[.int .i64 1, .slice none 0 0] 33) := ⟨_, rfl⟩
    have b1 : Below w.heap.size w W1 := by rw [hW1]; exact ((Below.refl _ w).alloc (Nat.le_refl _) _).alloc (by simp) _
    have O0 : W1.heap[w.heap.size]? = some (.cells (zeroLk.row (.slice none 0 0) (.slice none 0 0)) 25) := by
      rw [hW1, Below.heap_alloc _ _ _ (by simp)]; exact (MapKept.heap_alloc w _).1
    have O1 : W1.heap[w.heap.size + 1]? = some (.cells #[.int .i64 1, .slice none 0 0] 33) := by
      have := (MapKept.heap_alloc (w.alloc (.cells (zeroLk.row (.slice none 0 0) (.slice none 0 0)) 25)) (.cells #[.int .i64 1, .slice none 0 0] 33)).1
      rw [hW1]
      simpa using this
    have hs1 : w.heap.size + 2 = W1.heap.size := by rw [hW1]; simp
    have hR := repeat_any (w.heap.size + 1) n W1 O1 (by omega) (by omega)
    have H1 := (show Hid (_ ∧ _ ∧ _ ∧ _) from ⟨hR, b1, O0, hW1⟩)
    clear hR b1 O0 O1 hW1
    go_enter Try.func5, Try.ntmps5
    go_wp2_with (go_at_call 10; refine (isAmong_rN _ _ _ ha _).mono ?_; rintro e w1 ⟨rfl, he⟩; rw [he]; clear he)
    rw [← (show W1 = (w.alloc (.cells #[.int .i64 0, .int .i64 0, .slice none 0 0, .slice none 0 0] 25)).alloc (.cells #[.int .i64 1, .slice none 0 0] 33) from H1.out.2.2.2)]
    refine H1.out.1.mono ?_
    rintro e w2 ⟨rfl, hg2, b2⟩
    have hs2 : W1.heap.size ≤ w2.heap.size := b2.size
    have P0 := (b2.block _ (lt_heap H1.out.2.2.1)).trans H1.out.2.2.1
    obtain ⟨c10, c11, c12, c13⟩ := lbox P0
    have f10 : w2.frozen? ⟨w.heap.size, 0, none⟩ = false := unfrozen_of_block P0 0
    have f11 : w2.frozen? ⟨w.heap.size, 1, none⟩ = false := unfrozen_of_block P0 1
    have f12 : w2.frozen? ⟨w.heap.size, 2, none⟩ = false := unfrozen_of_block P0 2
    have f13 : w2.frozen? ⟨w.heap.size, 3, none⟩ = false := unfrozen_of_block P0 3
    have H2 := (show Hid (_ ∧ _) from ⟨hg2, H1.out.2.1.trans (b2.mono (by omega))⟩)
    clear hg2 b2 P0 H1
    go_wp2
    refine bodyPost_ret (v := .tuple #[.agg #[.int .i64 id, .int .i64 1, .slice none 0 0, .slice (some ⟨W1.heap.size, 0, none⟩) n n], .bool true]) (by simp [results, Try.results5, go_sem, c10, c11, c12, c13]) rfl ?_
    rw [HE.out]
    refine ⟨_, _, _, newRows n, rfl, ⟨rfl, ⟨hid, inI64_one⟩, ⟨⟨rfl, .inl ⟨rfl, rfl⟩⟩, fun s hs => by cases hs⟩, newSe ?_ (by omega) (by omega), newRows_fst n⟩, ?_⟩
    · rw [Below.heap_setCell _ _ _ _ (by simp; omega), Below.heap_setCell _ _ _ _ (by simp; omega), Below.heap_setCell _ _ _ _ (by simp; omega), Below.heap_setCell _ _ _ _ (by simp; omega)]
      exact H2.out.1
    · exact (((H2.out.2.setCell (p := ⟨w.heap.size, 0, none⟩) (by simp) _).setCell (p := ⟨w.heap.size, 1, none⟩) (by simp) _).setCell (p := ⟨w.heap.size, 2, none⟩) (by simp) _).setCell (p := ⟨w.heap.size, 3, none⟩) (by simp) _
end Go.Proofs.Ytbaakhpmfljgnaa
