/-
  The program's TableOf: the table of a program, in rows of the call's own, no two of which share memory.
-/
import Derived.Test.YtdadppjncdkpiaaTabNew
import Derived.Test.YtdadppjncdkpiaaCodeCount
import Derived.Carry
import Derived.Test.YtdadppjncdkpiaaImplProg
namespace Go.Proofs.Ytdadppjncdkpiaa
open Go.RowKit Go.Joins

set_option maxRecDepth 100000

theorem own_lower {W : World} {B B' n size : Nat} {e : TypeId} {v : Value} {xs : List Value} (h : W.ownsRow B e size v n xs) (hB : B' ≤ B) : W.ownsRow B' e size v n xs := by
  refine ⟨h.1, ?_⟩
  rcases h.2 with h | ⟨g, cap, cur, hv, h1, h2⟩
  · exact .inl h
  · exact .inr ⟨g, cap, cur, hv, Nat.le_trans hB h1, h2⟩
theorem TabAt.lower {W : World} {B B' : Nat} {cv tv : Value} {rs : List (Cd × Value)} {tops : List Int} (h : TabAt W B cv tv rs tops) (hB : B' ≤ B) : TabAt W B' cv tv rs tops :=
  ⟨own_lower h.codes hB, own_lower h.tops hB, fun r hr => ⟨own_lower (h.kids r hr).1 hB, (h.kids r hr).2⟩, h.apart⟩
theorem TabAt.nil (W : World) (B : Nat) : TabAt W B (.slice none 0 0) (.slice none 0 0) [] [] :=
  ⟨World.ownsRow_nil _ _ _ _, World.ownsRow_nil _ _ _ _, fun r hr => (by simp at hr), by simp⟩

theorem toldL_mem : ∀ (ks : List Ex) (ab : Int) (a : Nat) (x : Int × Ex), x ∈ Ex.toldL ab a ks → ∃ e ∈ ks, ∃ ab' a', x ∈ e.told ab' a'
  | [], ab, a, x, h => by simp [Ex.toldL] at h
  | e :: r, ab, a, x, h => by
    rw [Ex.toldL, List.mem_append] at h
    rcases h with h | h
    · exact ⟨e, by simp, ab, a, h⟩
    · obtain ⟨e', he, h2⟩ := toldL_mem r ab _ x h
      exact ⟨e', by simp [he], h2⟩
theorem count_kid {e k : Ex} (h : k ∈ e.kids) : k.count < e.count := by
  have key : ∀ ks : List Ex, k ∈ ks → k.count ≤ Ex.countL ks := by
    intro ks
    induction ks with
    | nil => intro h; simp at h
    | cons y r ih =>
      intro h
      rw [Ex.countL]
      rcases List.mem_cons.1 h with rfl | h
      · omega
      · have := ih h; omega
  have := key e.kids h
  have := Ex.count_eq e
  omega
theorem told_kinds : ∀ (n : Nat) (e : Ex), e.count ≤ n → ∀ s t d, e.right s t d = true → ∀ ab a x, x ∈ e.told ab a → 0 ≤ kidsOf x.2.kind
  | 0, e, hn => by have := Ex.count_eq e; omega
  | n + 1, e, hn => by
    intro s t d hr ab a x hx
    have hri := (right_iff e s t d).1 hr
    rw [Ex.told_eq, List.mem_cons] at hx
    rcases hx with rfl | hx
    · show 0 ≤ kidsOf e.kind
      have := hri.2.2.1
      omega
    · obtain ⟨k, hk, ab', a', hx'⟩ := toldL_mem _ _ _ _ hx
      obtain ⟨i, hi⟩ := List.getElem?_of_mem hk
      exact told_kinds n k (by have := count_kid hk; omega) _ _ _ (hri.2.2.2.2 i k hi) ab' a' x hx'
theorem ok_kinds {p : Pr} (h : p.ok = true) : ∀ x ∈ Ex.toldL (-1) 0 p.bodies, 0 ≤ kidsOf x.2.kind := by
  intro x hx
  obtain ⟨e, he, ab, a, hx'⟩ := toldL_mem _ _ _ _ hx
  unfold Pr.ok at h
  simp only [Bool.and_eq_true, List.all_eq_true] at h
  exact told_kinds _ e (Nat.le_refl _) _ _ _ (h.2 e he) ab a x hx'

set_option maxHeartbeats 1600000 in
theorem implTable_any (d : Nat) (v : Value) (p : Pr) (w : World) (h : PrAt w (Pl w) d v p) (hb : p.bulk ≤ 1048576) :
    Calls Try.prog 19 #[v] w fun r w' => ∃ cv tv rs, r = .returned (.agg #[cv, tv]) ∧ TabAt w' w.heap.size cv tv rs (tableOf p).tops ∧ rs.map Prod.fst = (tableOf p).codes ∧ Below w.heap.size w w' := by
  have H1 : Hid (PrAt w (Pl w) d v p) := h
  obtain ⟨nv, bv, rfl, hn, hk⟩ := h
  obtain ⟨a1, c1, rfl⟩ := hn.form
  obtain ⟨a2, c2, rfl⟩ := hk.form
  have hbk : Ex.bulkL p.bodies ≤ 1048576 := by unfold Pr.bulk at hb; omega
  obtain ⟨d', rfl⟩ : ∃ d', d = d' + 1 := by
    cases d with
    | zero => exact hk.elim
    | succ d' => exact ⟨d', rfl⟩
  have B0 : Below w.heap.size w ((w.alloc (.cells #[.slice a1 p.names.length c1, .slice a2 p.bodies.length c2] 53)).alloc zeroT) := ((Below.refl _ w).alloc (Nat.le_refl _) _).alloc (by simp) _
  have O0 : ((w.alloc (.cells #[.slice a1 p.names.length c1, .slice a2 p.bodies.length c2] 53)).alloc zeroT).heap[w.heap.size]? = some (.cells #[.slice a1 p.names.length c1, .slice a2 p.bodies.length c2] 53 (0, 0)) := (Below.heap_alloc _ _ _ (by simp)).trans (MapKept.heap_alloc w _).1
  have O1 : ((w.alloc (.cells #[.slice a1 p.names.length c1, .slice a2 p.bodies.length c2] 53)).alloc zeroT).heap[w.heap.size + 1]? = some (.cells #[.slice none 0 0, .slice none 0 0] 34 (0, 0)) := by
    have := (MapKept.heap_alloc (w.alloc (.cells #[.slice a1 p.names.length c1, .slice a2 p.bodies.length c2] 53)) zeroT).1
    simpa using this
  have HP : PrAt ((w.alloc (.cells #[.slice a1 p.names.length c1, .slice a2 p.bodies.length c2] 53)).alloc zeroT) (Pl ((w.alloc (.cells #[.slice a1 p.names.length c1, .slice a2 p.bodies.length c2] 53)).alloc zeroT)) (d' + 1) (.agg #[.slice a1 p.names.length c1, .slice a2 p.bodies.length c2]) p := by
    obtain ⟨nv, bv, hv, h1, h2⟩ := H1.out
    exact ⟨nv, bv, hv, h1.kept (fun b _ hlt => B0.block b hlt) B0.size (fun _ h _ => h.below B0), h2.belowPl B0⟩
  have HH := (show Hid (_ ∧ _ ∧ _ ∧ _) from ⟨B0, O0, O1, HP⟩)
  have hs0 : ((w.alloc (.cells #[.slice a1 p.names.length c1, .slice a2 p.bodies.length c2] 53)).alloc zeroT).heap.size = w.heap.size + 2 := by simp
  clear B0 O0 O1 HP hn hk hb
  go_enter Try.func19, Try.ntmps19
  go_wp2_with fail
  generalize (w.alloc (.cells #[.slice a1 p.names.length c1, .slice a2 p.bodies.length c2] 53)).alloc zeroT = w2 at *
  refine (progOk_any (d' + 1) _ p _ HH.out.2.2.2).mono ?_
  rintro e w3 ⟨rfl, b3⟩
  have hlt0 : w.heap.size < w2.heap.size := by omega
  have P3 : w3.heap[w.heap.size]? = some (.cells #[.slice a1 p.names.length c1, .slice a2 p.bodies.length c2] 53 (0, 0)) := (b3.block _ (by omega)).trans HH.out.2.1
  have Q3 : w3.heap[w.heap.size + 1]? = some (.cells #[.slice none 0 0, .slice none 0 0] 34 (0, 0)) := (b3.block _ (by omega)).trans HH.out.2.2.1
  have y1 : w3.cell? ⟨w.heap.size, 1, none⟩ = some (.slice a2 p.bodies.length c2) := by rw [cell_of_block P3]; rfl
  have z0 : w3.cell? ⟨w.heap.size + 1, 0, none⟩ = some (.slice none 0 0) := by rw [cell_of_block Q3]; rfl
  have z1 : w3.cell? ⟨w.heap.size + 1, 1, none⟩ = some (.slice none 0 0) := by rw [cell_of_block Q3]; rfl
  have f0 : w3.frozen? ⟨w.heap.size + 1, 0, none⟩ = false := unfrozen_of_block Q3 0
  have f1 : w3.frozen? ⟨w.heap.size + 1, 1, none⟩ = false := unfrozen_of_block Q3 1
  have B3 : Below w.heap.size w w3 := HH.out.1.trans (b3.mono (by omega))
  have hs3 := b3.size
  obtain ⟨nv3, bv3, hv3, _, hk3⟩ := HH.out.2.2.2.below b3
  obtain ⟨rfl, rfl⟩ : Value.slice a1 p.names.length c1 = nv3 ∧ Value.slice a2 p.bodies.length c2 = bv3 := by simpa using hv3
  have hkP : KidsAt w3 (Pl w3) (d' + 1) (.slice a2 p.bodies.length c2) p.bodies := by
    obtain ⟨nv, bv, hv, _, h2⟩ := HH.out.2.2.2
    obtain ⟨rfl, rfl⟩ : Value.slice a1 p.names.length c1 = nv ∧ Value.slice a2 p.bodies.length c2 = bv := by simpa using hv
    exact h2.belowPl b3
  have HKP := (show Hid (_ ∧ True) from ⟨hkP, trivial⟩)
  have H3 := (show Hid (_ ∧ _ ∧ _ ∧ _) from ⟨B3, P3, Q3, hk3⟩)
  clear hkP
  clear b3 P3 Q3 B3 hk3 hv3
  have htab : (tableOf p) = if p.ok = true then ⟨Ex.flatL 0 p.bodies, numsL 0 p.bodies⟩ else ⟨[], []⟩ := rfl
  have HT := (show Hid (_ ∧ True) from ⟨htab, trivial⟩)
  clear htab
  cases hok : p.ok with
  | false =>
    rw [hok] at HT
    go_wp2
    have Q3 := H3.out.2.2.1
    refine bodyPost_ret (results_cell_row rfl _ _ (w.heap.size + 1) 34 _ (0, 0) _ rfl (block_setCell (block_setCell Q3 _) _) Try.underlying34 rfl info2I) rfl ?_
    refine ⟨_, _, [], rfl, ?_, ?_, (H3.out.1.setCell (p := ⟨w.heap.size + 1, 0, none⟩) (by simp) _).setCell (p := ⟨w.heap.size + 1, 1, none⟩) (by simp) _⟩
    · rw [HT.out.1]; exact TabAt.nil _ _
    · rw [HT.out.1]; rfl
  | true =>
    rw [hok] at HT
    have hMp : PtMap (PtrC w3.heap.size) (w3.alloc (.map #[] 0)) w3.heap.size (fun _ => none) := PtMap.made _
    have hb3m : Below w3.heap.size w3 (w3.alloc (.map #[] 0)) := (Below.refl _ w3).alloc (Nat.le_refl _) _
    have hcc := codeCount_any w3 w3.heap.size (Nat.le_refl _) (d' + 1) a2 c2 p.bodies (fun _ => none) (w3.alloc (.map #[] 0)) HKP.out.1 hb3m hMp (fun k u h => by cases h) (Nat.le_trans (Ex.countL_bulk _) (by omega))
    have hcb : Ex.countL p.bodies ≤ 1048576 := Nat.le_trans (Ex.countL_bulk _) hbk
    have HCC := (show Hid (_ ∧ _) from ⟨hcc, hb3m⟩)
    clear hcc hb3m hMp
    have hmm := @run_makeMap Try.prog
    go_wp2_with fail
    clear hmm
    refine HCC.out.1.mono ?_
    rintro e w4 ⟨rfl, f4, hm4, hf4, hg4⟩
    have b4 : Below w3.heap.size w3 w4 := HCC.out.2.grown hg4 HCC.out.2.size (fun q hq => by cases hq; exact Nat.le_refl _)
    have P4 : w4.heap[w.heap.size]? = some (.cells #[.slice a1 p.names.length c1, .slice a2 p.bodies.length c2] 53 (0, 0)) := (b4.block _ (by omega)).trans H3.out.2.1
    have Q4 : w4.heap[w.heap.size + 1]? = some (.cells #[.slice none 0 0, .slice none 0 0] 34 (0, 0)) := (b4.block _ (by omega)).trans H3.out.2.2.1
    have x1 : w4.cell? ⟨w.heap.size, 1, none⟩ = some (.slice a2 p.bodies.length c2) := by rw [cell_of_block P4]; rfl
    have B4 : Below w.heap.size w w4 := H3.out.1.trans (b4.mono (by omega))
    have hs4 := b4.size
    have H4 := (show Hid (_ ∧ _ ∧ _) from ⟨B4, Q4, H3.out.2.2.2.below b4⟩)
    have HKD := (show Hid (_ ∧ True) from ⟨ok_kinds hok, trivial⟩)
    clear b4 P4 Q4 B4 y1 z0 z1 f0 f1 hm4 hf4 hg4 HCC
    go_wp2_with fail
    refine (tableOf_any _ d' _ _ (Ex.countL p.bodies) p.bodies _ H4.out.2.2 (by omega) (by omega) HKD.out.1).mono ?_
    rintro e w5 ⟨cv, tv, rs, rfl, hT5, he5, b5⟩
    have Q5 : w5.heap[w.heap.size + 1]? = some (.cells #[.slice none 0 0, .slice none 0 0] 34 (0, 0)) := (b5.block _ (by omega)).trans H4.out.2.1
    have z0 : w5.cell? ⟨w.heap.size + 1, 0, none⟩ = some (.slice none 0 0) := by rw [cell_of_block Q5]; rfl
    have z1 : w5.cell? ⟨w.heap.size + 1, 1, none⟩ = some (.slice none 0 0) := by rw [cell_of_block Q5]; rfl
    have f0 : w5.frozen? ⟨w.heap.size + 1, 0, none⟩ = false := unfrozen_of_block Q5 0
    have f1 : w5.frozen? ⟨w.heap.size + 1, 1, none⟩ = false := unfrozen_of_block Q5 1
    have B5 : Below w.heap.size w w5 := H4.out.1.trans (b5.mono (by omega))
    obtain ⟨la, lc, rfl⟩ := own_form hT5.codes
    obtain ⟨ka, kc, rfl⟩ := own_form hT5.tops
    have hcR : Value.ownBlock (.slice la rs.length lc) ≠ some (w.heap.size + 1) := fun e => own_not_table hT5.codes (by decide) Q5 e.symm
    have hT6 := ((hT5.other (off := 0) Q5 (by decide) hcR (.slice la rs.length lc)).other (off := 1) (block_setCell Q5 (.slice la rs.length lc)) (by decide) hcR (.slice ka (numsL 0 p.bodies).length kc)).lower (B' := w.heap.size) (by omega)
    have H5 := (show Hid (_ ∧ _ ∧ _ ∧ _) from ⟨hT6, he5, Q5, B5⟩)
    clear hT5 hT6 he5 Q5 B5 b5 hcR
    go_wp2
    have Q5 := H5.out.2.2.1
    refine bodyPost_ret (results_cell_row rfl _ _ (w.heap.size + 1) 34 _ (0, 0) _ rfl (block_setCell (block_setCell Q5 _) _) Try.underlying34 rfl info2I) rfl ?_
    refine ⟨_, _, rs, rfl, ?_, ?_, (H5.out.2.2.2.setCell (p := ⟨w.heap.size + 1, 0, none⟩) (by simp) _).setCell (p := ⟨w.heap.size + 1, 1, none⟩) (by simp) _⟩
    · rw [HT.out.1]; exact H5.out.1
    · rw [HT.out.1]; exact H5.out.2.1
end Go.Proofs.Ytdadppjncdkpiaa
