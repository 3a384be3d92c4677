/-
  A table that a call makes, row by row: no two of its rows share memory.
-/
import Derived.Test.YtdadppjncdkpiaaTellPure
import Derived.Test.YtdadppjncdkpiaaSpecFlat
namespace Go.Proofs.Ytdadppjncdkpiaa
open Go.RowKit Go.Joins

set_option maxRecDepth 100000


structure TabAt (W : World) (B : Nat) (cv tv : Value) (rs : List (Cd × Value)) (tops : List Int) : Prop where
  codes : W.ownsRow B 173 4 cv rs.length (rs.flatMap cdCells)
  tops : W.ownsRow B 3 1 tv tops.length (intVs tops)
  kids : ∀ r ∈ rs, W.ownsRow B 3 1 r.2 r.1.kids.length (intVs r.1.kids) ∧ CdOk r.1
  apart : (tv :: rs.map Prod.snd).Pairwise AptV


theorem TabAt.kept {W W' : World} {B : Nat} {cv tv : Value} {rs : List (Cd × Value)} {tops : List Int} (h : TabAt W B cv tv rs tops) (hc : ∀ g, cv.ownBlock = some g → W'.heap[g]? = W.heap[g]?)
    (hi : ∀ (g : Nat) (cs : Array Value), W.heap[g]? = some (Obj.cells cs 3 (0, 0)) → W'.heap[g]? = W.heap[g]?) : TabAt W' B cv tv rs tops :=
  ⟨own_moved h.codes hc, own_moved h.tops (fun g hg => (own_type h.tops g hg).2.elim (fun cs => hi g cs)), fun r hr => ⟨own_moved (h.kids r hr).1 (fun g hg => (own_type (h.kids r hr).1 g hg).2.elim (fun cs => hi g cs)), (h.kids r hr).2⟩, h.apart⟩
theorem TabAt.alloc {W : World} {B : Nat} {cv tv : Value} {rs : List (Cd × Value)} {tops : List Int} (h : TabAt W B cv tv rs tops) (o : Obj) : TabAt (W.alloc o) B cv tv rs tops :=
  h.kept (fun g hg => Below.heap_alloc _ _ _ ((own_type h.codes g hg).2.elim (fun _ hc => (Array.getElem?_eq_some_iff.1 hc).1))) (fun _ _ hg => Below.heap_alloc _ _ _ (Array.getElem?_eq_some_iff.1 hg).1)
theorem TabAt.below {W W' : World} {B : Nat} {cv tv : Value} {rs : List (Cd × Value)} {tops : List Int} (h : TabAt W B cv tv rs tops) (hb : Below W.heap.size W W') : TabAt W' B cv tv rs tops :=
  h.kept (fun g hg => hb.block _ ((own_type h.codes g hg).2.elim (fun _ hc => (Array.getElem?_eq_some_iff.1 hc).1))) (fun _ _ hg => hb.block _ (Array.getElem?_eq_some_iff.1 hg).1)
/-- A store into a block that is none of the table's: of another type, or a code's own. -/
theorem TabAt.other {W : World} {B : Nat} {cv tv : Value} {rs : List (Cd × Value)} {tops : List Int} (h : TabAt W B cv tv rs tops) {b off : Nat} {cs : Array Value} {t : TypeId} {rng : Nat × Nat} (hb : W.heap[b]? = some (.cells cs t rng)) (ht : t ≠ 3) (hc : cv.ownBlock ≠ some b) (u : Value) : TabAt (W.setCell ⟨b, off, none⟩ u) B cv tv rs tops := by
  refine h.kept (fun g hg => Below.heap_setCell _ _ _ _ (fun e => ?_)) (fun g cs' hg => Below.heap_setCell _ _ _ _ (fun e => ?_))
  · exact hc (hg.trans (congrArg some e))
  · have e' : g = b := e
    subst e'
    rw [hg] at hb
    cases hb
    exact ht rfl


/-- A code more. -/
theorem TabAt.push {W W' : World} {B : Nat} {cv cv' tv : Value} {rs : List (Cd × Value)} {tops : List Int} {c : Cd} (h : TabAt W B cv tv rs tops)
    (hown : W'.ownsRow B 173 4 cv' (rs.length + 1) (rs.flatMap cdCells ++ cdCells (c, .slice none 0 0))) (hg : W.grownBy W' cv.ownBlock) (hc : CdOk c) (hk : c.kids = []) : TabAt W' B cv' tv (rs ++ [(c, .slice none 0 0)]) tops := by
  have hi : ∀ (n : Nat) (v : Value) (xs : List Value), W.ownsRow B 3 1 v n xs → W'.ownsRow B 3 1 v n xs := fun n v xs ho =>
    own_moved ho (fun g hgo => hg.block g ((own_type ho g hgo).2.elim (fun _ hc => (Array.getElem?_eq_some_iff.1 hc).1)) (own_ne ho h.codes (by decide) g hgo))
  refine ⟨?_, hi _ _ _ h.tops, fun r hr => ?_, ?_⟩
  · rw [List.length_append, List.flatMap_append]
    simpa using hown
  · rw [List.mem_append] at hr
    rcases hr with hr | hr
    · exact ⟨hi _ _ _ (h.kids r hr).1, (h.kids r hr).2⟩
    · simp at hr
      subst hr
      refine ⟨?_, hc⟩
      show W'.ownsRow B 3 1 (.slice none 0 0) c.kids.length (intVs c.kids)
      rw [hk]
      exact World.ownsRow_nil _ _ _ _
  · rw [List.map_append, ← List.cons_append, List.pairwise_append]
    refine ⟨h.apart, by simp, fun u _ v hv => ?_⟩
    simp at hv
    subst hv
    exact AptV.symm (.inl rfl)


/-- A top more. -/
theorem TabAt.top {W W' : World} {B : Nat} {cv tv tv' : Value} {rs : List (Cd × Value)} {tops : List Int} {z : Int} (h : TabAt W B cv tv rs tops)
    (hown : W'.ownsRow B 3 1 tv' (tops.length + 1) (intVs tops ++ [.int .i64 z])) (hg : W.grownBy W' tv.ownBlock) (hat : tv'.ownBlock = tv.ownBlock ∨ tv'.ownBlock = some W.heap.size) : TabAt W' B cv tv' rs (tops ++ [z]) := by
  have hap := List.pairwise_cons.1 h.apart
  refine ⟨own_moved h.codes (fun g hgo => hg.block g (own_lt h.codes g hgo) (own_ne h.codes h.tops (by decide) g hgo)), ?_, fun r hr => ⟨own_kept (h.kids r hr).1 hg (hap.1 r.2 (List.mem_map.2 ⟨r, hr, rfl⟩)).symm, (h.kids r hr).2⟩, ?_⟩
  · rw [List.length_append]
    unfold intVs
    rw [List.map_append]
    exact hown
  · refine List.pairwise_cons.2 ⟨fun u hu => ?_, hap.2⟩
    obtain ⟨r, hr, rfl⟩ := List.mem_map.1 hu
    exact ((hap.1 r.2 hu).symm.grown (h.kids r hr).1 hat).symm

theorem set_kid (A D : List (Cd × Value)) (c : Cd) (u v : Value) (ks : List Int) : ((A ++ (c, u) :: D).flatMap cdCells).set (A.length * 4 + 3) v = (A ++ (addKids ks c, v) :: D).flatMap cdCells := set_mid A D c (addKids ks c) v rfl rfl rfl u

/-- A kid more. -/
theorem TabAt.kid {W W' : World} {B g cap n : Nat} {tv u u' : Value} {A D : List (Cd × Value)} {tops : List Int} {c : Cd} {z : Int} (h : TabAt W B (.slice (some ⟨g, 0, none⟩) n cap) tv (A ++ (c, u) :: D) tops) (hn : n = (A ++ (c, u) :: D).length)
    (hown : W'.ownsRow B 3 1 u' (c.kids.length + 1) (intVs c.kids ++ [.int .i64 z])) (hg : W.grownBy W' u.ownBlock) (hat : u'.ownBlock = u.ownBlock ∨ u'.ownBlock = some W.heap.size) :
    TabAt (W'.setCell ⟨g, A.length * 4 + 3, none⟩ u') B (.slice (some ⟨g, 0, none⟩) n cap) tv (A ++ (addKids [z] c, u') :: D) tops := by
  have hu := (h.kids (c, u) (by simp)).1
  have hap := List.pairwise_cons.1 h.apart
  have hap2 := hap.2
  rw [List.map_append, List.map_cons, List.pairwise_append] at hap2
  have hcons := List.pairwise_cons.1 hap2.2.1
  have hgb : some g ≠ u.ownBlock := own_ne h.codes hu (by decide) g rfl
  have hcod : W'.ownsRow B 173 4 (.slice (some ⟨g, 0, none⟩) n cap) n ((A ++ (c, u) :: D).flatMap cdCells) := by
    have := own_moved (W' := W') h.codes (fun k hk => hg.block k (own_lt h.codes k hk) (own_ne h.codes hu (by decide) k hk))
    rw [← hn] at this
    exact this
  have hst := hcod.stored (A.length * 4 + 3) u'
  have hint : ∀ (m : Nat) (v : Value) (xs : List Value), W'.ownsRow B 3 1 v m xs → (W'.setCell ⟨g, A.length * 4 + 3, none⟩ u').ownsRow B 3 1 v m xs := fun m v xs ho =>
    own_moved ho (fun k hk => Below.heap_setCell _ _ _ _ (fun e => own_ne ho hcod (by decide) k hk (congrArg some e)))
  refine ⟨?_, hint _ _ _ (own_kept h.tops hg (hap.1 u (by simp))), fun r hr => ?_, ?_⟩
  · have := hst.1
    rw [set_kid A D c u u' [z], hn] at this
    rw [show (A ++ (addKids [z] c, u') :: D).length = (A ++ (c, u) :: D).length by simp]
    rw [hn]
    exact this
  · rw [List.mem_append, List.mem_cons] at hr
    rcases hr with hr | rfl | hr
    · have := h.kids r (by simp [hr])
      exact ⟨hint _ _ _ (own_kept this.1 hg (hap2.2.2 r.2 (List.mem_map.2 ⟨r, hr, rfl⟩) u (by simp))), this.2⟩
    · refine ⟨hint _ _ _ ?_, (h.kids (c, u) (by simp)).2⟩
      show W'.ownsRow B 3 1 u' (c.kids ++ [z]).length (intVs (c.kids ++ [z]))
      rw [List.length_append]
      unfold intVs
      rw [List.map_append]
      exact hown
    · have := h.kids r (by simp [hr])
      exact ⟨hint _ _ _ (own_kept this.1 hg (hcons.1 r.2 (List.mem_map.2 ⟨r, hr, rfl⟩)).symm), this.2⟩
  · refine List.pairwise_cons.2 ⟨fun v hv => ?_, ?_⟩
    · rw [List.map_append, List.map_cons, List.mem_append, List.mem_cons] at hv
      rcases hv with hv | rfl | hv
      · exact hap.1 v (by rw [List.map_append]; exact List.mem_append_left _ hv)
      · exact (hap.1 u (by simp)).grown h.tops hat
      · exact hap.1 v (by rw [List.map_append, List.map_cons]; exact List.mem_append_right _ (List.mem_cons_of_mem _ hv))
    · rw [List.map_append, List.map_cons, List.pairwise_append]
      refine ⟨hap2.1, List.pairwise_cons.2 ⟨fun v hv => ?_, hcons.2⟩, fun v hv x hx => ?_⟩
      · obtain ⟨r, hr, rfl⟩ := List.mem_map.1 hv
        exact ((hcons.1 r.2 hv).symm.grown (h.kids r (by simp [hr])).1 hat).symm
      · rw [List.mem_cons] at hx
        rcases hx with rfl | hx
        · obtain ⟨r, hr, rfl⟩ := List.mem_map.1 hv
          exact (hap2.2.2 r.2 hv u (by simp)).grown (h.kids r (by simp [hr])).1 hat
        · exact hap2.2.2 v hv x (List.mem_cons_of_mem _ hx)
end Go.Proofs.Ytdadppjncdkpiaa
