/-
  What a collection of a right heap is: in plain words, what the law asks of it.
-/
import Derived.Test.YtfhjkiimdkjhjaaGreatDoorComePure
import Derived.Test.YtfhjkiimdkjhjaaGreatDoorEndsPure
namespace Go.Proofs.YtfhjkiimdkjhjaaGreatDoor
open Go.RowKit Go.Joins

theorem keepT_at {α : Type} : ∀ (cs : List α) (bs : List Bool) (i : Nat) (c : α), cs[i]? = some c → bs[i]? = some true → (keepT cs bs)[countT (bs.take i)]? = some c
  | [], _, i, c, h, _ => by simp at h
  | x :: cs, [], i, c, _, h => by simp at h
  | x :: cs, true :: bs, 0, c, h, _ => by simpa [keepT, countT] using h
  | x :: cs, false :: bs, 0, c, _, h => by simp at h
  | x :: cs, true :: bs, i + 1, c, h, hb => by
    rw [keepT, List.take_succ_cons, countT, List.getElem?_cons_succ]
    exact keepT_at cs bs i c (by simpa using h) (by simpa using hb)
  | x :: cs, false :: bs, i + 1, c, h, hb => by
    rw [keepT, List.take_succ_cons, countT]
    exact keepT_at cs bs i c (by simpa using h) (by simpa using hb)
theorem keepT_from {α : Type} : ∀ (cs : List α) (bs : List Bool) (j : Nat) (c : α), (keepT cs bs)[j]? = some c → ∃ i, cs[i]? = some c ∧ bs[i]? = some true ∧ countT (bs.take i) = j
  | [], _, j, c, h => by simp [keepT] at h
  | x :: cs, [], j, c, h => by simp [keepT] at h
  | x :: cs, true :: bs, 0, c, h => ⟨0, by simpa [keepT] using h, rfl, rfl⟩
  | x :: cs, true :: bs, j + 1, c, h => by
    rw [keepT, List.getElem?_cons_succ] at h
    obtain ⟨i, h1, h2, h3⟩ := keepT_from cs bs j c h
    exact ⟨i + 1, by simpa using h1, by simpa using h2, by rw [List.take_succ_cons, countT, h3]⟩
  | x :: cs, false :: bs, j, c, h => by
    rw [keepT] at h
    obtain ⟨i, h1, h2, h3⟩ := keepT_from cs bs j c h
    exact ⟨i + 1, by simpa using h1, by simpa using h2, by rw [List.take_succ_cons, countT, h3]⟩
theorem keepT_count {α : Type} : ∀ (cs : List α) (bs : List Bool), cs.length = bs.length → (keepT cs bs).length = countT bs
  | [], [], _ => rfl
  | [], _ :: _, h => by simp at h
  | _ :: _, [], h => by simp at h
  | x :: cs, true :: bs, h => by rw [keepT, countT, List.length_cons, keepT_count cs bs (by simpa using h)]
  | x :: cs, false :: bs, h => by rw [keepT, countT, keepT_count cs bs (by simpa using h)]
theorem countT_take_lt (bs : List Bool) (i : Nat) (h : bs[i]? = some true) : countT (bs.take i) < countT bs := by
  have h1 := countT_take bs i true h
  have h2 : countT (bs.take (i + 1)) ≤ countT bs := by
    have := countT_app (bs.take (i + 1)) (bs.drop (i + 1))
    rw [List.take_append_drop] at this
    omega
  simp at h1
  omega
theorem keepT_all {α : Type} : ∀ (cs : List α), keepT cs (List.replicate cs.length true) = cs
  | [] => rfl
  | x :: cs => by rw [List.length_cons, List.replicate_succ, keepT, keepT_all cs]
theorem countT_all : ∀ n : Nat, countT (List.replicate n true) = n
  | 0 => rfl
  | n + 1 => by rw [List.replicate_succ, countT, countT_all n]
theorem movedZ_all (n : Nat) (z : Int) : movedZ (toOf 0 (List.replicate n true)) z = if 0 ≤ z ∧ z < n then z else -1 := by
  unfold movedZ
  by_cases h : 0 ≤ z
  · rw [if_pos h, toOf_at]
    by_cases h2 : z < n
    · rw [if_pos ⟨h, h2⟩, List.getElem?_replicate, if_pos (by omega), List.take_replicate, countT_all]
      simp
      omega
    · rw [if_neg (fun e => h2 e.2), List.getElem?_replicate, if_neg (by omega)]
      rfl
  · rw [if_neg h, if_neg (fun e => h e.1)]

/-- A cell from which no other is followed. -/
theorem followN_end (es : List Ce) : ∀ (m : Nat) (p : Int), followN es m p ≠ -1 → ∃ (k : Nat) (c : Ce), followN es m p = k ∧ es[k]? = some c ∧ (c.kind ≠ 6 ∨ c.kids.length = 0)
  | 0, p, h => absurd rfl h
  | m + 1, p, h => by
    rw [followN] at h ⊢
    cases hc : cellAt es p with
    | none => rw [hc] at h; exact absurd rfl h
    | some c =>
      simp only [hc] at h ⊢
      obtain ⟨k, rfl, hk, he⟩ := cellAt_in hc
      by_cases h6 : c.kind = 6
      · rw [if_pos h6] at h ⊢
        cases hq : c.kids[0]? with
        | none => exact ⟨k, c, rfl, he, .inr (by simpa using hq)⟩
        | some q => simp only [hq] at h ⊢; exact followN_end es m q h
      · rw [if_neg h6]; exact ⟨k, c, rfl, he, .inl h6⟩
theorem cellAt_nat (es : List Ce) (k : Nat) : cellAt es (k : Int) = es[k]? := by unfold cellAt; rw [if_pos (by omega), Int.toNat_natCast]
theorem follow_stays {es : List Ce} {k : Nat} {c : Ce} (h : es[k]? = some c) (hc : c.kind ≠ 6 ∨ c.kids.length = 0) : follow es (k : Int) = k := followN_here _ (by rw [cellAt_nat, h]) hc
theorem follow_out {es : List Ce} {z : Int} (h : ¬ (0 ≤ z ∧ z < es.length)) : follow es z = -1 := by
  refine followN_none _ ?_
  unfold cellAt
  split
  · rw [List.getElem?_eq_none (by omega)]
  · rfl
/-- A place at which following ends, or from which there is no end. -/
def Norm (es : List Ce) (i : Nat) : Prop := (∃ c, es[i]? = some c ∧ (c.kind ≠ 6 ∨ c.kids.length = 0)) ∨ follow es (i : Int) = -1
theorem shortZ_norm {es : List Ce} {z : Int} {i : Nat} (h : shortZ es z = i) : Norm es i := by
  unfold shortZ at h
  have hg := follow_ge es z
  split at h
  · rename_i h0; subst h; exact .inr (by omega)
  · rename_i h0
    obtain ⟨k, c, h1, h2, h3⟩ := followN_end es _ z (show follow es z ≠ -1 by omega)
    have : k = i := by have : follow es z = (k : Int) := h1; omega
    subst this
    exact .inl ⟨c, h2, h3⟩
theorem shortZ_of_norm {es : List Ce} {i : Nat} (h : follow es (i : Int) = i ∨ follow es (i : Int) = -1) : shortZ es i = i := by
  unfold shortZ
  rcases h with h | h
  · rw [h, if_neg (by omega)]
  · rw [h, if_pos (by omega)]
theorem shortZ_range {es : List Ce} {z : Int} : (0 ≤ shortZ es z ∧ shortZ es z < es.length) ↔ (0 ≤ z ∧ z < es.length) := by
  unfold shortZ
  have hin := followN_in es (es.length + 1) z
  by_cases h : 0 ≤ z ∧ z < es.length
  · split
    · rfl
    · unfold follow at *
      rcases hin with h1 | h1
      · omega
      · exact ⟨fun _ => h, fun _ => h1⟩
  · rw [if_pos (by rw [follow_out h]; omega)]

/-- The kids of every cell are places. -/
def KidsIn (es : List Ce) : Prop := ∀ c ∈ es, ∀ k ∈ c.kids, 0 ≤ k ∧ k < es.length
/-- A cell that stands for another has one kid. -/
def OneKid (es : List Ce) : Prop := ∀ c ∈ es, c.kind = 6 → c.kids.length = 1
theorem inB_iff {x a b : Int} : inB x a b = true ↔ a ≤ x ∧ x ≤ b := by unfold inB; simp
theorem heapOk_kids {es : List Ce} {codes : Int} (h : heapOk es codes = true) : KidsIn es := by
  intro c hc k hk
  unfold heapOk at h
  rw [Bool.and_eq_true] at h
  have h1 := List.all_eq_true.1 h.1 c hc
  unfold Ce.right at h1
  rw [Bool.and_eq_true] at h1
  have h2 := inB_iff.1 (List.all_eq_true.1 h1.1 k hk)
  omega
theorem heapOk_one {es : List Ce} {codes : Int} (h : heapOk es codes = true) : OneKid es := by
  intro c hc h6
  unfold heapOk at h
  rw [Bool.and_eq_true] at h
  have h1 := List.all_eq_true.1 h.1 c hc
  unfold Ce.right Ce.fields at h1
  rw [Bool.and_eq_true] at h1
  have h2 := h1.2
  rw [h6] at h2
  simp at h2
  omega

section
variable (es : List Ce) (rs : List Int)
/-- Those that stay. -/
def Live (i : Nat) : Prop := Reach (shortC es) (shortL es rs) i
noncomputable def liveM : List Bool := marksOf (shortC es) (shortL es rs)
/-- The new place of one that stays. -/
noncomputable def newAt (i : Nat) : Nat := countT ((liveM es rs).take i)
end
variable {es : List Ce} {rs : List Int}
theorem Live.lt {i : Nat} (h : Live es rs i) : i < es.length := by have := Reach.lt h; rwa [shortC_len] at this
theorem Live.mark {i : Nat} (h : Live es rs i) : (liveM es rs)[i]? = some true := marksOf_yes h
theorem live_of_mark {i : Nat} (h : (liveM es rs)[i]? = some true) : Live es rs i := by
  refine Classical.byContradiction fun hn => ?_
  have hlt := (List.getElem?_eq_some_iff.1 h).1
  unfold liveM at h hlt
  rw [marksOf_len] at hlt
  rw [marksOf_no hlt hn] at h
  cases h
theorem Live.moved {i : Nat} (h : Live es rs i) : movedZ (collectTo es rs) (i : Int) = newAt es rs i := by
  refine movedZ_at (k := i) ?_
  unfold collectTo
  rw [toOf_at]
  have := h.mark
  unfold liveM at this
  rw [this]
  simp [newAt, liveM]
theorem movedZ_dead {z : Int} (h : ¬ (0 ≤ z ∧ z < es.length)) : movedZ (collectTo es rs) z = -1 := by
  refine movedZ_out ?_
  unfold collectTo
  rw [toOf_len, marksOf_len, shortC_len]
  cases hb : inB z 0 ((es.length : Int) - 1)
  · rfl
  · have := inB_iff.1 hb; exact absurd (by omega) h
theorem collectC_len : (collectC es rs).length = countT (liveM es rs) := by
  unfold collectC
  rw [List.length_map, keepT_count _ _ (by rw [marksOf_len])]
  rfl
theorem Live.new_lt {i : Nat} (h : Live es rs i) : newAt es rs i < (collectC es rs).length := by rw [collectC_len]; exact countT_take_lt _ _ h.mark
/-- A cell behind the collection. -/
noncomputable def newCell (es : List Ce) (rs : List Int) (c : Ce) : Ce := (c.short es).moved (collectTo es rs)
theorem Live.cell {i : Nat} {c : Ce} (h : Live es rs i) (hc : es[i]? = some c) : (collectC es rs)[newAt es rs i]? = some (newCell es rs c) := by
  have h1 := keepT_at (shortC es) _ i (c.short es) (by unfold shortC; rw [List.getElem?_map, hc]; rfl) h.mark
  show ((keepT (shortC es) (liveM es rs)).map (Ce.moved (collectTo es rs)))[countT ((liveM es rs).take i)]? = _
  rw [List.getElem?_map, h1]
  rfl
theorem new_from {j : Nat} (h : j < (collectC es rs).length) : ∃ i c, Live es rs i ∧ es[i]? = some c ∧ newAt es rs i = j ∧ (collectC es rs)[j]? = some (newCell es rs c) := by
  have h1 := List.getElem?_eq_getElem h
  have h2 : j < (keepT (shortC es) (liveM es rs)).length := by unfold collectC at h; rw [List.length_map] at h; exact h
  obtain ⟨i, h3, h4, h5⟩ := keepT_from _ _ _ _ (List.getElem?_eq_getElem h2)
  have hl := live_of_mark h4
  have hc := List.getElem?_eq_getElem hl.lt
  refine ⟨i, _, hl, hc, h5, ?_⟩
  rw [← h5]
  exact hl.cell hc
theorem Live.kid {i : Nat} {c : Ce} {z : Int} (h : Live es rs i) (hc : es[i]? = some c) (hz : z ∈ c.kids) {k : Nat} (hk : shortZ es z = k) (hlt : k < es.length) : Live es rs k := by
  refine Reach.kid h (c := c.short es) (by unfold shortC; rw [List.getElem?_map, hc]; rfl) ?_ (by rw [shortC_len]; exact hlt)
  rw [← hk]
  exact List.mem_map.2 ⟨z, hz, rfl⟩
theorem live_root {z : Int} (hz : z ∈ rs) {k : Nat} (hk : shortZ es z = k) (hlt : k < es.length) : Live es rs k := by
  refine Reach.root ?_ (by rw [shortC_len]; exact hlt)
  rw [← hk]
  exact List.mem_map.2 ⟨z, hz, rfl⟩
theorem Live.norm {i : Nat} (h : Live es rs i) : Norm es i := by
  cases h with
  | root h1 h2 =>
    obtain ⟨z, _, h3⟩ := List.mem_map.1 h1
    exact shortZ_norm h3
  | @kid i' _ c0 h0 h1 h2 h3 =>
    unfold shortC at h1
    rw [List.getElem?_map] at h1
    cases hc : es[i']? with
    | none => rw [hc] at h1; cases h1
    | some c =>
      rw [hc] at h1
      cases h1
      obtain ⟨z, _, h4⟩ := List.mem_map.1 h2
      exact shortZ_norm h4
theorem newCell_kind (c : Ce) : (newCell es rs c).kind = c.kind := rfl
theorem newCell_n (c : Ce) : (newCell es rs c).n = c.n := rfl
theorem newCell_pos (c : Ce) : (newCell es rs c).pos = c.pos := rfl
theorem newCell_len (c : Ce) : (newCell es rs c).kids.length = c.kids.length := by
  show (movedL _ (shortL es c.kids)).length = _
  rw [movedL_len, shortL_len]
theorem newCell_kid (c : Ce) (n : Nat) : (newCell es rs c).kids[n]? = (c.kids[n]?).map (fun z => movedZ (collectTo es rs) (shortZ es z)) := by
  show (movedL _ (shortL es c.kids))[n]? = _
  unfold movedL shortL
  rw [List.map_map, List.getElem?_map]
  rfl
/-- A place behind the collection. -/
noncomputable def newZ (es : List Ce) (rs : List Int) (z : Int) : Int := movedZ (collectTo es rs) (shortZ es z)
/-- In a right heap: a kid of one that stays. -/
theorem Live.kidAt (hin : KidsIn es) {i : Nat} {c : Ce} {z : Int} (h : Live es rs i) (hc : es[i]? = some c) (hz : z ∈ c.kids) : ∃ k : Nat, shortZ es z = k ∧ k < es.length ∧ Live es rs k ∧ newZ es rs z = newAt es rs k := by
  have h1 := shortZ_range.2 (hin c (List.mem_of_getElem? hc) z hz)
  have h2 : shortZ es z = ((shortZ es z).toNat : Nat) := by omega
  have h3 := h.kid hc hz h2 (by omega)
  refine ⟨_, h2, by omega, h3, ?_⟩
  unfold newZ
  rw [h2]
  exact h3.moved
/-- From one that has no end there is none behind the collection. -/
theorem no_end (hin : KidsIn es) (hone : OneKid es) : ∀ (m : Nat) (i : Nat), Live es rs i → follow es (i : Int) = -1 → followN (collectC es rs) m (newAt es rs i : Int) = -1
  | 0, _, _, _ => rfl
  | m + 1, i, h, hf => by
    have hc := List.getElem?_eq_getElem h.lt
    generalize es[i]'h.lt = c at hc
    have h6 : c.kind = 6 := Classical.byContradiction fun hn => by
      rw [follow_stays hc (.inl hn)] at hf
      omega
    have hl := hone c (List.mem_of_getElem? hc) h6
    obtain ⟨q, hq⟩ : ∃ q, c.kids[0]? = some q := ⟨_, List.getElem?_eq_getElem (by omega)⟩
    have hfq : follow es q = -1 := by rw [← hf]; exact (follow_on (by rw [cellAt_nat, hc]) h6 hq).symm
    obtain ⟨k, h1, h2, h3, h4⟩ := h.kidAt hin hc (List.mem_of_getElem? hq)
    have hs : shortZ es q = q := by unfold shortZ; rw [hfq, if_pos (by omega)]
    have hqk : q = k := by rw [← hs, h1]
    subst hqk
    rw [followN_on (c := newCell es rs c) m (by rw [cellAt_nat, h.cell hc]) h6 (q := (newAt es rs k : Int)) (by rw [newCell_kid, hq]; exact congrArg some h4)]
    exact no_end hin hone m k h3 hfq
theorem Live.follow (hin : KidsIn es) (hone : OneKid es) {i : Nat} (h : Live es rs i) : (Go.Proofs.YtfhjkiimdkjhjaaGreatDoor.follow es (i : Int) = i ∧ Go.Proofs.YtfhjkiimdkjhjaaGreatDoor.follow (collectC es rs) (newAt es rs i : Int) = newAt es rs i) ∨ (Go.Proofs.YtfhjkiimdkjhjaaGreatDoor.follow es (i : Int) = -1 ∧ Go.Proofs.YtfhjkiimdkjhjaaGreatDoor.follow (collectC es rs) (newAt es rs i : Int) = -1) := by
  rcases h.norm with ⟨c, hc, he⟩ | he
  · exact .inl ⟨follow_stays hc he, follow_stays (h.cell hc) (by rw [newCell_kind, newCell_len]; exact he)⟩
  · exact .inr ⟨he, no_end hin hone _ i h he⟩
theorem Live.short (hin : KidsIn es) (hone : OneKid es) {i : Nat} (h : Live es rs i) : shortZ (collectC es rs) (newAt es rs i : Int) = newAt es rs i := by
  rcases h.follow hin hone with h1 | h1
  · exact shortZ_of_norm (.inl h1.2)
  · exact shortZ_of_norm (.inr h1.2)
theorem short_minus (gs : List Ce) : shortZ gs (-1) = -1 := by
  unfold shortZ
  rw [follow_out (by omega), if_pos (by omega)]
/-- Every place behind the collection is come to. -/
theorem Live.reach {i : Nat} (h : Live es rs i) : Reach (collectC es rs) (collectR es rs) (newAt es rs i) := by
  have hlt := h.new_lt
  unfold Live at h
  generalize hS : shortC es = S at h
  induction h with
  | @root i h1 h2 =>
    subst hS
    have hl : Live es rs i := Reach.root h1 h2
    refine Reach.root ?_ hlt
    unfold collectR movedL
    exact List.mem_map.2 ⟨_, h1, hl.moved⟩
  | @kid i j c h0 h1 h2 h3 ih =>
    subst hS
    have hl : Live es rs i := h0
    have hj : Live es rs j := Reach.kid h0 h1 h2 h3
    have hc := List.getElem?_eq_getElem hl.lt
    generalize es[i]'hl.lt = c' at hc
    have he : c = c'.short es := by
      unfold shortC at h1
      rw [List.getElem?_map, hc] at h1
      cases h1
      rfl
    subst he
    refine Reach.kid (ih hl.new_lt) (hl.cell hc) ?_ hlt
    show _ ∈ movedL _ (c'.short es).kids
    unfold movedL
    exact List.mem_map.2 ⟨_, h2, hj.moved⟩
theorem marks_new : marksOf (collectC es rs) (collectR es rs) = List.replicate (collectC es rs).length true := by
  refine List.ext_getElem? fun j => ?_
  by_cases hj : j < (collectC es rs).length
  · obtain ⟨i, c, h1, h2, h3, h4⟩ := new_from hj
    rw [List.getElem?_replicate, if_pos hj, ← h3]
    exact marksOf_yes (h1.reach)
  · rw [List.getElem?_replicate, if_neg hj, List.getElem?_eq_none (by rw [marksOf_len]; omega)]
theorem alive_new : (aliveOf (collectC es rs) (collectR es rs)).length = (collectC es rs).length := by
  unfold aliveOf
  rw [List.length_map]
  have : (List.range (collectC es rs).length).filter (fun i => @decide (Reach (collectC es rs) (collectR es rs) i) (Classical.propDecidable _)) = List.range (collectC es rs).length := by
    refine List.filter_eq_self.2 fun j hj => ?_
    obtain ⟨i, c, h1, h2, h3, h4⟩ := new_from (List.mem_range.1 hj)
    rw [← h3]
    exact @decide_eq_true _ (Classical.propDecidable _) (h1.reach)
  rw [this, List.length_range]
/-- Where a root goes. -/
theorem root_new {z : Int} (hz : z ∈ rs) : (¬ (0 ≤ z ∧ z < es.length) ∧ newZ es rs z = -1) ∨ ∃ k : Nat, shortZ es z = k ∧ Live es rs k ∧ newZ es rs z = newAt es rs k := by
  by_cases h : 0 ≤ z ∧ z < es.length
  · have h1 := shortZ_range.2 h
    have h2 : shortZ es z = ((shortZ es z).toNat : Nat) := by omega
    have h3 := live_root (rs := rs) hz h2 (by omega)
    refine .inr ⟨_, h2, h3, ?_⟩
    unfold newZ
    rw [h2]
    exact h3.moved
  · refine .inl ⟨h, movedZ_dead (fun e => h (shortZ_range.1 e))⟩
theorem collectR_at (k : Nat) : (collectR es rs)[k]? = (rs[k]?).map (newZ es rs) := by
  unfold collectR movedL shortL
  rw [List.map_map, List.getElem?_map]
  rfl
theorem root_there {z : Int} (hz : z ∈ rs) : (0 ≤ newZ es rs z) ↔ (0 ≤ z ∧ z < es.length) := by
  rcases root_new (es := es) hz with ⟨h1, h2⟩ | ⟨k, h1, h2, h3⟩
  · rw [h2]; exact ⟨fun e => by omega, fun e => absurd e h1⟩
  · have := h2.lt
    exact ⟨fun _ => shortZ_range.1 (by omega), fun _ => by omega⟩
theorem short_new (hin : KidsIn es) (hone : OneKid es) : shortC (collectC es rs) = collectC es rs := by
  refine List.ext_getElem? fun j => ?_
  unfold shortC
  rw [List.getElem?_map]
  by_cases hj : j < (collectC es rs).length
  · obtain ⟨i, c, h1, h2, h3, h4⟩ := new_from hj
    rw [h4]
    refine congrArg some ?_
    show Ce.mk _ _ _ (shortL _ _) = _
    have : shortL (collectC es rs) (newCell es rs c).kids = (newCell es rs c).kids := by
      refine List.ext_getElem? fun n => ?_
      unfold shortL
      rw [List.getElem?_map, newCell_kid]
      cases hz : c.kids[n]? with
      | none => rfl
      | some z =>
        obtain ⟨k, _, _, h5, h6⟩ := h1.kidAt hin h2 (List.mem_of_getElem? hz)
        show some (shortZ _ (newZ es rs z)) = some (newZ es rs z)
        rw [h6, h5.short hin hone]
    rw [this]
  · rw [List.getElem?_eq_none (by omega)]; rfl
theorem short_newR (hin : KidsIn es) (hone : OneKid es) : shortL (collectC es rs) (collectR es rs) = collectR es rs := by
  refine List.ext_getElem? fun n => ?_
  unfold shortL
  rw [List.getElem?_map, collectR_at]
  cases hz : rs[n]? with
  | none => rfl
  | some z =>
    show some (shortZ _ (newZ es rs z)) = some (newZ es rs z)
    rcases root_new (es := es) (List.mem_of_getElem? hz) with ⟨_, h2⟩ | ⟨k, _, h2, h3⟩
    · rw [h2, short_minus]
    · rw [h3, h2.short hin hone]
theorem to_new (hin : KidsIn es) (hone : OneKid es) : collectTo (collectC es rs) (collectR es rs) = toOf 0 (List.replicate (collectC es rs).length true) := by
  unfold collectTo
  rw [short_new hin hone, short_newR hin hone, marks_new]
/-- A collection again is the same one. -/
theorem collect_again (hin : KidsIn es) (hone : OneKid es) : collectC (collectC es rs) (collectR es rs) = collectC es rs := by
  rw [collectC, to_new hin hone, short_new hin hone, short_newR hin hone, marks_new, keepT_all]
  refine List.ext_getElem? fun j => ?_
  rw [List.getElem?_map]
  by_cases hj : j < (collectC es rs).length
  · obtain ⟨i, c, h1, h2, h3, h4⟩ := new_from hj
    rw [h4]
    refine congrArg some ?_
    show Ce.mk _ _ _ (movedL _ _) = _
    have : movedL (toOf 0 (List.replicate (collectC es rs).length true)) (newCell es rs c).kids = (newCell es rs c).kids := by
      refine List.ext_getElem? fun n => ?_
      unfold movedL
      rw [List.getElem?_map, newCell_kid]
      cases hz : c.kids[n]? with
      | none => rfl
      | some z =>
        obtain ⟨k, _, _, h5, h6⟩ := h1.kidAt hin h2 (List.mem_of_getElem? hz)
        show some (movedZ _ (newZ es rs z)) = some (newZ es rs z)
        have := h5.new_lt
        rw [h6, movedZ_all, if_pos (by omega)]
    rw [this]
  · rw [List.getElem?_eq_none (by omega)]; rfl
theorem collect_againR (hin : KidsIn es) (hone : OneKid es) : collectR (collectC es rs) (collectR es rs) = collectR es rs := by
  rw [collectR, to_new hin hone, short_newR hin hone]
  refine List.ext_getElem? fun n => ?_
  unfold movedL
  rw [List.getElem?_map, collectR_at]
  cases hz : rs[n]? with
  | none => rfl
  | some z =>
    show some (movedZ _ (newZ es rs z)) = some (newZ es rs z)
    rcases root_new (es := es) (List.mem_of_getElem? hz) with ⟨_, h2⟩ | ⟨k, _, h2, h3⟩
    · rw [h2, movedZ_all, if_neg (by omega)]
    · have := h2.new_lt
      rw [h3, movedZ_all, if_pos (by omega)]
theorem fields_new (c : Ce) (codes : Int) : (newCell es rs c).fields codes = c.fields codes := by
  unfold Ce.fields
  rw [newCell_kind, newCell_n, newCell_pos, newCell_len]
theorem heapOk_new {codes : Int} (h : heapOk es codes = true) : heapOk (collectC es rs) codes = true := by
  have hin := heapOk_kids h
  unfold heapOk at h ⊢
  rw [Bool.and_eq_true] at h ⊢
  have hl : (collectC es rs).length ≤ es.length := by
    unfold collectC
    rw [List.length_map]
    exact Nat.le_trans (keepT_len _ _) (by rw [shortC_len]; exact Nat.le_refl _)
  refine ⟨List.all_eq_true.2 fun d hd => ?_, decide_eq_true (by have := of_decide_eq_true h.2; omega)⟩
  obtain ⟨j, hj⟩ := List.getElem?_of_mem hd
  obtain ⟨i, c, h1, h2, h3, h4⟩ := new_from (List.getElem?_eq_some_iff.1 hj).1
  rw [h4] at hj
  cases hj
  have hr := List.all_eq_true.1 h.1 c (List.mem_of_getElem? h2)
  unfold Ce.right at hr ⊢
  rw [Bool.and_eq_true] at hr ⊢
  refine ⟨List.all_eq_true.2 fun y hy => ?_, by rw [fields_new]; exact hr.2⟩
  obtain ⟨n, hn⟩ := List.getElem?_of_mem hy
  rw [newCell_kid] at hn
  cases hz : c.kids[n]? with
  | none => rw [hz] at hn; cases hn
  | some z =>
    rw [hz] at hn
    obtain ⟨k, _, _, h5, h6⟩ := h1.kidAt hin h2 (List.mem_of_getElem? hz)
    have h7 : newZ es rs z = y := Option.some.inj hn
    have := h5.new_lt
    rw [← h7, h6]
    exact inB_iff.2 (by omega)
theorem collectC_le : (collectC es rs).length ≤ es.length := by
  unfold collectC
  rw [List.length_map]
  exact Nat.le_trans (keepT_len _ _) (by rw [shortC_len]; exact Nat.le_refl _)

/-- Whether two places are alike to a depth. -/
def alikeB (hs gs : List Ce) : Nat → Int → Int → Bool
  | deep, i, k =>
    if follow hs i < 0 ∨ follow gs k < 0 then (decide (follow hs i < 0) && decide (follow gs k < 0)) || decide (deep = 0)
    else match cellAt hs (follow hs i), cellAt gs (follow gs k) with
      | some c, some d => decide (c.kind = d.kind) && decide (c.n = d.n) && decide (c.pos = d.pos) && decide (c.kids.length = d.kids.length) && (match deep with
        | 0 => true
        | m + 1 => (List.range c.kids.length).all (fun n => alikeB hs gs m (c.kids.getD n 0) (d.kids.getD n 0)))
      | _, _ => false
theorem alike_new (hin : KidsIn es) (hone : OneKid es) : ∀ (deep : Nat) (z : Int) (k : Nat), shortZ es z = k → Live es rs k → alikeB es (collectC es rs) deep z (newAt es rs k) = true := by
  intro deep
  induction deep with
  | zero =>
    intro z k hk hl
    rw [alikeB]
    have hg := follow_ge es z
    rcases hl.follow hin hone with ⟨h1, h2⟩ | ⟨h1, h2⟩
    · have hz : follow es z = k := by
        unfold shortZ at hk
        split at hk
        · rw [hk]; exact h1
        · exact hk
      have hc := List.getElem?_eq_getElem hl.lt
      generalize es[k]'hl.lt = c at hc
      rw [hz, h2, if_neg (by omega), cellAt_nat, cellAt_nat, hc, hl.cell hc]
      simp [newCell_kind, newCell_n, newCell_pos, newCell_len]
    · have hz : follow es z < 0 := by
        unfold shortZ at hk
        split at hk
        · assumption
        · rename_i h0
          obtain ⟨k', c, h3, h4, h5⟩ := followN_end es _ z (show follow es z ≠ -1 by omega)
          have h6 : follow es z = (k' : Int) := h3
          have : k' = k := by omega
          subst this
          rw [follow_stays h4 h5] at h1
          omega
      rw [h2, if_pos (.inl hz)]
      simp [hz]
  | succ deep ih =>
    intro z k hk hl
    rw [alikeB]
    have hg := follow_ge es z
    rcases hl.follow hin hone with ⟨h1, h2⟩ | ⟨h1, h2⟩
    · have hz : follow es z = k := by
        unfold shortZ at hk
        split at hk
        · rw [hk]; exact h1
        · exact hk
      have hc := List.getElem?_eq_getElem hl.lt
      generalize es[k]'hl.lt = c at hc
      rw [hz, h2, if_neg (by omega), cellAt_nat, cellAt_nat, hc, hl.cell hc]
      simp only [newCell_kind, newCell_n, newCell_pos, newCell_len, decide_true, Bool.true_and]
      refine List.all_eq_true.2 fun n hn => ?_
      have hn' := List.mem_range.1 hn
      have hzn := List.getElem?_eq_getElem hn'
      generalize c.kids[n]'hn' = y at hzn
      obtain ⟨q, h3, h4, h5, h6⟩ := hl.kidAt hin hc (List.mem_of_getElem? hzn)
      rw [List.getD_eq_getElem?_getD, List.getD_eq_getElem?_getD, newCell_kid, hzn]
      show alikeB _ _ deep y (newZ es rs y) = true
      rw [h6]
      exact ih y q h3 h5
    · have hz : follow es z < 0 := by
        unfold shortZ at hk
        split at hk
        · assumption
        · rename_i h0
          obtain ⟨k', c, h3, h4, h5⟩ := followN_end es _ z (show follow es z ≠ -1 by omega)
          have h6 : follow es z = (k' : Int) := h3
          have : k' = k := by omega
          subst this
          rw [follow_stays h4 h5] at h1
          omega
      rw [h2, if_pos (.inl hz)]
      simp [hz]
end Go.Proofs.YtfhjkiimdkjhjaaGreatDoor
