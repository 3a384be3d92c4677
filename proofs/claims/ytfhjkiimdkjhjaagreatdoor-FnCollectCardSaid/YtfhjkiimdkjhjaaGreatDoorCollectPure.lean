/-
  A collection in plain words.
-/
import Derived.Test.YtfhjkiimdkjhjaaGreatDoorReachPure
import Derived.Test.YtfhjkiimdkjhjaaGreatDoorOwnRow
namespace Go.Proofs.YtfhjkiimdkjhjaaGreatDoor
open Go.RowKit Go.Joins

/-- A place, told by Follow where that is one. -/
def shortZ (es : List Ce) (z : Int) : Int := if follow es z < 0 then z else follow es z
def shortL (es : List Ce) (zs : List Int) : List Int := zs.map (shortZ es)
def Ce.short (es : List Ce) (c : Ce) : Ce := { c with kids := shortL es c.kids }
def shortC (es : List Ce) : List Ce := es.map (Ce.short es)
/-- A place behind a move. -/
def movedZ (to : List Int) (z : Int) : Int := if 0 ≤ z then (to[z.toNat]?).getD (-1) else -1
def movedL (to : List Int) (zs : List Int) : List Int := zs.map (movedZ to)
def Ce.moved (to : List Int) (c : Ce) : Ce := { c with kids := movedL to c.kids }
/-- Where the marked ones go: n the number of those ahead. -/
def toOf : Int → List Bool → List Int
  | _, [] => []
  | n, true :: bs => n :: toOf (n + 1) bs
  | n, false :: bs => -1 :: toOf n bs
/-- How many are marked. -/
def countT : List Bool → Nat
  | [] => 0
  | true :: bs => countT bs + 1
  | false :: bs => countT bs
/-- The marked ones of a row. -/
def keepT {α : Type} : List α → List Bool → List α
  | c :: cs, true :: bs => c :: keepT cs bs
  | _ :: cs, false :: bs => keepT cs bs
  | _, _ => []
noncomputable def collectTo (es : List Ce) (rs : List Int) : List Int := toOf 0 (marksOf (shortC es) (shortL es rs))
noncomputable def collectC (es : List Ce) (rs : List Int) : List Ce := (keepT (shortC es) (marksOf (shortC es) (shortL es rs))).map (Ce.moved (collectTo es rs))
noncomputable def collectR (es : List Ce) (rs : List Int) : List Int := movedL (collectTo es rs) (shortL es rs)

theorem followN_in (es : List Ce) : ∀ (m : Nat) (p : Int), followN es m p = -1 ∨ (0 ≤ followN es m p ∧ followN es m p < es.length)
  | 0, p => .inl rfl
  | m + 1, p => by
    rw [followN]
    cases hc : cellAt es p with
    | none => exact .inl rfl
    | some c =>
      simp only []
      have hp : 0 ≤ p ∧ p < es.length := by
        unfold cellAt at hc
        split at hc
        · have := (List.getElem?_eq_some_iff.1 hc).1; omega
        · cases hc
      by_cases hk : c.kind = 6
      · rw [if_pos hk]
        cases hq : c.kids[0]? with
        | none => exact .inr hp
        | some q => exact followN_in es m q
      · rw [if_neg hk]; exact .inr hp
theorem shortZ_in {es : List Ce} {z : Int} (hz : inI64 z) (hl : es.length ≤ 1000000000) : inI64 (shortZ es z) := by
  unfold shortZ
  have := followN_in es (es.length + 1) z
  unfold follow
  split
  · exact hz
  · rcases this with h | h
    · omega
    · exact inI64_small (k := followN es (es.length + 1) z) (by omega) (by omega)
theorem shortL_in {es : List Ce} {zs : List Int} (hz : ∀ z ∈ zs, inI64 z) (hl : es.length ≤ 1000000000) : ∀ z ∈ shortL es zs, inI64 z := by
  intro y hy
  obtain ⟨z, h1, rfl⟩ := List.mem_map.1 hy
  exact shortZ_in (hz z h1) hl
theorem shortL_len (es : List Ce) (zs : List Int) : (shortL es zs).length = zs.length := by simp [shortL]
theorem shortL_take (es : List Ce) (zs : List Int) (k : Nat) {z : Int} (h : zs[k]? = some z) : shortL es (zs.take (k + 1)) = shortL es (zs.take k) ++ [shortZ es z] := by
  have hk := (List.getElem?_eq_some_iff.1 h).1
  unfold shortL
  rw [List.take_succ_eq_append_getElem hk, List.map_append, (List.getElem?_eq_some_iff.1 h).2]
  rfl
theorem movedL_take (to : List Int) (zs : List Int) (k : Nat) {z : Int} (h : zs[k]? = some z) : movedL to (zs.take (k + 1)) = movedL to (zs.take k) ++ [movedZ to z] := by
  have hk := (List.getElem?_eq_some_iff.1 h).1
  unfold movedL
  rw [List.take_succ_eq_append_getElem hk, List.map_append, (List.getElem?_eq_some_iff.1 h).2]
  rfl
theorem movedZ_at {to : List Int} {k : Nat} {y : Int} (h : to[k]? = some y) : movedZ to (k : Int) = y := by
  unfold movedZ
  rw [if_pos (by omega), Int.toNat_natCast, h]
  rfl
theorem movedZ_out {to : List Int} {z : Int} (h : inB z 0 ((to.length : Int) - 1) = false) : movedZ to z = -1 := by
  unfold movedZ
  split
  · rename_i h0
    unfold inB at h
    rw [decide_eq_true h0, Bool.true_and] at h
    have := of_decide_eq_false h
    rw [List.getElem?_eq_none (by omega)]
    rfl
  · rfl
theorem countT_app : ∀ (a b : List Bool), countT (a ++ b) = countT a + countT b
  | [], b => by simp [countT]
  | true :: a, b => by rw [List.cons_append, countT, countT, countT_app a b]; omega
  | false :: a, b => by rw [List.cons_append, countT, countT, countT_app a b]
theorem countT_le : ∀ a : List Bool, countT a ≤ a.length
  | [] => Nat.le_refl _
  | true :: a => by rw [countT, List.length_cons]; have := countT_le a; omega
  | false :: a => by rw [countT, List.length_cons]; have := countT_le a; omega
theorem toOf_app : ∀ (a b : List Bool) (n : Int), toOf n (a ++ b) = toOf n a ++ toOf (n + countT a) b
  | [], b, n => by simp [toOf, countT]
  | true :: a, b, n => by rw [List.cons_append, toOf, toOf, toOf_app a b, countT, List.cons_append, show n + 1 + (countT a : Int) = n + ((countT a + 1 : Nat) : Int) by omega]
  | false :: a, b, n => by rw [List.cons_append, toOf, toOf, toOf_app a b, countT, List.cons_append]
theorem toOf_len : ∀ (a : List Bool) (n : Int), (toOf n a).length = a.length
  | [], n => rfl
  | true :: a, n => by rw [toOf, List.length_cons, toOf_len a, List.length_cons]
  | false :: a, n => by rw [toOf, List.length_cons, toOf_len a, List.length_cons]
theorem toOf_in : ∀ (a : List Bool) (n : Int), -1 ≤ n → ∀ z ∈ toOf n a, -1 ≤ z ∧ z ≤ n + a.length
  | [], n, _, z, h => by simp [toOf] at h
  | true :: a, n, hn, z, h => by
    rw [toOf, List.mem_cons] at h
    rw [List.length_cons]
    rcases h with rfl | h
    · omega
    · have := toOf_in a (n + 1) (by omega) z h; omega
  | false :: a, n, hn, z, h => by
    rw [toOf, List.mem_cons] at h
    rw [List.length_cons]
    rcases h with rfl | h
    · omega
    · have := toOf_in a n hn z h; omega
theorem keepT_app {α : Type} : ∀ (cs ds : List α) (a b : List Bool), cs.length = a.length → keepT (cs ++ ds) (a ++ b) = keepT cs a ++ keepT ds b
  | [], ds, [], b, _ => by simp [keepT]
  | [], ds, x :: a, b, h => by simp at h
  | c :: cs, ds, [], b, h => by simp at h
  | c :: cs, ds, true :: a, b, h => by
    rw [List.cons_append, List.cons_append, keepT, keepT, keepT_app cs ds a b (by simpa using h), List.cons_append]
  | c :: cs, ds, false :: a, b, h => by
    rw [List.cons_append, List.cons_append, keepT, keepT, keepT_app cs ds a b (by simpa using h)]
theorem keepT_len {α : Type} : ∀ (cs : List α) (a : List Bool), (keepT cs a).length ≤ cs.length
  | [], a => by simp [keepT]
  | c :: cs, [] => by simp [keepT]
  | c :: cs, true :: a => by rw [keepT, List.length_cons, List.length_cons]; have := keepT_len cs a; omega
  | c :: cs, false :: a => by rw [keepT, List.length_cons]; have := keepT_len cs a; omega
theorem take_snoc {α : Type} (l : List α) (k : Nat) {x : α} (h : l[k]? = some x) : l.take (k + 1) = l.take k ++ [x] := by
  have hk := (List.getElem?_eq_some_iff.1 h).1
  rw [List.take_succ_eq_append_getElem hk, (List.getElem?_eq_some_iff.1 h).2]
theorem shortC_len (es : List Ce) : (shortC es).length = es.length := by simp [shortC]
theorem shortC_bulk (es : List Ce) : bulkL (shortC es) = bulkL es := by
  unfold bulkL preL
  rw [List.take_length, List.take_length, shortC_len]
  congr 2
  unfold shortC
  rw [List.map_map]
  refine List.map_congr_left fun c _ => ?_
  show (shortL es c.kids).length = c.kids.length
  exact shortL_len _ _
theorem movedZ_in (to : List Int) (h : ∀ z ∈ to, inI64 z) (z : Int) : inI64 (movedZ to z) := by
  unfold movedZ
  split
  · cases hc : to[z.toNat]? with
    | none => exact ⟨by decide, by decide⟩
    | some y => exact h y (List.mem_of_getElem? hc)
  · exact ⟨by decide, by decide⟩
theorem movedL_in (to : List Int) (h : ∀ z ∈ to, inI64 z) (zs : List Int) : ∀ z ∈ movedL to zs, inI64 z := by
  intro y hy
  obtain ⟨z, _, rfl⟩ := List.mem_map.1 hy
  exact movedZ_in to h z
theorem movedL_len (to zs : List Int) : (movedL to zs).length = zs.length := by simp [movedL]
theorem keepT_sum {α : Type} (f : α → Nat) : ∀ (cs : List α) (a : List Bool), ((keepT cs a).map f).sum ≤ (cs.map f).sum
  | [], a => by simp [keepT]
  | c :: cs, [] => by simp [keepT]
  | c :: cs, true :: a => by rw [keepT, List.map_cons, List.map_cons, List.sum_cons, List.sum_cons]; have := keepT_sum f cs a; omega
  | c :: cs, false :: a => by rw [keepT, List.map_cons, List.sum_cons]; have := keepT_sum f cs a; omega
theorem bulkL_eq (es : List Ce) : bulkL es = es.length + (es.map Ce.bulk).sum := by unfold bulkL preL; rw [List.take_length]
theorem collectC_bulk (es : List Ce) (rs : List Int) : bulkL (collectC es rs) ≤ bulkL es := by
  rw [← shortC_bulk es, bulkL_eq, bulkL_eq]
  unfold collectC
  rw [List.length_map, List.map_map]
  have h1 := keepT_len (shortC es) (marksOf (shortC es) (shortL es rs))
  have h2 := keepT_sum Ce.bulk (shortC es) (marksOf (shortC es) (shortL es rs))
  have h3 : (keepT (shortC es) (marksOf (shortC es) (shortL es rs))).map (Ce.bulk ∘ Ce.moved (collectTo es rs)) = (keepT (shortC es) (marksOf (shortC es) (shortL es rs))).map Ce.bulk := by
    refine List.map_congr_left fun c _ => ?_
    show (movedL (collectTo es rs) c.kids).length = c.kids.length
    exact movedL_len _ _
  rw [h3]
  omega
theorem collectR_len (es : List Ce) (rs : List Int) : (collectR es rs).length = rs.length := by unfold collectR; rw [movedL_len, shortL_len]
theorem collectR_in (es : List Ce) (rs : List Int) (h : es.length ≤ 1048576) : ∀ z ∈ collectR es rs, inI64 z := by
  unfold collectR
  refine movedL_in _ (fun z hz => ?_) _
  have := toOf_in _ 0 (by omega) z hz
  rw [marksOf_len, shortC_len] at this
  exact ⟨by omega, by omega⟩
end Go.Proofs.YtfhjkiimdkjhjaaGreatDoor
