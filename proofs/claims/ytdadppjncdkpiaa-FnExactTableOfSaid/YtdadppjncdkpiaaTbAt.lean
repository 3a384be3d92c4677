/-
  Tables in memory, and two that are alike.
-/
import Derived.Test.YtdadppjncdkpiaaCodesEq
import Derived.Test.YtdadppjncdkpiaaIntsAt
namespace Go.Proofs.Ytdadppjncdkpiaa
open Go.RowKit Go.Joins

set_option maxRecDepth 100000

structure Tb where
  codes : List Cd
  tops : List Int
def Tb.bulk (p : Tb) : Nat := bulkC p.codes + p.tops.length

def TbAt (w : World) (S : Nat → Prop) (v : Value) (p : Tb) : Prop :=
  ∃ nv bv, v = .agg #[nv, bv] ∧ CodesAt w S nv p.codes ∧ IntsAt w S bv p.tops
theorem TbAt.below {w w' : World} {S : Nat → Prop} {v : Value} {p : Tb} (h : TbAt w S v p) (hb : Below w.heap.size w w') : TbAt w' S v p := by
  obtain ⟨nv, bv, hv, h1, h2⟩ := h
  exact ⟨nv, bv, hv, h1.below hb, h2.below hb⟩
theorem TbAt.belowP {w w' : World} {n : Nat} {v : Value} {p : Tb} (h : TbAt w (fun b => n ≤ b ∧ Pl w b) v p) (hb : Below w.heap.size w w') : TbAt w' (fun b => n ≤ b ∧ Pl w' b) v p := by
  obtain ⟨nv, bv, hv, h1, h2⟩ := h
  exact ⟨nv, bv, hv, h1.belowP hb, h2.belowP hb⟩

set_option maxHeartbeats 3200000 in
theorem eqTable_any (v1 v2 : Value) (p : Tb) (S1 S2 : Nat → Prop) (w : World) (h1 : TbAt w S1 v1 p) (h2 : TbAt w S2 v2 p) (hb : p.bulk ≤ 4194304) :
    Calls Try.prog 20 #[v1, v2] w fun e w' => e = .returned (.bool true) ∧ Below w.heap.size w w' := by
  have hl1 := (show p.codes.length ≤ bulkC p.codes from Nat.le_add_right _ _)
  have hbk : p.bulk = bulkC p.codes + p.tops.length := rfl
  obtain ⟨nv1, bv1, rfl, n1, k1⟩ := h1
  obtain ⟨nv2, bv2, rfl, n2, k2⟩ := h2
  obtain ⟨a1, c1, rfl⟩ := n1.form
  obtain ⟨a2, c2, rfl⟩ := k1.form
  obtain ⟨a3, c3, rfl⟩ := n2.form
  obtain ⟨a4, c4, rfl⟩ := k2.form
  have B0 : Below w.heap.size w ((w.alloc (.cells #[.slice a1 p.codes.length c1, .slice a2 p.tops.length c2] 34)).alloc (.cells #[.slice a3 p.codes.length c3, .slice a4 p.tops.length c4] 34)) :=
    ((Below.refl _ w).alloc (Nat.le_refl _) _).alloc (by simp) _
  have P1 : ((w.alloc (.cells #[.slice a1 p.codes.length c1, .slice a2 p.tops.length c2] 34)).alloc (.cells #[.slice a3 p.codes.length c3, .slice a4 p.tops.length c4] 34)).cell? ⟨w.heap.size, 1, none⟩ = some (.slice a2 p.tops.length c2) := by
    rw [cell_of_block ((Below.heap_alloc _ _ _ (by simp)).trans (MapKept.heap_alloc w _).1)]; rfl
  have P2 : ((w.alloc (.cells #[.slice a1 p.codes.length c1, .slice a2 p.tops.length c2] 34)).alloc (.cells #[.slice a3 p.codes.length c3, .slice a4 p.tops.length c4] 34)).cell? ⟨w.heap.size + 1, 1, none⟩ = some (.slice a4 p.tops.length c4) := by
    have := (MapKept.heap_alloc (w.alloc (.cells #[.slice a1 p.codes.length c1, .slice a2 p.tops.length c2] 34)) (.cells #[.slice a3 p.codes.length c3, .slice a4 p.tops.length c4] 34)).1
    rw [cell_of_block (by simpa using this)]; rfl
  have P3 : ((w.alloc (.cells #[.slice a1 p.codes.length c1, .slice a2 p.tops.length c2] 34)).alloc (.cells #[.slice a3 p.codes.length c3, .slice a4 p.tops.length c4] 34)).heap.size = w.heap.size + 2 := by simp
  have HN1 := (show Hid (_ ∧ True) from ⟨n1.below B0, trivial⟩)
  have HN2 := (show Hid (_ ∧ True) from ⟨n2.below B0, trivial⟩)
  have HK1 := (show Hid (_ ∧ True) from ⟨k1.below B0, trivial⟩)
  have HK2 := (show Hid (_ ∧ True) from ⟨k2.below B0, trivial⟩)
  have HB := (show Hid (_ ∧ True) from ⟨B0, trivial⟩)
  have HP1 := (show Hid (_ ∧ True) from ⟨P1, trivial⟩)
  have HP2 := (show Hid (_ ∧ True) from ⟨P2, trivial⟩)
  have hnot := ex_not
  clear n1 n2 k1 k2 B0 P1 P2
  go_enter Try.func20, Try.ntmps20
  go_wp2_with fail
  refine (eqCodeS_any _ _ p.codes S1 S2 _ HN1.out.1 HN2.out.1 (by omega)).mono ?_
  rintro e w1 ⟨rfl, b1⟩
  have B1 : Below w.heap.size w w1 := HB.out.1.trans (b1.mono HB.out.1.size)
  have Q1 : w1.cell? ⟨w.heap.size, 1, none⟩ = some (.slice a2 p.tops.length c2) := (b1.cell (by rw [P3]; simp)).trans HP1.out.1
  have Q2 : w1.cell? ⟨w.heap.size + 1, 1, none⟩ = some (.slice a4 p.tops.length c4) := (b1.cell (by rw [P3]; simp)).trans HP2.out.1
  have HL1 := (show Hid (_ ∧ True) from ⟨HK1.out.1.below b1, trivial⟩)
  have HL2 := (show Hid (_ ∧ True) from ⟨HK2.out.1.below b1, trivial⟩)
  clear b1 HN1 HN2 HK1 HK2 HB HP1 HP2 P3
  go_wp2_with fail
  refine (eqIntS_same _ _ p.tops S1 S2 _ HL1.out.1 HL2.out.1 (by omega)).mono ?_
  rintro e w2 ⟨rfl, b2⟩
  have B2 : Below w.heap.size w w2 := B1.trans (b2.mono B1.size)
  clear b2 HL1 HL2 Q1 Q2
  go_wp2
  go_ret
  exact ⟨rfl, B2⟩
end Go.Proofs.Ytdadppjncdkpiaa
