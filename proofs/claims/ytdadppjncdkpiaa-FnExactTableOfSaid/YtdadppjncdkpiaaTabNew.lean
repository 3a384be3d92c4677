/-
  The program's tableOf, told how many codes there are: the table of what is told of the bodies.
-/
import Derived.Test.YtdadppjncdkpiaaCodesOf
import Derived.Test.YtdadppjncdkpiaaTabRow
import Derived.Test.YtdadppjncdkpiaaTellOk
import Derived.Test.YtdadppjncdkpiaaCloneAny
import Derived.Test.YtdadppjncdkpiaaRoundRegion
import Derived.Test.YtdadppjncdkpiaaGrowAny
import Derived.Test.YtdadppjncdkpiaaCallIn
import Derived.Test.YtdadppjncdkpiaaKidCount
namespace Go.Proofs.Ytdadppjncdkpiaa
open Go.RowKit Go.Joins Go.Shelf

set_option maxRecDepth 100000
attribute [local go_sem] Oper.semAt_some

theorem info2I : (Try.prog.info? 34).map (·.size) = some 2 := by kernel_rfl
abbrev zeroT : Obj := .cells #[.slice none 0 0, .slice none 0 0] 34
def TabI (w : World) (pre : List (Int × Ex)) (W : World) : Prop :=
  ∃ cv tv rs, Below w.heap.size w W ∧ W.heap[w.heap.size]? = some (.cells #[.slice none 0 0, .slice none 0 0] 34 (0, 0)) ∧ W.heap[w.heap.size + 1 + 1]? = some (.cells #[cv, tv] 34 (0, 0)) ∧ TabAt W w.heap.size cv tv rs (tellAll pre).2 ∧ rs.map Prod.fst = (tellAll pre).1

/-- What a round begins with. -/
def TabA (w : World) (a : Option Addr) (n cap count : Nat) (x : Int × Ex) (a' : Act) (W : World) : Prop :=
  ∃ X, W.heap[X]? = some (.cells #[.int .i64 x.2.kind, .int .i64 x.2.n, .string x.2.text, .slice none 0 0] 173 (0, 0)) ∧ w.heap.size ≤ X ∧ (∃ cv tv, W.heap[w.heap.size + 1 + 1]? = some (.cells #[cv, tv] 34 (0, 0)) ∧ cv.ownBlock ≠ some X) ∧
    a' = { tmps := #[.slice a n cap, .int .i64 (count : Int), undef, undef, .pointer (some ⟨w.heap.size, 0, none⟩), .pointer (some ⟨w.heap.size + 1 + 1, 0, none⟩), .int .i64 x.1, .pointer (some ⟨X, 0, none⟩), undef, .int .i64 (count : Int), .slice (some ⟨w.heap.size + 1, 0, none⟩) 0 count, .agg #[.slice (some ⟨w.heap.size + 1, 0, none⟩) 0 count, .slice none 0 0], .slice a n cap, .func (.func 129) #[] #[.pointer (some ⟨w.heap.size + 1 + 1 + 1, 0, none⟩)], .int .i64 x.1, .agg #[.int .i64 x.2.kind, .int .i64 x.2.n, .string x.2.text, .slice none 0 0], undef, undef, undef, undef, undef, undef, undef, undef, undef, undef, undef, undef, undef, undef, undef, undef, undef, undef, undef, undef, undef, undef, undef, undef, undef, undef, undef, undef, undef, undef, undef, undef, undef, undef, undef, undef, undef, undef, undef, undef, undef, undef, undef], defers := [] }

theorem not_OT_code : ¬ OT 173 := by unfold OT; decide
theorem not_OT_int : ¬ OT 3 := by unfold OT; decide
theorem not_OT_table : ¬ OT 34 := by unfold OT; decide
theorem TabAt.step {W W' : World} {B n₀ : Nat} {cv tv : Value} {rs : List (Cd × Value)} {tops : List Int} (h : TabAt W B cv tv rs tops) (hs : StepT OT n₀ W W') : TabAt W' B cv tv rs tops :=
  h.kept (fun g hg => (own_type h.codes g hg).2.elim (fun cs hc => (hs.cells g cs _ _ hc not_OT_code).trans hc.symm)) (fun g cs hg => (hs.cells g cs _ _ hg not_OT_int).trans hg.symm)
theorem TabI.stable (w : World) : StableT OT w.heap.size (TabI w) := by
  rintro pre W W' ⟨cv, tv, rs, hb, h0, h1, ht, he⟩ hs
  exact ⟨cv, tv, rs, hb.trans hs.below, hs.cells _ _ _ _ h0 not_OT_table, hs.cells _ _ _ _ h1 not_OT_table, ht.step hs, he⟩
theorem TabA.stable (w : World) (a : Option Addr) (n cap count : Nat) (x : Int × Ex) (a' : Act) : StableT OT w.heap.size (fun (_ : Unit) W => TabA w a n cap count x a' W) := by
  rintro _ W W' ⟨X, hX, hlt, ⟨cv, tv, hv, hne⟩, ha⟩ hs
  exact ⟨X, hs.cells _ _ _ _ hX not_OT_code, hlt, ⟨cv, tv, hs.cells _ _ _ _ hv not_OT_table, hne⟩, ha⟩

/-- What a round keeps, and the block of the answer. -/
def KR (B : Nat) (W W' : World) : Prop := KeepT OT B W W' ∧ W'.heap[B]? = W.heap[B]?
theorem KR.trans {B : Nat} {X Y Z : World} (h : KR B X Y) (k : KR B Y Z) : KR B X Z := ⟨h.1.trans k.1, k.2.trans h.2⟩
theorem KR.below {B : Nat} {W W' : World} (hb : Below W.heap.size W W') (hB : B < W.heap.size) : KR B W W' :=
  ⟨⟨hb.mono (Nat.le_of_lt hB), fun k _ _ _ h _ => (hb.block k (Array.getElem?_eq_some_iff.1 h).1).trans h, fun k _ h _ => (hb.block k (Array.getElem?_eq_some_iff.1 h).1).trans h⟩, hb.block B hB⟩
theorem KR.alloc {B : Nat} (W : World) (o : Obj) (hB : B < W.heap.size) : KR B W (W.alloc o) := ⟨KeepT.alloc OT W o (Nat.le_of_lt hB), Below.heap_alloc _ _ _ hB⟩
theorem KR.set {B b : Nat} {W : World} {cs : Array Value} {t : TypeId} {rng : Nat × Nat} (hb : W.heap[b]? = some (.cells cs t rng)) (hO : ¬ OT t) (hB : B < b) (off : Nat) (v : Value) : KR B W (W.setCell ⟨b, off, none⟩ v) :=
  ⟨KeepT.setCell hb hO (Nat.le_of_lt hB) off v, Below.heap_setCell _ _ _ _ (by show B ≠ b; omega)⟩
theorem KR.grown {B n size : Nat} {W W' : World} {e : TypeId} {v : Value} {xs : List Value} {cs : Array Value} (ho : W.ownsRow B e size v n xs) (hg : W.grownBy W' v.ownBlock) (hO : ¬ OT e) (he : e ≠ 34) (hR : W.heap[B]? = some (.cells cs 34 (0, 0))) : KR B W W' := by
  have hB := (Array.getElem?_eq_some_iff.1 hR).1
  refine ⟨KeepT.grown hg (Nat.le_of_lt hB) (fun g hgo => ?_), hg.block B hB (fun e' => ?_)⟩
  · obtain ⟨h1, cs, h2⟩ := own_type ho g hgo
    exact ⟨h1, cs, _, _, h2, hO⟩
  · obtain ⟨_, cs', h2⟩ := own_type ho B e'.symm
    rw [hR] at h2
    cases h2
    exact he rfl

/-- How far a round has come: the table, where it lies, what is kept. -/
structure Stage (B : Nat) (W W' : World) (cv tv : Value) (rs : List (Cd × Value)) (tops : List Int) : Prop where
  at1 : W'.heap[B + 1 + 1]? = some (.cells #[cv, tv] 34 (0, 0))
  at0 : W'.heap[B]? = some (.cells #[.slice none 0 0, .slice none 0 0] 34 (0, 0))
  tab : TabAt W' B cv tv rs tops
  keep : KR B W W'

theorem Stage.alloc {B : Nat} {W W' : World} {cv tv : Value} {rs : List (Cd × Value)} {tops : List Int} (h : Stage B W W' cv tv rs tops) (o : Obj) : Stage B W (W'.alloc o) cv tv rs tops :=
  ⟨(Below.heap_alloc _ _ _ (Array.getElem?_eq_some_iff.1 h.at1).1).trans h.at1, (Below.heap_alloc _ _ _ (Array.getElem?_eq_some_iff.1 h.at0).1).trans h.at0, h.tab.alloc o, h.keep.trans (KR.alloc _ o (Array.getElem?_eq_some_iff.1 h.at0).1)⟩
theorem Stage.below {B : Nat} {W W' W'' : World} {cv tv : Value} {rs : List (Cd × Value)} {tops : List Int} (h : Stage B W W' cv tv rs tops) (hb : Below W'.heap.size W' W'') : Stage B W W'' cv tv rs tops :=
  ⟨(hb.block _ (Array.getElem?_eq_some_iff.1 h.at1).1).trans h.at1, (hb.block _ (Array.getElem?_eq_some_iff.1 h.at0).1).trans h.at0, h.tab.below hb, h.keep.trans (KR.below hb (Array.getElem?_eq_some_iff.1 h.at0).1)⟩
theorem Stage.drew {B : Nat} {W W' : World} {cv tv : Value} {rs : List (Cd × Value)} {tops : List Int} (h : Stage B W W' cv tv rs tops) : Stage B W W'.drew cv tv rs tops := h.below (Below.refl _ W').drew
/-- A store into a code's own block. -/
theorem Stage.code {B X : Nat} {W W' : World} {cv tv : Value} {rs : List (Cd × Value)} {tops : List Int} {cs : Array Value} (h : Stage B W W' cv tv rs tops) (hX : W'.heap[X]? = some (.cells cs 173 (0, 0))) (hB : B ≤ X) (hne : cv.ownBlock ≠ some X) (off : Nat) (u : Value) : Stage B W (W'.setCell ⟨X, off, none⟩ u) cv tv rs tops := by
  have n1 : B + 1 + 1 ≠ X := fun e => by rw [← e, h.at1] at hX; simp at hX
  have n0 : B ≠ X := fun e => by rw [← e, h.at0] at hX; simp at hX
  exact ⟨(Below.heap_setCell _ _ _ _ n1).trans h.at1, (Below.heap_setCell _ _ _ _ n0).trans h.at0, h.tab.other hX (by decide) hne u, h.keep.trans (KR.set hX not_OT_code (by omega) off u)⟩
theorem own_not_table {W : World} {B n size b : Nat} {e : TypeId} {v : Value} {xs : List Value} {cs : Array Value} (ho : W.ownsRow B e size v n xs) (he : e ≠ 34) (hb : W.heap[b]? = some (.cells cs 34 (0, 0))) : some b ≠ v.ownBlock := fun e' => by
  obtain ⟨_, cs', h2⟩ := own_type ho b e'.symm
  rw [hb] at h2
  cases h2
  exact he rfl
/-- A store of a row's value into the table. -/
theorem stage_store {B : Nat} {W W' : World} {cv tv cv' tv' u : Value} {rs : List (Cd × Value)} {tops : List Int} {off : Nat} (h1 : W'.heap[B + 1 + 1]? = some (.cells #[cv, tv] 34 (0, 0))) (h0 : W'.heap[B]? = some (.cells #[.slice none 0 0, .slice none 0 0] 34 (0, 0))) (ht : TabAt W' B cv' tv' rs tops) (hk : KR B W W')
    (hs : (#[cv, tv] : Array Value).setIfInBounds off u = #[cv', tv']) : Stage B W (W'.setCell ⟨B + 1 + 1, off, none⟩ u) cv' tv' rs tops :=
  ⟨by rw [block_setCell h1, hs], (Below.heap_setCell _ _ _ _ (by show B ≠ B + 1 + 1; omega)).trans h0, ht.other h1 (by decide) (fun e => own_not_table ht.codes (by decide) h1 e.symm) u, hk.trans (KR.set h1 not_OT_table (by omega) off u)⟩
/-- Behind the append of a code. -/
theorem Stage.push {B : Nat} {W W' w3 : World} {cv cv' tv : Value} {rs : List (Cd × Value)} {tops : List Int} {c : Cd} (h : Stage B W W' cv tv rs tops)
    (hown : w3.ownsRow B 173 4 cv' (rs.length + 1) (rs.flatMap cdCells ++ cdCells (c, .slice none 0 0))) (hgr : W'.grownBy w3 cv.ownBlock) (hc : CdOk c) (hk : c.kids = []) :
    w3.heap[B + 1 + 1]? = some (.cells #[cv, tv] 34 (0, 0)) ∧ Stage B W (w3.setCell ⟨B + 1 + 1, 0, none⟩ cv') cv' tv (rs ++ [(c, .slice none 0 0)]) tops := by
  have h1 := (hgr.block _ (Array.getElem?_eq_some_iff.1 h.at1).1 (own_not_table h.tab.codes (by decide) h.at1)).trans h.at1
  have h0 := (hgr.block _ (Array.getElem?_eq_some_iff.1 h.at0).1 (own_not_table h.tab.codes (by decide) h.at0)).trans h.at0
  exact ⟨h1, stage_store h1 h0 (h.tab.push hown hgr hc hk) (h.keep.trans (KR.grown h.tab.codes hgr not_OT_code (by decide) h.at0)) rfl⟩
/-- Behind the append of a top. -/
theorem Stage.top {B : Nat} {W W' w3 : World} {cv tv tv' : Value} {rs : List (Cd × Value)} {tops : List Int} {z : Int} (h : Stage B W W' cv tv rs tops)
    (hown : w3.ownsRow B 3 1 tv' (tops.length + 1) (intVs tops ++ [.int .i64 z])) (hgr : W'.grownBy w3 tv.ownBlock) (hat : tv'.ownBlock = tv.ownBlock ∨ tv'.ownBlock = some W'.heap.size) :
    w3.heap[B + 1 + 1]? = some (.cells #[cv, tv] 34 (0, 0)) ∧ Stage B W (w3.setCell ⟨B + 1 + 1, 1, none⟩ tv') cv tv' rs (tops ++ [z]) := by
  have h1 := (hgr.block _ (Array.getElem?_eq_some_iff.1 h.at1).1 (own_not_table h.tab.tops (by decide) h.at1)).trans h.at1
  have h0 := (hgr.block _ (Array.getElem?_eq_some_iff.1 h.at0).1 (own_not_table h.tab.tops (by decide) h.at0)).trans h.at0
  exact ⟨h1, stage_store h1 h0 (h.tab.top hown hgr hat) (h.keep.trans (KR.grown h.tab.tops hgr not_OT_int (by decide) h.at0)) rfl⟩
/-- Behind the append of a kid. -/
theorem Stage.kid {B g cap n : Nat} {W W' w3 : World} {tv u u' : Value} {A D : List (Cd × Value)} {tops : List Int} {c : Cd} {z : Int} (h : Stage B W W' (.slice (some ⟨g, 0, none⟩) n cap) tv (A ++ (c, u) :: D) tops) (hn : n = (A ++ (c, u) :: D).length)
    (hown : w3.ownsRow B 3 1 u' (c.kids.length + 1) (intVs c.kids ++ [.int .i64 z])) (hgr : W'.grownBy w3 u.ownBlock) (hat : u'.ownBlock = u.ownBlock ∨ u'.ownBlock = some W'.heap.size) :
    w3.heap[B + 1 + 1]? = some (.cells #[.slice (some ⟨g, 0, none⟩) n cap, tv] 34 (0, 0)) ∧ w3.heap[g]? = W'.heap[g]? ∧ Stage B W (w3.setCell ⟨g, A.length * 4 + 3, none⟩ u') (.slice (some ⟨g, 0, none⟩) n cap) tv (A ++ (addKids [z] c, u') :: D) tops := by
  have hu := (h.tab.kids (c, u) (by simp)).1
  have h1 := (hgr.block _ (Array.getElem?_eq_some_iff.1 h.at1).1 (own_not_table hu (by decide) h.at1)).trans h.at1
  have h0 := (hgr.block _ (Array.getElem?_eq_some_iff.1 h.at0).1 (own_not_table hu (by decide) h.at0)).trans h.at0
  have hg := hgr.block g (own_lt h.tab.codes g rfl) (own_ne h.tab.codes hu (by decide) g rfl)
  obtain ⟨hBg, cs, hcs⟩ := own_type h.tab.codes g rfl
  have n1 : B + 1 + 1 ≠ g := fun e => own_not_table h.tab.codes (by decide) h.at1 (by rw [e]; rfl)
  have n0 : B ≠ g := fun e => own_not_table h.tab.codes (by decide) h.at0 (by rw [e]; rfl)
  exact ⟨h1, hg, (Below.heap_setCell _ _ _ _ n1).trans h1, (Below.heap_setCell _ _ _ _ n0).trans h0, h.tab.kid hn hown hgr hat, (h.keep.trans (KR.grown hu hgr not_OT_int (by decide) h.at0)).trans (KR.set (hg.trans hcs) not_OT_code (by omega) _ _)⟩
/-- A round's end. -/
theorem Stage.fin {w W W' : World} {cv tv : Value} {rs : List (Cd × Value)} {tops : List Int} {xs : List (Int × Ex)} (h : Stage w.heap.size W W' cv tv rs tops) (hb : Below w.heap.size w W) (he : (rs.map Prod.fst, tops) = tellAll xs) : KeepT OT w.heap.size W W' ∧ TabI w xs W' := by
  refine ⟨h.keep.1, cv, tv, rs, hb.trans h.keep.1.below, h.at0, h.at1, ?_, ?_⟩
  · rw [← he]; exact h.tab
  · rw [← he]

theorem kid_toldK {kv : Value} {pre : List (Int × Ex)} {x : Int × Ex} {rs A D : List (Cd × Value)} {c : Cd} {u u' : Value} {p : Nat} (hp : x.1 = (p : Int)) (hAD : rs ++ [(x.2.code, kv)] = A ++ (c, u) :: D) (hA : A.length = p) (he : rs.map Prod.fst = (tellAll pre).1) :
    ((A ++ (addKids [(rs.length : Int)] c, u') :: D).map Prod.fst, (tellAll pre).2) = tellAll (pre ++ [x]) := by
  have h1 : (tellAll pre).1 ++ [x.2.code] = A.map Prod.fst ++ c :: D.map Prod.fst := by
    have := congrArg (List.map Prod.fst) hAD
    simpa [he] using this
  have h2 : (tellAll pre).1.length = rs.length := by rw [← he, List.length_map]
  rw [tellAll_snoc]
  unfold tellStep
  have hl : A.length = (A.map Prod.fst).length := by simp
  rw [if_neg (by omega), h1, h2, hp, Int.toNat_natCast, ← hA, hl, modify_mid]
  simp

/-- A code more, with a row for its kids. -/
theorem TabAt.pushK {W W' : World} {B : Nat} {cv cv' tv kv : Value} {rs : List (Cd × Value)} {tops : List Int} {c : Cd} (h : TabAt W B cv tv rs tops)
    (hown : W'.ownsRow B 173 4 cv' (rs.length + 1) (rs.flatMap cdCells ++ cdCells (c, kv))) (hg : W.grownBy W' cv.ownBlock) (hc : CdOk c) (hk : c.kids = []) (hkv : W.ownsRow B 3 1 kv 0 []) (hap : AptV tv kv) (hap2 : ∀ r ∈ rs, AptV r.2 kv) : TabAt W' B cv' tv (rs ++ [(c, kv)]) tops := by
  have hi : ∀ (n : Nat) (v : Value) (xs : List Value), W.ownsRow B 3 1 v n xs → W'.ownsRow B 3 1 v n xs := fun n v xs ho =>
    own_moved ho (fun g hgo => hg.block g ((own_type ho g hgo).2.elim (fun _ hc => (Array.getElem?_eq_some_iff.1 hc).1)) (own_ne ho h.codes (by decide) g hgo))
  refine ⟨?_, hi _ _ _ h.tops, fun r hr => ?_, ?_⟩
  · rw [List.length_append, List.flatMap_append]
    simpa using hown
  · rw [List.mem_append] at hr
    rcases hr with hr | hr
    · exact ⟨hi _ _ _ (h.kids r hr).1, (h.kids r hr).2⟩
    · simp at hr
      subst hr
      refine ⟨?_, hc⟩
      show W'.ownsRow B 3 1 kv c.kids.length (intVs c.kids)
      rw [hk]
      exact hi _ _ _ hkv
  · rw [List.map_append, ← List.cons_append, List.pairwise_append]
    refine ⟨h.apart, by simp, fun u hu v hv => ?_⟩
    simp at hv
    subst hv
    rcases List.mem_cons.1 hu with rfl | hu
    · exact hap
    · obtain ⟨r, hr, rfl⟩ := List.mem_map.1 hu
      exact hap2 r hr
theorem Stage.pushK {B : Nat} {W W' w3 : World} {cv cv' tv kv : Value} {rs : List (Cd × Value)} {tops : List Int} {c : Cd} (h : Stage B W W' cv tv rs tops)
    (hown : w3.ownsRow B 173 4 cv' (rs.length + 1) (rs.flatMap cdCells ++ cdCells (c, kv))) (hgr : W'.grownBy w3 cv.ownBlock) (hc : CdOk c) (hk : c.kids = []) (hkv : W'.ownsRow B 3 1 kv 0 []) (hap : AptV tv kv) (hap2 : ∀ r ∈ rs, AptV r.2 kv) :
    w3.heap[B + 1 + 1]? = some (.cells #[cv, tv] 34 (0, 0)) ∧ Stage B W (w3.setCell ⟨B + 1 + 1, 0, none⟩ cv') cv' tv (rs ++ [(c, kv)]) tops := by
  have h1 := (hgr.block _ (Array.getElem?_eq_some_iff.1 h.at1).1 (own_not_table h.tab.codes (by decide) h.at1)).trans h.at1
  have h0 := (hgr.block _ (Array.getElem?_eq_some_iff.1 h.at0).1 (own_not_table h.tab.codes (by decide) h.at0)).trans h.at0
  exact ⟨h1, stage_store h1 h0 (h.tab.pushK hown hgr hc hk hkv hap hap2) (h.keep.trans (KR.grown h.tab.codes hgr not_OT_code (by decide) h.at0)) rfl⟩

theorem fourK (c : Cd) (ga : Option Addr) (n gc : Nat) : ∀ u ∈ cdCells (c, .slice ga n gc), u.oneCell' = true := by
  intro u hu
  simp only [cdCells, List.mem_cons, List.not_mem_nil, or_false] at hu
  rcases hu with rfl | rfl | rfl | rfl <;> rfl
theorem kidsOf_le (k : Int) : kidsOf k ≤ 3 := by
  unfold kidsOf
  repeat' split
  all_goals omega

abbrev roomC (count : Nat) : Obj := .cells (madeCells #[.int .i64 0, .int .i64 0, .string ⟨#[]⟩, .slice none 0 0] (count * 4)) 173
theorem makeCodes (count : Nat) (hn : count ≤ 4194304) (w : World) : (Instr.makeSlice 32 (.int .i64 0) (.int .i64 (count : Int))).run Try.prog w = .ok (.slice (some ⟨w.heap.size, 0, none⟩) 0 count) (w.alloc (roomC count)) := by
  obtain ⟨i0, hi, hz0, hz1, hz2⟩ := info_parts infoCode
  have h := run_make (P := Try.prog) w 32 173 i0 _ Try.underlying32 hi hz0 .i64 .i64 0 count (Int.le_refl _) (by omega) (by rw [hz2]; omega) (by omega)
  rw [hz1] at h
  simp only [Int.toNat_natCast, Int.toNat_zero] at h
  exact h

abbrev tabT (w : World) (count : Nat) : Obj := .cells #[.slice (some ⟨w.heap.size + 1, 0, none⟩) 0 count, .slice none 0 0] 34
set_option maxHeartbeats 3200000 in
theorem tableOf_any (S : Nat → Prop) (d : Nat) (a : Option Addr) (cap count : Nat) (es : List Ex) (w : World) (hk : KidsAt w S (d + 1) (.slice a es.length cap) es) (hbk : Ex.bulkL es ≤ 2000000) (hcount : count ≤ 2000000) (hkind : ∀ x ∈ Ex.toldL (-1) 0 es, 0 ≤ kidsOf x.2.kind) :
    Calls Try.prog 63 #[.slice a es.length cap, .int .i64 (count : Int)] w fun r w' => ∃ cv tv rs, r = .returned (.agg #[cv, tv]) ∧ TabAt w' w.heap.size cv tv rs (numsL 0 es) ∧ rs.map Prod.fst = Ex.flatL 0 es ∧ Below w.heap.size w w' := by
  have hcnt : Ex.countL es ≤ 2000000 := Nat.le_trans (Ex.countL_bulk es) hbk
  obtain ⟨i0, hi, hz0, hz1, hz2⟩ := info_parts infoCode
  obtain ⟨j0, hj, hy0, hy1, hy2⟩ := info_parts infoCdI
  have hmk := makeCodes count (by omega)
  have hB4 : Below w.heap.size w ((((w.alloc zeroT).alloc (roomC count)).alloc (tabT w count)).alloc (.cells #[.slice a es.length cap] 51)) := ((((Below.refl _ w).alloc (Nat.le_refl _) _).alloc (by simp) _).alloc (by simp; omega) _).alloc (by simp; omega) _
  have hbox : ((((w.alloc zeroT).alloc (roomC count)).alloc (tabT w count)).alloc (.cells #[.slice a es.length cap] 51)).heap[w.heap.size + 1 + 1 + 1]? = some (.cells #[.slice a es.length cap] 51 (0, 0)) := by
    have := (MapKept.heap_alloc (((w.alloc zeroT).alloc (roomC count)).alloc (tabT w count)) (.cells #[.slice a es.length cap] 51)).1
    simpa using this
  have hV : ((((w.alloc zeroT).alloc (roomC count)).alloc (tabT w count)).alloc (.cells #[.slice a es.length cap] 51)).heap[w.heap.size + 1 + 1]? = some (tabT w count) := by
    rw [Below.heap_alloc _ _ _ (by simp)]
    have := (MapKept.heap_alloc ((w.alloc zeroT).alloc (roomC count)) (tabT w count)).1
    simpa using this
  have hM : ((((w.alloc zeroT).alloc (roomC count)).alloc (tabT w count)).alloc (.cells #[.slice a es.length cap] 51)).heap[w.heap.size + 1]? = some (roomC count) := by
    rw [Below.heap_alloc _ _ _ (by simp), Below.heap_alloc _ _ _ (by simp)]
    have := (MapKept.heap_alloc (w.alloc zeroT) (roomC count)).1
    simpa using this
  have hR : ((((w.alloc zeroT).alloc (roomC count)).alloc (tabT w count)).alloc (.cells #[.slice a es.length cap] 51)).heap[w.heap.size]? = some zeroT := by
    rw [Below.heap_alloc _ _ _ (by simp; omega), Below.heap_alloc _ _ _ (by simp; omega), Below.heap_alloc _ _ _ (by simp)]
    exact (MapKept.heap_alloc w zeroT).1
  have hk4 : KidsAt ((((w.alloc zeroT).alloc (roomC count)).alloc (tabT w count)).alloc (.cells #[.slice a es.length cap] 51)) (fun b => b < w.heap.size) (d + 1) (.slice a es.length cap) es :=
    hk.kept (fun b _ hlt => hB4.block b hlt) hB4.size (fun b _ hlt => hlt)
  have hS4 : ((((w.alloc zeroT).alloc (roomC count)).alloc (tabT w count)).alloc (.cells #[.slice a es.length cap] 51)).heap.size = w.heap.size + 4 := by simp
  have hseq := codesOf1_any ((((w.alloc zeroT).alloc (roomC count)).alloc (tabT w count)).alloc (.cells #[.slice a es.length cap] 51)) w.heap.size d (w.heap.size + 1 + 1 + 1) a cap es (by omega) hbox hk4 hcnt
  have hc0 : ((((w.alloc zeroT).alloc (roomC count)).alloc (tabT w count)).alloc (.cells #[.slice a es.length cap] 51)).ownsRow w.heap.size 173 4 (.slice (some ⟨w.heap.size + 1, 0, none⟩) 0 count) 0 [] :=
    ⟨rfl, .inr ⟨w.heap.size + 1, count, _, rfl, by omega, hM, Nat.zero_le _, by unfold maxLen; omega, size_madeCells _ _, rfl⟩⟩
  have hI0 : TabI w [] ((((w.alloc zeroT).alloc (roomC count)).alloc (tabT w count)).alloc (.cells #[.slice a es.length cap] 51)) :=
    ⟨_, _, [], hB4, hR, hV, ⟨hc0, World.ownsRow_nil _ _ _ _, fun r hr => (by simp at hr), by simp⟩, rfl⟩
  have hok := told_ok (d + 1) _ es (-1) 0 hk
  have HH := (show Hid (_ ∧ _ ∧ _ ∧ _ ∧ _) from ⟨hseq, hI0, hS4, hok, hkind⟩)
  clear hB4 hbox hV hM hR hk4 hS4 hseq hI0 hk hok hc0 hkind
  refine (callsIn_wide (n := 5)).1 ?_
  refine callsIn_of_wp_marks Try.func63 rfl trivial ?_ rfl
  simp only [Try.ntmps63, List.size_toArray, List.length_cons, List.length_nil, Nat.reduceAdd, Nat.reduceSub, Array.replicate_succ, Array.replicate_zero, List.push_toArray, List.append_toArray, List.nil_append, List.cons_append]
  gi_wp2_with fail
  refine ⟨trivial, (codesOf_any _ _ _ _ _).mono ?_⟩
  rintro e w' ⟨rfl, rfl⟩
  clear hmk
  gi_wp2_with fail
  refine range_tell (gf := 129) (lb := #[.pointer (some ⟨w.heap.size + 1 + 1 + 1, 0, none⟩)]) (B := w.heap.size) (O := OT) (encs := encT) (xs := Ex.toldL (-1) 0 es) (by simp [go_sem]) (enters_of Try.func129 (by kernel_rfl) rfl)
    HH.out.1 (fun _ => rfl) (by simp; omega) (TabI w) (TabI.stable w) HH.out.2.1 (fun _ x => TabA w a es.length cap count x) (fun _ x a' => TabA.stable w a es.length cap count x a') ?assign ?body ?done
  case assign =>
    rintro l m pre x W K hx hI hK
    have hsz : w.heap.size ≤ W.heap.size := by obtain ⟨_, _, _, hb, _⟩ := hI; exact hb.size
    have hX : (W.alloc (.cells #[.int .i64 x.2.kind, .int .i64 x.2.n, .string x.2.text, .slice none 0 0] 173)).heap[W.heap.size]? = some (.cells #[.int .i64 x.2.kind, .int .i64 x.2.n, .string x.2.text, .slice none 0 0] 173 (0, 0)) := (MapKept.heap_alloc W _).1
    have hI1 := TabI.stable w _ _ _ hI (StepT.alloc OT W (.cells #[.int .i64 x.2.kind, .int .i64 x.2.n, .string x.2.text, .slice none 0 0] 173) hsz)
    have HK := (show Hid (_ ∧ _ ∧ _ ∧ _ ∧ _) from ⟨hK, hX, hI1, hI, hsz⟩)
    clear hK hX hI1 hI hsz HH
    dsimp only [encT]
    simp only [Array.zip, List.zipWith_toArray]
    gi_wp2
    refine HK.out.1 _ _ (KeepT.alloc OT W _ HK.out.2.2.2.2) HK.out.2.2.1 ⟨W.heap.size, HK.out.2.1, HK.out.2.2.2.2, ?_, rfl⟩
    obtain ⟨cv, tv, rs, hb, h0, h1, ht, he⟩ := HK.out.2.2.2.1
    exact ⟨cv, tv, (Below.heap_alloc _ _ _ (Array.getElem?_eq_some_iff.1 h1).1).trans h1, fun e => by have := own_lt ht.codes _ e; omega⟩
  case body =>
    rintro l m pre x a' W hx hI hA
    obtain ⟨cv, tv, rs, hb, h0, h1, ht, he⟩ := hI
    obtain ⟨X, hX, hXl, ⟨cv', tv', h1', hne⟩, rfl⟩ := hA
    rw [h1] at h1'
    obtain ⟨rfl, rfl⟩ : cv = cv' ∧ tv = tv' := by simpa using h1'
    clear h1'
    have hlen : rs.length = pre.length := by rw [← List.length_map (f := Prod.fst), he, tellAll_len]
    have hpl : pre.length + 1 ≤ 2000000 := by
      have := hx.length_le
      rw [List.length_append, Ex.toldL_len] at this
      simp at this
      omega
    have hab : x.1 = -1 ∨ (0 ≤ x.1 ∧ x.1 < pre.length) := by
      have hg : (Ex.toldL (-1) 0 es)[pre.length]? = some x := by
        obtain ⟨t, ht⟩ := hx
        rw [← ht]
        simp
      have := Ex.toldL_ab es (-1) 0 _ _ hg
      simpa using this
    obtain ⟨la, lc, rfl⟩ := own_form ht.codes
    obtain ⟨ka, kc, rfl⟩ := own_form ht.tops
    have hsz := hb.size
    have hVl := (Array.getElem?_eq_some_iff.1 h1).1
    have hXlt := (Array.getElem?_eq_some_iff.1 hX).1
    have y0 : W.cell? ⟨w.heap.size + 1 + 1, 0, none⟩ = some (.slice la rs.length lc) := by rw [cell_of_block h1]; rfl
    have x2 : W.cell? ⟨X, 2, none⟩ = some (.string x.2.text) := by rw [cell_of_block hX]; rfl
    have HB := (show Hid (_ ∧ _ ∧ _ ∧ _ ∧ _ ∧ _ ∧ _) from ⟨hb, h0, h1, ht, he, hX, hne⟩)
    have htx : x.2.text.size ≤ 2000000 := Nat.le_trans (toldL_bulk es (-1) 0 x (by obtain ⟨t, ht⟩ := hx; rw [← ht]; simp)) hbk
    have hkn : 0 ≤ kidsOf x.2.kind := HH.out.2.2.2.2 x (by obtain ⟨t, ht⟩ := hx; rw [← ht]; simp)
    have hcd : CdOk x.2.code := HH.out.2.2.2.1 x (by obtain ⟨t, ht⟩ := hx; rw [← ht]; simp)
    have hpr : rs.length + 1 ≤ 2000000 := by omega
    have HX := (show Hid (_ ∧ _ ∧ _ ∧ _) from ⟨hx, hab, hcd, hlen⟩)
    clear hb h0 h1 ht he hX hne hx hab HH hcd hlen hpl
    gi_wp2_with fail
    refine ⟨trivial, fun h => (by cases h), (CallsIn.inRound l (callsIn_wide.2 (strClone_any _ _ (by omega)))).mono ?_⟩
    rintro e W1 ⟨rfl, hb1⟩
    have gX : W1.heap[X]? = some (.cells #[.int .i64 x.2.kind, .int .i64 x.2.n, .string x.2.text, .slice none 0 0] 173 (0, 0)) := (hb1.block _ hXlt).trans HB.out.2.2.2.2.2.1
    have e2 : W1.cell? ⟨X, 2, none⟩ = some (.string x.2.text) := by rw [cell_of_block gX]; rfl
    have ef : W1.frozen? ⟨X, 2, none⟩ = false := unfrozen_of_block gX 2
    have hS1 : Stage w.heap.size W W1 (.slice la rs.length lc) (.slice ka (tellAll pre).2.length kc) rs (tellAll pre).2 :=
      (Stage.mk HB.out.2.2.1 HB.out.2.1 HB.out.2.2.2.1 ⟨KeepT.refl _ _ _, rfl⟩).below hb1
    have hS2 := hS1.code gX hXl HB.out.2.2.2.2.2.2 2 (.string x.2.text)
    have gX2 : (W1.setCell ⟨X, 2, none⟩ (.string x.2.text)).heap[X]? = some (.cells #[.int .i64 x.2.kind, .int .i64 x.2.n, .string x.2.text, .slice none 0 0] 173 (0, 0)) := (block_setCell gX (.string x.2.text)).trans rfl
    have H2 := (show Hid (_ ∧ _ ∧ _) from ⟨hS2, gX2, Nat.le_trans hsz hb1.size⟩)
    have htl : (tellAll pre).2.length ≤ 2000000 := by have := tellAll_tops pre; have := HX.out.2.2.2; omega
    obtain ⟨kn, hkn1⟩ : ∃ kn : Nat, kidsOf x.2.kind = kn := ⟨(kidsOf x.2.kind).toNat, by omega⟩
    have hkn3 : kn ≤ 3 := by have := kidsOf_le x.2.kind; omega
    have HKN := (show Hid (_ ∧ True) from ⟨hkn1, trivial⟩)
    clear hb1 gX hS1 hS2 gX2 hkn1 hkn
    gi_wp2_with fail
    have hsz2 : (W1.setCell ⟨X, 2, none⟩ (.string x.2.text)).heap.size = W1.heap.size := by simp
    generalize W1.setCell ⟨X, 2, none⟩ (.string x.2.text) = W2 at *
    have y0 : W2.cell? ⟨X, 0, none⟩ = some (.int .i64 x.2.kind) := by have := cell_of_block H2.out.2.1 0; exact this.trans rfl
    have y3 : W2.cell? ⟨X, 3, none⟩ = some (.slice none 0 0) := by have := cell_of_block H2.out.2.1 3; exact this.trans rfl
    have hmo : Try.prog.follows .mixedOrders = true := by kernel_rfl
    rename_i K7 hK7
    have main : ∀ (ga : Option Addr) (gc : Nat) (w5 : World), w5.ownsRow W2.drew.heap.size 3 1 (.slice ga 0 gc) 0 [] → Below W2.drew.heap.size W2.drew w5 → K7 { tmps := #[.slice a es.length cap, .int .i64 (count : Int), undef, undef, .pointer (some ⟨w.heap.size, 0, none⟩), .pointer (some ⟨w.heap.size + 1 + 1, 0, none⟩), .int .i64 x.1, .pointer (some ⟨X, 0, none⟩), .int .i64 (rs.length : Int), .int .i64 (count : Int), .slice (some ⟨w.heap.size + 1, 0, none⟩) 0 count, .agg #[.slice (some ⟨w.heap.size + 1, 0, none⟩) 0 count, .slice none 0 0], .slice a es.length cap, .func (.func 129) #[] #[.pointer (some ⟨w.heap.size + 1 + 1 + 1, 0, none⟩)], .int .i64 x.1, .agg #[.int .i64 x.2.kind, .int .i64 x.2.n, .string x.2.text, .slice none 0 0], .pointer (some ⟨w.heap.size + 1 + 1, 0, none⟩), .slice la rs.length lc, .int .i64 (rs.length : Int), .pointer (some ⟨X, 2, none⟩), .string x.2.text, .string x.2.text, .pointer (some ⟨X, 2, none⟩), .pointer (some ⟨X, 3, none⟩), .slice none 0 0, .pointer (some ⟨X, 0, none⟩), .int .i64 x.2.kind, .int .i64 (kidsOf x.2.kind), .slice ga 0 gc, .pointer (some ⟨X, 3, none⟩), undef, undef, undef, undef, undef, undef, undef, undef, undef, undef, undef, undef, undef, undef, undef, undef, undef, undef, undef, undef, undef, undef, undef, undef, undef, undef, undef, undef, undef], defers := [] } (w5.setCell ⟨X, 3, none⟩ (.slice ga 0 gc)) := by
      as_aux_lemma =>
        intro ga gc w5 hrow5 hb5
        have hS5 := H2.out.1.drew.below hb5
        have hX2 := (Array.getElem?_eq_some_iff.1 H2.out.2.1).1
        have gX5 : w5.heap[X]? = some (.cells #[.int .i64 x.2.kind, .int .i64 x.2.n, .string x.2.text, .slice none 0 0] 173 (0, 0)) := (hb5.block X (by simpa using hX2)).trans H2.out.2.1
        have hS6 := hS5.code gX5 hXl HB.out.2.2.2.2.2.2 3 (.slice ga 0 gc)
        have gX6 : (w5.setCell ⟨X, 3, none⟩ (.slice ga 0 gc)).heap[X]? = some (.cells #[.int .i64 x.2.kind, .int .i64 x.2.n, .string x.2.text, .slice ga 0 gc] 173 (0, 0)) := (block_setCell gX5 (.slice ga 0 gc)).trans rfl
        have hrow6 : (w5.setCell ⟨X, 3, none⟩ (.slice ga 0 gc)).ownsRow W2.drew.heap.size 3 1 (.slice ga 0 gc) 0 [] := own_moved hrow5 (fun q hq => Below.heap_setCell _ _ _ _ (fun e => by
          have e' : q = X := e
          obtain ⟨_, cs, hcs⟩ := own_type hrow5 q hq
          rw [e', gX5] at hcs
          simp at hcs))
        have hkt : AptV (.slice ka (tellAll pre).2.length kc) (.slice ga 0 gc) := by
          cases hb : (Value.slice ka (tellAll pre).2.length kc).ownBlock with
          | none => exact .inl hb
          | some q =>
            refine .inr fun e => ?_
            have h4 := own_lt H2.out.1.tab.tops q hb
            have h5 := (own_type hrow5 q (e.symm.trans hb)).1
            simp at h5
            omega
        have hkr : ∀ r ∈ rs, AptV r.2 (.slice ga 0 gc) := fun r hr => by
          cases hb : r.2.ownBlock with
          | none => exact .inl hb
          | some q =>
            refine .inr fun e => ?_
            have h4 := own_lt (H2.out.1.tab.kids r hr).1 q hb
            have h5 := (own_type hrow5 q (e.symm.trans hb)).1
            simp at h5
            omega
        have hsz5 := hb5.size
        have hW2s : W2.drew.heap.size = W2.heap.size := by simp
        generalize w5.setCell ⟨X, 3, none⟩ (.slice ga 0 gc) = W6 at *
        have g1 := hS6.at1
        have hneV : ¬ w.heap.size + 1 + 1 = X := fun e => by rw [← e, g1] at gX6; simp at gX6
        have hneV' : ¬ X = w.heap.size + 1 + 1 := fun e => hneV e.symm
        have c10 : W6.cell? ⟨w.heap.size + 1 + 1, 0, none⟩ = some (.slice la rs.length lc) := by rw [cell_of_block g1]; rfl
        have c11 : W6.cell? ⟨w.heap.size + 1 + 1, 1, none⟩ = some (.slice ka (tellAll pre).2.length kc) := by rw [cell_of_block g1]; rfl
        have f10 : W6.frozen? ⟨w.heap.size + 1 + 1, 0, none⟩ = false := unfrozen_of_block g1 0
        have f11 : W6.frozen? ⟨w.heap.size + 1 + 1, 1, none⟩ = false := unfrozen_of_block g1 1
        have e0 : W6.cell? ⟨X, 0, none⟩ = some (.int .i64 x.2.kind) := by rw [cell_of_block gX6]; rfl
        have e1 : W6.cell? ⟨X, 1, none⟩ = some (.int .i64 x.2.n) := by rw [cell_of_block gX6]; rfl
        have e2 : W6.cell? ⟨X, 2, none⟩ = some (.string x.2.text) := by rw [cell_of_block gX6]; rfl
        have e3 : W6.cell? ⟨X, 3, none⟩ = some (.slice ga 0 gc) := by rw [cell_of_block gX6]; rfl
        have hW6 : w.heap.size ≤ W6.heap.size := by have := (Array.getElem?_eq_some_iff.1 g1).1; omega
        have hS6a := hS6.alloc (.cells #[.int .i64 x.2.kind, .int .i64 x.2.n, .string x.2.text, .slice ga 0 gc] 173)
        have hN6a : ∀ j v, (cdCells (x.2.code, .slice ga 0 gc))[j]? = some v → (W6.alloc (.cells #[.int .i64 x.2.kind, .int .i64 x.2.n, .string x.2.text, .slice ga 0 gc] 173)).cell? ((⟨W6.heap.size, 0, none⟩ : Addr).add j) = some v := fun j v hj => cell_four_new W6 (.int .i64 x.2.kind) (.int .i64 x.2.n) (.string x.2.text) (.slice ga 0 gc) 173 j v hj
        have H1 := (show Hid (_ ∧ _) from ⟨hS6a, hN6a⟩)
        have HKV := (show Hid (_ ∧ _ ∧ _) from ⟨own_mono (hrow6.alloc (.cells #[.int .i64 x.2.kind, .int .i64 x.2.n, .string x.2.text, .slice ga 0 gc] 173)) (by rw [hW2s]; have := H2.out.2.2; omega : w.heap.size ≤ W2.drew.heap.size), hkt, hkr⟩)
        clear hS5 gX5 hS6 gX6 hrow6 hkt hkr hrow5 hb5 g1 hS6a hN6a hsz5 hX2 hmo y0 y3 x2 hW2s hsz2 hkn3 HKN H2
        refine hK7 _ _ ?_
        clear hK7
        by_cases hneg : x.1 < 0
        · gi_wp2_with (first
            | (gi_at_builtin; refine listIn_append_at rfl _ _ 32 rfl w.heap.size 173 i0 _ 4 56 Try.underlying32 hi hz0 hz1 hz2 rfl (by decide) _ rs.length _ rfl H1.out.1.tab.codes ⟨W6.heap.size, 0, none⟩ 1 1 (cdCells (x.2.code, .slice ga 0 gc)) rfl rfl H1.out.2 (fourK _ _ _ _) (by unfold maxLen; omega) (by omega) (by simp; omega) ?_; intro v3 w3 hown3 hgrow3 hat3; obtain ⟨g3, lc3, rfl⟩ := ownsRow_succ hown3; have F3 := H1.out.1.pushK hown3 hgrow3 HX.out.2.2.1 rfl HKV.out.1 HKV.out.2.1 HKV.out.2.2; have d0 : w3.cell? ⟨w.heap.size + 1 + 1, 0, none⟩ = some (.slice la rs.length lc) := (by rw [cell_of_block F3.1]; rfl); have d1 : w3.cell? ⟨w.heap.size + 1 + 1, 1, none⟩ = some (.slice ka (tellAll pre).2.length kc) := (by rw [cell_of_block F3.1]; rfl); have df0 : w3.frozen? ⟨w.heap.size + 1 + 1, 0, none⟩ = false := unfrozen_of_block F3.1 0; have df1 : w3.frozen? ⟨w.heap.size + 1 + 1, 1, none⟩ = false := unfrozen_of_block F3.1 1; have hs3 := (Array.getElem?_eq_some_iff.1 F3.1).1; have F6 := F3.2.alloc (.cells #[.int .i64 (rs.length : Int)] 3); have N6 := cell_one_new (w3.setCell ⟨w.heap.size + 1 + 1, 0, none⟩ (.slice (some ⟨g3, 0, none⟩) (rs.length + 1) lc3)) (.int .i64 (rs.length : Int)) 3; have H3 := (show Hid (_ ∧ _) from ⟨F6, N6⟩); clear hown3 hgrow3 hat3 F3 F6 N6)
            | (gi_at_builtin; refine listIn_append_at rfl _ _ 23 rfl w.heap.size 3 j0 (.int .i64 0) 1 8 Try.underlying23 hj hy0 hy1 hy2 rfl (by decide) _ (tellAll pre).2.length _ rfl H3.out.1.tab.tops ⟨w3.heap.size, 0, none⟩ 1 1 [.int .i64 (rs.length : Int)] rfl rfl (by simpa using H3.out.2) (int_one _) (by unfold maxLen; omega) (by omega) (by simp; omega) ?_; intro v7 w7 hown7 hgrow7 hat7; obtain ⟨g7, lc7, rfl⟩ := ownsRow_succ hown7; have F7 := H3.out.1.top hown7 hgrow7 hat7; have k1 : w7.cell? ⟨w.heap.size + 1 + 1, 1, none⟩ = some (.slice ka (tellAll pre).2.length kc) := (by rw [cell_of_block F7.1]; rfl); have kf1 : w7.frozen? ⟨w.heap.size + 1 + 1, 1, none⟩ = false := unfrozen_of_block F7.1 1; have H7 := (show Hid (_ ∧ _) from ⟨F7.2, trivial⟩); clear hown7 hgrow7 hat7 F7))
          refine H7.out.1.fin HB.out.1 ?_
          rw [tellAll_snoc]
          unfold tellStep
          rw [if_pos hneg, ← HB.out.2.2.2.2.1]
          simp
        · obtain ⟨p, hp, hpr'⟩ : ∃ p : Nat, x.1 = p ∧ p < rs.length := by
            have := HX.out.2.1
            have := HX.out.2.2.2
            exact ⟨x.1.toNat, by omega, by omega⟩
          gi_wp2_with (gi_at_builtin; refine listIn_append_at rfl _ _ 32 rfl w.heap.size 173 i0 _ 4 56 Try.underlying32 hi hz0 hz1 hz2 rfl (by decide) _ rs.length _ rfl H1.out.1.tab.codes ⟨W6.heap.size, 0, none⟩ 1 1 (cdCells (x.2.code, .slice ga 0 gc)) rfl rfl H1.out.2 (fourK _ _ _ _) (by unfold maxLen; omega) (by omega) (by simp; omega) ?_; intro v3 w3 hown3 hgrow3 hat3; obtain ⟨g3, lc3, rfl⟩ := ownsRow_succ hown3; have F3 := H1.out.1.pushK hown3 hgrow3 HX.out.2.2.1 rfl HKV.out.1 HKV.out.2.1 HKV.out.2.2; have d0 : w3.cell? ⟨w.heap.size + 1 + 1, 0, none⟩ = some (.slice la rs.length lc) := (by rw [cell_of_block F3.1]; rfl); have d1 : w3.cell? ⟨w.heap.size + 1 + 1, 1, none⟩ = some (.slice ka (tellAll pre).2.length kc) := (by rw [cell_of_block F3.1]; rfl); have df0 : w3.frozen? ⟨w.heap.size + 1 + 1, 0, none⟩ = false := unfrozen_of_block F3.1 0; have df1 : w3.frozen? ⟨w.heap.size + 1 + 1, 1, none⟩ = false := unfrozen_of_block F3.1 1; have hs3 := (Array.getElem?_eq_some_iff.1 F3.1).1; have H3 := (show Hid (_ ∧ True) from ⟨F3.2, trivial⟩); clear hown3 hgrow3 hat3 F3)
          generalize w3.setCell ⟨w.heap.size + 1 + 1, 0, none⟩ (.slice (some ⟨g3, 0, none⟩) (rs.length + 1) lc3) = W5 at *
          obtain ⟨A, D, c, u, hAD, hAp⟩ : ∃ A D c u, rs ++ [(x.2.code, Value.slice ga 0 gc)] = A ++ (c, u) :: D ∧ A.length = p := by
            have hlt : p < (rs ++ [(x.2.code, Value.slice ga 0 gc)]).length := by simp; omega
            refine ⟨(rs ++ [(x.2.code, Value.slice ga 0 gc)]).take p, (rs ++ [(x.2.code, Value.slice ga 0 gc)]).drop (p + 1), ((rs ++ [(x.2.code, Value.slice ga 0 gc)])[p]).1, ((rs ++ [(x.2.code, Value.slice ga 0 gc)])[p]).2, ?_, by rw [List.length_take]; omega⟩
            rw [← List.drop_eq_getElem_cons hlt, List.take_append_drop]
          have hS5 := H3.out.1
          rw [hAD] at hS5
          have hnl : rs.length + 1 = (A ++ (c, u) :: D).length := by rw [← hAD]; simp
          have hkl : c.kids.length ≤ 2000000 := by
            have hm : (c, u) ∈ rs ++ [(x.2.code, Value.slice ga 0 gc)] := by rw [hAD]; simp
            rw [List.mem_append] at hm
            rcases hm with hm | hm
            · have := tellAll_kids pre c (by rw [← HB.out.2.2.2.2.1]; exact List.mem_map.2 ⟨_, hm, rfl⟩)
              have := HX.out.2.2.2
              omega
            · simp at hm; rw [hm.1]; simp [Ex.code]
          have hform := own_form (hS5.tab.kids (c, u) (by simp)).1
          dsimp only at hform
          obtain ⟨ua, uc, rfl⟩ := hform
          have ck : W5.cell? ⟨g3, p * 4 + 3, none⟩ = some (.slice ua c.kids.length uc) := by
            have := hS5.tab.codes.cells (g := g3) rfl (A.length * 4 + 3) _ (mid_at A D c _)
            rw [addr_addI, Nat.zero_add, hAp] at this
            exact this
          have fk : W5.frozen? ⟨g3, p * 4 + 3, none⟩ = false := by
            obtain ⟨_, cs, hcs⟩ := own_type hS5.tab.codes g3 rfl
            exact unfrozen_of_block hcs _
          have c5 : W5.cell? ⟨w.heap.size + 1 + 1, 0, none⟩ = some (.slice (some ⟨g3, 0, none⟩) (rs.length + 1) lc3) := by rw [cell_of_block hS5.at1]; rfl
          have hg5 : g3 < W5.heap.size := own_lt hS5.tab.codes g3 rfl
          have hV5 : w.heap.size + 1 + 1 < W5.heap.size := (Array.getElem?_eq_some_iff.1 hS5.at1).1
          have hS6 := (hS5.alloc (.cells #[.int .i64 (rs.length : Int)] 3)).drew
          have hN6 : ∀ j u, [Value.int .i64 (rs.length : Int)][j]? = some u → (W5.alloc (.cells #[.int .i64 (rs.length : Int)] 3)).drew.cell? ((⟨W5.heap.size, 0, none⟩ : Addr).add j) = some u := cell_one_new W5 (.int .i64 (rs.length : Int)) 3
          have hmo : Try.prog.follows .mixedOrders = true := by kernel_rfl
          have hp0 : (0 : Int) ≤ (p : Int) := by omega
          have hp1 : (p : Int) < (rs.length : Int) + 1 := by omega
          have H5 := (show Hid (_ ∧ _ ∧ _ ∧ _ ∧ _) from ⟨hS6, hN6, hnl, hAD, hAp⟩)
          have hneg' : ¬ (p : Int) < 0 := by omega
          clear hS5 hS6 hN6 hnl hAD hAp d0 d1 df0 df1 hs3 c10 c11 f10 f11 e0 e1 e2 e3 hneV hneV' hneg H3 H1
          refine region_round hmo (by kernel_rfl) ?_
          repeat' (first
            | exact AllReadyIn.nil
            | (refine wpAnyIn_done (by decide +kernel) ?_ _)
            | (refine wpAnyIn_take (i := 0) (v := ?_) rfl rfl (by kernel_rfl) (by decide +kernel) (by decide +kernel) (fun _ _ _ h => h) ⟨Or.inl ⟨by rfl, ?_⟩, fun _ => rfl⟩ ?_; rotate_left 1; focus (intro w; go_simp; try with_reducible rfl))
            | (refine wpAnyIn_take (i := 2) (v := ?_) rfl rfl (by kernel_rfl) (by decide +kernel) (by decide +kernel) (fun _ _ _ h => h) ⟨Or.inl ⟨by rfl, ?_⟩, fun _ => rfl⟩ ?_; rotate_left 1; focus (intro w; go_simp; try with_reducible rfl))
            | (refine wpAnyIn_take (i := 3) (v := ?_) rfl rfl (by kernel_rfl) (by decide +kernel) (by decide +kernel) (fun _ _ _ h => h) ⟨Or.inl ⟨by rfl, ?_⟩, fun _ => rfl⟩ ?_; rotate_left 1; focus (intro w; go_simp; try with_reducible rfl))
            | (refine wpAnyIn_take (i := 5) (v := ?_) rfl rfl (by kernel_rfl) (by decide +kernel) (by decide +kernel) (fun _ _ _ h => h) ⟨Or.inl ⟨by rfl, ?_⟩, fun _ => rfl⟩ ?_; rotate_left 1; focus (intro w; go_simp; try with_reducible rfl))
            | (refine wpAnyIn_take (i := 9) (v := ?_) rfl rfl (by kernel_rfl) (by decide +kernel) (by decide +kernel) (fun _ _ _ h => h) ⟨Or.inl ⟨by rfl, ?_⟩, fun _ => rfl⟩ ?_; rotate_left 1; focus (intro w; go_simp; try with_reducible rfl))
            | (refine wpAnyIn_take (i := 6) (v := ?_) rfl rfl (by kernel_rfl) (by decide +kernel) (by decide +kernel) (fun _ _ _ h => h) ⟨Or.inl ⟨by rfl, ?_⟩, fun _ => rfl⟩ ?_; rotate_left 1; focus (intro w; go_simp; try with_reducible rfl))
            | (refine wpAnyIn_take (i := 7) (v := ?_) rfl rfl (by kernel_rfl) (by decide +kernel) (by decide +kernel) (fun _ _ _ h => h) ⟨Or.inl ⟨by rfl, ?_⟩, fun _ => rfl⟩ ?_; rotate_left 1; focus (intro w; go_simp; try with_reducible rfl))
            | (refine wpAnyIn_ready (rs := [1, 4, 10]) (by decide +kernel) (by simp) ?_)
            | (refine wpAnyIn_ready (rs := [4, 10]) (by decide +kernel) (by simp) ?_)
            | (refine wpAnyIn_ready (rs := [1, 8, 10]) (by decide +kernel) (by simp) ?_)
            | (refine wpAnyIn_ready (rs := [8, 10]) (by decide +kernel) (by simp) ?_)
            | (refine wpAnyIn_ready (rs := [1, 10]) (by decide +kernel) (by simp) ?_)
            | (refine wpAnyIn_ready (rs := [10]) (by decide +kernel) (by simp) ?_)
            | (refine wpAnyIn_ready (rs := [1, 4]) (by decide +kernel) (by simp) ?_)
            | (refine wpAnyIn_ready (rs := [4]) (by decide +kernel) (by simp) ?_)
            | (refine wpAnyIn_ready (rs := [1, 8]) (by decide +kernel) (by simp) ?_)
            | (refine wpAnyIn_ready (rs := [8]) (by decide +kernel) (by simp) ?_)
            | (refine wpAnyIn_ready (rs := [1, 11]) (by decide +kernel) (by simp) ?_)
            | (refine wpAnyIn_ready (rs := [11]) (by decide +kernel) (by simp) ?_)
            | (refine wpAnyIn_ready (rs := [1]) (by decide +kernel) (by simp) ?_)
            | (refine wpAnyIn_ready (rs := [12]) (by decide +kernel) (by simp) ?_)
            | (refine wpAnyIn_ready (rs := [13]) (by decide +kernel) (by simp) ?_)
            | (refine wpAnyIn_ready (rs := [14]) (by decide +kernel) (by simp) ?_)
            | (refine AllReadyIn.cons rfl (fun K hK => ?_) ?_)
            | (rw [if_pos (by rfl)]; refine opIn_append_at _ _ 23 rfl w.heap.size 3 j0 (.int .i64 0) 1 8 Try.underlying23 hj hy0 hy1 hy2 rfl (by decide) _ c.kids.length _ rfl (H5.out.1.tab.kids (c, .slice ua c.kids.length uc) (by simp)).1 ⟨W5.heap.size, 0, none⟩ 1 1 [.int .i64 (rs.length : Int)] rfl rfl H5.out.2.1 (int_one _) (by unfold maxLen; omega) (by omega) (by simp; omega) ?_; intro v7 w7 hown7 hgrow7 hat7; obtain ⟨g7, lc7, rfl⟩ := ownsRow_succ hown7; have F7 := H5.out.1.kid H5.out.2.2.1 hown7 hgrow7 hat7; rw [H5.out.2.2.2.2] at F7; have m0 : w7.cell? ⟨w.heap.size + 1 + 1, 0, none⟩ = some (.slice (some ⟨g3, 0, none⟩) (rs.length + 1) lc3) := (by rw [cell_of_block F7.1]; rfl); have mk : w7.cell? ⟨g3, p * 4 + 3, none⟩ = some (.slice ua c.kids.length uc) := (World.cell?_of_block (F7.2.1.trans (Below.heap_alloc W5 _ _ hg5))).trans ck; have mf : w7.frozen? ⟨g3, p * 4 + 3, none⟩ = false := (World.frozen?_of_block (F7.2.1.trans (Below.heap_alloc W5 _ _ hg5))).trans fk; have H7 := (show Hid (_ ∧ True) from ⟨F7.2.2, trivial⟩); clear hown7 hgrow7 hat7 F7; refine hK _ _ ?_; clear hK K)
            | (go_simp; refine hK _ _ ?_; clear hK K))
          all_goals
            refine H7.out.1.fin HB.out.1 ?_
            exact kid_toldK hp H5.out.2.2.2.1 H5.out.2.2.2.2 HB.out.2.2.2.2.1
    refine region_round hmo (by kernel_rfl) ?_
    repeat' (first
      | exact AllReadyIn.nil
      | (refine wpAnyIn_done (by decide +kernel) ?_ _)
      | (refine wpAnyIn_take (i := 0) (v := ?_) rfl rfl (by kernel_rfl) (by decide +kernel) (by decide +kernel) (fun _ _ _ h => h) ⟨Or.inl ⟨by rfl, ?_⟩, fun _ => rfl⟩ ?_; rotate_left 1; focus (intro w; go_simp; try with_reducible rfl))
      | (refine wpAnyIn_take (i := 2) (v := ?_) rfl rfl (by kernel_rfl) (by decide +kernel) (by decide +kernel) (fun _ _ _ h => h) ⟨Or.inl ⟨by rfl, ?_⟩, fun _ => rfl⟩ ?_; rotate_left 1; focus (intro w; go_simp; try with_reducible rfl))
      | (refine wpAnyIn_take (i := 6) (v := ?_) rfl rfl (by kernel_rfl) (by decide +kernel) (by decide +kernel) (fun _ _ _ h => h) ⟨Or.inl ⟨by rfl, ?_⟩, fun _ => rfl⟩ ?_; rotate_left 1; focus (intro w; go_simp; try with_reducible rfl))
      | (refine wpAnyIn_ready (rs := [1, 3]) (by decide +kernel) (by simp) ?_)
      | (refine wpAnyIn_ready (rs := [3]) (by decide +kernel) (by simp) ?_)
      | (refine wpAnyIn_ready (rs := [1, 4]) (by decide +kernel) (by simp) ?_)
      | (refine wpAnyIn_ready (rs := [4]) (by decide +kernel) (by simp) ?_)
      | (refine wpAnyIn_ready (rs := [1]) (by decide +kernel) (by simp) ?_)
      | (refine wpAnyIn_ready (rs := [5]) (by decide +kernel) (by simp) ?_)
      | (refine wpAnyIn_ready (rs := [6]) (by decide +kernel) (by simp) ?_)
      | (refine wpAnyIn_ready (rs := [7]) (by decide +kernel) (by simp) ?_)
      | (refine AllReadyIn.cons rfl (fun K hK => ?_) ?_)
      | (rw [if_pos (by rfl)]; refine opIn_call1 104 _ _ rfl entIn_kid (.int .i64 x.2.kind) rfl (fun r w' => r = .int .i64 (kidsOf x.2.kind) ∧ w' = W2.drew) ((kidCount_any _ _).mono (fun e w' h => ⟨_, h.1, rfl, h.2⟩)) ?_; rintro r w4 ⟨rfl, rfl⟩; refine hK _ _ ?_; clear hK K)
      | (rw [if_pos (by rfl)]; refine opIn_call2 110 _ _ _ rfl entIn_grow (.slice none 0 0) (.int .i64 (kidsOf x.2.kind)) rfl rfl (fun r w' => w'.ownsRow W2.drew.heap.size 3 1 r 0 [] ∧ Below W2.drew.heap.size W2.drew w') ((Calls.mono (by rw [HKN.out.1]; exact grow_nil kn hkn3 W2.drew) (fun e w' h => by obtain ⟨gv, h1, h2, h3⟩ := h; exact ⟨gv, h1, h2, h3⟩))) ?_; rintro r w5 ⟨hr5, hb5⟩; refine hK _ _ ?_; clear hK K; obtain ⟨ga, gc, rfl⟩ := own_form hr5; have O5 := (hb5.block X (by have := (Array.getElem?_eq_some_iff.1 H2.out.2.1).1; simpa using this)).trans H2.out.2.1; have q3 : w5.cell? ⟨X, 3, none⟩ = some (.slice none 0 0) := (by have := cell_of_block O5 3; exact this.trans rfl); have qf : w5.frozen? ⟨X, 3, none⟩ = false := unfrozen_of_block O5 3)
      | (go_simp; refine hK _ _ ?_; clear hK K))
    all_goals exact main ga gc w5 hr5 hb5
  case done =>
    rintro D W hD hI hK
    obtain ⟨cv, tv, rs, hb, h0, h1, ht, he⟩ := hI
    have y0 : W.cell? ⟨w.heap.size + 1 + 1, 0, none⟩ = some cv := by rw [cell_of_block h1]; rfl
    have y1 : W.cell? ⟨w.heap.size + 1 + 1, 1, none⟩ = some tv := by rw [cell_of_block h1]; rfl
    have z0 : W.cell? ⟨w.heap.size, 0, none⟩ = some (.slice none 0 0) := by rw [cell_of_block h0]; rfl
    have z1 : W.cell? ⟨w.heap.size, 1, none⟩ = some (.slice none 0 0) := by rw [cell_of_block h0]; rfl
    have f0 : W.frozen? ⟨w.heap.size, 0, none⟩ = false := unfrozen_of_block h0 0
    have f1 : W.frozen? ⟨w.heap.size, 1, none⟩ = false := unfrozen_of_block h0 1
    obtain ⟨la, lc, rfl⟩ := own_form ht.codes
    obtain ⟨ka, kc, rfl⟩ := own_form ht.tops
    have HD := (show Hid (_ ∧ _ ∧ _ ∧ _ ∧ _ ∧ _) from ⟨hb, h0, h1, ht, he, hK⟩)
    clear hb h0 h1 ht he hK HH
    gi_wp2
    have hD' : w.heap.size < D := by simp at hD; omega
    have hR := HD.out.2.1
    have hK2 : ((W.setCell ⟨w.heap.size, 0, none⟩ (.slice la rs.length lc)).setCell ⟨w.heap.size, 1, none⟩ (.slice ka (tellAll (Ex.toldL (-1) 0 es)).2.length kc)).heap[D]? = some (.deferred (some [])) := by
      rw [Below.heap_setCell _ _ _ _ (by show D ≠ w.heap.size; omega), Below.heap_setCell _ _ _ _ (by show D ≠ w.heap.size; omega)]
      exact HD.out.2.2.2.2.2
    have hcR : Value.ownBlock (.slice la rs.length lc) ≠ some w.heap.size := fun e => by
      obtain ⟨_, cs, hc⟩ := own_type HD.out.2.2.2.1.codes _ e
      rw [hR] at hc
      simp at hc
    have hT2 := (HD.out.2.2.2.1.other (off := 0) hR (by decide) hcR (.slice la rs.length lc)).other (off := 1) (block_setCell hR (.slice la rs.length lc)) (by decide) hcR (.slice ka (tellAll (Ex.toldL (-1) 0 es)).2.length kc)
    have hS2 := StepT.putObj OT (B := w.heap.size) (.deferred none) (by omega) hK2 rfl
    have hB2 := ((HD.out.1.setCell (p := ⟨w.heap.size, 0, none⟩) (Nat.le_refl _) (.slice la rs.length lc)).setCell (p := ⟨w.heap.size, 1, none⟩) (Nat.le_refl _) (.slice ka (tellAll (Ex.toldL (-1) 0 es)).2.length kc)).trans hS2.below
    have hbR := (World.putObj_heap_other (w := ((W.setCell ⟨w.heap.size, 0, none⟩ (.slice la rs.length lc)).setCell ⟨w.heap.size, 1, none⟩ (.slice ka (tellAll (Ex.toldL (-1) 0 es)).2.length kc))) (r := D) (o := .deferred none) (show w.heap.size ≠ D by omega)).trans (block_setCell (block_setCell hR (.slice la rs.length lc)) (.slice ka (tellAll (Ex.toldL (-1) 0 es)).2.length kc))
    refine ⟨by simp, .inl ⟨_, _, rfl, run_takeDeferred hK2, ?_⟩⟩
    refine ⟨_, results_cell_row rfl _ _ w.heap.size 34 _ (0, 0) _ rfl hbR Try.underlying34 rfl info2I, ?_⟩
    have hta := tellAll_told es
    refine ⟨_, _, rs, rfl, ?_, ?_, hB2⟩
    · have := hT2.step hS2
      rw [hta] at this ⊢
      exact this
    · rw [HD.out.2.2.2.2.1, hta]
end Go.Proofs.Ytdadppjncdkpiaa
