/-
  The specification's TableOf.
-/
import Derived.Test.YtdadppjncdkpiaaSpecFlat
import Derived.Test.YtdadppjncdkpiaaMS
namespace Go.Proofs.Ytdadppjncdkpiaa
open Go.RowKit Go.Joins

set_option maxRecDepth 100000

theorem l04Flat_any (w0 : World) (S : Nat → Prop) : ∀ d, FlatS w0 S d
  | 0 => fun _ _ _ _ _ _ _ ⟨_, _, _, _, _, h⟩ => h.elim
  | d + 1 => l04Flat_of w0 S d (l04Flat_any w0 S d)

theorem flat4_at : ∀ (rs : List (Cd × Value)) (i k : Nat) (r : Cd × Value), k < 4 → rs[i]? = some r → (rs.flatMap cdCells)[i * 4 + k]? = (cdCells r)[k]?
  | [], i, k, r, _, h => by simp at h
  | a :: rs, 0, k, r, hk, h => by
    obtain rfl : a = r := by simpa using h
    rw [List.flatMap_cons, List.getElem?_append_left (by simp [cdCells]; omega), Nat.zero_mul, Nat.zero_add]
  | a :: rs, i + 1, k, r, hk, h => by
    rw [List.flatMap_cons, List.getElem?_append_right (by simp [cdCells]; omega)]
    have := flat4_at rs i k r hk (by simpa using h)
    rw [← this]
    congr 1
    simp [cdCells]
    omega
theorem ty_PC {w : World} {b : Nat} {t : TypeId} {cs : Array Value} (h : w.heap[b]? = some (.cells cs t (0, 0))) (ht : t ≠ 173) : ¬ PC w b := by
  rintro ⟨cs', h'⟩
  rw [h] at h'
  simp at h'
  exact ht h'.2
theorem ty_PI {w : World} {b : Nat} {t : TypeId} {cs : Array Value} (h : w.heap[b]? = some (.cells cs t (0, 0))) (ht : t ≠ 3) : ¬ PI w b := by
  rintro ⟨cs', h'⟩
  rw [h] at h'
  simp at h'
  exact ht h'.2
theorem info2T : (Try.prog.info? 34).map (·.size) = some 2 := by kernel_rfl
/-- A row of codes, read. -/
theorem CRow.at {w : World} {B : Nat} {Q : Nat → Prop} {v : Value} {rs : List (Cd × Value)} (h : CRow w B Q v rs) : CodesAt w (fun b => B ≤ b ∧ Pl w b) v (rs.map Prod.fst) := by
  rcases h.1.2 with ⟨rfl, h0⟩ | ⟨g, cap, cur, rfl, hb, hc, hn, hcm, hs, ht⟩
  · obtain rfl : rs = [] := List.length_eq_zero_iff.1 h0
    exact ⟨none, 0, rfl, Nat.zero_le _, fun i e h => by simp at h⟩
  · refine ⟨_, _, by rw [List.length_map], by rw [List.length_map]; exact Nat.le_trans hn hcm, fun i e hi => ?_⟩
    rw [List.getElem?_map] at hi
    obtain ⟨r, hri, rfl⟩ := Option.map_eq_some_iff.1 hi
    obtain ⟨hk, r1, r2, r3⟩ := h.2 r (List.mem_of_getElem? hri)
    have hil : i < rs.length := (List.getElem?_eq_some_iff.1 hri).1
    have hcell : ∀ k u, k < 4 → (cdCells r)[k]? = some u → w.cell? ⟨g, 0 + i * 4 + k, none⟩ = some u := fun k u hk' hu => by
      have := h.1.cells (g := g) rfl (i * 4 + k) u ((flat4_at rs i k r hk' hri).trans hu)
      rw [addr_addI] at this
      rw [Nat.zero_add]
      simpa using this
    refine ⟨g, 0, r.2, rfl, ⟨hb, cur, _, hc⟩, (Array.getElem?_eq_some_iff.1 hc).1, hcell 0 _ (by omega) rfl, hcell 1 _ (by omega) rfl, hcell 2 _ (by omega) rfl, hcell 3 _ (by omega) rfl, r1, r2, r3, ?_⟩
    exact IntsAt.wide hk (fun b hb => ⟨hb.1, by obtain ⟨cs, hcs⟩ := hb.2.1; exact ⟨cs, _, hcs⟩⟩)

theorem tab_fin {w we : World} {p : Pr} {j : Nat} {rs : List (Cd × Value)} {cv tv : Value} (hmap : rs.map Prod.fst = Ex.flatL 0 (p.bodies.take j)) (hti : we.ownsRow w.heap.size 3 1 tv j ((numsL 0 (p.bodies.take j)).map (fun z => Value.int .i64 z))) (hcr : CRow we w.heap.size (fun b => some b ≠ tv.ownBlock) cv rs)
    (q1 : we.heap[w.heap.size + 1]? = some (.cells #[.slice none 0 0, .slice none 0 0] 34)) (hj : tableOf p = ⟨Ex.flatL 0 (p.bodies.take j), numsL 0 (p.bodies.take j)⟩) (hl : (numsL 0 (p.bodies.take j)).length = j) (hs : Ex.countL (p.bodies.take j) ≤ 1100000) :
    TbAt ((we.setCell ⟨w.heap.size + 1, 0, none⟩ cv).setCell ⟨w.heap.size + 1, 1, none⟩ tv) (fun b => w.heap.size ≤ b ∧ Pl ((we.setCell ⟨w.heap.size + 1, 0, none⟩ cv).setCell ⟨w.heap.size + 1, 1, none⟩ tv) b) (.agg #[cv, tv]) (tableOf p) := by
  have G : we.grownBy ((we.setCell ⟨w.heap.size + 1, 0, none⟩ cv).setCell ⟨w.heap.size + 1, 1, none⟩ tv) (some (w.heap.size + 1)) := (Go.Lib.grownBy_setCell _ _ _ _).trans (Go.Lib.grownBy_setCell _ _ _ _)
  have nC : ¬ PC we (w.heap.size + 1) := ty_PC q1 (by decide)
  have nI : ¬ PI we (w.heap.size + 1) := ty_PI q1 (by decide)
  have C := hcr.keptQ (Q' := fun b => some b ≠ tv.ownBlock) G (by
    cases hv : cv.ownBlock with
    | none => exact .inl rfl
    | some g => exact .inr fun e => nC (by cases e; exact own_PC hcr.1 _ hv)) (fun b hb _ e => by cases e; exact nI hb) (fun _ h _ => h)
  have I := hti.kept G (by
    cases hv : tv.ownBlock with
    | none => exact .inl rfl
    | some g => exact .inr fun e => nI (by cases e; exact own_PI hti _ hv))
  rw [hj]
  refine ⟨cv, tv, rfl, ?_, ?_⟩
  · have := C.at
    rw [hmap] at this
    exact this
  · have hK : KAt _ w.heap.size (fun _ => True) tv (numsL 0 (p.bodies.take j)) := KAt.of_row (by rw [hl]; exact I) (fun z hz => by
      have := numsL_small (p.bodies.take j) 0 z hz
      unfold inI64
      omega) (fun _ _ => trivial)
    exact IntsAt.wide hK (fun b hb => ⟨hb.1, by obtain ⟨cs, hcs⟩ := hb.2.1; exact ⟨cs, _, hcs⟩⟩)

theorem tab_mid {B T j : Nat} {w6 w8 : World} {cvOld L tv v0 : Value} {X : Obj} {xs : List Value} (hT8 : ((w6.setCell ⟨T, 0, none⟩ L).alloc X).ownsRow B 3 1 tv j xs) (hgrow8 : ((w6.setCell ⟨T, 0, none⟩ L).alloc X).grownBy w8 tv.ownBlock) (R2 : w6.heap[T]? = some (.cells #[cvOld, v0] 34)) :
    w8.heap[T]? = some (.cells #[L, v0] 34) := by
  have hlt : T < w6.heap.size := (Array.getElem?_eq_some_iff.1 R2).1
  have A : ((w6.setCell ⟨T, 0, none⟩ L).alloc X).heap[T]? = some (.cells #[L, v0] 34) := (Below.heap_alloc _ _ _ (by simpa using hlt)).trans (block_setCell R2 _)
  exact (hgrow8.block T (by simp; omega) (fun e => ty_PI A (by decide) (own_PI hT8 _ e.symm))).trans A
theorem tab_next {B T j : Nat} {w w6 w8 : World} {cvOld L tv v8 : Value} {X : Obj} {xs ys : List Value} {RS : List (Cd × Value)} (hC7 : CRow (w6.setCell ⟨T, 0, none⟩ L) B (fun b => some b ≠ tv.ownBlock) L RS) (hT8 : ((w6.setCell ⟨T, 0, none⟩ L).alloc X).ownsRow B 3 1 tv j xs)
    (hown8 : w8.ownsRow B 3 1 v8 (j + 1) ys) (hgrow8 : ((w6.setCell ⟨T, 0, none⟩ L).alloc X).grownBy w8 tv.ownBlock) (hat8 : v8.ownBlock = tv.ownBlock ∨ v8.ownBlock = some ((w6.setCell ⟨T, 0, none⟩ L).alloc X).heap.size) (hb6 : Below B w w6) (hBw : B ≤ w6.heap.size) (hBT : B ≤ T) (R2 : w6.heap[T]? = some (.cells #[cvOld, tv] 34)) :
    (w8.setCell ⟨T, 1, none⟩ v8).ownsRow B 3 1 v8 (j + 1) ys ∧ CRow (w8.setCell ⟨T, 1, none⟩ v8) B (fun b => some b ≠ v8.ownBlock) L RS ∧ Below B w (w8.setCell ⟨T, 1, none⟩ v8) ∧ (w8.setCell ⟨T, 1, none⟩ v8).heap[T]? = some (.cells #[L, v8] 34) ∧ (∀ k cs t, k ≠ T → w6.heap[k]? = some (.cells cs t (0, 0)) → t ≠ 3 → (w8.setCell ⟨T, 1, none⟩ v8).heap[k]? = some (.cells cs t (0, 0))) := by
  have M := tab_mid hT8 hgrow8 R2
  have G9 := Go.Lib.grownBy_setCell w8 T 1 v8
  have GA := World.grownBy_alloc (w6.setCell ⟨T, 0, none⟩ L) X none
  have nI : ¬ PI w8 T := ty_PI M (by decide)
  have nC : ¬ PC w8 T := ty_PC M (by decide)
  have C8 := hC7.keptN (Q' := fun b => some b ≠ tv.ownBlock ∧ b < ((w6.setCell ⟨T, 0, none⟩ L).alloc X).heap.size) GA (fun b h hl => ⟨h, by simp; simp at hl; omega⟩)
  have D8 := C8.keptQ (Q' := fun b => some b ≠ v8.ownBlock) hgrow8 (own_apart C8.1 hT8) (fun b _ hq => hq.1) (fun b hq _ e => by
    rcases hat8 with h | h
    · exact hq.1 (e.trans h)
    · rw [h] at e; cases e; exact Nat.lt_irrefl _ hq.2)
  refine ⟨hown8.kept G9 ?_, D8.keptQ G9 ?_ (fun b hb _ e => by cases e; exact nI hb) (fun _ h _ => h), ?_, block_setCell M _, fun k cs t hk hc ht => ?_⟩
  · cases hv : v8.ownBlock with
    | none => exact .inl rfl
    | some g => exact .inr fun e => nI (by cases e; exact own_PI hown8 _ hv)
  · cases hv : L.ownBlock with
    | none => exact .inl rfl
    | some g => exact .inr fun e => nC (by cases e; exact own_PC D8.1 _ hv)
  · have B7 := (hb6.setCell (p := ⟨T, 0, none⟩) hBT L).alloc (by simpa using hBw) X
    exact (Below.grown B7 hgrow8 (fun k hk => (hT8.lt k hk).1) (by simp; omega)).setCell (p := ⟨T, 1, none⟩) hBT _
  · have hlt : k < w6.heap.size := (Array.getElem?_eq_some_iff.1 hc).1
    have A : ((w6.setCell ⟨T, 0, none⟩ L).alloc X).heap[k]? = some (.cells cs t (0, 0)) := (Below.heap_alloc _ _ _ (by simpa using hlt)).trans (((Go.Lib.grownBy_setCell w6 T 0 L).block k hlt (fun e => hk (by cases e; rfl))).trans hc)
    have E := (hgrow8.block k (by simp; omega) (fun e => ty_PI A ht (own_PI hT8 _ e.symm))).trans A
    exact (G9.block k (Array.getElem?_eq_some_iff.1 E).1 (fun e => hk (by cases e; rfl))).trans E

set_option maxHeartbeats 1600000 in
theorem specTable_any (d : Nat) (v : Value) (p : Pr) (S : Nat → Prop) (w : World) (h : PrAt w S d v p) (hcnt : Ex.countL p.bodies ≤ 1100000) :
    Calls Try.prog 18 #[v] w fun e w' => ∃ v', e = .returned v' ∧ TbAt w' (fun b => w.heap.size ≤ b ∧ Pl w' b) v' (tableOf p) ∧ Below w.heap.size w w' := by
  have HPr : Hid (PrAt w S d v p) := h
  obtain ⟨nv, bv, rfl, hn, hk⟩ := h
  obtain ⟨a1, c1, rfl⟩ := hn.form
  cases d with
  | zero => exact hk.elim
  | succ d =>
  obtain ⟨a, cap, rfl, hl, hc⟩ := hk
  unfold maxLen at hl
  obtain ⟨j0, hj, hy0, hy1, hy2⟩ := info_parts infoCdI
  have hct := Ex.countL_take p.bodies
  have B0 : Below w.heap.size w (((w.alloc (.cells #[.slice a1 p.names.length c1, .slice a p.bodies.length cap] 53)).alloc (.cells #[.slice none 0 0, .slice none 0 0] 34)).alloc (.cells #[.slice none 0 0, .slice none 0 0] 34)) := (((Below.refl _ w).alloc (Nat.le_refl _) _).alloc (by simp) _).alloc (by simp; omega) _
  have S0 : (((w.alloc (.cells #[.slice a1 p.names.length c1, .slice a p.bodies.length cap] 53)).alloc (.cells #[.slice none 0 0, .slice none 0 0] 34)).alloc (.cells #[.slice none 0 0, .slice none 0 0] 34)).heap.size = w.heap.size + 3 := by simp
  have O0 : (((w.alloc (.cells #[.slice a1 p.names.length c1, .slice a p.bodies.length cap] 53)).alloc (.cells #[.slice none 0 0, .slice none 0 0] 34)).alloc (.cells #[.slice none 0 0, .slice none 0 0] 34)).heap[w.heap.size]? = some (.cells #[.slice a1 p.names.length c1, .slice a p.bodies.length cap] 53) := (Below.heap_alloc _ _ _ (by simp; omega)).trans ((Below.heap_alloc _ _ _ (by simp)).trans (MapKept.heap_alloc w _).1)
  have O1 : (((w.alloc (.cells #[.slice a1 p.names.length c1, .slice a p.bodies.length cap] 53)).alloc (.cells #[.slice none 0 0, .slice none 0 0] 34)).alloc (.cells #[.slice none 0 0, .slice none 0 0] 34)).heap[w.heap.size + 1]? = some (.cells #[.slice none 0 0, .slice none 0 0] 34) := by
    have := (MapKept.heap_alloc (w.alloc (.cells #[.slice a1 p.names.length c1, .slice a p.bodies.length cap] 53)) (.cells #[.slice none 0 0, .slice none 0 0] 34)).1
    exact (Below.heap_alloc _ _ _ (by simp)).trans (by simpa using this)
  have O2 : (((w.alloc (.cells #[.slice a1 p.names.length c1, .slice a p.bodies.length cap] 53)).alloc (.cells #[.slice none 0 0, .slice none 0 0] 34)).alloc (.cells #[.slice none 0 0, .slice none 0 0] 34)).heap[w.heap.size + 1 + 1]? = some (.cells #[.slice none 0 0, .slice none 0 0] 34) := by
    have := (MapKept.heap_alloc ((w.alloc (.cells #[.slice a1 p.names.length c1, .slice a p.bodies.length cap] 53)).alloc (.cells #[.slice none 0 0, .slice none 0 0] 34)) (.cells #[.slice none 0 0, .slice none 0 0] 34)).1
    simpa using this
  have HB := (show Hid (_ ∧ _ ∧ _ ∧ _ ∧ _) from ⟨B0, O0, O1, O2, hc⟩)
  have HF : Hid (∀ d, FlatS w S d) := l04Flat_any w S
  clear B0 O0 O1 O2 hc hn
  go_enter Try.func18, Try.ntmps18
  go_wp2_with fail
  go_loopw [4] (fun i wr => ∃ (j : Nat) (rs : List (Cd × Value)) (cv tv : Value), j ≤ p.bodies.length ∧ i = .int .i64 j ∧ (0 < j → p.ok = true) ∧ rs.map Prod.fst = Ex.flatL 0 (p.bodies.take j) ∧ wr.ownsRow w.heap.size 3 1 tv j ((numsL 0 (p.bodies.take j)).map (fun z => Value.int .i64 z)) ∧ CRow wr w.heap.size (fun b => some b ≠ tv.ownBlock) cv rs ∧
      Below w.heap.size w wr ∧ wr.heap[w.heap.size]? = some (.cells #[.slice a1 p.names.length c1, .slice a p.bodies.length cap] 53) ∧ wr.heap[w.heap.size + 1]? = some (.cells #[.slice none 0 0, .slice none 0 0] 34) ∧ wr.heap[w.heap.size + 1 + 1]? = some (.cells #[cv, tv] 34)) (fun i _ => p.bodies.length - (intOf i).toNat)
  case atStart =>
    refine ⟨0, [], _, _, Nat.zero_le _, rfl, fun h => absurd h (Nat.lt_irrefl 0), ?_, ?_, ⟨World.ownsRow_nil _ _ _ _, fun r hr => by simp at hr⟩, HB.out.1, HB.out.2.1, HB.out.2.2.1, HB.out.2.2.2.1⟩
    · rw [List.take_zero, Ex.flatL]; rfl
    · rw [List.take_zero, numsL]; exact World.ownsRow_nil _ _ _ _
  case round =>
    obtain ⟨j, rs, cv, tv, hjl, rfl, hpos, hmap, hti, hcr, hbw, q0, q1, q2⟩ := hrel
    have y1 : wr.cell? ⟨w.heap.size, 1, none⟩ = some (.slice a p.bodies.length cap) := by rw [cell_of_block q0]; rfl
    have y0 : wr.cell? ⟨w.heap.size, 0, none⟩ = some (.slice a1 p.names.length c1) := by rw [cell_of_block q0]; rfl
    have z0 : wr.cell? ⟨w.heap.size + 1 + 1, 0, none⟩ = some cv := by rw [cell_of_block q2]; rfl
    have z1 : wr.cell? ⟨w.heap.size + 1 + 1, 1, none⟩ = some tv := by rw [cell_of_block q2]; rfl
    have HS := (show Hid (_ ∧ _ ∧ _ ∧ _ ∧ _ ∧ _ ∧ _ ∧ _) from ⟨hpos, hmap, hti, hcr, hbw, q0, q1, q2⟩)
    by_cases hlt : j < p.bodies.length
    · have hlt' : ((j : Nat) : Int) < ((p.bodies.length : Nat) : Int) := by omega
      cases hok : p.ok with
      | false =>
        obtain rfl : j = 0 := by
          by_cases h0 : 0 < j
          · have := hpos h0; rw [hok] at this; cases this
          · omega
        obtain ⟨b1, d1, rfl⟩ := own_form hcr.1
        obtain ⟨b2, d2, rfl⟩ := own_form hti
        have hPc := specProg_any (d + 1) _ p S wr (HPr.out.below hbw)
        rw [hok] at hPc
        have HPc := (show Hid (_ ∧ True) from ⟨hPc, trivial⟩)
        clear hPc hpos hmap hti hcr hbw q0 q1 q2
        go_wp2_with (go_at_call 14; refine HPc.out.1.mono ?_; rintro r w5 ⟨rfl, b5⟩; have Q1 := (b5.block _ (Array.getElem?_eq_some_iff.1 HS.out.2.2.2.2.2.2.1).1).trans HS.out.2.2.2.2.2.2.1; have Q2 := (b5.block _ (Array.getElem?_eq_some_iff.1 HS.out.2.2.2.2.2.2.2).1).trans HS.out.2.2.2.2.2.2.2; have t0 : w5.cell? ⟨w.heap.size + 1 + 1, 0, none⟩ = some (.slice b1 rs.length d1) := (by rw [cell_of_block Q2]; rfl); have t1 : w5.cell? ⟨w.heap.size + 1 + 1, 1, none⟩ = some (.slice b2 0 d2) := (by rw [cell_of_block Q2]; rfl); have x0 : w5.cell? ⟨w.heap.size + 1, 0, none⟩ = some (.slice none 0 0) := (by rw [cell_of_block Q1]; rfl); have x1 : w5.cell? ⟨w.heap.size + 1, 1, none⟩ = some (.slice none 0 0) := (by rw [cell_of_block Q1]; rfl); have f0 : w5.frozen? ⟨w.heap.size + 1, 0, none⟩ = false := unfrozen_of_block Q1 0; have f1 : w5.frozen? ⟨w.heap.size + 1, 1, none⟩ = false := unfrozen_of_block Q1 1)
        refine bodyPost_ret (results_cell_row rfl _ _ (w.heap.size + 1) 34 _ (0, 0) _ rfl (block_setCell (block_setCell Q1 _) _) Try.underlying34 rfl info2T) rfl ?_
        have hb5 : Below w.heap.size w w5 := HS.out.2.2.2.2.1.trans (b5.mono HS.out.2.2.2.2.1.size)
        have hg5 : wr.grownBy w5 none := ⟨b5.os, b5.tape, b5.output, b5.size, fun k hk _ => b5.block k hk⟩
        refine ⟨_, rfl, tab_fin (j := 0) HS.out.2.1 (HS.out.2.2.1.kept hg5 (own_none _)) (HS.out.2.2.2.1.keptN hg5 (fun _ h _ => h)) Q1 ?_ ?_ ?_, (hb5.setCell (p := ⟨w.heap.size + 1, 0, none⟩) (by simp) _).setCell (p := ⟨w.heap.size + 1, 1, none⟩) (by simp) _⟩
        · unfold tableOf; rw [hok, if_neg (by simp), List.take_zero, Ex.flatL, numsL]
        · rw [List.take_zero, numsL]; rfl
        · rw [List.take_zero, Ex.countL]; omega
      | true =>
        have he := List.getElem?_eq_getElem hlt
        have hcy := hct j _ he
        have htk : p.bodies.take (j + 1) = p.bodies.take j ++ [p.bodies[j]] := List.take_succ_eq_append_getElem hlt
        have htl := countL_take_leF p.bodies (j + 1)
        have htl0 := countL_take_leF p.bodies j
        have hrl : rs.length = Ex.countL (p.bodies.take j) := by rw [← List.length_map (f := Prod.fst), hmap, Ex.flatL_len]
        generalize p.bodies[j] = y at *
        obtain ⟨b, off, kv, rfl, hSb, hl1, c0, c1', c2, c3, q1', q2', q3', kk⟩ := HB.out.2.2.2.2 j y he
        have HX : Hid (ExAt w S d (.agg #[.int .i64 y.kind, .int .i64 y.n, .string y.text, kv]) y) := ⟨kv, rfl, q1', q2', q3', kk⟩
        obtain ⟨ka, kc, rfl⟩ := kk.form
        obtain ⟨b1, d1, rfl⟩ := own_form hcr.1
        obtain ⟨b2, d2, rfl⟩ := own_form hti
        have hPc := specProg_any (d + 1) _ p S wr (HPr.out.below hbw)
        rw [hok] at hPc
        have HPc := (show Hid (_ ∧ True) from ⟨hPc, trivial⟩)
        have HTK := (show Hid (_ ∧ _ ∧ _) from ⟨htk, hcy, hrl⟩)
        have HCe := (show Hid (_ ∧ _ ∧ _ ∧ _) from ⟨c0, c1', c2, c3⟩)
        clear hPc hpos hmap hti hcr hbw q0 q1 q2 kk q1' q2' q3' he htk c0 c1' c2 c3 hrl hcy
        go_wp2_with (go_at_call 14; refine HPc.out.1.mono ?_; rintro r w5 ⟨rfl, b5⟩; have hb5 : Below w.heap.size w w5 := HS.out.2.2.2.2.1.trans (b5.mono HS.out.2.2.2.2.1.size); have Q0 := (b5.block _ (Array.getElem?_eq_some_iff.1 HS.out.2.2.2.2.2.1).1).trans HS.out.2.2.2.2.2.1; have Q1 := (b5.block _ (Array.getElem?_eq_some_iff.1 HS.out.2.2.2.2.2.2.1).1).trans HS.out.2.2.2.2.2.2.1; have Q2 := (b5.block _ (Array.getElem?_eq_some_iff.1 HS.out.2.2.2.2.2.2.2).1).trans HS.out.2.2.2.2.2.2.2; have t0 : w5.cell? ⟨w.heap.size + 1 + 1, 0, none⟩ = some (.slice b1 rs.length d1) := (by rw [cell_of_block Q2]; rfl); have t1 : w5.cell? ⟨w.heap.size + 1 + 1, 1, none⟩ = some (.slice b2 j d2) := (by rw [cell_of_block Q2]; rfl); have p1 : w5.cell? ⟨w.heap.size, 1, none⟩ = some (.slice (some ⟨b, off, none⟩) p.bodies.length cap) := (by rw [cell_of_block Q0]; rfl); have e0 := (hb5.cell (p := ⟨b, off + j * 4, none⟩) hl1).trans HCe.out.1; have e1 := (hb5.cell (p := ⟨b, off + j * 4 + 1, none⟩) hl1).trans HCe.out.2.1; have e2 := (hb5.cell (p := ⟨b, off + j * 4 + 2, none⟩) hl1).trans HCe.out.2.2.1; have e3 := (hb5.cell (p := ⟨b, off + j * 4 + 3, none⟩) hl1).trans HCe.out.2.2.2)
        have hg5 : wr.grownBy w5 none := ⟨b5.os, b5.tape, b5.output, b5.size, fun k hk _ => b5.block k hk⟩
        have hC5 := HS.out.2.2.2.1.keptN (Q' := fun b => some b ≠ Value.ownBlock (.slice b2 j d2)) hg5 (fun _ h _ => h)
        have hT5 := HS.out.2.2.1.kept hg5 (own_none _)
        have HQ := (show Hid (_ ∧ _ ∧ _ ∧ _ ∧ _ ∧ _) from ⟨hb5, Q0, Q1, Q2, hC5, hT5⟩)
        clear b5 hg5 hC5 hT5 Q0 Q1 Q2 hb5
        have hCd : CRow w5.drew w.heap.size (fun b => some b ≠ Value.ownBlock (.slice b2 j d2)) (.slice b1 rs.length d1) rs := HQ.out.2.2.2.2.1
        have hFc := HF.out d _ (.slice b1 rs.length d1) y rs (fun b => some b ≠ Value.ownBlock (.slice b2 j d2)) w5.drew HQ.out.1.drew HX.out hCd (by have := HTK.out.2.2; have := HTK.out.2.1; omega)
        have HFc := (show Hid (_ ∧ True) from ⟨hFc, trivial⟩)
        clear hFc hCd
        go_region_with (go_at_call 61; refine HFc.out.1.mono ?_; rintro r w6 ⟨lv2, rs2, rfl, hC6, hm6, hg6, ho6⟩; have H6 := (show Hid (_ ∧ _ ∧ _ ∧ _) from ⟨hC6, hm6, hg6, ho6⟩); clear hC6 hm6 hg6 ho6)
        all_goals
          obtain ⟨n2, la2, lc2, hn2, rfl⟩ := own_formN H6.out.1.1
          clear hn2
          have hjb : j + 1 ≤ 1100000 := by have := len_countL p.bodies; omega
          have hg6 : w5.grownBy w6 (Value.ownBlock (.slice b1 rs.length d1)) := ⟨H6.out.2.2.1.os, H6.out.2.2.1.tape, H6.out.2.2.1.output, H6.out.2.2.1.size, H6.out.2.2.1.block⟩
          have nC : ∀ g, Value.ownBlock (.slice b1 rs.length d1) = some g → PC w5 g := fun g hg => own_PC HQ.out.2.2.2.2.1.1 g hg
          have R0 : w6.heap[w.heap.size]? = some (.cells #[.slice a1 p.names.length c1, .slice (some ⟨b, off, none⟩) p.bodies.length cap] 53) := (hg6.block _ (Array.getElem?_eq_some_iff.1 HQ.out.2.1).1 (fun hc => ty_PC HQ.out.2.1 (by decide) (nC _ hc.symm))).trans HQ.out.2.1
          have R1 : w6.heap[w.heap.size + 1]? = some (.cells #[.slice none 0 0, .slice none 0 0] 34) := (hg6.block _ (Array.getElem?_eq_some_iff.1 HQ.out.2.2.1).1 (fun hc => ty_PC HQ.out.2.2.1 (by decide) (nC _ hc.symm))).trans HQ.out.2.2.1
          have R2 : w6.heap[w.heap.size + 1 + 1]? = some (.cells #[.slice b1 rs.length d1, .slice b2 j d2] 34) := (hg6.block _ (Array.getElem?_eq_some_iff.1 HQ.out.2.2.2.1).1 (fun hc => ty_PC HQ.out.2.2.2.1 (by decide) (nC _ hc.symm))).trans HQ.out.2.2.2.1
          have hT6 : w6.ownsRow w.heap.size 3 1 (.slice b2 j d2) j ((numsL 0 (p.bodies.take j)).map (fun z => Value.int .i64 z)) := HQ.out.2.2.2.2.2.kept hg6 (own_apart' HQ.out.2.2.2.2.1.1 HQ.out.2.2.2.2.2)
          have hs6 : w5.heap.size ≤ w6.heap.size := hg6.size
          have hkl : ∀ g, Value.ownBlock (.slice b2 j d2) = some g → g < w5.heap.size := fun g hg => (HQ.out.2.2.2.2.2.lt g hg).2
          have hC6 := H6.out.1.keptN (Q' := fun b => some b ≠ Value.ownBlock (.slice b2 j d2)) (World.grownBy.refl _ _) (fun b hq _ => by
            rcases hq with hq | hq
            · exact hq
            · exact fun e => by have := hkl b e.symm; have : w5.heap.size ≤ b := hq; omega)
          have G7 : w6.grownBy (w6.setCell ⟨w.heap.size + 1 + 1, 0, none⟩ (.slice la2 n2 lc2)) (some (w.heap.size + 1 + 1)) := Go.Lib.grownBy_setCell _ _ _ _
          have nC6 : ¬ PC w6 (w.heap.size + 1 + 1) := ty_PC R2 (by decide)
          have nI6 : ¬ PI w6 (w.heap.size + 1 + 1) := ty_PI R2 (by decide)
          have hT7 := hT6.kept G7 (by
            cases hv : Value.ownBlock (.slice b2 j d2) with
            | none => exact .inl rfl
            | some g => exact .inr fun e => nI6 (by cases e; exact own_PI hT6 _ hv))
          have hC7 := hC6.keptQ (Q' := fun b => some b ≠ Value.ownBlock (.slice b2 j d2)) G7 (by
            cases hv : Value.ownBlock (.slice la2 n2 lc2) with
            | none => exact .inl rfl
            | some g => exact .inr fun e => nC6 (by cases e; exact own_PC hC6.1 _ hv)) (fun b hb _ e => by cases e; exact nI6 hb) (fun _ h _ => h)
          have S7 : (w6.setCell ⟨w.heap.size + 1 + 1, 0, none⟩ (.slice la2 n2 lc2)).heap.size = w6.heap.size := by simp
          have N7 : ∀ i u, [Value.int .i64 (rs.length : Int)][i]? = some u → ((w6.setCell ⟨w.heap.size + 1 + 1, 0, none⟩ (.slice la2 n2 lc2)).alloc (.cells #[.int .i64 (rs.length : Int)] 3)).cell? ((⟨w6.heap.size, 0, none⟩ : Addr).add i) = some u := fun i u hu => by
            have := cell_one_new (w6.setCell ⟨w.heap.size + 1 + 1, 0, none⟩ (.slice la2 n2 lc2)) (.int .i64 (rs.length : Int)) 3 i u hu
            rw [S7] at this
            exact this
          have t0 : w6.cell? ⟨w.heap.size + 1 + 1, 0, none⟩ = some (.slice b1 rs.length d1) := by rw [cell_of_block R2]; rfl
          have t1 : w6.cell? ⟨w.heap.size + 1 + 1, 1, none⟩ = some (.slice b2 j d2) := by rw [cell_of_block R2]; rfl
          have f0 : w6.frozen? ⟨w.heap.size + 1 + 1, 0, none⟩ = false := unfrozen_of_block R2 0
          have hw56 : w.heap.size ≤ w5.heap.size := HQ.out.1.size
          have hb6 : Below w.heap.size w w6 := Below.grown HQ.out.1 hg6 (fun k hk => (HQ.out.2.2.2.2.1.1.lt k hk).1) hw56
          have H7 := (show Hid (_ ∧ _ ∧ _ ∧ _ ∧ _ ∧ _) from ⟨hC7, hT7, R0, R1, R2, hb6⟩)
          have HN7 := (show Hid (_ ∧ True) from ⟨N7, trivial⟩)
          have hT8 := hT7.alloc (.cells #[.int .i64 (rs.length : Int)] 3)
          have HT8 := (show Hid (_ ∧ True) from ⟨hT8, trivial⟩)
          clear hT8 N7 hC7 hT7 R0 R1 R2 hb6 hC6 hT6 G7 nC6 nI6 nC
          go_wp2_with (at_builtin; refine wpList_append_own_at _ rfl _ _ 23 rfl w.heap.size 3 j0 (.int .i64 0) 1 8 Try.underlying23 hj hy0 hy1 hy2 rfl (by decide) _ j _ rfl HT8.out.1 ⟨w6.heap.size, 0, none⟩ 1 1 [.int .i64 (rs.length : Int)] rfl rfl HN7.out.1 (int_one _) (by unfold maxLen; omega) (by omega) (by simp; omega) ?_; intro v8 w8 hown8 hgrow8 hnil8 hat8; obtain ⟨la8, lc8, rfl⟩ := own_form hown8; have M8 := tab_mid HT8.out.1 hgrow8 H7.out.2.2.2.2.1; have m1 : w8.cell? ⟨w.heap.size + 1 + 1, 1, none⟩ = some (.slice b2 j d2) := (by rw [cell_of_block M8]; rfl); have g1 : w8.frozen? ⟨w.heap.size + 1 + 1, 1, none⟩ = false := unfrozen_of_block M8 1; have H8 := (show Hid (_ ∧ _ ∧ _) from ⟨hown8, hgrow8, hat8⟩); clear hown8 hgrow8 hnil8 hat8 M8)
          have F := tab_next H7.out.1 HT8.out.1 H8.out.1 H8.out.2.1 H8.out.2.2 H7.out.2.2.2.2.2 (by omega) (by omega) H7.out.2.2.2.2.1
          have e9 : rs.length = 0 + Ex.countL (p.bodies.take j) := by have := HTK.out.2.2; omega
          refine ⟨⟨j + 1, rs ++ rs2, _, _, by omega, by go_num, fun _ => by first | exact hok | trivial, ?_, ?_, F.2.1, F.2.2.1, F.2.2.2.2 _ _ _ (by omega) H7.out.2.2.1 (by decide), F.2.2.2.2 _ _ _ (by omega) H7.out.2.2.2.1 (by decide), F.2.2.2.1⟩, by simp [intOf]; omega⟩
          · rw [List.map_append, HS.out.2.1, H6.out.2.1, HTK.out.1, flatL_snoc, ← e9]
          · rw [HTK.out.1, numsL_snoc, List.map_append, ← e9]
            exact F.1
    · obtain rfl : j = p.bodies.length := by omega
      obtain ⟨b1, d1, rfl⟩ := own_form hcr.1
      obtain ⟨b2, d2, rfl⟩ := own_form hti
      have x0 : wr.cell? ⟨w.heap.size + 1, 0, none⟩ = some (.slice none 0 0) := by rw [cell_of_block q1]; rfl
      have x1 : wr.cell? ⟨w.heap.size + 1, 1, none⟩ = some (.slice none 0 0) := by rw [cell_of_block q1]; rfl
      have f0 : wr.frozen? ⟨w.heap.size + 1, 0, none⟩ = false := unfrozen_of_block q1 0
      have f1 : wr.frozen? ⟨w.heap.size + 1, 1, none⟩ = false := unfrozen_of_block q1 1
      have Q1 := q1
      have HQ := (show Hid (_ ∧ True) from ⟨Q1, trivial⟩)
      have htj : tableOf p = ⟨Ex.flatL 0 (p.bodies.take p.bodies.length), numsL 0 (p.bodies.take p.bodies.length)⟩ := by
        rw [List.take_of_length_le (Nat.le_refl _)]
        unfold tableOf
        by_cases hp : 0 < p.bodies.length
        · rw [if_pos (hpos hp)]
        · have h0 : p.bodies = [] := List.length_eq_zero_iff.1 (by omega)
          rw [if_neg (fun h => by have h1 := (p.ok_iff.1 h).1; have h2 := (p.ok_iff.1 h).2.1; omega), h0, Ex.flatL, numsL]
      have HJ := (show Hid (_ ∧ True) from ⟨htj, trivial⟩)
      clear hpos hmap hti hcr hbw q0 q1 q2 htj Q1
      go_wp2
      have Q1 := HQ.out.1
      refine bodyPost_ret (results_cell_row rfl _ _ (w.heap.size + 1) 34 _ (0, 0) _ rfl (block_setCell (block_setCell Q1 _) _) Try.underlying34 rfl info2T) rfl ?_
      refine ⟨_, rfl, tab_fin HS.out.2.1 HS.out.2.2.1 HS.out.2.2.2.1 Q1 HJ.out.1 ?_ ?_, (HS.out.2.2.2.2.1.setCell (p := ⟨w.heap.size + 1, 0, none⟩) (by simp) _).setCell (p := ⟨w.heap.size + 1, 1, none⟩) (by simp) _⟩
      · rw [numsL_len, List.length_take]; omega
      · rw [List.take_of_length_le (Nat.le_refl _)]; exact hcnt
end Go.Proofs.Ytdadppjncdkpiaa
