/-
  The program's sizeOf: each expression's number is reckoned once, behind those of its kids.
-/
import Derived.Test.YtnhjfehkllaonabSizeSum
namespace Go.Proofs.Ytnhjfehkllaonab
open Go.RowKit Go.Joins

set_option maxRecDepth 100000

theorem infoStep : (Try.prog.info? 59).map (fun i => (i.zero, i.size, i.bytes)) = some (some (.agg #[.pointer none, .bool false]), 2, 16) := by kernel_rfl
theorem wrap_small (n : Nat) (h : n ≤ 1048577) : IntKind.i64.wrap (1 + (n : Int)) = ((1 + n : Nat) : Int) := by rw [IntKind.wrap_i64]; omega
theorem plAlloc {w : World} {b : Nat} (h : Pl w b) (o : Obj) : Pl (w.alloc o) b := by
  obtain ⟨cs, t, hc⟩ := h
  exact ⟨cs, t, (Below.heap_alloc _ _ _ (Array.getElem?_eq_some_iff.1 hc).1).trans hc⟩
theorem ptAlloc {N : Nat} {w : World} {b : Nat} {f : Value → Option Value} (h : PtMap (PtrN N) w b f) (hN : N ≤ w.heap.size) (o : Obj) : PtMap (PtrN N) (w.alloc o) b f :=
  h.kept (Below.heap_alloc _ _ _ h.lt) (fun _ hv => hv.kept (fun _ hb => Below.heap_alloc _ _ _ (by omega)))
theorem nodePl {w : World} {d : Nat} {p : Addr} {e : Ex} (h : NodeAt w d p e) : Pl w p.block := by
  obtain ⟨b, o, kv, rfl, hp, _⟩ := h
  exact hp
theorem nodeAddr {w : World} {d : Nat} {p : Addr} {e : Ex} (h : NodeAt w d p e) : ∃ b o, p = ⟨b, o, none⟩ := by
  obtain ⟨b, o, kv, rfl, hp, _⟩ := h
  exact ⟨b, o, rfl⟩

/-- What holds at the head of the loop. -/
def SizeRel (w2 w : World) (p : Addr) (e : Ex) (M : Nat) (m : Nat) (v : Value) (wr : World) : Prop :=
  ∃ (L : List Stp) (f : Value → Option Value), wr.ownsRow w.heap.size 59 2 v L.length (stpCells L) ∧ v ≠ .slice none 0 0 ∧ PtMap (PtrN w2.heap.size) wr M f ∧ w.grownBy wr (some M) ∧ (∀ t ∈ L, t.e.count ≤ 1048577) ∧ Sz w2 p e L f ∧ m = stpSum L

/-- What holds at the head of the loop over the kids. -/
def SizeIn (w2 w : World) (M pb : Nat) (q : Addr) (L : List Stp) (f : Value → Option Value) (v : Value) (wr : World) : Prop :=
  wr.ownsRow w.heap.size 59 2 v L.length (stpCells L) ∧ v ≠ .slice none 0 0 ∧ v.ownBlock ≠ some pb ∧ PtMap (PtrN w2.heap.size) wr M f ∧ w.grownBy wr (some M) ∧ wr.heap[pb]? = some (.cells #[.pointer (some q), .bool false] 59)

theorem SizeIn.next {w2 w : World} {M pb : Nat} {q : Addr} {L : List Stp} {f : Value → Option Value} {v v' : Value} {wr w' : World} {t : Stp} {o : Obj} (h : SizeIn w2 w M pb q L f v wr) (hN : w2.heap.size ≤ M) (hM : M < w.heap.size)
    (hown : w'.ownsRow w.heap.size 59 2 v' (L.length + 1) (stpCells L ++ [.pointer (some t.p), .bool t.done])) (hg : (wr.alloc o).grownBy w' v.ownBlock) (hb : v'.ownBlock = v.ownBlock ∨ v'.ownBlock = some (wr.alloc o).heap.size) : SizeIn w2 w M pb q (L ++ [t]) f v' w' := by
  obtain ⟨h1, h2, h3, h4, h5, h6⟩ := h
  have hlt : pb < wr.heap.size := (Array.getElem?_eq_some_iff.1 h6).1
  have hsz : (wr.alloc o).heap.size = wr.heap.size + 1 := by simp
  have hrow : ∀ k, v.ownBlock = some k → w.heap.size ≤ k ∧ k < wr.heap.size := h1.lt
  have e1 : stpCells (L ++ [t]) = stpCells L ++ [.pointer (some t.p), .bool t.done] := by rw [stpCells_app]; rfl
  have hwr := h5.size
  refine ⟨?_, ?_, ?_, ?_, ?_, ?_⟩
  · rw [e1, List.length_append]; exact hown
  · intro hv
    obtain ⟨_, h | ⟨g', cap', cur, hv', _⟩⟩ := hown
    · omega
    · rw [hv'] at hv; cases hv
  · rcases hb with hb | hb
    · rw [hb]; exact h3
    · rw [hb, hsz]; intro hv; cases hv; omega
  · refine h4.kept ?_ (fun u hu => hu.kept (fun b hb => ?_))
    · rw [hg.block _ (by rw [hsz]; omega) (fun hv => by have := (hrow M hv.symm).1; omega)]
      exact Below.heap_alloc _ _ _ (by omega)
    · rw [hg.block _ (by rw [hsz]; omega) (fun hv => by have := (hrow b hv.symm).1; omega)]
      exact Below.heap_alloc _ _ _ (by omega)
  · refine ⟨hg.os.trans h5.os, hg.tape.trans h5.tape, hg.output.trans h5.output, by have := hg.size; rw [hsz] at this; omega, fun k hk hne => ?_⟩
    rw [hg.block k (by rw [hsz]; omega) (fun hv => by have := (hrow k hv.symm).1; omega), Below.heap_alloc _ _ _ (by omega)]
    exact h5.block k hk hne
  · rw [hg.block _ (by rw [hsz]; omega) (Ne.symm h3)]
    exact (Below.heap_alloc _ _ _ hlt).trans h6

set_option maxHeartbeats 3200000 in
theorem sizeOf_any (w2 : World) (d : Nat) (p : Addr) (e : Ex) (M : Nat) (f0 : Value → Option Value) (w : World) (hb : Below w2.heap.size w2 w) (hM : w2.heap.size ≤ M) (hmap : PtMap (PtrN w2.heap.size) w M f0) (hfin : Fin w2 f0) (hn : NodeAt w2 d p e) (hc : e.count ≤ 1048577) :
    Calls Try.prog 22 #[.pointer (some p), .map (some M)] w fun r w' => r = .returned (.int .i64 (e.count : Int)) ∧ ∃ f', PtMap (PtrN w2.heap.size) w' M f' ∧ Fin w2 f' ∧ w.grownBy w' (some M) := by
  have hMw : M < w.heap.size := hmap.lt
  have R0 : SizeRel w2 w p e M (2 * e.count) (.slice (some ⟨w.heap.size, 0, none⟩) 1 1) (w.alloc (.cells #[.pointer (some p), .bool false] 59)) :=
    ⟨[⟨p, e, false⟩], f0, ⟨rfl, Or.inr ⟨w.heap.size, 1, #[.pointer (some p), .bool false], rfl, Nat.le_refl _, (MapKept.heap_alloc w _).1, Nat.le_refl _, by decide, rfl, rfl⟩⟩, by simp, ptAlloc hmap hb.size _, World.grownBy_alloc w _ _, fun t ht => (by obtain rfl := List.mem_singleton.1 ht; exact hc), Sz.start hn hfin, by simp [stpSum]⟩
  have HF := (show Hid (_ ∧ True) from ⟨hfin, trivial⟩)
  have HN := (show Hid (_ ∧ True) from ⟨hn, trivial⟩)
  have pl0 : p.block < w2.heap.size := (nodePl hn).lt
  have HBL : Hid (∀ wx : World, w.grownBy wx (some M) → Below w2.heap.size w2 wx) := fun wx hg => Below.grown hb hg (fun k hk => by cases hk; exact hM) hb.size
  clear hmap hfin
  go_enter Try.func22, Try.ntmps22
  go_wp2
  go_loopw [5] (fun v wr => ∃ m, SizeRel w2 w p e M m v wr ∧ m ≤ 2097154) (fun v wr => leastM (fun m => SizeRel w2 w p e M m v wr))
  case atStart => exact ⟨_, R0, by omega⟩
  case round =>
    have hR := leastM_spec (p := fun m => SizeRel w2 w p e M m u5 wr) (hrel.elim fun m h => ⟨m, h.1⟩)
    have hMM : leastM (fun m => SizeRel w2 w p e M m u5 wr) ≤ 2097154 := hrel.elim fun m h => Nat.le_trans (leastM_le h.1) h.2
    clear hrel R0
    generalize hm0 : leastM (fun m => SizeRel w2 w p e M m u5 wr) = m0 at *
    have HM0 := (show Hid (_ ∧ True) from ⟨hm0, trivial⟩)
    clear hm0
    obtain ⟨L, f, hrow, hnn, hmap, hgr, hBd, hS, hmL⟩ := hR
    have hLs := stpSum_len L
    have hbel : Below w2.heap.size w2 wr := Below.grown hb hgr (fun k hk => by cases hk; exact hM) hb.size
    have hws : w.heap.size ≤ wr.heap.size := hgr.size
    rcases nil_or_last L with rfl | ⟨A, t, rfl⟩
    · obtain ⟨a, cap, rfl⟩ := stpCells_none hrow
      obtain ⟨hfin, hroot⟩ := hS.fin
      have hlk := hmap.look (PtrN.keys keysPtr _) Try.underlying55 (zeroInt _) (x := .pointer (some p)) ⟨p, rfl, pl0, (nodePl HN.out.1).below hbel⟩ false
      rw [show f (.pointer (some p)) = some (cnt e) from hroot] at hlk
      simp only [Bool.false_eq_true, if_false, Option.getD_some, cnt] at hlk
      have HRes := (show Hid (_ ∧ True) from ⟨(⟨f, hmap, hfin, hgr⟩ : ∃ f', PtMap (PtrN w2.heap.size) wr M f' ∧ Fin w2 f' ∧ w.grownBy wr (some M)), trivial⟩)
      clear hS hmap hrow hfin hroot hgr hbel hBd
      go_wp2
      go_ret
      exact ⟨rfl, HRes.out.1⟩
    · obtain ⟨d1, nt⟩ := hS.nodes t (by simp)
      obtain ⟨tp, te, td⟩ := t
      obtain ⟨bp, op, rfl⟩ := nodeAddr nt
      obtain ⟨g, cap, rfl, hcap, hmx, hgb, cp, cq, hrow'⟩ := stpCells_last hrow
      have hn0 : (0 : Int) < ((A.length + 1 : Nat) : Int) := by omega
      have lp : bp < w2.heap.size := (nodePl nt).lt
      have pp : Pl wr bp := (nodePl nt).below hbel
      have hmap1 := ptAlloc hmap hbel.size (.cells #[.pointer (some ⟨bp, op, none⟩), .bool td] 59)
      have hgs : g < wr.heap.size := by
        obtain ⟨_, h | ⟨g', cap', cur, hv, _, hc, _⟩⟩ := hrow'
        · exact absurd h.1 (by simp)
        · cases hv
          exact (Array.getElem?_eq_some_iff.1 hc).1
      have hcnt := Ex.count_eq te
      rw [stpSum_app] at hmL
      simp only [stpSum] at hmL
      obtain ⟨ap, kp, vp, hap⟩ := nt.kidsVal
      have hte : te.count ≤ 1048577 := hBd _ (List.mem_append_right _ (List.mem_singleton.2 rfl))
      obtain ⟨b, o, hbo⟩ : ∃ b o, 0 < te.kids.length → ap = some ⟨b, o, none⟩ := by
        by_cases h0 : 0 < te.kids.length
        · obtain ⟨b, o, h⟩ := hap h0; exact ⟨b, o, fun _ => h⟩
        · exact ⟨0, 0, fun h => absurd h h0⟩
      have eP : ∀ wx : World, Below w2.heap.size w2 wx → wx.cell? ⟨bp, op + 3, none⟩ = some (.slice ap te.kids.length kp) := fun wx hb => (hb.cell lp).trans vp
      have hRO : 0 < te.kids.length → RowOf w2 ⟨bp, op, none⟩ b o := fun h => ⟨_, _, by rw [← hbo h]; exact vp⟩
      have HEP := (show Hid (_ ∧ True) from ⟨eP, trivial⟩)
      have HS := (show Hid (_ ∧ True) from ⟨hS, trivial⟩)
      have HROW := (show Hid (_ ∧ True) from ⟨hrow', trivial⟩)
      have HM1 := (show Hid (_ ∧ True) from ⟨hmap1, trivial⟩)
      have HBe := (show Hid (_ ∧ True) from ⟨hbel, trivial⟩)
      have HGr := (show Hid (_ ∧ True) from ⟨hgr, trivial⟩)
      have HNt := (show Hid (_ ∧ True) from ⟨nt, trivial⟩)
      have HPl : Hid (Pl wr bp) := pp
      have HRO := (show Hid (_ ∧ True) from ⟨hRO, trivial⟩)
      have HBO := (show Hid (_ ∧ True) from ⟨hbo, trivial⟩)
      have HMP := (show Hid (_ ∧ True) from ⟨hmap, trivial⟩)
      have HBd := (show Hid (_ ∧ True) from ⟨(fun t ht => hBd t (List.mem_append_left _ ht) : ∀ t ∈ A, t.e.count ≤ 1048577), trivial⟩)
      clear hS hrow hrow' hmap hmap1 hbel hgr hnn nt pp hRO eP hbo hap hLs vp hBd
      generalize wr = ws at *
      have hkl : te.kids.length ≤ 1048577 := by
        have h1 := kidStps_sum 0 0 te te.kids.length (Nat.le_refl _)
        have h2 : ∀ l : List Ex, l.length ≤ Ex.countL l := by
          intro l
          induction l with
          | nil => simp
          | cons x r ih => rw [List.length_cons, Ex.countL]; have := Ex.count_eq x; omega
        have := h2 te.kids
        omega
      cases td with
      | true =>
        have hws2 : w2.heap.size ≤ ws.heap.size := HBe.out.1.size
        have bW := HBe.out.1.alloc hws2 (.cells #[.pointer (some ⟨bp, op, none⟩), .bool true] 59)
        have vp1 := HEP.out.1 _ bW
        simp only [if_true] at hmL
        have hmapD : PtMap (PtrN w2.heap.size) (ws.alloc (.cells #[.pointer (some ⟨bp, op, none⟩), .bool true] 59)).drew M f := HM1.out.1
        have hsum := sum_any w2.heap.size M f ap kp te.kids (ws.alloc (.cells #[.pointer (some ⟨bp, op, none⟩), .bool true] 59)).drew hmapD (fun i k hk => by
          have hi := (List.getElem?_eq_some_iff.1 hk).1
          obtain ⟨d', b', o', _, hr', hn'⟩ := HNt.out.1.kid hk
          obtain ⟨rfl, rfl⟩ := (HRO.out.1 (by omega)).one hr'
          exact ⟨b, o, HBO.out.1 (by omega), ⟨_, rfl, (nodePl hn').lt, (nodePl hn').below bW.drew⟩, HS.out.1.top rfl hk hr'⟩) (by omega) hkl
        obtain ⟨w3, hst, hmap3, ht3⟩ := hmapD.store (PtrN.keys keysPtr _) Try.underlying55 (x := .pointer (some ⟨bp, op, none⟩)) (v := .int .i64 (IntKind.i64.wrap (1 + (Ex.countL te.kids : Int)))) ⟨⟨bp, op, none⟩, rfl, lp, plAlloc HPl.out _⟩
        have g3 := ht3.grown
        have hcl0 : Ex.countL te.kids ≤ 1048577 := by omega
        have hval : (Value.int .i64 (IntKind.i64.wrap (1 + (Ex.countL te.kids : Int)))) = cnt te := by unfold cnt; rw [hcnt, wrap_small _ hcl0]
        rw [hval] at hmap3
        have S' : SizeRel w2 w p e M (stpSum A) (.slice (some ⟨g, 0, none⟩) A.length cap) w3 := by
          refine ⟨A, _, ?_, by simp, hmap3, ?_, HBd.out.1, HS.out.1.less (f' := setAt f (ptr ⟨bp, op, none⟩) (cnt te)) (setAt_same _ _ _) (fun k hk => setAt_other _ _ _ hk), rfl⟩
          · exact (HROW.out.1.alloc _).drew.kept g3 (Or.inr (by simp [Value.ownBlock]; omega))
          · exact ((HGr.out.1.trans (World.grownBy_alloc ws _ _)).trans (⟨rfl, rfl, rfl, Nat.le_refl _, fun _ _ _ => rfl⟩ : (ws.alloc (.cells #[.pointer (some ⟨bp, op, none⟩), .bool true] 59)).grownBy (ws.alloc (.cells #[.pointer (some ⟨bp, op, none⟩), .bool true] 59)).drew (some M))).trans g3
        have HS' := (show Hid (_ ∧ True) from ⟨S', trivial⟩)
        have HSU := (show Hid (_ ∧ True) from ⟨hsum, trivial⟩)
        clear S' hmap3 ht3 g3 hval hsum hmapD bW
        have hcl : Ex.countL te.kids ≤ 1048577 := by omega
        generalize hk : A.length = k at *
        unfold maxLen at hmx
        go_wp2_with fail
        go_region_with (first | (go_at_call 24; refine (HSU.out.1).mono ?_; rintro e wx ⟨rfl, rfl⟩))
        all_goals
          go_wp2_with fail
          exact ⟨⟨_, HS'.out.1, by omega⟩, Nat.lt_of_le_of_lt (leastM_le HS'.out.1) (by rw [HM0.out.1]; omega)⟩
      | false =>
        have hlk := HM1.out.1.look (PtrN.keys keysPtr _) Try.underlying55 (zeroInt _) (x := .pointer (some ⟨bp, op, none⟩)) ⟨⟨bp, op, none⟩, rfl, lp, plAlloc HPl.out _⟩ true
        simp only [Bool.false_eq_true, if_false] at hmL
        have hws2 : w2.heap.size ≤ ws.heap.size := HBe.out.1.size
        cases hf : f (.pointer (some ⟨bp, op, none⟩)) with
        | some u =>
          obtain rfl := HS.out.1.begun rfl hf
          rw [hf] at hlk
          simp only [if_true, Option.getD_some, Option.isSome_some, cnt] at hlk
          have S' : SizeRel w2 w p e M (stpSum A) (.slice (some ⟨g, 0, none⟩) A.length cap) (ws.alloc (.cells #[.pointer (some ⟨bp, op, none⟩), .bool false] 59)) :=
            ⟨A, f, HROW.out.1.alloc _, by simp, HM1.out.1, HGr.out.1.trans (World.grownBy_alloc ws _ _), HBd.out.1, HS.out.1.less hf (fun _ _ => rfl), rfl⟩
          have HS' := (show Hid (_ ∧ True) from ⟨S', trivial⟩)
          clear S' hf
          generalize hk : A.length = k at *
          unfold maxLen at hmx
          go_wp2_with fail
          exact ⟨⟨_, HS'.out.1, by omega⟩, Nat.lt_of_le_of_lt (leastM_le HS'.out.1) (by rw [HM0.out.1]; omega)⟩
        | none =>
          rw [hf] at hlk
          simp only [if_true, Option.getD_none, Option.isSome_none] at hlk
          obtain ⟨w3, hst, hmap3, ht3⟩ := HM1.out.1.store (PtrN.keys keysPtr _) Try.underlying55 (x := .pointer (some ⟨bp, op, none⟩)) (v := .int .i64 0) ⟨⟨bp, op, none⟩, rfl, lp, plAlloc HPl.out _⟩
          have g3 := ht3.grown
          have s3 : ws.heap.size + 1 ≤ w3.heap.size := by have := g3.size; simpa using this
          have b3 : Below w2.heap.size w2 w3 := Below.grown (HBe.out.1.alloc hws2 _) g3 (fun k hk => by cases hk; omega) (by simp; omega)
          have O3 : w3.heap[ws.heap.size]? = some (.cells #[.pointer (some ⟨bp, op, none⟩), .bool false] 59) := by
            rw [g3.block _ (by simp) (by simp; omega)]
            exact (MapKept.heap_alloc ws _).1
          have hrow3 : w3.ownsRow w.heap.size 59 2 (.slice (some ⟨g, 0, none⟩) A.length cap) A.length (stpCells A) :=
            (HROW.out.1.alloc _).kept g3 (Or.inr (by simp [Value.ownBlock]; omega))
          have gr3 : w.grownBy w3 (some M) := (HGr.out.1.trans (World.grownBy_alloc ws _ _)).trans g3
          have I3 : SizeIn w2 w M ws.heap.size ⟨bp, op, none⟩ A (setAt f (.pointer (some ⟨bp, op, none⟩)) (.int .i64 0)) (.slice (some ⟨g, 0, none⟩) A.length cap) w3 :=
            ⟨hrow3, by simp, by simp [Value.ownBlock]; omega, hmap3, gr3, O3⟩
          have P0 : w3.cell? ⟨ws.heap.size, 0, none⟩ = some (.pointer (some ⟨bp, op, none⟩)) := by rw [cell_of_block O3]; rfl
          have HI3 := (show Hid (_ ∧ True) from ⟨I3, trivial⟩)
          have HF0 := (show Hid (_ ∧ True) from ⟨hf, trivial⟩)
          have hAl : A.length ≤ 2097154 := by have := stpSum_len A; omega
          obtain ⟨i0, hi, hz0, hz1, hz2⟩ := info_parts infoStep
          clear hmap3 ht3 g3 O3 hrow3 gr3 I3 hf
          generalize hk : A.length = k at *
          unfold maxLen at hmx
          go_wp2_with (at_builtin; refine wpList_append_own_at _ rfl _ _ 60 rfl w.heap.size 59 i0 (.agg #[.pointer none, .bool false]) 2 16 Try.underlying60 hi hz0 hz1 hz2 rfl (by decide) _ _ _ rfl (HI3.out.1.1.alloc _) ⟨w3.heap.size, 0, none⟩ 1 1 [.pointer (some ⟨bp, op, none⟩), .bool true] rfl rfl (cell_two_new w3 _ _ _) (by simp [Value.oneCell']) (by rw [hk]; unfold maxLen; omega) (by rw [hk]; omega) (by simp; omega) ?_; intro v5 w5 hown5 hgrow5 hnil5 hblk5; have I5 := SizeIn.next (t := ⟨⟨bp, op, none⟩, te, true⟩) HI3.out.1 hM hMw hown5 hgrow5 hblk5; have q0 : w5.cell? ⟨ws.heap.size, 0, none⟩ = some (.pointer (some ⟨bp, op, none⟩)) := (by rw [cell_of_block I5.2.2.2.2.2]; rfl); have vp5 := HEP.out.1 w5 (HBL.out w5 I5.2.2.2.2.1); have HI5 := (show Hid (_ ∧ True) from ⟨I5, trivial⟩); clear I5 hown5 hgrow5 hnil5 hblk5)
          clear q0 vp5 P0 hst hlk
          go_loopw [5, 63] (fun v i wr => ∃ j : Nat, j ≤ te.kids.length ∧ i = .int .i64 j ∧ SizeIn w2 w M ws.heap.size ⟨bp, op, none⟩ (A ++ [⟨⟨bp, op, none⟩, te, true⟩] ++ kidStps b o te j) (setAt f (.pointer (some ⟨bp, op, none⟩)) (.int .i64 0)) v wr) (fun _ i _ => te.kids.length - (intOf i).toNat)
          case atStart => exact ⟨0, Nat.zero_le _, rfl, by simpa [kidStps] using HI5.out.1⟩
          case round =>
            obtain ⟨j, hj, rfl, hIn⟩ := hrel
            by_cases hjl : j < te.kids.length
            · obtain rfl := HBO.out.1 (by omega)
              have p0 : wr.cell? ⟨ws.heap.size, 0, none⟩ = some (.pointer (some ⟨bp, op, none⟩)) := by rw [cell_of_block hIn.2.2.2.2.2]; rfl
              have vp := HEP.out.1 wr (HBL.out wr hIn.2.2.2.2.1)
              have hlt' : ((j : Nat) : Int) < ((te.kids.length : Nat) : Int) := by omega
              have hlj : (A ++ ([⟨⟨bp, op, none⟩, te, true⟩] : List Stp) ++ kidStps b o te j).length = k + 1 + j := by rw [List.length_append, kidStps_len, List.length_append, hk]; rfl
              have hsz : w.heap.size ≤ wr.heap.size := hIn.2.2.2.2.1.size
              have HIn := (show Hid (_ ∧ True) from ⟨hIn, trivial⟩)
              clear hIn
              go_wp2_with (at_builtin; refine wpList_append_own_at _ rfl _ _ 60 rfl w.heap.size 59 i0 (.agg #[.pointer none, .bool false]) 2 16 Try.underlying60 hi hz0 hz1 hz2 rfl (by decide) u5 _ _ rfl (HIn.out.1.1.alloc _) ⟨wr.heap.size, 0, none⟩ 1 1 [.pointer (some ⟨b, o + j * 4, none⟩), .bool false] rfl rfl (cell_two_new wr _ _ _) (by simp [Value.oneCell']) (by rw [hlj]; unfold maxLen; omega) (by rw [hlj]; omega) (by simp; omega) ?_; intro v6 w6 hown6 hgrow6 hnil6 hblk6; have I6 := SizeIn.next (t := kidStp b o te j) HIn.out.1 hM hMw hown6 hgrow6 hblk6; have HI6 := (show Hid (_ ∧ True) from ⟨I6, trivial⟩); clear I6 hown6 hgrow6 hnil6 hblk6)
              refine ⟨⟨j + 1, by omega, by go_num, ?_⟩, by simp [intOf]; omega⟩
              rw [kidStps_succ, ← List.append_assoc]
              exact HI6.out.1
            · obtain rfl : j = te.kids.length := by omega
              obtain ⟨hrowj, hnnj, -, hmapj, hgrj, -⟩ := hIn
              have hks : stpSum (A ++ (⟨⟨bp, op, none⟩, te, true⟩ :: kidStps b o te te.kids.length)) = stpSum A + (1 + 2 * Ex.countL te.kids) := by
                rw [stpSum_app, stpSum, kidStps_sum _ _ _ _ (Nat.le_refl _), List.take_of_length_le (Nat.le_refl _)]; rfl
              have S' : SizeRel w2 w p e M (stpSum (A ++ (⟨⟨bp, op, none⟩, te, true⟩ :: kidStps b o te te.kids.length))) u5 wr := by
                rw [List.append_assoc] at hrowj
                refine ⟨_, _, hrowj, hnnj, hmapj, hgrj, fun t ht => ?_, HS.out.1.push rfl HF0.out.1 HRO.out.1, rfl⟩
                rcases List.mem_append.1 ht with ht | ht
                · exact HBd.out.1 t ht
                · rcases List.mem_cons.1 ht with rfl | ht
                  · exact hte
                  · obtain ⟨i, hi', rfl⟩ := List.mem_map.1 ht
                    have hi' := List.mem_range.1 hi'
                    have := Ex.countL_mem (List.getElem?_eq_getElem hi')
                    simp only [kidStp, List.getElem?_eq_getElem hi', Option.getD_some]
                    omega
              have HS' := (show Hid (_ ∧ True) from ⟨S', trivial⟩)
              clear S' hrowj hmapj hgrj
              go_wp2_with fail
              exact ⟨⟨_, HS'.out.1, by omega⟩, Nat.lt_of_le_of_lt (leastM_le HS'.out.1) (by rw [HM0.out.1]; omega)⟩
end Go.Proofs.Ytnhjfehkllaonab
