/-
  The program's SameExp: its loop.
-/
import Derived.Test.YtnhjfehkllaonabSamePure
namespace Go.Proofs.Ytnhjfehkllaonab
open Go.RowKit Go.Joins

set_option maxRecDepth 100000

theorem infoPair : (Try.prog.info? 45).map (fun i => (i.zero, i.size, i.bytes)) = some (some (.agg #[.pointer none, .pointer none]), 2, 16) := by kernel_rfl
theorem infoPtr : (Try.prog.info? 44).map (fun i => (i.zero, i.size, i.bytes)) = some (some (.pointer none), 1, 8) := by kernel_rfl
theorem infoExpN : (Try.prog.info? 29).map (fun i => i.size) = some 4 := by kernel_rfl
theorem keysPairs : KeysGo Try.prog 45 PtrsK := by
  obtain ⟨i0, hi, _, hz1, _⟩ := info_parts infoPtr
  cases hj : Try.prog.info? 29 with
  | none => have := infoExpN; rw [hj] at this; cases this
  | some j =>
    have h4 : j.size = 4 := by have := infoExpN; rw [hj] at this; simpa using this
    exact ptrs_keys Try.underlying45 hi hz1 Try.underlying44 hj (by omega)
theorem zeroUnit (w : World) : (zeroValue 48).run Try.prog w = .ok (.agg #[]) w := by
  kernel_rfl

theorem Pl.alloc {w : World} {b : Nat} (h : Pl w b) (o : Obj) : Pl (w.alloc o) b := by
  obtain ⟨cs, t, hc⟩ := h
  exact ⟨cs, t, (Below.heap_alloc _ _ _ (Array.getElem?_eq_some_iff.1 hc).1).trans hc⟩
theorem PtMap.alloc {N : Nat} {w : World} {b : Nat} {f : Value → Option Value} (h : PtMap (PtrsN N) w b f) (hN : N ≤ w.heap.size) (o : Obj) : PtMap (PtrsN N) (w.alloc o) b f :=
  h.kept (Below.heap_alloc _ _ _ h.lt) (fun _ hv => hv.kept (fun _ hb => Below.heap_alloc _ _ _ (by omega)))
theorem NodeAt.pl {w : World} {d : Nat} {p : Addr} {e : Ex} (h : NodeAt w d p e) : Pl w p.block := by
  obtain ⟨b, o, kv, rfl, hp, _⟩ := h
  exact hp
theorem NodeAt.addr {w : World} {d : Nat} {p : Addr} {e : Ex} (h : NodeAt w d p e) : ∃ b o, p = ⟨b, o, none⟩ := by
  obtain ⟨b, o, kv, rfl, hp, _⟩ := h
  exact ⟨b, o, rfl⟩

/-- What holds at the head of the loop: m: what is left to do. -/
def SameRel (w2 : World) (x y : Ex) (B : Nat) (m : Nat) (v : Value) (wr : World) : Prop :=
  ∃ (L : List Item) (f : Value → Option Value), wr.ownsRow (B + 2) 45 2 v L.length (itemCells L) ∧ v ≠ .slice none 0 0 ∧ PtMap (PtrsN (B + 2)) wr (B + 2 + 1) f ∧ (∀ key u, f key = some u → u = .agg #[]) ∧ Below (B + 2) w2 wr ∧ Gh w2 x y ⟨B, 0, none⟩ ⟨B + 1, 0, none⟩ L f ∧ m = itemSum L

/-- What holds at the head of the loop over the kids: j of them wait already. -/
def SameIn (w2 : World) (B pb : Nat) (p q : Addr) (L : List Item) (f : Value → Option Value) (v : Value) (wr : World) : Prop :=
  wr.ownsRow (B + 2) 45 2 v L.length (itemCells L) ∧ v ≠ .slice none 0 0 ∧ v.ownBlock ≠ some pb ∧ PtMap (PtrsN (B + 2)) wr (B + 2 + 1) f ∧ Below (B + 2) w2 wr ∧ wr.heap[pb]? = some (.cells #[.pointer (some p), .pointer (some q)] 45)

theorem SameIn.next {w2 : World} {B pb : Nat} {p q : Addr} {L : List Item} {f : Value → Option Value} {v v' : Value} {wr w' : World} {t : Item} {o : Obj} (h : SameIn w2 B pb p q L f v wr) (hs : B + 2 ≤ wr.heap.size)
    (hown : w'.ownsRow (B + 2) 45 2 v' (L.length + 1) (itemCells L ++ [.pointer (some t.p), .pointer (some t.q)])) (hg : (wr.drew.alloc o).grownBy w' v.ownBlock) (hb : v'.ownBlock = v.ownBlock ∨ v'.ownBlock = some (wr.drew.alloc o).heap.size) : SameIn w2 B pb p q (L ++ [t]) f v' w' := by
  obtain ⟨h1, h2, h3, h4, h5, h6⟩ := h
  have hlt : pb < wr.heap.size := (Array.getElem?_eq_some_iff.1 h6).1
  have hsz : (wr.drew.alloc o).heap.size = wr.heap.size + 1 := by simp
  have hrow : ∀ k, v.ownBlock = some k → B + 2 ≤ k ∧ k < wr.heap.size := h1.lt
  have hmb : v.ownBlock ≠ some (B + 2 + 1) := by
    intro hv
    obtain ⟨_, h | ⟨g', cap', cur, hv', _, hc, _⟩⟩ := h1
    · rw [h.1] at hv; cases hv
    · rw [hv'] at hv
      simp [Value.ownBlock] at hv
      obtain ⟨es, clock, hm', _⟩ := h4
      rw [← hv, hc] at hm'
      cases hm'
  have e1 : itemCells (L ++ [t]) = itemCells L ++ [.pointer (some t.p), .pointer (some t.q)] := by rw [itemCells_app]; rfl
  refine ⟨?_, ?_, ?_, ?_, ?_, ?_⟩
  · rw [e1, List.length_append]; exact hown
  · intro hv
    obtain ⟨_, h | ⟨g', cap', cur, hv', _⟩⟩ := hown
    · omega
    · rw [hv'] at hv; cases hv
  · rcases hb with hb | hb
    · rw [hb]; exact h3
    · rw [hb, hsz]; intro hv; cases hv; omega
  · refine h4.kept ?_ (fun u hu => hu.kept (fun b hb => ?_))
    · rw [hg.block _ (by rw [hsz]; have := h4.lt; omega) (Ne.symm hmb)]
      exact Below.heap_alloc _ _ _ h4.lt
    · rw [hg.block _ (by rw [hsz]; omega) (fun hv => by have := (hrow b hv.symm).1; omega)]
      exact Below.heap_alloc _ _ _ (by show b < wr.heap.size; omega)
  · exact Below.grown (h5.drew.alloc (by show B + 2 ≤ wr.heap.size; omega) o) hg (fun k hk => (hrow k hk).1) (by rw [hsz]; omega)
  · rw [hg.block _ (by rw [hsz]; omega) (Ne.symm h3)]
    exact (Below.heap_alloc _ _ _ hlt).trans h6

set_option maxHeartbeats 1600000 in
theorem same_walk (d : Nat) (v1 v2 : Value) (x y : Ex) (w : World) (h1 : ExAt w (Pl w) d v1 x) (h2 : ExAt w (Pl w) d v2 y) (hx : x.bulk ≤ 1048576) :
    Calls Try.prog 8 #[v1, v2] w fun e w' => e = .returned (.bool (x.same y)) ∧ Below w.heap.size w w' := by
  obtain ⟨kv1, rfl, i1, i2, i3, k1⟩ := h1
  obtain ⟨kv2, rfl, j1, j2, j3, k2⟩ := h2
  obtain ⟨a1, c1, rfl⟩ := k1.form
  obtain ⟨a2, c2, rfl⟩ := k2.form
  have B0 : Below w.heap.size w ((w.alloc (.cells #[.int .i64 x.kind, .int .i64 x.n, .string x.text, .slice a1 x.kids.length c1] 29)).alloc (.cells #[.int .i64 y.kind, .int .i64 y.n, .string y.text, .slice a2 y.kids.length c2] 29)) := ((Below.refl _ w).alloc (Nat.le_refl _) _).alloc (by simp) _
  have O1 : ((w.alloc (.cells #[.int .i64 x.kind, .int .i64 x.n, .string x.text, .slice a1 x.kids.length c1] 29)).alloc (.cells #[.int .i64 y.kind, .int .i64 y.n, .string y.text, .slice a2 y.kids.length c2] 29)).heap[w.heap.size]? = some (.cells #[.int .i64 x.kind, .int .i64 x.n, .string x.text, .slice a1 x.kids.length c1] 29) := (Below.heap_alloc _ _ _ (by simp)).trans (MapKept.heap_alloc w _).1
  have O2 : ((w.alloc (.cells #[.int .i64 x.kind, .int .i64 x.n, .string x.text, .slice a1 x.kids.length c1] 29)).alloc (.cells #[.int .i64 y.kind, .int .i64 y.n, .string y.text, .slice a2 y.kids.length c2] 29)).heap[w.heap.size + 1]? = some (.cells #[.int .i64 y.kind, .int .i64 y.n, .string y.text, .slice a2 y.kids.length c2] 29) := by
    have := (MapKept.heap_alloc (w.alloc (.cells #[.int .i64 x.kind, .int .i64 x.n, .string x.text, .slice a1 x.kids.length c1] 29)) (.cells #[.int .i64 y.kind, .int .i64 y.n, .string y.text, .slice a2 y.kids.length c2] 29)).1
    simpa using this
  have P3 : ((w.alloc (.cells #[.int .i64 x.kind, .int .i64 x.n, .string x.text, .slice a1 x.kids.length c1] 29)).alloc (.cells #[.int .i64 y.kind, .int .i64 y.n, .string y.text, .slice a2 y.kids.length c2] 29)).heap.size = w.heap.size + 2 := by simp
  have hmm := @run_makeMap Try.prog
  have HK1 := (show Hid (_ ∧ True) from ⟨k1, trivial⟩)
  have HK2 := (show Hid (_ ∧ True) from ⟨k2, trivial⟩)
  clear k1 k2
  go_enter Try.func8, Try.ntmps8
  go_wp2
  clear hmm
  generalize ((w.alloc (.cells #[.int .i64 x.kind, .int .i64 x.n, .string x.text, .slice a1 x.kids.length c1] 29)).alloc (.cells #[.int .i64 y.kind, .int .i64 y.n, .string y.text, .slice a2 y.kids.length c2] 29)) = w2 at *
  have N1 : NodeAt w2 d ⟨w.heap.size, 0, none⟩ x := ⟨w.heap.size, 0, _, rfl, ⟨_, _, O1⟩, by rw [cell_of_block O1]; rfl, by rw [cell_of_block O1]; rfl, by rw [cell_of_block O1]; rfl, by rw [cell_of_block O1]; rfl, i1, i2, i3, HK1.out.1.belowPl B0⟩
  have N2 : NodeAt w2 d ⟨w.heap.size + 1, 0, none⟩ y := ⟨w.heap.size + 1, 0, _, rfl, ⟨_, _, O2⟩, by rw [cell_of_block O2]; rfl, by rw [cell_of_block O2]; rfl, by rw [cell_of_block O2]; rfl, by rw [cell_of_block O2]; rfl, j1, j2, j3, HK2.out.1.belowPl B0⟩
  have Hc := Ex.count_bulk x
  have R0 : SameRel w2 x y w.heap.size x.count (.slice (some ⟨w.heap.size + 1 + 1, 0, none⟩) 1 1) ((w2.alloc (.cells #[.pointer (some ⟨w.heap.size, 0, none⟩), .pointer (some ⟨w.heap.size + 1, 0, none⟩)] 45)).alloc (.map #[] 0)) := by
    refine ⟨[⟨⟨w.heap.size, 0, none⟩, ⟨w.heap.size + 1, 0, none⟩, x, y⟩], fun _ => none, ⟨rfl, Or.inr ⟨w.heap.size + 2, 1, #[.pointer (some ⟨w.heap.size, 0, none⟩), .pointer (some ⟨w.heap.size + 1, 0, none⟩)], rfl, Nat.le_refl _, ?_, Nat.le_refl _, by decide, rfl, rfl⟩⟩, by simp, ?_, fun _ _ h => (by cases h), ?_, Gh.start N1 N2, by simp [itemSum]⟩
    · rw [Below.heap_alloc _ _ _ (by simp [P3])]
      have := (MapKept.heap_alloc w2 (.cells #[.pointer (some ⟨w.heap.size, 0, none⟩), .pointer (some ⟨w.heap.size + 1, 0, none⟩)] 45)).1
      rw [P3] at this
      exact this
    · have := PtMap.made (Kd := PtrsN (w.heap.size + 2)) (w2.alloc (.cells #[.pointer (some ⟨w.heap.size, 0, none⟩), .pointer (some ⟨w.heap.size + 1, 0, none⟩)] 45))
      rw [show (w2.alloc (.cells #[.pointer (some ⟨w.heap.size, 0, none⟩), .pointer (some ⟨w.heap.size + 1, 0, none⟩)] 45)).heap.size = w.heap.size + 2 + 1 by simp [P3]] at this
      exact this
    · rw [← P3]
      exact ((Below.refl _ w2).alloc (Nat.le_refl _) _).alloc (by simp) _
  go_loopw [5] (fun v wr => ∃ m, SameRel w2 x y w.heap.size m v wr ∧ m ≤ 1048577) (fun v wr => leastM (fun m => SameRel w2 x y w.heap.size m v wr))
  case atStart => exact ⟨_, R0, by omega⟩
  case round =>
    have hR := leastM_spec (p := fun m => SameRel w2 x y w.heap.size m u5 wr) (hrel.elim fun m h => ⟨m, h.1⟩)
    have hM : leastM (fun m => SameRel w2 x y w.heap.size m u5 wr) ≤ 1048577 := hrel.elim fun m h => Nat.le_trans (leastM_le h.1) h.2
    clear hrel
    generalize hm0 : leastM (fun m => SameRel w2 x y w.heap.size m u5 wr) = m0 at *
    have HM0 := (show Hid (_ ∧ True) from ⟨hm0, trivial⟩)
    clear hm0
    obtain ⟨L, f, hrow, hnn, hmap, hfu, hbel, hG, hmL⟩ := hR
    have hLs := itemSum_len L
    rcases nil_or_last L with rfl | ⟨L', t, rfl⟩
    · obtain ⟨a, cap, rfl⟩ := itemCells_none hrow
      have hs : x.same y = true := hG.done N1 N2
      have BF : Below w.heap.size w wr := B0.trans (hbel.mono (by omega))
      clear hG hmap hrow
      go_wp2
      go_ret
      exact ⟨by rw [hs]; rfl, BF⟩
    · obtain ⟨⟨d1, np, nq⟩, hsm⟩ := hG.waits t (by simp)
      obtain ⟨tp, tq, te, tg⟩ := t
      obtain ⟨bp, op, rfl⟩ := np.addr
      obtain ⟨bq, oq, rfl⟩ := nq.addr
      obtain ⟨g, cap, rfl, hcap, hmx, hgb, cp, cq, hrow'⟩ := itemCells_last hrow
      have hn0 : (0 : Int) < ((L'.length + 1 : Nat) : Int) := by omega
      have hW2 : Below w2.heap.size w2 wr := by rw [P3]; exact hbel
      have pp : Pl wr bp := np.pl.below hW2
      have pq : Pl wr bq := nq.pl.below hW2
      have lp : bp < w.heap.size + 2 := by rw [← P3]; exact np.pl.lt
      have lq : bq < w.heap.size + 2 := by rw [← P3]; exact nq.pl.lt
      have hsz2 : w.heap.size + 2 ≤ wr.heap.size := by rw [← P3]; exact hbel.size
      have hmap1 := hmap.alloc hsz2 (.cells #[.pointer (some ⟨bp, op, none⟩), .pointer (some ⟨bq, oq, none⟩)] 45)
      have hlk := hmap1.look (PtrsN.keys keysPairs _) Try.underlying47 (zeroUnit _) (x := .agg #[.pointer (some ⟨bp, op, none⟩), .pointer (some ⟨bq, oq, none⟩)]) ⟨⟨bp, op, none⟩, ⟨bq, oq, none⟩, rfl, lp, lq, pp.alloc _, pq.alloc _⟩ true
      have hmsz : w.heap.size + 2 + 1 < wr.heap.size := hmap.lt
      have hcnt := Ex.count_eq te
      rw [itemSum_app] at hmL
      simp only [itemSum] at hmL
      have HG := (show Hid (_ ∧ True) from ⟨hG, trivial⟩)
      have HROW := (show Hid (_ ∧ True) from ⟨hrow', trivial⟩)
      have HM := (show Hid (_ ∧ True) from ⟨hmap1, trivial⟩)
      have HBe := (show Hid (_ ∧ True) from ⟨hbel, trivial⟩)
      have HNp := (show Hid (_ ∧ True) from ⟨np, trivial⟩)
      have HNq := (show Hid (_ ∧ True) from ⟨nq, trivial⟩)
      have HPl : Hid (Pl wr bp ∧ Pl wr bq) := ⟨pp, pq⟩
      have HFU := (show Hid (_ ∧ True) from ⟨hfu, trivial⟩)
      clear hG hrow hrow' hmap hbel R0 hnn np nq hsm pp pq hmap1 hfu hW2 hLs
      generalize wr = ws at *
      cases hf : f (.agg #[.pointer (some ⟨bp, op, none⟩), .pointer (some ⟨bq, oq, none⟩)]) with
      | some u =>
        obtain rfl := HFU.out.1 _ _ hf
        rw [hf] at hlk
        simp only [if_true, Option.getD_some, Option.isSome_some] at hlk
        generalize hk : L'.length = k at *
        unfold maxLen at hmx
        have HF := (show Hid (_ ∧ True) from ⟨hf, trivial⟩)
        clear hf
        go_wp2_with fail
        have S' : SameRel w2 x y w.heap.size (itemSum L') (.slice (some ⟨g, 0, none⟩) k cap) ((ws.alloc (.cells #[.pointer (some ⟨bp, op, none⟩), .pointer (some ⟨bq, oq, none⟩)] 45)).alloc (.cells #[] 48)) :=
          ⟨L', f, by rw [hk]; exact (HROW.out.1.alloc _).alloc _, by simp, HM.out.1.alloc (by simp; omega) _, HFU.out.1, (HBe.out.1.alloc (by omega) _).alloc (by simp; omega) _, HG.out.1.skip HF.out.1, rfl⟩
        exact ⟨⟨_, S', by omega⟩, Nat.lt_of_le_of_lt (leastM_le S') (by rw [HM0.out.1]; omega)⟩
      | none =>
        rw [hf] at hlk
        simp only [if_true, Option.getD_none, Option.isSome_none] at hlk
        have hmap2 := HM.out.1.alloc (by simp; omega) (.cells #[] 48)
        obtain ⟨w3, hst, hmap3, ht3⟩ := hmap2.store (PtrsN.keys keysPairs _) Try.underlying47 (x := .agg #[.pointer (some ⟨bp, op, none⟩), .pointer (some ⟨bq, oq, none⟩)]) (v := .agg #[]) ⟨⟨bp, op, none⟩, ⟨bq, oq, none⟩, rfl, lp, lq, (HPl.out.1.alloc _).alloc _, (HPl.out.2.alloc _).alloc _⟩
        have g3 := ht3.grown
        have b3 : Below (w.heap.size + 2) w2 w3 := Below.grown ((HBe.out.1.alloc (by omega) _).alloc (by simp; omega) _) g3 (fun k hk => by cases hk; omega) (by simp; omega)
        have s3 : ws.heap.size + 2 ≤ w3.heap.size := by have := g3.size; simp at this; omega
        have O3 : w3.heap[ws.heap.size]? = some (.cells #[.pointer (some ⟨bp, op, none⟩), .pointer (some ⟨bq, oq, none⟩)] 45) := by
          rw [g3.block _ (by simp; omega) (by simp; omega), Below.heap_alloc _ _ _ (by simp)]
          exact (MapKept.heap_alloc ws _).1
        have hrow3 : w3.ownsRow (w.heap.size + 2) 45 2 (.slice (some ⟨g, 0, none⟩) L'.length cap) L'.length (itemCells L') := by
          refine ((HROW.out.1.alloc _).alloc _).kept g3 (Or.inr ?_)
          intro hh
          simp [Value.ownBlock] at hh
          obtain ⟨_, h | ⟨g', cap', cur, hv, _, hc, _⟩⟩ := HROW.out.1
          · exact absurd h.1 (by simp)
          · cases hv
            obtain ⟨es, clock, hm', _⟩ := HM.out.1
            rw [Below.heap_alloc _ _ _ (by omega), ← hh, hc] at hm'
            cases hm'
        have hgs : g < ws.heap.size := by
          obtain ⟨_, h | ⟨g', cap', cur, hv, _, hc, _⟩⟩ := HROW.out.1
          · exact absurd h.1 (by simp)
          · cases hv
            exact (Array.getElem?_eq_some_iff.1 hc).1
        have P0 : w3.cell? ⟨ws.heap.size, 0, none⟩ = some (.pointer (some ⟨bp, op, none⟩)) := by rw [cell_of_block O3]; rfl
        have P1 : w3.cell? ⟨ws.heap.size, 1, none⟩ = some (.pointer (some ⟨bq, oq, none⟩)) := by rw [cell_of_block O3]; rfl
        have HM3 := (show Hid (_ ∧ True) from ⟨hmap3, trivial⟩)
        have HB3 := (show Hid (_ ∧ True) from ⟨b3, trivial⟩)
        have HR3 := (show Hid (_ ∧ True) from ⟨hrow3, trivial⟩)
        have HO3 := (show Hid (_ ∧ True) from ⟨O3, trivial⟩)
        clear hmap2 hmap3 ht3 g3 b3 O3 hrow3 HROW HM
        generalize hk : L'.length = k at *
        unfold maxLen at hmx
        go_wp2_with fail
        refine (sameBut_any _ _ te tg d1 d1 _ (HNp.out.1.below (by rw [P3]; exact HB3.out.1)) (HNq.out.1.below (by rw [P3]; exact HB3.out.1))).mono ?_
        rintro e w4 ⟨rfl, d4⟩
        have b4 : Below (w.heap.size + 2) w2 w4 := HB3.out.1.trans (d4.mono (by omega))
        clear P0 P1 hst hlk
        cases hh : headB te tg with
        | false =>
          have hs : x.same y = false := HG.out.1.differ hh
          have BF : Below w.heap.size w w4 := B0.trans (b4.mono (by omega))
          go_wp2
          go_ret
          exact ⟨by rw [hs]; rfl, BF⟩
        | true =>
          have hlen : tg.kids.length = te.kids.length := ((headB_iff _ _).1 hh).2.2.2.symm
          obtain ⟨ap, kp, vp, hap⟩ := HNp.out.1.kidsVal
          obtain ⟨aq, kq, vq, haq⟩ := HNq.out.1.kidsVal
          rw [hlen] at vq haq
          have eP : ∀ wx : World, Below (w.heap.size + 2) w2 wx → wx.cell? ⟨bp, op + 3, none⟩ = some (.slice ap te.kids.length kp) := fun wx hb => (hb.cell lp).trans vp
          have eQ : ∀ wx : World, Below (w.heap.size + 2) w2 wx → wx.cell? ⟨bq, oq + 3, none⟩ = some (.slice aq te.kids.length kq) := fun wx hb => (hb.cell lq).trans vq
          obtain ⟨b, o, hbo⟩ : ∃ b o, 0 < te.kids.length → ap = some ⟨b, o, none⟩ := by
            by_cases h0 : 0 < te.kids.length
            · obtain ⟨b, o, h⟩ := hap h0; exact ⟨b, o, fun _ => h⟩
            · exact ⟨0, 0, fun h => absurd h h0⟩
          obtain ⟨b', o', hbo'⟩ : ∃ b o, 0 < te.kids.length → aq = some ⟨b, o, none⟩ := by
            by_cases h0 : 0 < te.kids.length
            · obtain ⟨b, o, h⟩ := haq h0; exact ⟨b, o, fun _ => h⟩
            · exact ⟨0, 0, fun h => absurd h h0⟩
          have HRO : Hid (0 < te.kids.length → RowOf w2 ⟨bp, op, none⟩ b o ∧ RowOf w2 ⟨bq, oq, none⟩ b' o') := fun h => ⟨⟨_, _, by rw [← hbo h]; exact vp⟩, ⟨_, _, by rw [← hbo' h]; exact vq⟩⟩
          have hcap2 : te.kids.length ≤ 1048577 := by
            have h1 := kidItems_sum 0 0 0 0 te te te.kids.length (Nat.le_refl _)
            have h2 := itemSum_len (kidItems 0 0 0 0 te te te.kids.length)
            rw [kidItems_len, h1, List.take_of_length_le (Nat.le_refl _)] at h2
            omega
          have I0 : SameIn w2 w.heap.size ws.heap.size ⟨bp, op, none⟩ ⟨bq, oq, none⟩ (L' ++ kidItems b o b' o' te tg 0) (setAt f (.agg #[.pointer (some ⟨bp, op, none⟩), .pointer (some ⟨bq, oq, none⟩)]) (.agg #[])) (.slice (some ⟨g, 0, none⟩) k cap) w4 := by
            refine ⟨?_, by simp, ?_, ?_, b4, (d4.block _ (by omega)).trans HO3.out.1⟩
            · simp only [kidItems, List.range_zero, List.map_nil, List.append_nil, hk]
              exact HR3.out.1.kept (row := none) ⟨d4.os, d4.tape, d4.output, d4.size, fun k hk _ => d4.block k hk⟩ (Or.inr (by simp [Value.ownBlock]))
            · simp [Value.ownBlock]; omega
            · exact HM3.out.1.kept (d4.block _ (by omega)) (fun _ hv => hv.kept (fun _ hb => d4.block _ (by omega)))
          have HI0 := (show Hid (_ ∧ True) from ⟨I0, trivial⟩)
          have P0 : w4.cell? ⟨ws.heap.size, 0, none⟩ = some (.pointer (some ⟨bp, op, none⟩)) := by rw [cell_of_block I0.2.2.2.2.2]; rfl
          have vp4 := eP w4 b4
          have HEP := (show Hid (_ ∧ True) from ⟨eP, trivial⟩)
          have HEQ := (show Hid (_ ∧ True) from ⟨eQ, trivial⟩)
          have HBO : Hid ((0 < te.kids.length → ap = some ⟨b, o, none⟩) ∧ (0 < te.kids.length → aq = some ⟨b', o', none⟩)) := ⟨hbo, hbo'⟩
          clear eP eQ I0 hbo hbo' HM3 HR3 HO3 d4 hap haq vp vq
          go_wp2_with fail
          clear P0 vp4
          go_loopw [5, 50] (fun v i wr => ∃ j : Nat, j ≤ te.kids.length ∧ i = .int .i64 j ∧ SameIn w2 w.heap.size ws.heap.size ⟨bp, op, none⟩ ⟨bq, oq, none⟩ (L' ++ kidItems b o b' o' te tg j) (setAt f (.agg #[.pointer (some ⟨bp, op, none⟩), .pointer (some ⟨bq, oq, none⟩)]) (.agg #[])) v wr) (fun _ i _ => te.kids.length - (intOf i).toNat)
          case atStart => exact ⟨0, Nat.zero_le _, rfl, HI0.out.1⟩
          case round =>
            obtain ⟨j, hj, rfl, hrowj, hnnj, hobj, hmapj, hbelj, hOj⟩ := hrel
            by_cases hjl : j < te.kids.length
            · obtain rfl := HBO.out.1 (by omega)
              obtain rfl := HBO.out.2 (by omega)
              have p0 : wr.cell? ⟨ws.heap.size, 0, none⟩ = some (.pointer (some ⟨bp, op, none⟩)) := by rw [cell_of_block hOj]; rfl
              have p1 : wr.cell? ⟨ws.heap.size, 1, none⟩ = some (.pointer (some ⟨bq, oq, none⟩)) := by rw [cell_of_block hOj]; rfl
              have vp := HEP.out.1 wr hbelj
              have vq := HEQ.out.1 wr hbelj
              have hlt' : ((j : Nat) : Int) < ((te.kids.length : Nat) : Int) := by omega
              have hlj : (L' ++ kidItems b o b' o' te tg j).length = k + j := by rw [List.length_append, kidItems_len, hk]
              have hsz : w.heap.size + 2 ≤ wr.heap.size := by rw [← P3]; exact hbelj.size
              have hkb : k ≤ 1048577 := by have := itemSum_len L'; omega
              have HRj := (show Hid (_ ∧ True) from ⟨(⟨hrowj, hnnj, hobj, hmapj, hbelj, hOj⟩ : SameIn w2 w.heap.size ws.heap.size ⟨bp, op, none⟩ ⟨bq, oq, none⟩ (L' ++ kidItems b o b' o' te tg j) (setAt f (.agg #[.pointer (some ⟨bp, op, none⟩), .pointer (some ⟨bq, oq, none⟩)]) (.agg #[])) u5 wr), trivial⟩)
              obtain ⟨i0, hi, hz0, hz1, hz2⟩ := info_parts infoPair
              clear hrowj hmapj hbelj hOj
              go_wp2_with fail
              go_region_law (refine step_append_own rfl (.tmp 53) (.tmp 69) 46 rfl (w.heap.size + 2) 45 i0 (.agg #[.pointer none, .pointer none]) 2 16 Try.underlying46 hi hz0 hz1 hz2 rfl (by decide) u5 _ _ (by simp [Act.eval]) (HRj.out.1.1.drew.alloc _) ⟨wr.heap.size, 0, none⟩ 1 1 [.pointer (some ⟨b, o + j * 4, none⟩), .pointer (some ⟨b', o' + j * 4, none⟩)] (by simp [Act.eval]) rfl (cell_two_new wr.drew _ _ _) (by simp [Value.oneCell']) (by rw [hlj]; unfold maxLen; omega) (by rw [hlj]; omega) (by simp; omega) ?_; intro v' w' hown' hgrow' hblk')
              all_goals
                have hnext := SameIn.next (t := kidItem b o b' o' te tg j) HRj.out.1 hsz hown' hgrow' hblk'
                rw [List.append_assoc, ← kidItems_succ] at hnext
                have HNX := (show Hid (_ ∧ True) from ⟨hnext, trivial⟩)
                clear hnext hown' hgrow' hblk' p0 p1 vp vq
                go_wp2_with fail
                exact ⟨⟨j + 1, by omega, by go_num, HNX.out.1⟩, by simp [intOf]; omega⟩
            · obtain rfl : j = te.kids.length := by omega
              have HRj := (show Hid (_ ∧ True) from ⟨hrowj, trivial⟩)
              have HMj := (show Hid (_ ∧ True) from ⟨hmapj, trivial⟩)
              have HBj := (show Hid (_ ∧ True) from ⟨hbelj, trivial⟩)
              clear hrowj hmapj hbelj hOj
              go_wp2_with fail
              have hks : itemSum (L' ++ kidItems b o b' o' te tg te.kids.length) = itemSum L' + Ex.countL te.kids := by
                rw [itemSum_app, kidItems_sum _ _ _ _ _ _ _ (Nat.le_refl _), List.take_of_length_le (Nat.le_refl _)]
              have S' : SameRel w2 x y w.heap.size (itemSum (L' ++ kidItems b o b' o' te tg te.kids.length)) u5 wr := by
                refine ⟨_, _, HRj.out.1, hnnj, HMj.out.1, ?_, HBj.out.1, HG.out.1.push hh HRO.out _, rfl⟩
                intro key u hu
                by_cases hkk : key = .agg #[.pointer (some ⟨bp, op, none⟩), .pointer (some ⟨bq, oq, none⟩)]
                · rw [hkk, setAt_same] at hu; cases hu; rfl
                · rw [setAt_other _ _ _ hkk] at hu; exact HFU.out.1 _ _ hu
              exact ⟨⟨_, S', by omega⟩, Nat.lt_of_le_of_lt (leastM_le S') (by rw [HM0.out.1]; omega)⟩
end Go.Proofs.Ytnhjfehkllaonab
