/-
  The law of Collect, for any program whose Collect answers as the plain words say, in memory of its own that it shares nowhere.
-/
import Derived.Test.YthjpmdoljceaiaaCellsOwn
import Derived.Test.YthjpmdoljceaiaaCellsEq
import Derived.Test.YthjpmdoljceaiaaCellsOpen
import Derived.Test.YthjpmdoljceaiaaMarkCells
import Derived.Test.YthjpmdoljceaiaaSpecCollect
import Derived.ChangeOld
namespace Go.Proofs.Ythjpmdoljceaiaa.fnExactCollect
open Go.ChangeShapes Go.WideShapes Go.ChangeAt Go.RowKit Go.Joins

set_option maxRecDepth 100000

/-- What the program's function must fulfil. -/
def Impl : Prop := ∀ (v rv : Value) (es : List Ce) (rs : List Int) (n0 : Nat) (w : World), CellsAt w (fun b => n0 ≤ b ∧ Pl w b) v es → IntsAt w (fun b => n0 ≤ b ∧ Pl w b) rv rs → bulkL es ≤ 1048576 → rs.length ≤ 1048576 →
  Calls Try.prog 22 #[v, rv] w fun e w' => ∃ cv tv cs, e = .returned (.tuple #[cv, tv]) ∧ HpAt w' w.heap.size cv cs ∧ cs.map Prod.fst = collectC es rs ∧ w'.ownsRow w.heap.size 3 1 tv (collectR es rs).length (intVs (collectR es rs)) ∧ (∀ b, tv.ownBlock = some b → ¬ HpOwn cv cs b) ∧ Below w.heap.size w w'

theorem own_below {W W' : World} {B n size : Nat} {e : TypeId} {v : Value} {xs : List Value} (h : W.ownsRow B e size v n xs) (hb : Below W.heap.size W W') : W'.ownsRow B e size v n xs :=
  own_moved h (fun g hg => hb.block g (own_lt h g hg))
theorem mark_bound {rs : List (Ce × Value)} {es : List Ce} (h : rs.map Prod.fst = es) : markEL 1 rs ≤ 1 + 3 * (bulkL es : Int) + (bulkL es : Int) := by
  rw [markEL_bulk, h]
  have hl : rs.length = es.length := by rw [← h]; simp
  have := bulkL_eq es
  omega
theorem marksL_own (cv : Value) : ∀ (rs : List (Ce × Value)) (k : Int) (b : Nat), HpOwn cv (marksL k rs) b → HpOwn cv rs b := by
  have key : ∀ (rs : List (Ce × Value)) (k : Int), (marksL k rs).map Prod.snd = rs.map Prod.snd := by
    intro rs
    induction rs with
    | nil => intro k; rfl
    | cons r l ih => intro k; rw [marksL, List.map_cons, List.map_cons, ih]
  intro rs k b h
  rcases h with h | ⟨r, hr, h⟩
  · exact .inl h
  · have hm : r.2 ∈ rs.map Prod.snd := by rw [← key rs k]; exact List.mem_map.2 ⟨r, hr, rfl⟩
    obtain ⟨r', hr', e⟩ := List.mem_map.1 hm
    exact .inr ⟨r', hr', by rw [e]; exact h⟩

/-- How the law's call stands: the argument lies, the specification's answers lie below n6, the program's from n8 on. -/
structure AS (w wi : World) (n5 n6 n8 : Nat) (w0v w1v g0v g1v : Value) (rw rg : List (Ce × Value)) (al gl : List Int) : Prop where
  low : Below w.heap.size w wi
  r0 : HpAt wi n5 w0v rw
  r1 : wi.ownsRow n5 3 1 w1v al.length (intVs al)
  r0lt : ∀ b, HpOwn w0v rw b → b < n6
  r1lt : ∀ b, w1v.ownBlock = some b → b < n6
  g0 : HpAt wi n8 g0v rg
  g1 : wi.ownsRow n8 3 1 g1v gl.length (intVs gl)
theorem AS.below {w wi wj : World} {n5 n6 n8 : Nat} {w0v w1v g0v g1v : Value} {rw rg : List (Ce × Value)} {al gl : List Int} (h : AS w wi n5 n6 n8 w0v w1v g0v g1v rw rg al gl) (hb : Below wi.heap.size wi wj) : AS w wj n5 n6 n8 w0v w1v g0v g1v rw rg al gl :=
  ⟨h.low.trans (hb.mono h.low.size), h.r0.below hb, own_below h.r1 hb, h.r0lt, h.r1lt, h.g0.below hb, own_below h.g1 hb⟩
theorem AS.outs {w wi wj : World} {n5 n6 n8 : Nat} {w0v w1v g0v g1v : Value} {rw rg : List (Ce × Value)} {al gl : List Int} {P : Nat → Prop} (h : AS w wi n5 n6 n8 w0v w1v g0v g1v rw rg al gl) (ho : OutsP P wi wj) (hP : ∀ b, P b → n6 ≤ b ∧ b < n8) (hw : w.heap.size ≤ n6) : AS w wj n5 n6 n8 w0v w1v g0v g1v rw rg al gl :=
  ⟨h.low.trans ⟨ho.os, ho.tape, ho.output, ho.size, fun k hk => ho.out k (Nat.lt_of_lt_of_le hk h.low.size) (fun hp => by have := hP k hp; omega)⟩,
   h.r0.outs ho (fun b hb hp => by have := hP b hp; have := h.r0lt b hb; omega),
   own_moved h.r1 (fun g hg => ho.out g (own_lt h.r1 g hg) (fun hp => by have := hP g hp; have := h.r1lt g hg; omega)), h.r0lt, h.r1lt,
   h.g0.outs ho (fun b hb hp => by have := hP b hp; have := (h.g0.own hb).1; omega),
   own_moved h.g1 (fun g hg => ho.out g (own_lt h.g1 g hg) (fun hp => by have := hP g hp; have := (own_type h.g1 g hg).1; omega))⟩
/-- The program's answer is written over. -/
theorem AS.own {w wi wj : World} {n5 n6 n8 : Nat} {w0v w1v g0v g1v : Value} {rw rg rg' : List (Ce × Value)} {al gl gl' : List Int} {P : Nat → Prop} (h : AS w wi n5 n6 n8 w0v w1v g0v g1v rw rg al gl) (ho : OutsP P wi wj) (hP : ∀ b, P b → n8 ≤ b) (h68 : n6 ≤ n8) (hw : w.heap.size ≤ n6) (h0 : HpAt wj n8 g0v rg') (h1 : wj.ownsRow n8 3 1 g1v gl'.length (intVs gl')) : AS w wj n5 n6 n8 w0v w1v g0v g1v rw rg' al gl' :=
  ⟨h.low.trans ⟨ho.os, ho.tape, ho.output, ho.size, fun k hk => ho.out k (Nat.lt_of_lt_of_le hk h.low.size) (fun hp => by have := hP k hp; omega)⟩,
   h.r0.outs ho (fun b hb hp => by have := hP b hp; have := h.r0lt b hb; omega),
   own_moved h.r1 (fun g hg => ho.out g (own_lt h.r1 g hg) (fun hp => by have := hP g hp; have := h.r1lt g hg; omega)), h.r0lt, h.r1lt, h0, h1⟩

set_option maxHeartbeats 12800000 in
theorem walk (himpl : Impl) (v rv : Value) (es : List Ce) (rts : List Int) (w : World) (h : CellsAt w (fun _ => True) v es) (h2 : IntsAt w (fun _ => True) rv rts) :
    Calls Try.prog 6 #[v, rv] w fun e w' => e = .returned (.bool true) ∧ Below w.heap.size w w' := by
  have H1 := (show Hid (_ ∧ _ ∧ _) from ⟨h, h2, himpl⟩)
  obtain ⟨a1, c1, rfl⟩ := h.form
  obtain ⟨a2, c2, rfl⟩ := h2.form
  have hrl := h2.len
  clear h h2 himpl
  rcases Nat.lt_or_ge 1048576 rts.length with hr | hr
  · have hgt : (1048576 : Int) < ((rts.length : Nat) : Int) := by omega
    go_enter Try.func6, Try.ntmps6
    go_wp2
    go_ret
    exact ⟨rfl, Below.refl _ _⟩
  have hng : ¬ (1048576 : Int) < ((rts.length : Nat) : Int) := by omega
  go_enter Try.func6, Try.ntmps6
  go_wp2_with fail
  refine (szCellS_any _ es _ _ _ H1.out.1 (by omega) (by omega)).mono ?_
  rintro e w3 ⟨rfl, b3⟩
  rcases Nat.lt_or_ge 1048576 (bulkL es) with hx | hx
  · have hr : szR 1048576 (bulkL es) = -1 := by unfold szR; rw [if_neg (by omega)]
    rw [hr]
    go_wp2
    go_ret
    exact ⟨rfl, b3⟩
  have hr : szR 1048576 (bulkL es) = 1048576 - bulkL es := by unfold szR; rw [if_pos (by omega)]
  rw [hr]
  have hr0 : ¬ (1048576 : Int) - bulkL es < 0 := by omega
  have hlen : es.length ≤ bulkL es := Nat.le_add_right _ _
  have hcb := collectC_bulk es rts
  have hcr := collectR_len es rts
  clear hr
  go_wp2_with fail
  refine (toCellS_any _ es _ _ (H1.out.1.below b3) hx).mono ?_
  rintro e w4 ⟨v4, rfl, p4, d4⟩
  have b4 : Below w.heap.size w w4 := b3.trans (d4.mono b3.size)
  obtain ⟨a4, c4, rfl⟩ := p4.form
  have HP4 := (show Hid (_ ∧ True) from ⟨p4, trivial⟩)
  clear d4 p4 b3
  go_wp2_with fail
  refine (toIntS_any _ rts _ _ (H1.out.2.1.below b4) (by omega)).mono ?_
  rintro e w5 ⟨v5, rfl, p5, d5⟩
  have b5 : Below w.heap.size w w5 := b4.trans (d5.mono b4.size)
  obtain ⟨a5, c5, rfl⟩ := p5.form
  have HP5 := (show Hid (_ ∧ _) from ⟨HP4.out.1.below d5, p5⟩)
  clear d5 p5 b4 HP4
  go_wp2_with fail
  refine (specCollect_any _ _ es rts _ _ _ HP5.out.1 HP5.out.2 (by omega)).mono ?_
  rintro e w6 ⟨w0v, w1v, rsw, rfl, r6, m6, q6, d6⟩
  have b6 : Below w.heap.size w w6 := b5.trans (d6.mono b5.size)
  have n56 := d6.size
  have nw5 := b5.size
  obtain ⟨a6, c6, hv6⟩ := own_form r6.cells
  have hl6 : rsw.length = (collectC es rts).length := by rw [← m6]; simp
  rw [hl6] at hv6
  obtain ⟨a6', c6', hv6'⟩ := own_form q6
  rw [hcr] at hv6'
  have HR6 := (show Hid (_ ∧ _ ∧ _ ∧ _ ∧ _) from ⟨r6, q6, m6, fun (b : Nat) (hb : HpOwn w0v rsw b) => (r6.own hb).2, own_lt q6⟩)
  subst hv6 hv6'
  clear d6 r6 q6 m6 b5 HP5 hl6
  go_wp2_with fail
  refine (toCellSO_any _ es _ _ (H1.out.1.below b6) hx).mono ?_
  rintro e w7 ⟨x0v, rs, rfl, p7, m7, d7⟩
  have b7 : Below w.heap.size w w7 := b6.trans (d7.mono b6.size)
  have n67 := d7.size
  have hrs : rs.length = es.length := by rw [← m7]; simp
  obtain ⟨a7, c7, hv7⟩ := own_form p7.cells
  rw [hrs] at hv7
  have HX7 := (show Hid (_ ∧ _ ∧ _ ∧ _ ∧ _) from ⟨p7, m7, HR6.out.1.below d7, own_below HR6.out.2.1 d7, hrs⟩)
  subst hv7
  clear d7 p7 m7 b6 hrs
  go_wp2_with fail
  refine (toIntO_any _ rts _ _ (H1.out.2.1.below b7) (by omega)).mono ?_
  rintro e w8 ⟨x1v, rfl, p8, z8, o8, d8⟩
  have b8 : Below w.heap.size w w8 := b7.trans (d8.mono b7.size)
  have n78 := d8.size
  obtain ⟨a8, c8, rfl⟩ := own_form p8
  have hlt7 : ∀ b, HpOwn (.slice a7 es.length c7) rs b → w6.heap.size ≤ b ∧ b < w7.heap.size := fun b hb => HX7.out.1.own hb
  have HX8 := (show Hid (_ ∧ _ ∧ _ ∧ _ ∧ _ ∧ _) from ⟨HX7.out.1.below d8, p8, z8, HX7.out.2.2.1.below d8, own_below HX7.out.2.2.2.1 d8, hlt7⟩)
  clear hlt7
  have hA8 : CellsAt w8 (fun b => w6.heap.size ≤ b ∧ Pl w8 b) (.slice a7 es.length c7) es := by
    have := HX8.out.1.at
    rw [HX7.out.2.1] at this
    exact this
  have hI8 : IntsAt w8 (fun b => w6.heap.size ≤ b ∧ Pl w8 b) (.slice a8 rts.length c8) rts := (own_ints p8 z8).wide (fun b hb => ⟨by omega, hb.2⟩)
  have HA8 := (show Hid (_ ∧ _) from ⟨hA8, hI8⟩)
  clear d8 p8 z8 o8 b7 hA8 hI8
  go_wp2_with fail
  refine (H1.out.2.2 _ _ es rts _ _ HA8.out.1 HA8.out.2 hx hr).mono ?_
  rintro e w9 ⟨g0v, g1v, rsg, rfl, r9, m9, q9, ap9, d9⟩
  have b9 : Below w.heap.size w w9 := b8.trans (d9.mono b8.size)
  have n89 := d9.size
  obtain ⟨a9, c9, hv9⟩ := own_form r9.cells
  have hl9 : rsg.length = (collectC es rts).length := by rw [← m9]; simp
  rw [hl9] at hv9
  obtain ⟨a9', c9', hv9'⟩ := own_form q9
  rw [hcr] at hv9'
  have S9 : AS w w9 w5.heap.size w6.heap.size w8.heap.size (.slice a6 (collectC es rts).length c6) (.slice a6' rts.length c6') g0v g1v rsw rsg (collectR es rts) (collectR es rts) :=
    ⟨b9, HX8.out.2.2.2.1.below d9, own_below HX8.out.2.2.2.2.1 d9, HR6.out.2.2.2.1, HR6.out.2.2.2.2, r9, q9⟩
  have HX9 := (show Hid (_ ∧ _ ∧ _ ∧ _) from ⟨HX8.out.1.below d9, own_below HX8.out.2.1 d9, HX8.out.2.2.1, own_lt HX8.out.2.1⟩)
  have HS9 := (show Hid (_ ∧ True) from ⟨S9, trivial⟩)
  have HL := (show Hid (_ ∧ _ ∧ _ ∧ _ ∧ _ ∧ _) from ⟨HX7.out.2.1, HX7.out.2.2.2.2, HX8.out.2.2.2.2.2, HR6.out.2.2.1, m9, ap9⟩)
  have HAI := (show Hid (_ ∧ True) from ⟨collectR_in es rts (by omega), trivial⟩)
  subst hv9 hv9'
  clear d9 r9 b8 b9 S9 HA8 HX8 HX7 HR6 m9 q9 ap9 hl9
  have hnot := ex_not
  have hmb := mark_bound HL.out.1
  have hmg := markEL_ge rs 1
  have hmb2 := mark_bound HL.out.2.2.2.2.1
  have hmg2 := markEL_ge rsg 1
  have HEQ : Hid (∀ {wi : World} {rg : List (Ce × Value)} {gl : List Int}, AS w wi w5.heap.size w6.heap.size w8.heap.size (.slice a6 (collectC es rts).length c6) (.slice a6' rts.length c6') (.slice a9 (collectC es rts).length c9) (.slice a9' rts.length c9') rsw rg (collectR es rts) gl → CellsAt wi (fun b => w5.heap.size ≤ b ∧ Pl wi b) (.slice a6 (collectC es rts).length c6) (collectC es rts)) := fun h => by
    have := h.r0.at
    rw [HL.out.2.2.2.1] at this
    exact this
  have HEG : Hid (∀ {wi : World} {gl : List Int}, AS w wi w5.heap.size w6.heap.size w8.heap.size (.slice a6 (collectC es rts).length c6) (.slice a6' rts.length c6') (.slice a9 (collectC es rts).length c9) (.slice a9' rts.length c9') rsw rsg (collectR es rts) gl → CellsAt wi (fun b => w8.heap.size ≤ b ∧ Pl wi b) (.slice a9 (collectC es rts).length c9) (collectC es rts)) := fun h => by
    have := h.g0.at
    rw [HL.out.2.2.2.2.1] at this
    exact this
  go_wp2_with fail
  refine (eqCellS_any _ _ (collectC es rts) _ _ _ (HEG.out HS9.out.1) (HEQ.out HS9.out.1) (by omega)).mono ?_
  rintro e w10 ⟨rfl, d10⟩
  have HS10 := (show Hid (_ ∧ _ ∧ _) from ⟨HS9.out.1.below d10, HX9.out.1.below d10, own_below HX9.out.2.1 d10⟩)
  have HZ := (show Hid (_ ∧ _) from ⟨HX9.out.2.2.1, HX9.out.2.2.2⟩)
  clear d10 HS9 HX9
  go_wp2_with fail
  refine (eqIntS_same _ _ (collectR es rts) _ _ _ (own_ints HS10.out.1.g1 HAI.out.1) (own_ints HS10.out.1.r1 HAI.out.1) (by omega)).mono ?_
  rintro e w10b ⟨rfl, d10b⟩
  have HS10b := (show Hid (_ ∧ _ ∧ _) from ⟨HS10.out.1.below d10b, HS10.out.2.1.below d10b, own_below HS10.out.2.2 d10b⟩)
  clear d10b HS10
  go_wp2_with fail
  refine (toCellS_any _ es _ _ (H1.out.1.below HS10b.out.1.low) hx).mono ?_
  rintro e w11 ⟨v11, rfl, p11, d11⟩
  obtain ⟨a11, c11, rfl⟩ := p11.form
  have hx11 := HS10b.out.2.1.below d11
  have hat11 := hx11.at
  rw [HL.out.1] at hat11
  have HS11 := (show Hid (_ ∧ _ ∧ _ ∧ _ ∧ _) from ⟨HS10b.out.1.below d11, hx11, own_below HS10b.out.2.2 d11, hat11, p11⟩)
  clear d11 p11 hx11 hat11 HS10b
  go_wp2_with fail
  refine (eqCellS_any _ _ es _ _ _ HS11.out.2.2.2.1 HS11.out.2.2.2.2 (by omega)).mono ?_
  rintro e w12 ⟨rfl, d12⟩
  have HS12 := (show Hid (_ ∧ _ ∧ _) from ⟨HS11.out.1.below d12, HS11.out.2.1.below d12, own_below HS11.out.2.2.1 d12⟩)
  clear d12 HS11
  go_wp2_with fail
  refine (toIntS_any _ rts _ _ (H1.out.2.1.below HS12.out.1.low) (by omega)).mono ?_
  rintro e w13 ⟨v13, rfl, p13, d13⟩
  obtain ⟨a13, c13, rfl⟩ := p13.form
  have hx13 := own_below HS12.out.2.2 d13
  have HS13 := (show Hid (_ ∧ _ ∧ _ ∧ _ ∧ _) from ⟨HS12.out.1.below d13, HS12.out.2.1.below d13, hx13, own_ints hx13 HZ.out.1, p13⟩)
  clear d13 p13 hx13 HS12
  go_wp2_with fail
  refine (eqIntS_same _ _ rts _ _ _ HS13.out.2.2.2.1 HS13.out.2.2.2.2 (by omega)).mono ?_
  rintro e w14 ⟨rfl, d14⟩
  have HS14 := (show Hid (_ ∧ _ ∧ _) from ⟨HS13.out.1.below d14, HS13.out.2.1.below d14, own_below HS13.out.2.2.1 d14⟩)
  clear d14 HS13
  go_wp2_with fail
  refine (markCellS_any _ _ rs 1 _ (by omega) (by omega) HS14.out.2.1).mono ?_
  rintro e w15 ⟨rfl, -, m15⟩
  have s15 := HS14.out.1.outs m15 (fun b hb => by have := HL.out.2.2.1 b hb; omega) (by omega)
  have x15 : w15.ownsRow w7.heap.size 3 1 (.slice a8 rts.length c8) rts.length (intVs rts) :=
    own_moved HS14.out.2.2 (fun b hb => m15.out b (own_lt HS14.out.2.2 b hb) (fun hp => by have := HL.out.2.2.1 b hp; have := (own_type HS14.out.2.2 b hb).1; omega))
  have HS15 := (show Hid (_ ∧ _) from ⟨s15, x15⟩)
  clear m15 s15 x15 HS14
  generalize markEL 1 rs = km at *
  go_wp2_with fail
  refine (markIntS_any _ _ rts.length _ km _ (by omega) (by omega) (by omega) HS15.out.2).mono ?_
  rintro e w16 ⟨rfl, -, m16⟩
  have s16 := HS15.out.1.outs (OutsP.of_grown (P := fun b => Value.ownBlock (.slice a8 rts.length c8) = some b) m16 (fun g hg => hg)) (fun b hb => by have := (own_type HS15.out.2 b hb).1; have := HZ.out.2 b hb; omega) (by omega)
  have HS16 := (show Hid (_ ∧ True) from ⟨s16, trivial⟩)
  have hkm : ¬ km + (rts.length : Int) < 0 := by omega
  clear m16 s16 HS15
  go_wp2_with fail
  refine (eqCellS_any _ _ (collectC es rts) _ _ _ (HEG.out HS16.out.1) (HEQ.out HS16.out.1) (by omega)).mono ?_
  rintro e w16b ⟨rfl, d16b⟩
  have HS16b := (show Hid (_ ∧ True) from ⟨HS16.out.1.below d16b, trivial⟩)
  clear d16b HS16
  go_wp2_with fail
  refine (eqIntS_same _ _ (collectR es rts) _ _ _ (own_ints HS16b.out.1.g1 HAI.out.1) (own_ints HS16b.out.1.r1 HAI.out.1) (by omega)).mono ?_
  rintro e w17 ⟨rfl, d17⟩
  have HS17 := (show Hid (_ ∧ True) from ⟨HS16b.out.1.below d17, trivial⟩)
  clear d17 HS16b
  go_wp2_with fail
  refine (markCellS_any _ _ rsg 1 _ (by omega) (by omega) HS17.out.1.g0).mono ?_
  rintro e w18 ⟨rfl, h18, m18⟩
  have s18 := HS17.out.1.own m18 (fun b hb => (HS17.out.1.g0.own hb).1) (by omega) (by omega) h18 (own_moved HS17.out.1.g1 (fun b hb => m18.out b (own_lt HS17.out.1.g1 b hb) (HL.out.2.2.2.2.2 b hb)))
  have HS18 := (show Hid (_ ∧ True) from ⟨s18, trivial⟩)
  clear h18 m18 s18 HS17
  go_wp2_with fail
  refine (markIntS_any _ _ (collectR es rts).length _ (markEL 1 rsg) _ (by omega) (by omega) (by omega) HS18.out.1.g1).mono ?_
  rintro e w19 ⟨rfl, r19, m19⟩
  have s19 := HS18.out.1.own (gl' := marksI (markEL 1 rsg) (collectR es rts).length) (OutsP.of_grown (P := fun b => Value.ownBlock (.slice a9' rts.length c9') = some b) m19 (fun g hg => hg)) (fun b hb => (own_type HS18.out.1.g1 b hb).1) (by omega) (by omega)
    (HS18.out.1.g0.moved (fun b hb => m19.block b (HS18.out.1.g0.own hb).2 (fun e => HL.out.2.2.2.2.2 b e.symm (marksL_own _ _ _ _ hb)))) (by rw [marksI_len]; exact r19)
  have HS19 := (show Hid (_ ∧ True) from ⟨s19, trivial⟩)
  clear r19 m19 s19 HS18
  rw [hcr] at *
  have HHE : Hid (∀ {wi : World}, AS w wi w5.heap.size w6.heap.size w8.heap.size (.slice a6 (collectC es rts).length c6) (.slice a6' rts.length c6') (.slice a9 (collectC es rts).length c9) (.slice a9' rts.length c9') rsw (marksL 1 rsg) (collectR es rts) (marksI (markEL 1 rsg) rts.length) → wi.ownsRow w8.heap.size 3 1 (.slice a9' rts.length c9') rts.length (intVs (marksI (markEL 1 rsg) rts.length))) := fun h => by
    have := h.g1
    rw [marksI_len] at this
    exact this
  have hq0 : ¬ markEL 1 rsg < 0 := by omega
  have hq1 : ¬ markEL 1 rsg + (rts.length : Int) < 0 := by omega
  have hq2 : (markEL 1 rsg + (rts.length : Int) != markEL 1 rsg + (rts.length : Int)) = false := by simp
  go_wp2_with fail
  refine (heldCellS_any _ _ rsg 1 _ (by omega) (by omega) HS19.out.1.g0).mono ?_
  rintro e w20 ⟨rfl, d20⟩
  have HS20 := (show Hid (_ ∧ True) from ⟨HS19.out.1.below d20, trivial⟩)
  clear d20 HS19
  go_wp2_with fail
  refine (heldIntS_any w8.heap.size _ rts.length (markEL 1 rsg) _ (by omega) (by omega) (by omega) (HHE.out HS20.out.1)).mono ?_
  rintro e w21 ⟨rfl, d21⟩
  have HS21 := (show Hid (_ ∧ True) from ⟨HS20.out.1.below d21, trivial⟩)
  clear d21 HS20
  go_wp2_with fail
  refine (toCellS_any _ es _ _ (H1.out.1.below HS21.out.1.low) hx).mono ?_
  rintro e w22 ⟨v22, rfl, p22, d22⟩
  obtain ⟨a22, c22, rfl⟩ := p22.form
  have HS22 := (show Hid (_ ∧ _) from ⟨HS21.out.1.below d22, p22⟩)
  have n22 := d22.size
  clear d22 p22 HS21
  go_wp2_with fail
  refine (toIntS_any _ rts _ _ (H1.out.2.1.below HS22.out.1.low) (by omega)).mono ?_
  rintro e w23 ⟨v23, rfl, p23, d23⟩
  obtain ⟨a23, c23, rfl⟩ := p23.form
  have hc23 := HS22.out.2.belowP d23
  have hi23 := p23.wide (S' := fun b => w21.heap.size ≤ b ∧ Pl w23 b) (fun b hb => ⟨by omega, hb.2⟩)
  have HS23 := (show Hid (_ ∧ _ ∧ _) from ⟨HS22.out.1.below d23, hc23, hi23⟩)
  clear d23 p23 hc23 hi23 HS22
  go_wp2_with fail
  refine (H1.out.2.2 _ _ es rts _ _ HS23.out.2.1 HS23.out.2.2 hx hr).mono ?_
  rintro e w24 ⟨h0v, h1v, rsh, rfl, r24, m24, q24, -, d24⟩
  obtain ⟨a24, c24, hv24⟩ := own_form r24.cells
  have hl24 : rsh.length = (collectC es rts).length := by rw [← m24]; simp
  rw [hl24] at hv24
  obtain ⟨a25, c25, hv25⟩ := own_form q24
  have hcr2 := collectR_len es rts
  rw [hcr2] at hv25
  have hat24 := r24.at
  rw [m24] at hat24
  have HS24 := (show Hid (_ ∧ _ ∧ _) from ⟨HS23.out.1.below d24, hat24, q24⟩)
  subst hv24 hv25
  clear d24 r24 m24 q24 hat24 HS23 hl24 hcr2
  go_wp2_with fail
  refine (eqCellS_any _ _ (collectC es rts) _ _ _ HS24.out.2.1 (HEQ.out HS24.out.1) (by omega)).mono ?_
  rintro e w25 ⟨rfl, d25⟩
  have HS25 := (show Hid (_ ∧ _) from ⟨HS24.out.1.below d25, own_below HS24.out.2.2 d25⟩)
  clear d25 HS24
  go_wp2_with fail
  refine (eqIntS_same _ _ (collectR es rts) _ _ _ (own_ints HS25.out.2 HAI.out.1) (own_ints HS25.out.1.r1 HAI.out.1) (by rw [collectR_len]; omega)).mono ?_
  rintro e w26 ⟨rfl, d26⟩
  have HS26 := (show Hid (_ ∧ True) from ⟨HS25.out.1.below d26, trivial⟩)
  clear d26 HS25
  go_wp2_with fail
  refine (heldCellS_any _ _ rsg 1 _ (by omega) (by omega) HS26.out.1.g0).mono ?_
  rintro e w27 ⟨rfl, d27⟩
  have HS27 := (show Hid (_ ∧ True) from ⟨HS26.out.1.below d27, trivial⟩)
  clear d27 HS26
  go_wp2_with fail
  refine (heldIntS_any w8.heap.size _ rts.length (markEL 1 rsg) _ (by omega) (by omega) (by omega) (HHE.out HS27.out.1)).mono ?_
  rintro e w28 ⟨rfl, d28⟩
  have s28 := (HS27.out.1.below d28).low
  clear d28 HS27
  go_wp2
  go_ret
  exact ⟨rfl, s28⟩

theorem own : ownKnob Try.prog.godebug = none := by kernel_rfl
theorem laidOut : laidOutB Try.prog = true := by kernel_rfl

theorem lifted (himpl : Impl) (os : Os) (started : os.Started) (H : Type) (enc : TypeId × Value → H) :
    ReturnsInHanded {} Try.checked os 6 .any (Rows.fnExactCollectSpec.pre6 enc Try.prog Try.f6 Rows.fnExactCollectRow.domain false) (Rows.fnExactCollectSpec.post enc Try.prog Try.f6 false true false false) := by
  refine returnsInHanded_of_change (C := Try.checked) own started (by kernel_rfl) Try.func6
    (ChangeSpec.witness6 (enc := enc) (C := Try.checked) false ⟨#[], #[.slice none 0 0, .slice none 0 0], []⟩ 8 (by kernel_rfl) (by kernel_rfl) (by kernel_rfl) (by kernel_rfl)) ?_
  intro W base args ds gs before hval0 hW hcnd _
  have hval : ∀ (j : Nat) t v, Try.f6.params[j]? = some t → args[j]? = some v → Value.okWide Try.prog W .any base t v := hval0
  have hW' := hW
  obtain ⟨p, q, hA0, hV, rfl, hfz, hnd⟩ := hW
  have hA : DataW.TrodAll enc Try.prog W 0 (fun _ => true) true Try.f6.params.toList args.toList ds p := hA0
  rw [Try.params6] at hA hval
  obtain ⟨v0, vs0, d0, ds0, p0, q0, hargs, rfl, rfl, h0, r0⟩ := trodAll_cons hA
  obtain ⟨v1, vs1, d1, ds1, p1, q1, hargs1, rfl, rfl, h1, r1⟩ := trodAll_cons r0
  obtain ⟨rfl, rfl, rfl⟩ := trodAll_nil r1
  obtain rfl : args = #[v0, v1] := by cases args; simp_all
  obtain ⟨rfl, rfl⟩ := trodVars_none hV
  have k0 := h0
  have k1 := h1
  have lt0 : ∀ x ∈ p0, x.block < W.heap.size := by obtain ⟨m, hm⟩ := k0; exact DataW.trod_lt m _ _ _ hm
  have lt1 : ∀ x ∈ p1, x.block < W.heap.size := by obtain ⟨m, hm⟩ := k1; exact DataW.trod_lt m _ _ _ hm
  obtain ⟨a0, len0, cap0, rfl⟩ := okWide_slice Try.underlying22 (hval 0 22 v0 rfl rfl)
  obtain ⟨a1, len1, cap1, rfl⟩ := okWide_slice Try.underlying30 (hval 1 30 v1 rfl rfl)
  obtain ⟨m0, hm0⟩ := h0
  obtain ⟨m1, hm1⟩ := h1
  obtain ⟨v0', es, hv0, hes⟩ := open_cells m0 _ _ hm0
  obtain rfl : Value.slice a0 len0 cap0 = v0' := (List.cons.inj (show [Value.slice a0 len0 cap0] = [v0'] from hv0)).1
  obtain ⟨v1', rts, hv1, hrts⟩ := open_ints m1 _ _ hm1
  obtain rfl : Value.slice a1 len1 cap1 = v1' := (List.cons.inj (show [Value.slice a1 len1 cap1] = [v1'] from hv1)).1
  clear hA0 hval0
  refine (walk himpl _ _ es rts W hes hrts).mono fun e W' ⟨he, bel⟩ => ?_
  subst he
  exact ⟨_, rfl, _, _, _, [], _, [], hW', trodAll_mk1 (shut_bool Try.underlying4 _), (trodAll_cons_mk (Below.trod laidOut (by kernel_rfl) (of_decide_eq_true (by kernel_rfl)) k0 bel lt0) (trodAll_cons_mk (Below.trod laidOut (by kernel_rfl) (of_decide_eq_true (by kernel_rfl)) k1 bel lt1) trodAll_mk0)), rfl, bel.frame _, fun h => by cases h⟩

theorem over (himpl : Impl) : Rows.fnExactCollectRow.holds Try.pinned (OpenSpec.ofChange Rows.fnExactCollectSpec) :=
  OpenClaim.holds_of_wide 6 Try.f6 rfl rfl rfl rfl rfl rfl rfl ⟨rfl, rfl, rfl, rfl, rfl⟩ rfl rfl rfl rfl rfl (by kernel_rfl) Try.func6 (by kernel_rfl)
    (of_decide_eq_true (by kernel_rfl)) (by unfold Func.isWrapper; first | (rw [if_pos (by decide +kernel)]; kernel_rfl) | (rw [if_neg (by decide +kernel)]; exact ⟨rfl, rfl⟩))
    (fun os started H enc _ => lifted himpl os started H enc)
end Go.Proofs.Ythjpmdoljceaiaa.fnExactCollect
