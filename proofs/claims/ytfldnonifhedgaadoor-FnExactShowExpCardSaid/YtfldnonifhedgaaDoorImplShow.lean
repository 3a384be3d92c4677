/-
  The program's showWithin: what an expression shows is written behind what the builder holds.
-/
import Derived.Test.YtfldnonifhedgaaDoorImplParts
import Derived.Test.YtfldnonifhedgaaDoorBuild
import Derived.BigQuiet
import Derived.Deep.QuietTactic
namespace Go.Proofs.YtfldnonifhedgaaDoor
open Go.RowKit Go.Joins

set_option maxRecDepth 100000

/-- A builder that holds these bytes. -/
def BL (B b : Nat) (l : List UInt8) (w : World) : Prop := Lib.IsBuilderF 39 5 B b (Lib.byteCells l) w
theorem below_grown {w w' : World} (hb : Below w.heap.size w w') : w.grownBy w' none := ⟨hb.os, hb.tape, hb.output, hb.size, fun k hk _ => hb.block k hk⟩
theorem builderAt_below {B b : Nat} {p : Value} {bs : List Value} {w w' : World} (h : Lib.BuilderAtF 39 5 B b p bs w) (hb : Below w.heap.size w w') : Lib.BuilderAtF 39 5 B b p bs w' := by
  have hlt := h.lt
  obtain ⟨hB, v, hbk, hown, hne⟩ := h
  refine ⟨hB, v, (hb.block _ hlt).trans hbk, hown.kept (below_grown hb) ?_, hne⟩
  cases v.ownBlock with
  | none => exact .inl rfl
  | some k => exact .inr (by simp)
theorem BL.below {B b : Nat} {l : List UInt8} {w w' : World} (h : BL B b l w) (hb : Below w.heap.size w w') : BL B b l w' :=
  h.elim (fun h => .inl (builderAt_below h hb)) (fun h => .inr (builderAt_below h hb))
theorem BL.lt {B b : Nat} {l : List UInt8} {w : World} (h : BL B b l w) : b < w.heap.size := h.elim (fun h => h.lt) (fun h => h.lt)
theorem kept_below {e : TypeId} {b : Option Nat} {w w' : World} (hb : Below w.heap.size w w') : Lib.OthersKept e b w w' :=
  fun k _ h _ _ => (hb.block k (Array.getElem?_eq_some_iff.1 h).1).trans h

theorem write_any (B b : Nat) (l s : List UInt8) (w : World) (h : BL B b l w) (hlen : l.length + s.length ≤ 140737488355328) (hBw : B ≤ w.heap.size) :
    Calls Tryd.prog 19 #[.pointer (some ⟨b, 0, none⟩), .string (bsOf s)] w fun e w' => e = .returned (.tuple #[.int .i64 (bsOf s).size, .nilIface]) ∧ (BL B b (l ++ s) w' ∧ Below B w w' ∧ Lib.OthersKept 5 (some b) w w') := by
  refine (writeString_k B b (Lib.byteCells l) (bsOf s) w h (by rw [Lib.byteCells_length]; simpa [bsOf, ByteArray.size] using hlen) hBw).mono fun e w' ⟨he, h1, h2, h3⟩ => ⟨he, ?_, h2, h3⟩
  unfold BL
  rw [Lib.byteCells_append]
  exact .inr h1

theorem showTo_mono (e : Ex) (deep : Int) (j : Nat) : ∀ k, (showTo e deep j).length ≤ (showTo e deep (j + k)).length
  | 0 => Nat.le_refl _
  | k + 1 => by
    have := showTo_mono e deep j k
    rw [← Nat.add_assoc, showTo, List.length_append]
    omega
theorem NodeAt.fits {w : World} {d : Nat} {p : Addr} {e : Ex} (h : NodeAt w d p e) : e.fits := by
  obtain ⟨b, o, kv, _, _, _, _, _, _, _, h, _, kk⟩ := h
  exact (Ex.fits_eq e).2 ⟨h, kk.fits⟩
theorem show_cap {w : World} {d : Nat} {p : Addr} {e : Ex} {deep : Int} (h : NodeAt w d p e) (hb : e.bulk ≤ 1048576) (h0 : 0 ≤ deep) (h1 : (e.kids.length : Int) = kidsOf e.kind) (j : Nat) (hj : j ≤ e.kids.length) : (partN e.kind e.n e.text 0).length + (showTo e (deep - 1) j).length ≤ 67108928 := by
  have h2 := Ex.show_len e deep h.fits
  rw [show_to e deep h0 h1, List.length_append] at h2
  have h3 := showTo_mono e (deep - 1) j (e.kids.length - j)
  rw [show j + (e.kids.length - j) = e.kids.length by omega] at h3
  omega

theorem parts_at (k n : Int) (t : ByteArray) (j : Nat) (hj : j < 3) : (#[Value.string (bsOf (partN k n t 0)), .string (bsOf (partN k n t 1)), .string (bsOf (partN k n t 2)), .string (bsOf (partN k n t 3))] : Array Value)[j + 1]? = some (.string (bsOf (partN k n t (j + 1)))) := by
  match j, hj with
  | 0, _ => rfl
  | 1, _ => rfl
  | 2, _ => rfl

def ShowIn (w2 : World) (d : Nat) : Prop := ∀ (p : Addr) (e : Ex) (deep : Int) (b : Nat) (l : List UInt8) (w : World), Below w2.heap.size w2 w → NodeAt w2 d p e → e.bulk ≤ 1048576 → BL w2.heap.size b l w → (l.length : Int) ≤ deep * 100000000 → 0 ≤ deep ∧ deep ≤ 61 →
  Calls Tryd.prog 12 #[.pointer (some ⟨b, 0, none⟩), .pointer (some p), .int .i64 deep] w fun r w' => r = .returned (.tuple #[]) ∧ BL w2.heap.size b (l ++ e.show (60 - deep)) w' ∧ Below w2.heap.size w w' ∧ Lib.OthersKept 5 (some b) w w'

set_option maxHeartbeats 1600000 in
theorem showIn_of (w2 : World) (htab : Lib.TabIs Tryd.prog w2 "internal/strconv.uint64pow10" .u64 Lib.pow10Tab) (d : Nat) (ih : ∀ d', d = d' + 1 → ShowIn w2 d') : ShowIn w2 d := by
  intro p e deep b l w hb hn hbk hbl hlen hd
  have hnot : ∀ (x : Bool) (w : World), (Op.unary .not (.bool x)).run Tryd.prog w = .ok (.bool (!x)) w := fun _ _ => rfl
  have lp : p.block < w2.heap.size := (nodePlS hn).lt
  have hto := show_to e (60 - deep)
  have hno := show_none e (60 - deep)
  obtain ⟨bp, op, rfl⟩ : ∃ b o, p = ⟨b, o, none⟩ := by obtain ⟨b, o, kv, rfl, _⟩ := hn; exact ⟨b, o, rfl⟩
  obtain ⟨ap, kp, vp, hap⟩ := hn.kidsVal
  have c0w : w2.cell? ⟨bp, op, none⟩ = some (.int .i64 e.kind) := by obtain ⟨b, o, kv, hpp, _, c0, _⟩ := hn; cases hpp; exact c0
  have HC : Hid (∀ wx : World, Below w2.heap.size w2 wx → wx.cell? ⟨bp, op, none⟩ = some (.int .i64 e.kind) ∧ wx.cell? ⟨bp, op + 3, none⟩ = some (.slice ap e.kids.length kp)) := fun wx hx => ⟨(hx.cell (p := ⟨bp, op, none⟩) lp).trans c0w, (hx.cell (p := ⟨bp, op + 3, none⟩) lp).trans vp⟩
  have ck := (HC.out w hb).1
  have vk := (HC.out w hb).2
  have HA := (show Hid (_ ∧ _ ∧ _ ∧ _ ∧ _) from ⟨hb, hn, hbl, hto, hno⟩)
  have HIH := (show Hid (_ ∧ _) from ⟨ih, htab⟩)
  have HAP := (show Hid (_ ∧ True) from ⟨hap, trivial⟩)
  clear hb hn hbl hto hno ih htab vp c0w hap
  by_cases hdp : (60 : Int) < deep
  · have hr : e.show (60 - deep) = [] := HA.out.2.2.2.2 (fun h => by omega)
    rw [hr, List.append_nil]
    go_enter Tryd.func12, Tryd.ntmps12
    go_wp2_with fail
    go_quiet (fail)
    go_wp2
    refine bodyPost_ret (results_none rfl _ _ _) rfl ?_
    exact ⟨rfl, HA.out.2.2.1.below ⟨rfl, rfl, rfl, Nat.le_refl _, fun _ _ => rfl⟩, ⟨rfl, rfl, rfl, Nat.le_refl _, fun _ _ => rfl⟩, Lib.OthersKept.refl _ _ _⟩
  have gd : decide (60 < deep) = false := by simp; omega
  by_cases hlk : ((e.kids.length : Nat) : Int) = kidsOf e.kind
  case neg =>
    have gl : (((e.kids.length : Nat) : Int) != kidsOf e.kind) = true := by simp [hlk]
    have hr : e.show (60 - deep) = [] := HA.out.2.2.2.2 (fun h => hlk h.2)
    rw [hr, List.append_nil]
    go_enter Tryd.func12, Tryd.ntmps12
    go_wp2_with fail
    go_quiet (first | (go_at_call 17; refine Calls.quiet_of_same (kidCount_any _ _)))
    go_wp2
    refine bodyPost_ret (results_none rfl _ _ _) rfl ?_
    exact ⟨rfl, HA.out.2.2.1.below ⟨rfl, rfl, rfl, Nat.le_refl _, fun _ _ => rfl⟩, ⟨rfl, rfl, rfl, Nat.le_refl _, fun _ _ => rfl⟩, Lib.OthersKept.refl _ _ _⟩
  have gl : (((e.kids.length : Nat) : Int) != kidsOf e.kind) = false := by simp [hlk]
  have HLK : Hid (((e.kids.length : Nat) : Int) = kidsOf e.kind) := hlk
  clear hlk
  go_enter Tryd.func12, Tryd.ntmps12
  go_wp2_with fail
  go_quiet (first | (go_at_call 17; refine Calls.quiet_of_same (kidCount_any _ _)))
  have hbe := Ex.bulk_eq e
  have bD : Below w.heap.size w (w.drewN nq) := ⟨rfl, rfl, rfl, Nat.le_refl _, fun _ _ => rfl⟩
  have HPT := (show Hid (_ ∧ True) from ⟨showParts_any ⟨bp, op, none⟩ e d (w.drewN nq) (HA.out.2.1.below (HA.out.1.trans (bD.mono HA.out.1.size))) (by omega) HLK.out (tab_below HIH.out.2 (HA.out.1.trans (bD.mono HA.out.1.size))), trivial⟩)
  generalize (w.drewN nq) = wd at *
  go_wp2_with fail
  refine HPT.out.1.mono ?_
  rintro r w4 ⟨rfl, b4⟩
  unfold partsV
  have hpl := partN_len e.kind e.n e.text (show inI64 e.n by obtain ⟨b, o, kv, _, _, _, _, _, _, _, h, _⟩ := HA.out.2.1; exact h)
  have hB4 : Below w2.heap.size w2 w4 := (HA.out.1.trans (bD.mono HA.out.1.size)).trans (b4.mono (HA.out.1.trans (bD.mono HA.out.1.size)).size)
  have hL4 : BL w2.heap.size b l w4 := (HA.out.2.2.1.below bD).below b4
  have hO4 : Lib.OthersKept 5 (some b) w w4 := (kept_below bD).trans (kept_below b4)
  have hb4 : b < w4.heap.size := hL4.lt
  have h24 : w2.heap.size ≤ w4.heap.size := hB4.size
  have h04 : w.heap.size ≤ w4.heap.size := Nat.le_trans bD.size b4.size
  have P4 : (w4.alloc (.cells #[.string (bsOf (partN e.kind e.n e.text 0)), .string (bsOf (partN e.kind e.n e.text 1)), .string (bsOf (partN e.kind e.n e.text 2)), .string (bsOf (partN e.kind e.n e.text 3))] 47)).heap.size = w4.heap.size + 1 := by simp
  have hW := write_any w2.heap.size b l (partN e.kind e.n e.text 0) (w4.alloc (.cells #[.string (bsOf (partN e.kind e.n e.text 0)), .string (bsOf (partN e.kind e.n e.text 1)), .string (bsOf (partN e.kind e.n e.text 2)), .string (bsOf (partN e.kind e.n e.text 3))] 47)) (hL4.below ((Below.refl _ w4).alloc (Nat.le_refl _) _)) (by have := hpl.1; omega) (by rw [P4]; omega)
  have HW := (show Hid (_ ∧ _ ∧ _ ∧ _) from ⟨hW, hB4, hO4, hL4⟩)
  have O4 : (w4.alloc (.cells #[.string (bsOf (partN e.kind e.n e.text 0)), .string (bsOf (partN e.kind e.n e.text 1)), .string (bsOf (partN e.kind e.n e.text 2)), .string (bsOf (partN e.kind e.n e.text 3))] 47)).heap[w4.heap.size]? = some (.cells #[.string (bsOf (partN e.kind e.n e.text 0)), .string (bsOf (partN e.kind e.n e.text 1)), .string (bsOf (partN e.kind e.n e.text 2)), .string (bsOf (partN e.kind e.n e.text 3))] 47) := (MapKept.heap_alloc w4 _).1
  have HO4 := (show Hid (_ ∧ True) from ⟨O4, trivial⟩)
  clear hW hB4 hO4 hL4 O4 b4 bD ck vk
  go_wp2_with fail
  refine HW.out.1.mono ?_
  rintro r w5 ⟨rfl, hL5, hB5, hO5⟩
  have h5s : w4.heap.size + 1 ≤ w5.heap.size := by have := hB5.size; rw [P4] at this; exact this
  have hBB : Below w2.heap.size w2 w5 := (HW.out.2.1.alloc h24 _).trans hB5
  have hP5 := hO5 w4.heap.size _ HO4.out.1 (by simp; omega) (fun c fz h => by simp at h)
  have hOK : Lib.OthersKept 5 (some b) w w5 := (HW.out.2.2.1.alloc _).trans hO5
  have H5 := (show Hid (_ ∧ _ ∧ _ ∧ _) from ⟨hL5, hBB, hOK, hP5⟩)
  have vk := (HC.out _ hBB).2
  clear hL5 hB5 hO5 hBB hOK hP5
  have HCAP := (show Hid (_ ∧ True) from ⟨fun j hj => show_cap HA.out.2.1 hbk (deep := 60 - deep) (by omega) HLK.out j hj, trivial⟩)
  have HPN := (show Hid (_ ∧ True) from ⟨fun j => partN_le e.kind e.n e.text (show inI64 e.n by obtain ⟨b, o, kv, _, _, _, _, _, _, _, h, _⟩ := HA.out.2.1; exact h) j, trivial⟩)
  have hk3 : e.kids.length ≤ 3 := by
    have hl9 := HLK.out
    have : kidsOf e.kind ≤ 3 := by unfold kidsOf; split <;> (try split) <;> (try split) <;> (try split) <;> omega
    omega
  clear hpl
  go_wp2
  go_loopw [34] (fun i wr => ∃ j : Nat, j ≤ e.kids.length ∧ i = .int .i64 j ∧ BL w2.heap.size b (l ++ partN e.kind e.n e.text 0 ++ showTo e (60 - deep - 1) j) wr ∧ Below w2.heap.size w2 wr ∧ Lib.OthersKept 5 (some b) w wr ∧ wr.heap[w4.heap.size]? = some (.cells #[.string (bsOf (partN e.kind e.n e.text 0)), .string (bsOf (partN e.kind e.n e.text 1)), .string (bsOf (partN e.kind e.n e.text 2)), .string (bsOf (partN e.kind e.n e.text 3))] 47) ∧ w4.heap.size + 1 ≤ wr.heap.size) (fun i _ => e.kids.length - (intOf i).toNat)
  case atStart => exact ⟨0, Nat.zero_le _, rfl, by rw [showTo, List.append_nil]; exact H5.out.1, H5.out.2.1, H5.out.2.2.1, H5.out.2.2.2, h5s⟩
  case round =>
    obtain ⟨j, hj, rfl, hLr, hBr, hOr, hPr, hsr⟩ := hrel
    have HR := (show Hid (_ ∧ _ ∧ _ ∧ _) from ⟨hLr, hBr, hOr, hPr⟩)
    have vkr := (HC.out _ hBr).2
    by_cases hjl : j < e.kids.length
    · have he := List.getElem?_eq_getElem hjl
      have hyb : e.kids.length + (e.kids[j]).bulk ≤ Ex.bulkL e.kids := bulk_at he
      have hst : showTo e (60 - deep - 1) (j + 1) = showTo e (60 - deep - 1) j ++ ((e.kids[j]).show (60 - deep - 1) ++ partN e.kind e.n e.text (j + 1)) := by rw [showTo, he]; rfl
      generalize e.kids[j] = y at *
      obtain ⟨d', b', o', hd', hr', hn'⟩ := HA.out.2.1.kid he
      obtain ⟨lk, ckk, hr'⟩ := hr'
      have hap : ap = some ⟨b', o', none⟩ := by
        have := (HC.out w2 (Below.refl _ _)).2
        rw [show w2.cell? ⟨bp, op + 3, none⟩ = some (.slice (some ⟨b', o', none⟩) lk ckk) from hr'] at this
        simp at this
        exact this.1.symm
      subst hap
      have hcp := HCAP.out.1 j (by omega)
      have hcp1 := HCAP.out.1 (j + 1) (by omega)
      rw [hst] at hcp1
      simp only [List.length_append] at hcp1
      have hlt1 : ((j : Nat) : Int) < ((e.kids.length : Nat) : Int) := by omega
      have hX := HIH.out.1 d' hd' ⟨b', o' + j * 4, none⟩ y (deep + 1) b (l ++ partN e.kind e.n e.text 0 ++ showTo e (60 - deep - 1) j) wr hBr hn' (by omega) hLr (by simp only [List.length_append]; omega) ⟨by omega, by omega⟩
      rw [show (60 : Int) - (deep + 1) = 60 - deep - 1 by omega] at hX
      have HX := (show Hid (_ ∧ _) from ⟨hX, hst⟩)
      have hw2 : IntKind.i64.wrap (deep + 1) = deep + 1 := by rw [IntKind.wrap_i64]; omega
      clear he hX hn' hr' hLr hBr hOr hPr vk hst
      go_wp2_with (go_at_call 12; refine HX.out.1.mono ?_; rintro r w6 ⟨rfl, hL6, hB6, hO6⟩; have hP6 := hO6 w4.heap.size _ HR.out.2.2.2 (by simp; omega) (fun c fz h => by simp at h); have hs6 : w4.heap.size + 1 ≤ w6.heap.size := Nat.le_trans hsr hB6.size; have H6 := (show Hid (_ ∧ _ ∧ _ ∧ _) from ⟨hL6, hB6, hO6, hP6⟩); have q6 : w6.cell? ⟨w4.heap.size, j + 1, none⟩ = some (.string (bsOf (partN e.kind e.n e.text (j + 1)))) := (by rw [cell_of_block hP6]; exact parts_at _ _ _ j (by omega)); clear hL6 hB6 hO6 hP6)
      have hpn := HPN.out.1 j
      have hWr := write_any w2.heap.size b _ (partN e.kind e.n e.text (j + 1)) w6 H6.out.1 (by simp only [List.length_append]; omega) (by omega)
      refine hWr.mono ?_
      rintro r w7 ⟨rfl, hL7, hB7, hO7⟩
      have hP7 := hO7 w4.heap.size _ H6.out.2.2.2 (by simp; omega) (fun c fz h => by simp at h)
      have H7 := (show Hid (_ ∧ _ ∧ _ ∧ _ ∧ _) from ⟨hL7, hB7, hO7, hP7, Nat.le_trans hs6 hB7.size⟩)
      clear hL7 hB7 hO7 hP7 hWr
      go_wp2
      refine ⟨⟨j + 1, by omega, by go_num, ?_, (HR.out.2.1.trans H6.out.2.1).trans H7.out.2.1, (HR.out.2.2.1.trans H6.out.2.2.1).trans H7.out.2.2.1, H7.out.2.2.2.1, H7.out.2.2.2.2⟩, by simp [intOf]; omega⟩
      have := H7.out.1
      rw [HX.out.2]
      simpa only [List.append_assoc] using this
    · obtain rfl : j = e.kids.length := by omega
      clear hLr hBr hOr hPr HIH
      go_wp2
      go_end0
      refine ⟨rfl, ?_, ?_, HR.out.2.2.1⟩
      · have := HR.out.1
        rw [HA.out.2.2.2.1 (by omega) HLK.out]
        simpa only [List.append_assoc] using this
      · exact ⟨HR.out.2.1.os.trans HA.out.1.os.symm, HR.out.2.1.tape.trans HA.out.1.tape.symm, HR.out.2.1.output.trans HA.out.1.output.symm, by omega, fun k hk => (HR.out.2.1.block k hk).trans (HA.out.1.block k hk).symm⟩

theorem showIn_any (w2 : World) (htab : Lib.TabIs Tryd.prog w2 "internal/strconv.uint64pow10" .u64 Lib.pow10Tab) : ∀ d, ShowIn w2 d
  | 0 => showIn_of w2 htab 0 (fun d' h => by omega)
  | d + 1 => showIn_of w2 htab (d + 1) (fun d' h => by
      obtain rfl : d' = d := by omega
      exact showIn_any w2 htab d')

set_option maxHeartbeats 800000 in
theorem showExp_any (d : Nat) (v : Value) (x : Ex) (w : World) (h : ExAt w (Pl w) d v x) (hb : x.bulk ≤ 1048576) (htab : Lib.TabIs Tryd.prog w "internal/strconv.uint64pow10" .u64 Lib.pow10Tab) :
    Calls Tryd.prog 7 #[v] w fun e w' => e = .returned (.string (bsOf (x.show 60))) ∧ Below w.heap.size w w' := by
  obtain ⟨kv, rfl, r1, r2, r3, hk⟩ := h
  have B0 : Below w.heap.size w (w.alloc (.cells #[.int .i64 x.kind, .int .i64 x.n, .string x.text, kv] 29)) := (Below.refl _ w).alloc (Nat.le_refl _) _
  have O0 : (w.alloc (.cells #[.int .i64 x.kind, .int .i64 x.n, .string x.text, kv] 29)).heap[w.heap.size]? = some (.cells #[.int .i64 x.kind, .int .i64 x.n, .string x.text, kv] 29) := (MapKept.heap_alloc w _).1
  have P3 : (w.alloc (.cells #[.int .i64 x.kind, .int .i64 x.n, .string x.text, kv] 29)).heap.size = w.heap.size + 1 := by simp
  have hnode : NodeAt (w.alloc (.cells #[.int .i64 x.kind, .int .i64 x.n, .string x.text, kv] 29)) d ⟨w.heap.size, 0, none⟩ x :=
    ⟨w.heap.size, 0, kv, rfl, ⟨_, _, O0⟩, by rw [cell_of_block O0]; rfl, by rw [cell_of_block O0]; rfl, by rw [cell_of_block O0]; rfl, by rw [cell_of_block O0]; rfl, r1, r2, r3, hk.belowPl B0⟩
  have htA := tab_below htab B0
  have hS := showIn_any _ htA d ⟨w.heap.size, 0, none⟩ x 0 (w.heap.size + 1) []
  have HS := (show Hid (_ ∧ _ ∧ _ ∧ _) from ⟨hS, hnode, B0, P3⟩)
  clear hS hnode B0 P3 htA O0 hk htab
  go_enter Tryd.func7, Tryd.ntmps7
  go_wp2_with fail
  generalize (w.alloc (.cells #[.int .i64 x.kind, .int .i64 x.n, .string x.text, kv] 29)) = wa at *
  have hsz := HS.out.2.2.2
  have hOb : (wa.alloc (.cells #[.pointer none, .slice none 0 0] 39)).heap[w.heap.size + 1]? = some (.cells #[.pointer none, .slice none 0 0] 39) := by
    have := (MapKept.heap_alloc wa (.cells #[.pointer none, .slice none 0 0] 39)).1
    rw [hsz] at this
    exact this
  have hBL : BL wa.heap.size (w.heap.size + 1) [] (wa.alloc (.cells #[.pointer none, .slice none 0 0] 39)) := by
    refine .inl ⟨by omega, .slice none 0 0, hOb, World.ownsRowF_nil _ _ _ _, by simp [Value.ownBlock]⟩
  have hBb : Below wa.heap.size wa (wa.alloc (.cells #[.pointer none, .slice none 0 0] 39)) := (Below.refl _ wa).alloc (Nat.le_refl _) _
  refine (HS.out.1 _ hBb HS.out.2.1 hb hBL (by simp) ⟨by omega, by omega⟩).mono ?_
  rintro r w5 ⟨rfl, hL5, hB5, -⟩
  have hB6 : Below w.heap.size w w5 := HS.out.2.2.1.trans ((hBb.trans hB5).mono (by omega))
  have h65 : wa.heap.size ≤ w5.heap.size := (hBb.trans hB5).size
  have hSt := Tryd.Builder_String_any_k wa.heap.size (w.heap.size + 1) _ w5 hL5 h65
  have HSt := (show Hid (_ ∧ _) from ⟨hSt, hB6⟩)
  clear hSt hL5 hB5 hBL hBb hOb
  go_wp2_with fail
  refine HSt.out.1.mono ?_
  rintro r w6 ⟨rfl, -, hB7, -⟩
  go_wp2
  go_ret
  exact ⟨rfl, HSt.out.2.trans (hB7.mono (by omega))⟩
end Go.Proofs.YtfldnonifhedgaaDoor
