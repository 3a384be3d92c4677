/-
  The law of chapter 1 returns true at every code, and its call changes nothing that was there; the library's tables that the row lists hold what the program's text lays, and the card ties that; no further condition.
-/
import Derived.Test.YtfnnodaggjgkfaaGreatDoorLawLex
namespace Go.Proofs.YtfnnodaggjgkfaaGreatDoor
open Go.ChangeShapes Go.WideShapes Go.ChangeAt Go.RowKit Go.Joins

set_option maxRecDepth 100000

namespace fnLex
theorem row_facts {w : World} {base : Nat} {e : TypeId} {p : Option Addr} {c : Nat} {ts : List Tok} (h : w.ownsRow base e 4 (.slice p ts.length c) ts.length (toksCells ts)) (hn : 0 < ts.length) :
    ∃ g, p = some ⟨g, 0, none⟩ ∧ g < w.heap.size ∧ ∀ k t, ts[k]? = some t → w.cell? ⟨g, k * 4, none⟩ = some (.int .i64 t.kind) ∧ w.cell? ⟨g, k * 4 + 1, none⟩ = some (.string t.text) ∧ w.cell? ⟨g, k * 4 + 2, none⟩ = some (.int .i64 t.n) ∧ w.cell? ⟨g, k * 4 + 3, none⟩ = some (.int .i64 t.line) := by
  obtain ⟨g, cap, hv, _, hg, hc⟩ := lrow_cell h hn
  cases hv
  exact ⟨g, rfl, hg, hc⟩
theorem big_any (a : Option Addr) (len cap : Nat) (w : World) :
    Calls Tryz.prog 4 #[.slice a len cap] w fun e w' => e = .returned (.bool (decide ((1048576 : Int) < (len : Int)))) ∧ w' = w := by
  go_enter Tryz.func4, Tryz.ntmps4
  go_wp2
  go_ret
  exact ⟨rfl, rfl⟩

set_option maxHeartbeats 12800000 in
theorem walk_small (V : Value) (len : Nat) (w : World) (hlen : len ≤ 1048576) (hcode : CodeIs w.heap.size w V len) (htab : Lib.TabIs Tryz.prog w "internal/strconv.uint64pow10" .u64 Lib.pow10Tab) (m : Int) (hm : w.cell? ⟨1, 0, none⟩ = some (.int .i64 m)) :
    Calls Tryz.prog 3 #[V] w fun e w' => e = .returned (.bool true) ∧ Below w.heap.size w w' := by
  have hml := World.block_lt_of_cell? _ _ hm
  have HM : Hid (w.cell? ⟨1, 0, none⟩ = some (.int .i64 m)) := hm
  have HT : Hid (Lib.TabIs Tryz.prog w "internal/strconv.uint64pow10" .u64 Lib.pow10Tab) := htab
  have HC : Hid (CodeIs w.heap.size w V len) := hcode
  clear hm htab
  obtain ⟨a, cap, rfl, -, -⟩ := hcode
  have hbig : decide ((1048576 : Int) < (len : Int)) = false := by simp; omega
  go_enter Tryz.func3, Tryz.ntmps3
  go_wp2_with fail
  refine (big_any a len cap _).mono ?_
  rintro e w' ⟨rfl, hw'⟩
  rw [hbig, hw']
  clear hw' w'
  go_wp2_with fail
  refine (drawLex_dr _ len _ HC.out).mono ?_
  rintro e w1 ⟨s, rfl, hs, b1⟩
  have hfacts := lexR_facts s
  have HMore : Hid (s.size ≤ 1997 → (lexR s).2 = 0 → lexR (s ++ tail3) = ((lexR s).1, 0)) := lexR_more s
  have HLex := (show Hid (∀ w : World, s.size ≤ 1048576 → _) from Lex_any s)
  have HSLex := (show Hid (∀ w : World, s.size ≤ 1048576 → _) from specLex_any s)
  generalize lexR s = R at *
  obtain ⟨ts, ln⟩ := R
  obtain ⟨hrise, hcount, hemp⟩ := hfacts
  have HRise : Hid (Rising ts) := hrise
  have HEmp : Hid (ln ≠ 0 → ts = []) := hemp
  clear hrise hemp
  simp only at hcount
  have hln : (ln != ln) = false := by simp
  have htl : (((ts.length : Nat) : Int) != ((ts.length : Nat) : Int)) = false := by simp
  go_wp2_with fail
  refine (HLex.out _ (by omega)).mono ?_
  rintro e w2 ⟨v1, rfl, r1, d2⟩
  have b2 : Below w.heap.size w w2 := b1.trans (d2.mono b1.size)
  try simp only at r1
  clear d2 b1
  go_wp2_with fail
  refine (HSLex.out _ (by omega)).mono ?_
  rintro e w3 ⟨v2, rfl, r2, d3⟩
  have b3 : Below w.heap.size w w3 := b2.trans (d3.mono b2.size)
  try simp only at r2
  replace r1 := lrow_below r1 d3
  have hs3 := b2.size
  clear d3 b2
  go_wp2_with fail
  refine (drawIsWord_dr _ len _ (HC.out.up b3)).mono ?_
  rintro e w4 ⟨wd, rfl, hwd, d4⟩
  have b4 : Below w.heap.size w w4 := b3.trans (d4.mono b3.size)
  replace r1 := lrow_below r1 d4
  replace r2 := lrow_below r2 d4
  clear d4 b3
  go_wp2_with fail
  refine (drawNameOk_dr _ len _ (HC.out.up b4)).mono ?_
  rintro e w5 ⟨nm, rfl, hnm, d5⟩
  have b5 : Below w.heap.size w w5 := b4.trans (d5.mono b4.size)
  replace r1 := lrow_below r1 d5
  replace r2 := lrow_below r2 d5
  clear d5 b4
  go_wp2_with fail
  refine (drawDecText_dr _ len _ (HC.out.up b5)).mono ?_
  rintro e w6 ⟨d, rfl, hd0, hd1, d6⟩
  have b6 : Below w.heap.size w w6 := b5.trans (d6.mono b5.size)
  replace r1 := lrow_below r1 d6
  replace r2 := lrow_below r2 d6
  clear d6 b5
  go_wp2_with fail
  refine (drawReadDec_dr _ len _ (HC.out.up b6)).mono ?_
  rintro e w7 ⟨rd, rfl, hrd, d7⟩
  have b7 : Below w.heap.size w w7 := b6.trans (d7.mono b6.size)
  replace r1 := lrow_below r1 d7
  replace r2 := lrow_below r2 d7
  clear d7 b6
  go_wp2_with fail
  refine (drawWords_dr _ len _ (HC.out.up b7)).mono ?_
  rintro e w8 ⟨x, rfl, hx, d8⟩
  have b8 : Below w.heap.size w w8 := b7.trans (d8.mono b7.size)
  replace r1 := lrow_below r1 d8
  replace r2 := lrow_below r2 d8
  clear d8 b7
  obtain ⟨p1, c1, rfl⟩ := lrow_form r1
  obtain ⟨p2, c2, rfl⟩ := lrow_form r2
  have HR1 := (show Hid (_ ∧ True) from ⟨r1, trivial⟩)
  have HR2 := (show Hid (_ ∧ True) from ⟨r2, trivial⟩)
  clear r1 r2
  have hml8 : ∀ t : ByteArray, t.size ≤ 1000 → t.size ≤ maxLen := fun t ht => by unfold maxLen; omega
  go_wp2_with fail
  refine (IsWord_any wd _ (hml8 wd (by omega))).mono ?_
  rintro e w9 ⟨rfl, d9⟩
  have b9 : Below w.heap.size w w9 := b8.trans (d9.mono b8.size)
  have c9 : Below w8.heap.size w8 w9 := d9
  clear d9
  go_wp2_with fail
  refine (specIsWord_any wd _).mono ?_
  rintro e w10 ⟨rfl, d10⟩
  have b10 : Below w.heap.size w w10 := b9.trans (d10.mono b9.size)
  have c10 : Below w8.heap.size w8 w10 := c9.trans (d10.mono c9.size)
  clear d10 b9 c9
  have hq1 : (isW wd == isW wd) = true := by simp
  generalize isW wd = q1 at *
  go_wp2_with fail
  refine (NameOk_any nm _ (hml8 nm (by omega))).mono ?_
  rintro e w11 ⟨rfl, d11⟩
  have b11 : Below w.heap.size w w11 := b10.trans (d11.mono b10.size)
  have c11 : Below w8.heap.size w8 w11 := c10.trans (d11.mono c10.size)
  clear d11 b10 c10
  go_wp2_with fail
  refine (specNameOk_any nm _ (hml8 nm (by omega))).mono ?_
  rintro e w12 ⟨rfl, d12⟩
  have b12 : Below w.heap.size w w12 := b11.trans (d12.mono b11.size)
  have c12 : Below w8.heap.size w8 w12 := c11.trans (d12.mono c11.size)
  clear d12 b11 c11
  have hq2 : (nameOk nm == nameOk nm) = true := by simp
  have hnw := name_word nm
  have HIW := (show Hid (∀ w : World, nm.size ≤ maxLen → _) from IsWord_any nm)
  have HNO := (show Hid (∀ w : World, nm.size ≤ maxLen → _) from NameOk_any nm)
  generalize nameOk nm = q2 at *
  generalize isW nm = q3 at *
  go_wp2_with fail
  refine (DecText_any d _ hd0 hd1 (tab_stays gPow HT.out b12 (Nat.le_refl _))).mono ?_
  rintro e w13 ⟨rfl, d13⟩
  have b13 : Below w.heap.size w w13 := b12.trans (d13.mono b12.size)
  have c13 : Below w8.heap.size w8 w13 := c12.trans (d13.mono c12.size)
  clear d13 b12 c12
  go_wp2_with fail
  refine (specDec_any d _ hd0 hd1).mono ?_
  rintro e w' ⟨rfl, hw'⟩
  rw [hw']
  clear hw' w'
  have hq4 : ((⟨(Lib.itoa d).toArray⟩ : ByteArray).toList != (⟨(Lib.itoa d).toArray⟩ : ByteArray).toList) = false := by simp
  have hq4' : ((⟨(Lib.itoa d).toArray⟩ : ByteArray).toList == (⟨(Lib.itoa d).toArray⟩ : ByteArray).toList) = true := by simp
  generalize (⟨(Lib.itoa d).toArray⟩ : ByteArray) = q4 at *
  have HRD := (show Hid (∀ w : World, rd.size ≤ maxLen → _) from ReadDec_any rd)
  have HSRD := (show Hid (∀ w : World, rd.size ≤ maxLen → _) from specReadDec_any rd)
  have HBack : Hid (0 ≤ readD rd → itoaB (readD rd) = rd) := readD_back rd
  have hrb := readD_bd rd
  generalize readD rd = q5 at *
  have hq5 : (q5 != q5) = false := by simp
  go_wp2_with fail
  refine (HRD.out _ (hml8 rd (by omega)) (tab_stays gPow HT.out b13 (Nat.le_refl _))).mono ?_
  rintro e w14 ⟨rfl, d14⟩
  have b14 : Below w.heap.size w w14 := b13.trans (d14.mono b13.size)
  have c14 : Below w8.heap.size w8 w14 := c13.trans (d14.mono c13.size)
  clear d14 b13 c13
  go_wp2_with fail
  refine (HSRD.out _ (hml8 rd (by omega))).mono ?_
  rintro e w' ⟨rfl, hw'⟩
  rw [hw']
  clear hw' w'
  have hcw := wordsL_le x
  have HWd := (show Hid (∀ w : World, x.size ≤ 1048576 → _) from Words_any x)
  have HSW := (show Hid (∀ w : World, x.size ≤ 1048576 → _) from specWords_any x)
  generalize wordsL x = xs at *
  go_wp2_with fail
  refine (HWd.out _ (by omega) m ((b14.cell (by exact hml)).trans HM.out)).mono ?_
  rintro e w15 ⟨u1, rfl, k1, d15⟩
  have b15 : Below w.heap.size w w15 := b14.trans (d15.mono b14.size)
  have c15 : Below w8.heap.size w8 w15 := c14.trans (d15.mono c14.size)
  clear d15 b14 c14
  go_wp2_with fail
  refine (HSW.out _ (by omega)).mono ?_
  rintro e w16 ⟨u2, rfl, k2, d16⟩
  have b16 : Below w.heap.size w w16 := b15.trans (d16.mono b15.size)
  have c16 : Below w8.heap.size w8 w16 := c15.trans (d16.mono c15.size)
  replace k1 := lrow_below k1 d16
  clear d16 b15 c15
  go_wp2_with fail
  refine (sameTexts_same _ _ u1 u2 xs _ (by omega) k1 k2).mono ?_
  rintro e w17 ⟨rfl, d17⟩
  have b17 : Below w.heap.size w w17 := b16.trans (d17.mono b16.size)
  have c17 : Below w8.heap.size w8 w17 := c16.trans (d17.mono c16.size)
  have hnot := hn_not
  clear d17 b16 c16 k1 k2
  have r1 := lrow_below HR1.out.1 c17
  have r2 := lrow_below HR2.out.1 c17
  clear HR1 HR2 c17
  have HR1 := (show Hid (_ ∧ True) from ⟨r1, trivial⟩)
  have HR2 := (show Hid (_ ∧ True) from ⟨r2, trivial⟩)
  clear r1 r2
  go_wp2
  clear HLex HSLex HWd HSW HSRD hq1 hq2 hq4 hq4' hq5 hcw b8 hs3 HC hlen hd0 hd1 hbig hwd hnot
  go_loopw [13] (fun i wr => ∃ k : Nat, k ≤ ts.length ∧ i = .int .i64 k ∧ Below w17.heap.size w17 wr) (fun i _ => ts.length - (intOf i).toNat)
  case atStart => exact ⟨0, Nat.zero_le _, rfl, Below.refl _ _⟩
  case round =>
    obtain ⟨k, hk, rfl, hbw⟩ := hrel
    by_cases hlt : k < ts.length
    · obtain ⟨g1, rfl, hg1, hc1⟩ := row_facts HR1.out.1 (by omega)
      obtain ⟨g2, rfl, hg2, hc2⟩ := row_facts HR2.out.1 (by omega)
      obtain ⟨a0, a1, a2, a3⟩ := hc1 k ts[k] (List.getElem?_eq_getElem hlt)
      obtain ⟨e0, e1, e2, e3⟩ := hc2 k ts[k] (List.getElem?_eq_getElem hlt)
      have hlt' : ((k : Nat) : Int) < ((ts.length : Nat) : Int) := by omega
      have htne := tok_neq ts[k].kind ts[k].n ts[k].line ts[k].text
      rw [← hbw.cell (by exact hg1)] at a0 a1 a2 a3
      rw [← hbw.cell (by exact hg2)] at e0 e1 e2 e3
      clear hc2 HR2 HR1
      cases k with
      | zero =>
        clear hc1 HRise
        generalize ts[0] = t at *
        go_wp2
        go_region
        all_goals
          go_wp2
          go_roundw
          case rel => exact ⟨0 + 1, by omega, by go_num, hbw.drew⟩
          case measure => simp [intOf]; omega
      | succ j =>
        obtain ⟨-, -, -, y3⟩ := hc1 j ts[j] (List.getElem?_eq_getElem (by omega))
        rw [← hbw.cell (by exact hg1)] at y3
        have hri := HRise.out j ts[j] ts[j + 1] (List.getElem?_eq_getElem (by omega)) (List.getElem?_eq_getElem hlt)
        clear hc1 HRise
        generalize ts[j + 1] = t at *
        generalize ts[j] = t0 at *
        go_wp2
        go_region
        all_goals
          go_wp2
          go_roundw
          case rel => exact ⟨j + 1 + 1, by omega, by go_num, hbw.drew⟩
          case measure => simp [intOf]; omega
    · clear HRise HR1 HR2
      have b18 : Below w.heap.size w wr := b17.trans (hbw.mono b17.size)
      clear hbw b17
      go_wp2_with fail
      refine (HRD.out _ (hml8 rd (by omega)) (tab_stays gPow HT.out b18 (Nat.le_refl _))).mono ?_
      rintro e w19 ⟨rfl, d19⟩
      have b19 : Below w.heap.size w w19 := b18.trans (d19.mono b18.size)
      clear d19 b18
      by_cases hq0 : 0 ≤ q5
      · have hback := HBack.out hq0
        have hq6 : (rd.toList != rd.toList) = false := by simp
        go_wp2_with fail
        refine (HRD.out _ (hml8 rd (by omega)) (tab_stays gPow HT.out b19 (Nat.le_refl _))).mono ?_
        rintro e w20 ⟨rfl, d20⟩
        have b20 : Below w.heap.size w w20 := b19.trans (d20.mono b19.size)
        clear d20 b19
        go_wp2_with fail
        refine (DecText_any q5 _ (by omega) (by omega) (tab_stays gPow HT.out b20 (Nat.le_refl _))).mono ?_
        rintro e w21 ⟨rfl, d21⟩
        have b21 : Below w.heap.size w w21 := b20.trans (d21.mono b20.size)
        clear d21 b20
        rw [show (⟨(Lib.itoa q5).toArray⟩ : ByteArray) = rd from hback]
        clear hback
        go_wp2_with fail
        refine (HIW.out _ (hml8 nm (by omega))).mono ?_
        rintro e w22 ⟨rfl, d22⟩
        have b22 : Below w.heap.size w w22 := b21.trans (d22.mono b21.size)
        clear d22 b21
        cases q3
        · by_cases hln0 : ln = 0
          · by_cases hsz : s.size ≤ 1997
            · have hm2 := HMore.out hsz hln0
              have hsap : (s ++ tail3).size = s.size + 3 := ByteArray.size_append
              have HL2 := (show Hid (∀ w : World, (s ++ tail3).size ≤ 1048576 → _) from Lex_any (s ++ tail3))
              rw [hm2] at HL2
              have hsz' : ¬ (1997 : Int) < (s.size : Int) := by omega
              have heq : (((ts.length : Nat) : Int) == ((ts.length : Nat) : Int)) = true := by simp
              clear hm2 HMore
              go_wp2_with fail
              refine (HL2.out _ (by omega)).mono ?_
              rintro e w24 ⟨v3, rfl, r3, d24⟩
              have b24 : Below w.heap.size w w24 := b22.trans (d24.mono b22.size)
              obtain ⟨p3, c3, rfl⟩ := lrow_form r3
              clear r3 d24 b22
              go_wp2
              go_ret
              exact ⟨rfl, b24⟩
            · have hsz' : (1997 : Int) < (s.size : Int) := by omega
              go_wp2
              go_ret
              exact ⟨rfl, b22⟩
          · have hnil := HEmp.out hln0
            subst hnil
            go_wp2
            go_ret
            exact ⟨rfl, b22⟩
        · obtain rfl : q2 = false := by simpa using hnw
          go_wp2_with fail
          refine (HNO.out _ (hml8 nm (by omega))).mono ?_
          rintro e w23 ⟨rfl, d23⟩
          have b23 : Below w.heap.size w w23 := b22.trans (d23.mono b22.size)
          clear d23 b22
          by_cases hln0 : ln = 0
          · by_cases hsz : s.size ≤ 1997
            · have hm2 := HMore.out hsz hln0
              have hsap : (s ++ tail3).size = s.size + 3 := ByteArray.size_append
              have HL2 := (show Hid (∀ w : World, (s ++ tail3).size ≤ 1048576 → _) from Lex_any (s ++ tail3))
              rw [hm2] at HL2
              have hsz' : ¬ (1997 : Int) < (s.size : Int) := by omega
              have heq : (((ts.length : Nat) : Int) == ((ts.length : Nat) : Int)) = true := by simp
              clear hm2 HMore
              go_wp2_with fail
              refine (HL2.out _ (by omega)).mono ?_
              rintro e w24 ⟨v3, rfl, r3, d24⟩
              have b24 : Below w.heap.size w w24 := b23.trans (d24.mono b23.size)
              obtain ⟨p3, c3, rfl⟩ := lrow_form r3
              clear r3 d24 b23
              go_wp2
              go_ret
              exact ⟨rfl, b24⟩
            · have hsz' : (1997 : Int) < (s.size : Int) := by omega
              go_wp2
              go_ret
              exact ⟨rfl, b23⟩
          · have hnil := HEmp.out hln0
            subst hnil
            go_wp2
            go_ret
            exact ⟨rfl, b23⟩
      · go_wp2_with fail
        refine (HIW.out _ (hml8 nm (by omega))).mono ?_
        rintro e w22 ⟨rfl, d22⟩
        have b22 : Below w.heap.size w w22 := b19.trans (d22.mono b19.size)
        clear d22 b19
        cases q3
        · by_cases hln0 : ln = 0
          · by_cases hsz : s.size ≤ 1997
            · have hm2 := HMore.out hsz hln0
              have hsap : (s ++ tail3).size = s.size + 3 := ByteArray.size_append
              have HL2 := (show Hid (∀ w : World, (s ++ tail3).size ≤ 1048576 → _) from Lex_any (s ++ tail3))
              rw [hm2] at HL2
              have hsz' : ¬ (1997 : Int) < (s.size : Int) := by omega
              have heq : (((ts.length : Nat) : Int) == ((ts.length : Nat) : Int)) = true := by simp
              clear hm2 HMore
              go_wp2_with fail
              refine (HL2.out _ (by omega)).mono ?_
              rintro e w24 ⟨v3, rfl, r3, d24⟩
              have b24 : Below w.heap.size w w24 := b22.trans (d24.mono b22.size)
              obtain ⟨p3, c3, rfl⟩ := lrow_form r3
              clear r3 d24 b22
              go_wp2
              go_ret
              exact ⟨rfl, b24⟩
            · have hsz' : (1997 : Int) < (s.size : Int) := by omega
              go_wp2
              go_ret
              exact ⟨rfl, b22⟩
          · have hnil := HEmp.out hln0
            subst hnil
            go_wp2
            go_ret
            exact ⟨rfl, b22⟩
        · obtain rfl : q2 = false := by simpa using hnw
          go_wp2_with fail
          refine (HNO.out _ (hml8 nm (by omega))).mono ?_
          rintro e w23 ⟨rfl, d23⟩
          have b23 : Below w.heap.size w w23 := b22.trans (d23.mono b22.size)
          clear d23 b22
          by_cases hln0 : ln = 0
          · by_cases hsz : s.size ≤ 1997
            · have hm2 := HMore.out hsz hln0
              have hsap : (s ++ tail3).size = s.size + 3 := ByteArray.size_append
              have HL2 := (show Hid (∀ w : World, (s ++ tail3).size ≤ 1048576 → _) from Lex_any (s ++ tail3))
              rw [hm2] at HL2
              have hsz' : ¬ (1997 : Int) < (s.size : Int) := by omega
              have heq : (((ts.length : Nat) : Int) == ((ts.length : Nat) : Int)) = true := by simp
              clear hm2 HMore
              go_wp2_with fail
              refine (HL2.out _ (by omega)).mono ?_
              rintro e w24 ⟨v3, rfl, r3, d24⟩
              have b24 : Below w.heap.size w w24 := b23.trans (d24.mono b23.size)
              obtain ⟨p3, c3, rfl⟩ := lrow_form r3
              clear r3 d24 b23
              go_wp2
              go_ret
              exact ⟨rfl, b24⟩
            · have hsz' : (1997 : Int) < (s.size : Int) := by omega
              go_wp2
              go_ret
              exact ⟨rfl, b23⟩
          · have hnil := HEmp.out hln0
            subst hnil
            go_wp2
            go_ret
            exact ⟨rfl, b23⟩
end fnLex
end Go.Proofs.YtfnnodaggjgkfaaGreatDoor
