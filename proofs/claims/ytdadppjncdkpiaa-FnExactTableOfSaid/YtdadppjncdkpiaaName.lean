/-
  The program's NameOk: whether a text is a name.
-/
import Derived.Test.YtdadppjncdkpiaaBytes
import Derived.Test.YtdadppjncdkpiaaWord
namespace Go.Proofs.Ytdadppjncdkpiaa
open Go.RowKit Go.Maps Go.Joins Go.WideMaps

set_option maxRecDepth 100000

/-- Is a text a name? -/
def nameOk (s : ByteArray) : Bool := decide (1 ≤ s.size) && decide (s.size ≤ 8) && ltb (s.data.toList.getD 0 0) && s.data.toList.all nmb && !isW s

theorem nameOk_first (s : ByteArray) (h : 0 < s.size) : s.data.toList.getD 0 0 = s[0] := by
  have : 0 < s.data.toList.length := by simpa using h
  rw [List.getD, List.getElem?_eq_getElem this]
  rfl

theorem hn_not (x : Bool) (w : World) : (Op.unary .not (.bool x)).run Try.prog w = .ok (.bool (!x)) w := rfl

set_option maxHeartbeats 800000 in
theorem isName_any (b : Nat) (s : ByteArray) (w : World) (hs : s.size ≤ maxLen) (hb : Fresh w b ∨ Done w b) :
    Calls Try.prog 103 #[.pointer (some ⟨b, 0, none⟩), .string s] w fun e w' => e = .returned (.bool (nameOk s)) ∧ (Fresh w' b ∨ Done w' b) ∧ w.grownBy w' (some b) := by
  have hnot := hn_not
  have hs' := hs
  unfold maxLen at hs'
  have HB : Hid (Fresh w b ∨ Done w b) := hb
  clear hb
  by_cases h1 : s.size < 1
  · have e1 : nameOk s = false := by simp [nameOk]; omega
    have h1' : (s.size : Int) < 1 := by omega
    have HE : Hid (nameOk s = false) := e1
    clear e1
    go_enter Try.func103, Try.ntmps103
    go_wp2
    go_ret
    exact ⟨by rw [HE.out]; rfl, HB.out, World.grownBy.refl _ _⟩
  by_cases h8 : 8 < s.size
  · have e1 : nameOk s = false := by simp [nameOk]; omega
    have h1' : decide ((s.size : Int) < 1) = false := by simp; omega
    have h8' : (8 : Int) < (s.size : Int) := by omega
    have HE : Hid (nameOk s = false) := e1
    clear e1
    go_enter Try.func103, Try.ntmps103
    go_wp2
    go_ret
    exact ⟨by rw [HE.out]; rfl, HB.out, World.grownBy.refl _ _⟩
  have hpos : 0 < s.size := by omega
  have hfst := nameOk_first s hpos
  have h1' : decide ((s.size : Int) < 1) = false := by simp; omega
  have h8' : decide ((8 : Int) < (s.size : Int)) = false := by simp; omega
  have eq0 : nameOk s = (lti (s[0].toNat : Int) && s.data.toList.all nmb && !isW s) := by
    unfold nameOk
    rw [hfst, decide_eq_true (by omega : 1 ≤ s.size), decide_eq_true (by omega : s.size ≤ 8)]
    rfl
  have HQ : Hid (nameOk s = (lti (s[0].toNat : Int) && s.data.toList.all nmb && !isW s)) := eq0
  have hp0 : (0 : Int) < (s.size : Int) := by omega
  clear hfst eq0
  cases hl : lti (s[0].toNat : Int)
  · have HE : Hid (nameOk s = false) := by rw [HQ.out, hl]; rfl
    go_enter Try.func103, Try.ntmps103
    go_wp2_with (go_at_call 125; refine (isLetter_is _ false hl _).mono ?_; rintro e w' ⟨rfl, rfl⟩)
    go_ret
    exact ⟨by rw [HE.out]; rfl, HB.out, World.grownBy.refl _ _⟩
  · have hfull := takeWhile_full nmb s.data.toList
    have HL : s.data.toList.length = s.size := by simp
    cases ha : s.data.toList.all nmb
    · have hne : (((nameLen s.data.toList : Nat) : Int) == (s.size : Int)) = false := by
        have : ¬ nameLen s.data.toList = s.size := fun e => by rw [← HL] at e; rw [hfull.1 e] at ha; cases ha
        simp; omega
      have HE : Hid (nameOk s = false) := by rw [HQ.out, hl, ha]; rfl
      clear HL hfull
      go_enter Try.func103, Try.ntmps103
      go_wp2_with (first
        | (go_at_call 125; refine (isLetter_is _ true hl _).mono ?_; rintro e w' ⟨rfl, rfl⟩)
        | (go_at_call 126; refine (nameLength_any _ _ hs).mono ?_; rintro e w' ⟨rfl, rfl⟩))
      go_ret
      exact ⟨by rw [HE.out]; rfl, HB.out, World.grownBy.refl _ _⟩
    · have hne : (((nameLen s.data.toList : Nat) : Int) == (s.size : Int)) = true := by
        have : nameLen s.data.toList = s.size := by rw [← HL]; exact hfull.2 ha
        simp; omega
      have HE : Hid (nameOk s = !isW s) := by rw [HQ.out, hl, ha]; rfl
      clear HL hfull
      go_enter Try.func103, Try.ntmps103
      go_wp2_with (first
        | (go_at_call 125; refine (isLetter_is _ true hl _).mono ?_; rintro e w' ⟨rfl, rfl⟩)
        | (go_at_call 126; refine (nameLength_any _ _ hs).mono ?_; rintro e w' ⟨rfl, rfl⟩)
        | (go_at_call 127; refine (isWord_any b s _ hs HB.out).mono ?_; rintro e w1 ⟨rfl, hd, hg⟩))
      go_ret
      exact ⟨by rw [HE.out]; rfl, .inr hd, hg⟩

end Go.Proofs.Ytdadppjncdkpiaa
