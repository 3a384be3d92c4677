/-
  The specification's l02Place.
  The specification's look whether a byte is a digit.
  The specification's looks at one byte, and its NameOk.
  The specification's ProgramOk.
-/
import Derived.Test.YtdadppjncdkpiaaNamesPure
import Derived.Test.YtdadppjncdkpiaaPlain
import Derived.Test.YtdadppjncdkpiaaSpecIn0
import Derived.WalkKit
import Derived.Test.YtdadppjncdkpiaaName
import Derived.Test.YtdadppjncdkpiaaMH
import Derived.Test.YtdadppjncdkpiaaMR
namespace Go.Proofs.Ytdadppjncdkpiaa
open Go.RowKit Go.Joins

set_option maxRecDepth 100000

theorem place_ret {a b : Int} (h : a = b) : Ending.returned (.int .i64 a) = .returned (.int .i64 b) := by rw [h]

set_option maxHeartbeats 1600000 in
theorem l02Place_any (v : Value) (ts : List ByteArray) (s : ByteArray) (S : Nat → Prop) (w : World) (h : StrsAt w S v ts) :
    Calls Try.prog 53 #[v, .string s] w fun e w' => e = .returned (.int .i64 (lastN ts s ts.length)) ∧ w' = w := by
  obtain ⟨a, cap, rfl, hl, hc⟩ := h
  unfold maxLen at hl
  have HC := (show Hid (_ ∧ True) from ⟨hc, trivial⟩)
  clear hc
  go_enter Try.func53, Try.ntmps53
  go_wp2
  go_loop [5, 6] (fun p i => ∃ k : Nat, k ≤ ts.length ∧ i = .int .i64 k ∧ p = .int .i64 (lastN ts s k)) (fun _ i => ts.length - (intOf i).toNat)
  case atStart => exact ⟨0, Nat.zero_le _, rfl, rfl⟩
  case round =>
    obtain ⟨k, hk, rfl, rfl⟩ := hrel
    by_cases hlt : k < ts.length
    · have he := List.getElem?_eq_getElem hlt
      have hst : lastN ts s (k + 1) = if (ts[k].toList == s.toList) = true then (k : Int) else lastN ts s k := by
        rw [lastN]; simp [List.getD, he]
      have HS := (show Hid (_ ∧ True) from ⟨hst, trivial⟩)
      clear hst
      generalize ts[k] = x at *
      obtain ⟨b, off, rfl, -, hl1, c0, -⟩ := HC.out.1 k x he
      clear he HC
      cases hx : (x.toList == s.toList)
      · go_wp2
        go_round
        case rel => exact ⟨k + 1, by omega, by go_num, by rw [HS.out.1, hx]; simp⟩
        case measure => simp [intOf]; omega
      · go_wp2
        go_round
        case rel => exact ⟨k + 1, by omega, by go_num, by rw [HS.out.1, hx]; simp⟩
        case measure => simp [intOf]; omega
    · obtain rfl : k = ts.length := by omega
      clear HC
      go_wp2
      go_ret
      exact ⟨rfl, rfl⟩
end Go.Proofs.Ytdadppjncdkpiaa

namespace Go.Proofs.Ytdadppjncdkpiaa
open Go.RowKit

set_option maxRecDepth 100000

theorem specDigit_is (n : Int) (b : Bool) (h0 : 0 ≤ n) (h9 : n ≤ 255) (h : dgi n = b) (w : World) : Calls Try.prog 98 #[.int .u8 n] w fun e w' => e = .returned (.bool b) ∧ w' = w := by
  have h' : inB n 48 57 = b := h
  go_enter Try.func98, Try.ntmps98
  go_wp2_with (go_at_call 30; refine (specIn_is _ _ _ _ h' _).mono ?_; rintro e w' ⟨rfl, rfl⟩)
  go_ret
  exact ⟨rfl, rfl⟩

end Go.Proofs.Ytdadppjncdkpiaa

namespace Go.Proofs.Ytdadppjncdkpiaa
open Go.RowKit Go.Maps Go.Joins Go.WideMaps

set_option maxRecDepth 100000

theorem specLetter_is (n : Int) (b : Bool) (h0 : 0 ≤ n) (h9 : n ≤ 255) (h : lti n = b) (w : World) : Calls Try.prog 97 #[.int .u8 n] w fun e w' => e = .returned (.bool b) ∧ w' = w := by
  have h' : inB n 97 122 = b := h
  go_enter Try.func97, Try.ntmps97
  go_wp2_with (go_at_call 30; refine (specIn_is _ _ _ _ h' _).mono ?_; rintro e w' ⟨rfl, rfl⟩)
  go_ret
  exact ⟨rfl, rfl⟩

theorem name_bad0 (s : ByteArray) (h : 0 < s.size) (hl : lti (s[0].toNat : Int) = false) : nameOk s = false := by
  have e : ltb (s.data.toList.getD 0 0) = false := by rw [nameOk_first s h]; exact hl
  simp only [nameOk, e, Bool.and_false, Bool.false_and]
theorem name_bad (s : ByteArray) (k : Nat) (h : k < s.size) (hl : lti (s[k].toNat : Int) = false) (hd : dgi (s[k].toNat : Int) = false) : nameOk s = false := by
  have e : s.data.toList.all nmb = false := by
    rw [List.all_eq_false]
    refine ⟨s[k], ?_, by simp [nmb, ltb, dgb, hl, hd]⟩
    rw [← at_data s k h]
    exact List.getElem_mem _
  simp only [nameOk, e, Bool.and_false, Bool.false_and]
theorem name_fin (s : ByteArray) (h0 : 0 < s.size → ltb (s.data.toList.getD 0 0) = true) (h : ∀ x ∈ s.data.toList, nmb x = true) : nameOk s = (inB (s.size : Int) 1 8 && !isW s) := by
  have e : s.data.toList.all nmb = true := List.all_eq_true.2 h
  have c1 : inB (s.size : Int) 1 8 = (decide (1 ≤ s.size) && decide (s.size ≤ 8)) := by
    unfold inB
    congr 1
    · exact decide_eq_decide.2 (by omega)
    · exact decide_eq_decide.2 (by omega)
  rw [c1]
  by_cases hz : 0 < s.size
  · simp only [nameOk, e, h0 hz, Bool.and_true]
  · have : decide (1 ≤ s.size) = false := by simpa using hz
    simp only [nameOk, this, Bool.false_and]

set_option maxHeartbeats 800000 in
theorem specNameOk_any (s : ByteArray) (w : World) (hs : s.size ≤ maxLen) :
    Calls Try.prog 52 #[.string s] w fun e w' => e = .returned (.bool (nameOk s)) ∧ Below w.heap.size w w' := by
  have hnot := hn_not
  unfold maxLen at hs
  go_enter Try.func52, Try.ntmps52
  go_wp2
  go_loop [3] (fun i => ∃ k : Nat, k ≤ s.size ∧ i = .int .i64 k ∧ Hid ((0 < k → ltb (s.data.toList.getD 0 0) = true) ∧ ∀ x ∈ s.data.toList.take k, nmb x = true)) (fun i => s.size - (intOf i).toNat)
  case atStart => exact ⟨0, Nat.zero_le _, rfl, fun h => absurd h (Nat.lt_irrefl 0), fun x hx => by simp at hx⟩
  case round =>
    obtain ⟨k, hk, rfl, hall⟩ := hrel
    have HL : s.data.toList.length = s.size := by simp
    by_cases hlt : k < s.size
    · have b0 : (0 : Int) ≤ (s[k].toNat : Int) := by omega
      have b9 : (s[k].toNat : Int) ≤ 255 := by have := UInt8.toNat_lt s[k]; omega
      have HLL : Hid (s.data.toList.length = s.size) := HL
      clear HL
      have next : (k = 0 → lti (s[k].toNat : Int) = true) → nmb s[k] = true → Hid ((0 < k + 1 → ltb (s.data.toList.getD 0 0) = true) ∧ ∀ x ∈ s.data.toList.take (k + 1), nmb x = true) := fun hz hn =>
        ⟨fun _ => by
          by_cases e : k = 0
          · subst e; rw [nameOk_first s hlt]; exact hz rfl
          · exact hall.out.1 (by omega),
        mem_take_succ (by rw [HLL.out]; exact hlt) hall.out.2 (by rw [at_data s k hlt]; exact hn)⟩
      cases hl : lti (s[k].toNat : Int)
      · by_cases hk0 : k = 0
        · subst hk0
          have HF : Hid (nameOk s = false) := name_bad0 s hlt hl
          clear next
          go_wp2_with (go_at_call 97; refine (specLetter_is _ false b0 b9 hl _).mono ?_; rintro e w' ⟨rfl, rfl⟩)
          go_ret
          exact ⟨by rw [HF.out]; rfl, Below.refl _ _⟩
        · have hkb : ((k : Int) == 0) = false := by simp; omega
          cases hd : dgi (s[k].toNat : Int)
          · have HF : Hid (nameOk s = false) := name_bad s k hlt hl hd
            clear next
            go_wp2_with (first
              | (go_at_call 97; refine (specLetter_is _ false b0 b9 hl _).mono ?_; rintro e w' ⟨rfl, rfl⟩)
              | (go_at_call 98; refine (specDigit_is _ false b0 b9 hd _).mono ?_; rintro e w' ⟨rfl, rfl⟩))
            go_ret
            exact ⟨by rw [HF.out]; rfl, Below.refl _ _⟩
          · have HG := next (fun e => absurd e hk0) (by simp [nmb, ltb, dgb, hd])
            clear next
            go_wp2_with (first
              | (go_at_call 97; refine (specLetter_is _ false b0 b9 hl _).mono ?_; rintro e w' ⟨rfl, rfl⟩)
              | (go_at_call 98; refine (specDigit_is _ true b0 b9 hd _).mono ?_; rintro e w' ⟨rfl, rfl⟩))
            go_round
            case rel => exact ⟨k + 1, by omega, by go_num, HG⟩
            case measure => simp [intOf]; omega
      · have HG := next (fun _ => hl) (by simp [nmb, ltb, hl])
        clear next
        go_wp2_with (go_at_call 97; refine (specLetter_is _ true b0 b9 hl _).mono ?_; rintro e w' ⟨rfl, rfl⟩)
        go_round
        case rel => exact ⟨k + 1, by omega, by go_num, HG⟩
        case measure => simp [intOf]; omega
    · have e : k = s.size := by omega
      have hfin := name_fin s (fun h => hall.out.1 (by omega)) (fun x hx => hall.out.2 x (by rw [List.take_of_length_le (by omega)]; exact hx))
      have HF : Hid (nameOk s = (inB (s.size : Int) 1 8 && !isW s)) := hfin
      clear hfin HL
      cases hi : inB (s.size : Int) 1 8
      · go_wp2_with (go_at_call 30; refine (specIn_is _ _ _ _ hi _).mono ?_; rintro e w' ⟨rfl, rfl⟩)
        go_ret
        exact ⟨by rw [HF.out, hi]; rfl, Below.refl _ _⟩
      · go_wp2_with (first
          | (go_at_call 30; refine (specIn_is _ _ _ _ hi _).mono ?_; rintro e w' ⟨rfl, rfl⟩)
          | (go_at_call 99; refine (specIsWord_any s _).mono ?_; rintro e w1 ⟨rfl, hb⟩))
        go_ret
        exact ⟨by rw [HF.out, hi]; rfl, hb⟩
end Go.Proofs.Ytdadppjncdkpiaa

namespace Go.Proofs.Ytdadppjncdkpiaa
open Go.RowKit Go.Joins

set_option maxRecDepth 100000

set_option maxHeartbeats 1600000 in
theorem specProg_any (d : Nat) (v : Value) (p : Pr) (S : Nat → Prop) (w : World) (h : PrAt w S d v p) :
    Calls Try.prog 14 #[v] w fun e w' => e = .returned (.bool p.ok) ∧ Below w.heap.size w w' := by
  have hnot : ∀ (x : Bool) (w : World), (Op.unary .not (.bool x)).run Try.prog w = .ok (.bool (!x)) w := fun _ _ => rfl
  have hok := p.ok_iff
  obtain ⟨nv, bv, rfl, hn, hk⟩ := h
  have HN := (show Hid (_ ∧ True) from ⟨hn, trivial⟩)
  obtain ⟨a1, cap1, rfl, hl1, hc1⟩ := hn
  cases d with
  | zero => exact hk.elim
  | succ d =>
  obtain ⟨a, cap, rfl, hl, hc⟩ := hk
  unfold maxLen at hl hl1
  have HC1 := (show Hid (_ ∧ True) from ⟨hc1, trivial⟩)
  have HC := (show Hid (_ ∧ True) from ⟨hc, trivial⟩)
  have HE : Hid (RightE d) := l02Right_any d
  have HOK := (show Hid (_ ∧ True) from ⟨hok, trivial⟩)
  have B0 : Below w.heap.size w (w.alloc (.cells #[.slice a1 p.names.length cap1, .slice a p.bodies.length cap] 53)) := (Below.refl _ w).alloc (Nat.le_refl _) _
  have O0 : (w.alloc (.cells #[.slice a1 p.names.length cap1, .slice a p.bodies.length cap] 53)).heap[w.heap.size]? = some (.cells #[.slice a1 p.names.length cap1, .slice a p.bodies.length cap] 53) := (MapKept.heap_alloc w _).1
  have P3 : (w.alloc (.cells #[.slice a1 p.names.length cap1, .slice a p.bodies.length cap] 53)).heap.size = w.heap.size + 1 := by simp
  have HBx : Hid (∀ wk : World, Below (w.alloc (.cells #[.slice a1 p.names.length cap1, .slice a p.bodies.length cap] 53)).heap.size (w.alloc (.cells #[.slice a1 p.names.length cap1, .slice a p.bodies.length cap] 53)) wk → Below w.heap.size w wk ∧ wk.heap[w.heap.size]? = some (.cells #[.slice a1 p.names.length cap1, .slice a p.bodies.length cap] 53)) := fun wk hb => ⟨B0.trans (hb.mono B0.size), (hb.block _ (by rw [P3]; omega)).trans O0⟩
  have Y0 : (w.alloc (.cells #[.slice a1 p.names.length cap1, .slice a p.bodies.length cap] 53)).cell? ⟨w.heap.size, 0, none⟩ = some (.slice a1 p.names.length cap1) := by rw [cell_of_block O0]; rfl
  have Y1 : (w.alloc (.cells #[.slice a1 p.names.length cap1, .slice a p.bodies.length cap] 53)).cell? ⟨w.heap.size, 1, none⟩ = some (.slice a p.bodies.length cap) := by rw [cell_of_block O0]; rfl
  clear hc1 hc hok B0 O0
  by_cases hlen : p.names.length = p.bodies.length
  · have gl : (((p.names.length : Nat) : Int) != ((p.bodies.length : Nat) : Int)) = false := by simp [hlen]
    by_cases hin : 1 ≤ p.names.length ∧ p.names.length ≤ 30
    · have hib : inB (p.names.length : Int) 1 30 = true := by unfold inB; simp; omega
      have HLN := (show Hid (_ ∧ _) from ⟨hlen, hin⟩)
      clear hlen
      go_enter Try.func14, Try.ntmps14
      go_wp2_with (go_at_call 30; refine (specIn_is _ _ _ _ hib _).mono ?_; rintro e wx ⟨rfl, rfl⟩)
      have HST := (show Hid (_ ∧ _) from HBx.out _ (Below.refl _ _))
      generalize (w.alloc (.cells #[.slice a1 p.names.length cap1, .slice a p.bodies.length cap] 53)) = w2 at *
      clear HBx Y0 Y1
      go_loopw [3] (fun i wr => ∃ k : Nat, k ≤ p.names.length ∧ i = .int .i64 k ∧ (∀ (j : Nat) (t : ByteArray) (y : Ex), j < k → p.names[j]? = some t → p.bodies[j]? = some y → nameOk t = true ∧ lastN p.names t p.names.length = j ∧ y.right 0 (p.names.length : Int) 60 = true) ∧ Below w.heap.size w wr ∧ wr.heap[w.heap.size]? = some (.cells #[.slice a1 p.names.length cap1, .slice a p.bodies.length cap] 53)) (fun i _ => p.names.length - (intOf i).toNat)
      case atStart => exact ⟨0, Nat.zero_le _, rfl, fun j _ _ h => by omega, HST.out.1, HST.out.2⟩
      case round =>
        obtain ⟨k, hk, rfl, hall, hbw, hO⟩ := hrel
        have P0r : wr.cell? ⟨w.heap.size, 0, none⟩ = some (.slice a1 p.names.length cap1) := by rw [cell_of_block hO]; rfl
        have P1r : wr.cell? ⟨w.heap.size, 1, none⟩ = some (.slice a p.bodies.length cap) := by rw [cell_of_block hO]; rfl
        have HS := (show Hid (_ ∧ _ ∧ _) from ⟨hall, hbw, hO⟩)
        by_cases hkl : k < p.names.length
        · have hkb : k < p.bodies.length := by have := HLN.out.1; omega
          have ht := List.getElem?_eq_getElem hkl
          have he := List.getElem?_eq_getElem hkb
          have htd : p.names.getD k ByteArray.empty = p.names[k] := by simp [List.getD, ht]
          generalize p.names[k] = t at *
          generalize p.bodies[k] = y at *
          obtain ⟨b, off, kv, rfl, -, hlt1, c0, c1, c2, c3, r1, r2, r3, kk⟩ := HC.out.1 k y he
          obtain ⟨b1, off1, rfl, -, hlt2, ct, hts⟩ := HC1.out.1 k t ht
          rw [← hbw.cell (by exact hlt1)] at c0 c1 c2 c3
          rw [← hbw.cell (by exact hlt2)] at ct
          have HX : Hid (∀ wx : World, Below w.heap.size w wx → ExAt wx S d (.agg #[.int .i64 y.kind, .int .i64 y.n, .string y.text, kv]) y) := fun wx hx => ⟨kv, rfl, r1, r2, r3, kk.below hx⟩
          obtain ⟨ka, kc, rfl⟩ := kk.form
          have HEK := (show Hid (_ ∧ _) from ⟨ht, he⟩)
          have HTD := (show Hid (_ ∧ True) from ⟨htd, trivial⟩)
          clear kk he ht htd HC HC1 r1 r2 r3 hall hbw hO
          have hlt' : ((k : Nat) : Int) < ((p.names.length : Nat) : Int) := by omega
          have hlt'' : ((k : Nat) : Int) < ((p.bodies.length : Nat) : Int) := by have := HLN.out.1; omega
          have K0 := cell_regrown c0
          have K1 := cell_regrown c1
          have K2 := cell_regrown c2
          have K3 := cell_regrown c3
          have KP := cell_regrown P0r
          have KQ := cell_regrown P1r
          have KT := cell_regrown ct
          obtain ⟨q, HPL⟩ : ∃ q : Int, Hid (lastN p.names t p.names.length = q ∧ (q = (k : Int) → lastN p.names t p.names.length = (k : Int))) := ⟨_, rfl, fun h => h⟩
          cases hnm : nameOk t with
          | false =>
          have hr : p.ok = false := Pr.ok_false fun h => (by have := h.2.2.2.1 t (List.mem_of_getElem? HEK.out.1); rw [hnm] at this; cases this)
          have HR : Hid (p.ok = false) := hr
          clear hr
          go_wp2_with fail
          refine wp_region_quiet_below (by kernel_rfl) (by kernel_rfl) ?_
          repeat (go_big_quiet_step (first
            | (go_at_call 52; exact Calls.regrown_of (hnm ▸ specNameOk_any t _ hts))
            | (go_at_call 53; exact Calls.regrown_of ((HPL.out.1 ▸ l02Place_any _ p.names t S _ (HN.out.1.below (HS.out.2.1.trans ((below_regrown wr _ _).mono HS.out.2.1.size)))).mono (fun _ _ h => ⟨h.1, h.2 ▸ Below.refl _ _⟩)))
            | (go_at_call 54; exact Calls.regrown_of (hrt ▸ HE.out _ y S _ _ _ _ (HX.out _ (HS.out.2.1.trans ((below_regrown wr _ _).mono HS.out.2.1.size))) ⟨by omega, by omega⟩ ⟨by omega, by omega⟩ ⟨by omega, by omega⟩))))
          refine wpQuiet_nil ?_
          intro _ hw'
          obtain ⟨⟨dq, osq⟩, hw''⟩ := hw'
          subst hw''
          have b5 := below_regrown wr dq osq
          clear K0 K1 K2 K3 KP KQ KT
          generalize Go.Sort.grow (redrawn wr dq) osq = w5 at *
          have HB5 : Hid (Below wr.heap.size wr w5) := b5
          clear b5
          go_wp2
          go_ret
          exact ⟨ret_bool HR.out, HS.out.2.1.trans (HB5.out.mono HS.out.2.1.size)⟩
          | true =>
          by_cases hpl0 : q = (k : Int)
          case neg =>
            have hpl : (q != (k : Int)) = true := by simp [hpl0]
            have hr : p.ok = false := Pr.ok_false fun h => (by have := (nodup_last p.names).1 h.2.2.2.2.1 k hkl; rw [HTD.out.1, HPL.out.1] at this; exact hpl0 this)
            have HR : Hid (p.ok = false) := hr
            clear hr
            go_wp2_with fail
            refine wp_region_quiet_below (by kernel_rfl) (by kernel_rfl) ?_
            repeat (go_big_quiet_step (first
              | (go_at_call 52; exact Calls.regrown_of (hnm ▸ specNameOk_any t _ hts))
              | (go_at_call 53; exact Calls.regrown_of ((HPL.out.1 ▸ l02Place_any _ p.names t S _ (HN.out.1.below (HS.out.2.1.trans ((below_regrown wr _ _).mono HS.out.2.1.size)))).mono (fun _ _ h => ⟨h.1, h.2 ▸ Below.refl _ _⟩)))
              | (go_at_call 54; exact Calls.regrown_of (hrt ▸ HE.out _ y S _ _ _ _ (HX.out _ (HS.out.2.1.trans ((below_regrown wr _ _).mono HS.out.2.1.size))) ⟨by omega, by omega⟩ ⟨by omega, by omega⟩ ⟨by omega, by omega⟩))))
            refine wpQuiet_nil ?_
            intro _ hw'
            obtain ⟨⟨dq, osq⟩, hw''⟩ := hw'
            subst hw''
            have b5 := below_regrown wr dq osq
            clear K0 K1 K2 K3 KP KQ KT
            generalize Go.Sort.grow (redrawn wr dq) osq = w5 at *
            have HB5 : Hid (Below wr.heap.size wr w5) := b5
            clear b5
            go_wp2
            go_ret
            exact ⟨ret_bool HR.out, HS.out.2.1.trans (HB5.out.mono HS.out.2.1.size)⟩
          have hpl : (q != (k : Int)) = false := by simp [hpl0]
          cases hrt : y.right 0 (p.names.length : Int) 60 with
          | false =>
          have hr : p.ok = false := Pr.ok_false fun h => (by have := h.2.2.2.2.2 y (List.mem_of_getElem? HEK.out.2); rw [hrt] at this; cases this)
          have HR : Hid (p.ok = false) := hr
          clear hr
          go_wp2_with fail
          refine wp_region_quiet_below (by kernel_rfl) (by kernel_rfl) ?_
          repeat (go_big_quiet_step (first
            | (go_at_call 52; exact Calls.regrown_of (hnm ▸ specNameOk_any t _ hts))
            | (go_at_call 53; exact Calls.regrown_of ((HPL.out.1 ▸ l02Place_any _ p.names t S _ (HN.out.1.below (HS.out.2.1.trans ((below_regrown wr _ _).mono HS.out.2.1.size)))).mono (fun _ _ h => ⟨h.1, h.2 ▸ Below.refl _ _⟩)))
            | (go_at_call 54; exact Calls.regrown_of (hrt ▸ HE.out _ y S _ _ _ _ (HX.out _ (HS.out.2.1.trans ((below_regrown wr _ _).mono HS.out.2.1.size))) ⟨by omega, by omega⟩ ⟨by omega, by omega⟩ ⟨by omega, by omega⟩))))
          refine wpQuiet_nil ?_
          intro _ hw'
          obtain ⟨⟨dq, osq⟩, hw''⟩ := hw'
          subst hw''
          have b5 := below_regrown wr dq osq
          clear K0 K1 K2 K3 KP KQ KT
          generalize Go.Sort.grow (redrawn wr dq) osq = w5 at *
          have HB5 : Hid (Below wr.heap.size wr w5) := b5
          clear b5
          go_wp2
          go_ret
          exact ⟨ret_bool HR.out, HS.out.2.1.trans (HB5.out.mono HS.out.2.1.size)⟩
          | true =>
          go_wp2_with fail
          refine wp_region_quiet_below (by kernel_rfl) (by kernel_rfl) ?_
          repeat (go_big_quiet_step (first
            | (go_at_call 52; exact Calls.regrown_of (hnm ▸ specNameOk_any t _ hts))
            | (go_at_call 53; exact Calls.regrown_of ((HPL.out.1 ▸ l02Place_any _ p.names t S _ (HN.out.1.below (HS.out.2.1.trans ((below_regrown wr _ _).mono HS.out.2.1.size)))).mono (fun _ _ h => ⟨h.1, h.2 ▸ Below.refl _ _⟩)))
            | (go_at_call 54; exact Calls.regrown_of (hrt ▸ HE.out _ y S _ _ _ _ (HX.out _ (HS.out.2.1.trans ((below_regrown wr _ _).mono HS.out.2.1.size))) ⟨by omega, by omega⟩ ⟨by omega, by omega⟩ ⟨by omega, by omega⟩))))
          refine wpQuiet_nil ?_
          intro _ hw'
          obtain ⟨⟨dq, osq⟩, hw''⟩ := hw'
          subst hw''
          have b5 := below_regrown wr dq osq
          clear K0 K1 K2 K3 KP KQ KT
          generalize Go.Sort.grow (redrawn wr dq) osq = w5 at *
          have HB5 : Hid (Below wr.heap.size wr w5) := b5
          clear b5
          go_wp2
          refine ⟨⟨k + 1, by omega, by go_num, ?_, HS.out.2.1.trans (HB5.out.mono HS.out.2.1.size), (HB5.out.block _ (Array.getElem?_eq_some_iff.1 HS.out.2.2).1).trans HS.out.2.2⟩, by simp [intOf]; omega⟩
          intro j t' y' hj ht' hy'
          by_cases hjk : j < k
          · exact HS.out.1 j t' y' hjk ht' hy'
          · obtain rfl : j = k := by omega
            rw [HEK.out.1] at ht'
            rw [HEK.out.2] at hy'
            cases ht'
            cases hy'
            exact ⟨hnm, HPL.out.2 (by simpa using hpl), hrt⟩
        · obtain rfl : k = p.names.length := by omega
          have hr : p.ok = true := p.ok_iff.2 ⟨HLN.out.1, HLN.out.2.1, HLN.out.2.2, fun t ht => by
              obtain ⟨i, hi, rfl⟩ := List.getElem_of_mem ht
              have hib : i < p.bodies.length := by have := HLN.out.1; omega
              exact (hall i _ _ hi (List.getElem?_eq_getElem hi) (List.getElem?_eq_getElem hib)).1, (nodup_last p.names).2 fun i hi => by
              have hib : i < p.bodies.length := by have := HLN.out.1; omega
              have := (hall i _ _ hi (List.getElem?_eq_getElem hi) (List.getElem?_eq_getElem hib)).2.1
              rw [show p.names.getD i ByteArray.empty = p.names[i] by simp [List.getD, List.getElem?_eq_getElem hi]]
              exact this, fun y hy => by
              obtain ⟨i, hi, rfl⟩ := List.getElem_of_mem hy
              have hib : i < p.names.length := by have := HLN.out.1; omega
              exact (hall i _ _ hib (List.getElem?_eq_getElem hib) (List.getElem?_eq_getElem hi)).2.2⟩
          have HR : Hid (p.ok = true) := hr
          clear hr hall hbw hO HC HC1 HE
          go_wp2
          go_ret
          exact ⟨ret_bool HR.out, HS.out.2.1⟩
    · have hib : inB (p.names.length : Int) 1 30 = false := by unfold inB; simp; omega
      have hr : p.ok = false := Pr.ok_false fun h => hin ⟨h.2.1, h.2.2.1⟩
      rw [hr]
      have HLN := (show Hid (_ ∧ _) from ⟨hlen, hin⟩)
      clear hlen hin
      go_enter Try.func14, Try.ntmps14
      go_wp2_with (go_at_call 30; refine (specIn_is _ _ _ _ hib _).mono ?_; rintro e wx ⟨rfl, rfl⟩)
      go_ret
      exact ⟨rfl, (HBx.out _ (Below.refl _ _)).1⟩
  · have gl : (((p.names.length : Nat) : Int) != ((p.bodies.length : Nat) : Int)) = true := by simp; omega
    have hr : p.ok = false := Pr.ok_false fun h => hlen h.1
    rw [hr]
    go_enter Try.func14, Try.ntmps14
    go_wp2_with fail
    generalize (w.alloc (.cells #[.slice a1 p.names.length cap1, .slice a p.bodies.length cap] 53)) = w2 at *
    go_ret
    exact ⟨rfl, (HBx.out _ (Below.refl _ w2)).1⟩
end Go.Proofs.Ytdadppjncdkpiaa
