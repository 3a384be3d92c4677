/-
  The specification's DecText: a number's text is the decimal numeral.
  Texts as lists of bytes.
  The specification's l03Print.
-/
import Derived.Test.YtkhkmmjollcfaaaGreatDoorRows
import Derived.WalkKit
import Derived.Lib.ItoaNum
import Derived.Lib.Strings
import Derived.Test.YtkhkmmjollcfaaaGreatDoorSpecEv
namespace Go.Proofs.YtkhkmmjollcfaaaGreatDoor
open Go.RowKit

set_option maxRecDepth 100000

def digs10 : ByteArray := ⟨#[48, 49, 50, 51, 52, 53, 54, 55, 56, 57]⟩
theorem dig_ext : ∀ d, d < 10 → (⟨#[48, 49, 50, 51, 52, 53, 54, 55, 56, 57]⟩ : ByteArray).extract d (d + 1) = ⟨#[UInt8.ofNat (48 + d)]⟩ := by decide

def decN (a : Nat) : List UInt8 := if a = 0 then [] else Lib.decDigits a
theorem decN_step (a : Nat) (h : 0 < a) : decN a = decN (a / 10) ++ [UInt8.ofNat (48 + a % 10)] := by
  unfold decN
  rw [if_neg (by omega)]
  by_cases h10 : a < 10
  · rw [if_pos (by omega), Lib.decDigits, dif_pos h10, Nat.mod_eq_of_lt h10]; rfl
  · rw [if_neg (by omega), Lib.decDigits, dif_neg h10]

theorem dcat_cons (c : UInt8) (l : List UInt8) : (⟨#[c]⟩ ++ ⟨l.toArray⟩ : ByteArray) = ⟨(c :: l).toArray⟩ := by
  apply ByteArray.ext
  simp [ByteArray.data_append]

theorem dig_slice (d : Nat) (hd : d < 10) (w : World) : (Instr.slice 9 (.string ⟨#[48, 49, 50, 51, 52, 53, 54, 55, 56, 57]⟩) (some (.int .i64 (d : Int))) (some (.int .i64 ((d : Int) + 1))) none).run Tryz.prog w = .ok (.string ⟨#[UInt8.ofNat (48 + d)]⟩) w := by
  have h := run_slice_string (P := Tryz.prog) w 9 ⟨#[48, 49, 50, 51, 52, 53, 54, 55, 56, 57]⟩ .i64 .i64 (d : Int) ((d : Int) + 1) Tryz.underlying9 (by omega) (by omega) (by show _ ≤ ((10 : Nat) : Int); omega)
  rw [show (d : Int).toNat = d by omega, show ((d : Int) + 1).toNat = d + 1 by omega, dig_ext d hd] at h
  exact h

theorem ret_str {a b : ByteArray} (h : a = b) : Ending.returned (.string a) = .returned (.string b) := by rw [h]

theorem dec_len : ∀ (k n : Nat), n < 10 ^ (k + 1) → (Lib.decDigits n).length ≤ k + 1
  | 0, n, h => by rw [Lib.decDigits, dif_pos (by simpa using h)]; simp
  | k + 1, n, h => by
    by_cases h10 : n < 10
    · rw [Lib.decDigits, dif_pos h10]; simp
    · rw [Lib.decDigits, dif_neg h10, List.length_append, List.length_singleton]
      have := dec_len k (n / 10) (by rw [Nat.pow_succ] at h; omega)
      omega
theorem dec_len20 (n : Nat) (h : n ≤ 9223372036854775808) : (Lib.decDigits n).length ≤ 20 := dec_len 19 n (by have : (10 : Nat) ^ (19 + 1) = 100000000000000000000 := (by decide); omega)
theorem acc_len {a n : Nat} {acc : List UInt8} (h : decN a ++ acc = Lib.decDigits n) (hl : (Lib.decDigits n).length ≤ 20) : acc.length ≤ 20 := by
  rw [← h, List.length_append] at hl
  omega
theorem int_eq' {a b : Int} (h : a = b) : Value.int .i64 a = .int .i64 b := by rw [h]

set_option maxHeartbeats 1600000 in
theorem specDec_pos (n : Nat) (w : World) (h0 : 0 < n) (h1 : (n : Int) ≤ 9223372036854775807) :
    Calls Tryz.prog 50 #[.int .i64 n] w fun e w' => e = .returned (.string ⟨(Lib.decDigits n).toArray⟩) ∧ w' = w := by
  have hz : ((n : Int) == 0) = false := by simp; omega
  have hneg : ¬ (n : Int) < 0 := by omega
  go_enter Tryz.func50, Tryz.ntmps50
  go_wp2
  go_loop [3, 4] (fun t m => ∃ (a : Nat) (acc : List UInt8), acc.length + a ≤ n ∧ t = .string ⟨acc.toArray⟩ ∧ m = .int .i64 a ∧ Hid (decN a ++ acc = Lib.decDigits n)) (fun _ m => (intOf m).toNat)
  case atStart => exact ⟨n, [], by simp, rfl, rfl, by show decN n ++ [] = _; unfold decN; rw [if_neg (by omega), List.append_nil]⟩
  case round =>
    obtain ⟨a, acc, han, rfl, rfl, hinv⟩ := hrel
    by_cases ha : 0 < a
    · have hst := decN_step a ha
      have hinv2 : Hid (decN (a / 10) ++ (UInt8.ofNat (48 + a % 10) :: acc) = Lib.decDigits n) := by
        have := hinv.out
        rw [hst, List.append_assoc] at this
        exact this
      have hsl := dig_slice (a % 10) (by omega)
      rw [show ((a % 10 : Nat) : Int) = (a : Int) % 10 by omega] at hsl
      have hne : ((a : Int) != 0) = true := by simp; omega
      generalize UInt8.ofNat (48 + a % 10) = c at hsl hinv2
      clear hst
      go_wp2
      go_round
      case rel => exact ⟨a / 10, c :: acc, by simp; omega, by rw [dcat_cons], by go_num, hinv2⟩
      case measure => simp [intOf]; omega
    · obtain rfl : a = 0 := by omega
      have HF : Hid (acc = Lib.decDigits n) := hinv.out
      go_wp2
      go_ret
      exact ⟨ret_str (by rw [HF.out]), rfl⟩

set_option maxHeartbeats 1600000 in
theorem specDec_neg (n : Nat) (w : World) (h0 : 0 < n) (h1 : (n : Int) ≤ 9223372036854775808) :
    Calls Tryz.prog 50 #[.int .i64 (-(n : Int))] w fun e w' => e = .returned (.string ⟨(45 :: Lib.decDigits n).toArray⟩) ∧ w' = w := by
  have hz : ((-(n : Int)) == 0) = false := by simp; omega
  have hneg : (-(n : Int)) < 0 := by omega
  have hlen := dec_len20 n (by omega)
  go_enter Tryz.func50, Tryz.ntmps50
  go_wp2
  go_loop [3, 4] (fun t m => ∃ (a : Nat) (acc : List UInt8), acc.length + a ≤ n ∧ t = .string ⟨acc.toArray⟩ ∧ m = .int .i64 (-(a : Int)) ∧ Hid (decN a ++ acc = Lib.decDigits n)) (fun _ m => (intOf m).natAbs)
  case atStart => exact ⟨n, [], by simp, rfl, rfl, by show decN n ++ [] = _; unfold decN; rw [if_neg (by omega), List.append_nil]⟩
  case round =>
    obtain ⟨a, acc, han, rfl, rfl, hinv⟩ := hrel
    by_cases ha : 0 < a
    · have hst := decN_step a ha
      have hinv2 : Hid (decN (a / 10) ++ (UInt8.ofNat (48 + a % 10) :: acc) = Lib.decDigits n) := by
        have := hinv.out
        rw [hst, List.append_assoc] at this
        exact this
      have hsl := dig_slice (a % 10) (by omega)
      rw [show ((a % 10 : Nat) : Int) = (a : Int) % 10 by omega] at hsl
      have hne : ((-(a : Int)) != 0) = true := by simp; omega
      have hal : acc.length ≤ 20 := acc_len hinv.out hlen
      by_cases hm : a % 10 = 0
      · have hsl0 : ∀ w, (Instr.slice 9 (.string ⟨#[48, 49, 50, 51, 52, 53, 54, 55, 56, 57]⟩) (some (.int .i64 (-((a : Int) % 10)))) (some (.int .i64 (-((a : Int) % 10) + 1))) none).run Tryz.prog w = .ok (.string ⟨#[UInt8.ofNat (48 + a % 10)]⟩) w := fun w => by
          have h := hsl w
          rw [show -((a : Int) % 10) = (a : Int) % 10 by omega]
          exact h
        have hmi : ¬ (0 : Int) < (a : Int) % 10 := by omega
        generalize UInt8.ofNat (48 + a % 10) = c at hsl0 hinv2
        clear hst hsl
        go_wp2
        go_round
        case rel => exact ⟨a / 10, c :: acc, by simp; omega, by rw [dcat_cons], int_eq' (by omega), hinv2⟩
        case measure => simp [intOf]; omega
      · have hmi : (0 : Int) < (a : Int) % 10 := by omega
        generalize UInt8.ofNat (48 + a % 10) = c at hsl hinv2
        clear hst
        go_wp2
        go_round
        case rel => exact ⟨a / 10, c :: acc, by simp; omega, by rw [dcat_cons], int_eq' (by omega), hinv2⟩
        case measure => simp [intOf]; omega
    · obtain rfl : a = 0 := by omega
      have HF : Hid (acc = Lib.decDigits n) := hinv.out
      have hal : acc.length ≤ 20 := acc_len hinv.out hlen
      go_wp2
      go_ret
      exact ⟨ret_str (by rw [dcat_cons, HF.out]), rfl⟩

theorem specDec_any (n : Int) (w : World) (h0 : -9223372036854775808 ≤ n) (h1 : n ≤ 9223372036854775807) :
    Calls Tryz.prog 50 #[.int .i64 n] w fun e w' => e = .returned (.string ⟨(Lib.itoa n).toArray⟩) ∧ w' = w := by
  rcases Int.lt_trichotomy n 0 with h | h | h
  · obtain ⟨k, hk⟩ : ∃ k : Nat, n = -(k : Int) := ⟨n.natAbs, by omega⟩
    subst hk
    have e : Lib.itoa (-(k : Int)) = 45 :: Lib.decDigits k := by unfold Lib.itoa; rw [if_pos h]; simp
    rw [e]
    exact specDec_neg k w (by omega) (by omega)
  · subst h
    have e : Lib.itoa 0 = [48] := by decide +kernel
    rw [e]
    go_enter Tryz.func50, Tryz.ntmps50
    go_wp2
    go_ret
    exact ⟨rfl, rfl⟩
  · obtain ⟨k, rfl⟩ := Int.eq_ofNat_of_zero_le (show 0 ≤ n by omega)
    have e : Lib.itoa (k : Int) = Lib.decDigits k := by unfold Lib.itoa; rw [if_neg (by omega)]; simp
    rw [e]
    exact specDec_pos k w (by omega) (by omega)
end Go.Proofs.YtkhkmmjollcfaaaGreatDoor

namespace Go.Proofs.YtkhkmmjollcfaaaGreatDoor
open Go.RowKit

def bsOf (l : List UInt8) : ByteArray := ⟨l.toArray⟩
theorem bsOf_app (a b : List UInt8) : bsOf a ++ bsOf b = bsOf (a ++ b) := by
  apply ByteArray.ext
  simp [bsOf, ByteArray.data_append]
theorem bsOf_data (t : ByteArray) : bsOf t.data.toList = t := by unfold bsOf; simp
end Go.Proofs.YtkhkmmjollcfaaaGreatDoor

namespace Go.Proofs.YtkhkmmjollcfaaaGreatDoor
open Go.RowKit Go.Joins

set_option maxRecDepth 100000

/-- What is printed where the run goes on. -/
def prC (P : List Ex) (B b : Nat) (q : Int) (f : Nat) (c : Clo) : Except Int (List UInt8) × Nat := if q = 0 then pr P B b f c else (.error q, f)
def codeP : Except Int (List UInt8) → Int
  | .ok _ => 0
  | .error k => k
structure AftP (rb : Nat) (nv bv : Value) (w w' : World) (f : Nat) (s : ByteArray) (r : Except Int (List UInt8) × Nat) : Prop where
  kb : KB (· = rb) w w'
  run : RunAt w' rb nv bv r.2 (codeP r.1)
  ok : ∀ t, r.1 = .ok t → s = bsOf t
  err : ∀ k, r.1 = .error k → k ≠ 0
  len : s.size + 30 * r.2 ≤ 30 * f
def PrS (P : List Ex) (nv bv : Value) (rb d B b : Nat) : Prop := ∀ (S : Nat → Prop) (f : Nat) (c : Clo) (cv : Value) (w : World) (q : Int),
  f < b → f ≤ B → RunAt w rb nv bv f q → Sv w S d rb bv P → ClAt w S d cv c → c.good (P.length : Int) →
  Calls Tryz.prog 34 #[.pointer (some ⟨rb, 0, none⟩), cv] w fun r w' => ∃ s, r = .returned (.string s) ∧ AftP rb nv bv w w' f s (prC P B b q f c)
theorem ev_lt (P : List Ex) (b f : Nat) (e : Ex) (env : List Clo) {v : Vl} {f' : Nat} (h : ev P b f e env = (.ok v, f')) : f' + 1 ≤ f := by
  cases b with
  | zero => rw [ev] at h; cases h
  | succ b =>
    by_cases hf : f = 0
    · rw [ev, if_pos hf] at h; cases h
    have ih : ∀ f' e env, f' ≤ f - 1 → (ev P b f' e env).2 ≤ f - 1 := fun f' e env h => Nat.le_trans (ev_less P b f' e env) h
    have h7 : f - 1 ≤ f - 1 := Nat.le_refl _
    have key : (ev P (b + 1) f e env).2 ≤ f - 1 := by
      rw [ev, if_neg hf]
      refine ite_le h7 (ite_le ?_ (ite_le (ih _ _ _ h7) (ite_le h7 (ite_le ?_ (ite_le (ih _ _ _ h7) (ite_le ?_ (ite_le h7 (ite_le h7 (ite_le ?_ (ite_le ?_ (ih _ _ _ h7)))))))))))
      · cases env[e.n.toNat]? with
        | none => exact h7
        | some c => exact ih _ _ _ h7
      · exact onFn_le (ih _ _ _ h7) fun l x en f' hf => ite_le hf (ih _ _ _ hf)
      · exact onNum_le (ih _ _ _ h7) fun n f' hf => ite_le (ih _ _ _ hf) (ih _ _ _ hf)
      · exact onList_le (ih _ _ _ h7) (fun f' hf => ih _ _ _ hf) (fun a b f' hf => ih _ _ _ hf)
      · exact onNum_le (ih _ _ _ h7) fun x f' hf => onNum_le (ih _ _ _ hf) fun y f'' hf' => hf'
    rw [h] at key
    have : f' ≤ f - 1 := key
    omega
theorem bs_len (l : List UInt8) : (bsOf l).size = l.length := by unfold bsOf; simp [ByteArray.size]
theorem cat_len (a b : ByteArray) : (a ++ b).size = a.size + b.size := by simp
theorem itoa_len21 (n : Int) (h : inI64 n) : (Lib.itoa n).length ≤ 21 := by
  unfold inI64 at h
  unfold Lib.itoa
  split
  · rw [List.length_cons]; have := dec_len20 n.natAbs (by omega); omega
  · have := dec_len20 n.toNat (by omega); omega
/-- A pair is printed. -/
theorem pair_end {P : List Ex} {B b f f' : Nat} {c h t : Clo} {s1 s2 : ByteArray} {rb : Nat} {nv bv : Value} {w1 w2 w3 w4 w' : World} (hc : ev P B f c.ex c.scope = (.ok (.pair h t), f')) (h1 : AftP rb nv bv w1 w2 f' s1 (prC P B b 0 f' h)) (h2 : AftP rb nv bv w3 w4 (prC P B b 0 f' h).2 s2 (prC P B b (codeP (prC P B b 0 f' h).1) (prC P B b 0 f' h).2 t)) (hk : KB (· = rb) w' w4) :
    AftP rb nv bv w' w4 f (⟨#[40]⟩ ++ s1 ++ ⟨#[58]⟩ ++ s2 ++ ⟨#[41]⟩) (prC P B (b + 1) 0 f c) := by
  have hlt := ev_lt P B f c.ex c.scope hc
  have e0 : prC P B b 0 f' h = pr P B b f' h := by unfold prC; rw [if_pos rfl]
  have e1 : prC P B (b + 1) 0 f c = pr P B (b + 1) f c := by unfold prC; rw [if_pos rfl]
  rw [e0] at h1 h2
  rw [e1, pr, hc]
  have hl := h1.len
  have hl2 := h2.len
  generalize hp : pr P B b f' h = p1 at h1 h2 hl hl2
  obtain ⟨p1, g1⟩ := p1
  cases p1 with
  | error k =>
    have hk0 := h1.err k rfl
    have e2 : prC P B b (codeP (.error k)) g1 t = (.error k, g1) := by unfold prC codeP; simp only []; rw [if_neg hk0]
    have h2' := h2
    simp only [] at h2' hl2
    rw [e2] at h2' hl2
    refine ⟨hk, by simpa [hp] using h2'.run, fun z hz => by simp [hp] at hz, fun k' hk' => by simp [hp] at hk'; subst hk'; exact hk0, ?_⟩
    simp only [hp, cat_len]
    have a1 : ByteArray.size ⟨#[40]⟩ = 1 := rfl
    have a2 : ByteArray.size ⟨#[58]⟩ = 1 := rfl
    have a3 : ByteArray.size ⟨#[41]⟩ = 1 := rfl
    simp only [] at hl hl2
    omega
  | ok a =>
    have e2 : prC P B b (codeP (.ok a)) g1 t = pr P B b g1 t := by unfold prC codeP; simp
    have h2' := h2
    simp only [] at h2' hl2
    rw [e2] at h2' hl2
    generalize hp2 : pr P B b g1 t = p2 at h2' hl2
    obtain ⟨p2, g2⟩ := p2
    have a1 : ByteArray.size ⟨#[40]⟩ = 1 := rfl
    have a2 : ByteArray.size ⟨#[58]⟩ = 1 := rfl
    have a3 : ByteArray.size ⟨#[41]⟩ = 1 := rfl
    simp only [] at hl hl2
    cases p2 with
    | error k =>
      refine ⟨hk, by simpa [hp, hp2] using h2'.run, fun z hz => by simp [hp, hp2] at hz, fun k' hk' => by simp [hp, hp2] at hk'; subst hk'; exact h2'.err k rfl, ?_⟩
      simp only [hp, hp2, cat_len]
      omega
    | ok a' =>
      refine ⟨hk, by simpa [hp, hp2, codeP] using h2'.run, fun z hz => ?_, fun k' hk' => by simp [hp, hp2] at hk', ?_⟩
      · simp [hp, hp2] at hz
        subst hz
        rw [h1.ok a rfl, h2'.ok a' rfl]
        simp only [show (⟨#[40]⟩ : ByteArray) = bsOf [40] from rfl, show (⟨#[58]⟩ : ByteArray) = bsOf [58] from rfl, show (⟨#[41]⟩ : ByteArray) = bsOf [41] from rfl, bsOf_app]
        simp
      · simp only [hp, hp2, cat_len]
        omega
end Go.Proofs.YtkhkmmjollcfaaaGreatDoor
