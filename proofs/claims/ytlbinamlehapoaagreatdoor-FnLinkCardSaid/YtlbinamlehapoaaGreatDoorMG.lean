/-
  The specification's GetNum.
  The specification's numbers at a place of a text.
  Messages out of their bytes, in plain words.
  A heap's cells in plain words: which are right, and where one comes to from a place.
  Lists of which all fulfil something; the fields of a cell of no kind.
-/
import Derived.Test.YtlbinamlehapoaaGreatDoorMD
import Derived.Test.YtlbinamlehapoaaGreatDoorSpecPutMsg
import Derived.Test.YtlbinamlehapoaaGreatDoorME
namespace Go.Proofs.YtlbinamlehapoaaGreatDoor
open Go.RowKit

set_option maxRecDepth 100000

theorem drop_take_more {l : List UInt8} {i k : Nat} {b : UInt8} (h : l[i + k]? = some b) : (l.drop i).take (k + 1) = (l.drop i).take k ++ [b] := by
  have hk : k < (l.drop i).length := by have := (List.getElem?_eq_some_iff.1 h).1; rw [List.length_drop]; omega
  rw [List.take_succ_eq_append_getElem hk, List.getElem_drop]
  have := (List.getElem?_eq_some_iff.1 h).2
  rw [this]

set_option maxHeartbeats 3200000 in
theorem specGetNum_any (s : ByteArray) (i : Int) (w : World) (hs : s.size ≤ 1048576) (hi0 : -9223372036854775808 ≤ i) (hi1 : i ≤ 9223372036854775807) :
    Calls Tryz.prog 104 #[.string s, .int .i64 i] w fun e w' => e = .returned (.tuple #[.int .i64 (getN s i).1, .int .i64 (getN s i).2]) ∧ Below w.heap.size w w' := by
  by_cases h0 : i < 0
  · have hr : getN s i = (0, -1) := by unfold getN; rw [if_neg (by omega)]
    rw [hr]
    go_enter Tryz.func104, Tryz.ntmps104
    go_wp2
    go_ret2
    exact ⟨rfl, Below.refl _ _⟩
  by_cases h1 : (s.size : Int) - 8 < i
  · have hr : getN s i = (0, -1) := by unfold getN; rw [if_neg (by omega)]
    rw [hr]
    go_enter Tryz.func104, Tryz.ntmps104
    go_wp2
    go_ret2
    exact ⟨rfl, Below.refl _ _⟩
  obtain ⟨p, rfl⟩ := Int.eq_ofNat_of_zero_le (show 0 ≤ i by omega)
  have hp : p + 8 ≤ s.size := by omega
  have hr : getN s (p : Int) = (wrap64 (bytesU ((s.data.toList.drop p).take 8) : Nat), (p : Int) + 8) := by
    unfold getN
    rw [if_pos (by omega), Int.toNat_natCast]
  rw [hr]
  clear hr
  go_enter Tryz.func104, Tryz.ntmps104
  go_wp2
  go_loop [6, 7] (fun u kv => ∃ k : Nat, k ≤ 8 ∧ kv = .int .i64 k ∧ u = .int .u64 (bytesU ((s.data.toList.drop p).take k) : Nat)) (fun _ kv => 8 - (intOf kv).toNat)
  case atStart => exact ⟨0, Nat.zero_le _, rfl, rfl⟩
  case round =>
    obtain ⟨k, hk, rfl, rfl⟩ := hrel
    have hu := bytesU_lt ((s.data.toList.drop p).take k)
    by_cases hk8 : k < 8
    · have hk8' : ((k : Nat) : Int) < 8 := by omega
      have hps : p + k < s.size := by omega
      have HM : Hid (bytesU ((s.data.toList.drop p).take (k + 1)) = (256 * bytesU ((s.data.toList.drop p).take k) + (s[p + k]'hps).toNat) % 18446744073709551616) := by
        rw [drop_take_more (b := s[p + k]'hps) (by rw [List.getElem?_eq_getElem (by simpa using hps)]; rfl), bytesU_more]
        exact rfl
      generalize bytesU ((s.data.toList.drop p).take k) = u at *
      have hb := (s[p + k]'hps).toNat_lt
      have hpi : ((p : Nat) : Int) + ((k : Nat) : Int) < ((s.size : Nat) : Int) := by omega
      go_wp2_with fail
      refine ⟨⟨k + 1, by omega, by go_num, ?_⟩, by simp [intOf]; omega⟩
      rw [HM.out]
      congr 1
      rw [IntKind.wrap_u64, IntKind.wrap_u64]
      omega
    · obtain rfl : k = 8 := by omega
      go_wp2
      go_ret2
      exact ⟨rfl, Below.refl _ _⟩
end Go.Proofs.YtlbinamlehapoaaGreatDoor

namespace Go.Proofs.YtlbinamlehapoaaGreatDoor
open Go.RowKit Go.Joins

set_option maxRecDepth 100000

/-- The first so many numbers from a place on. -/
def numsAt (s : ByteArray) (i : Int) (n : Nat) : List Int := (List.range n).map (fun k : Nat => (getN s (i + 8 * (k : Int))).1)
theorem numsAt_more (s : ByteArray) (i : Int) (k : Nat) : numsAt s i (k + 1) = numsAt s i k ++ [(getN s (i + 8 * (k : Int))).1] := by simp [numsAt, List.range_succ]
theorem numsAt_len (s : ByteArray) (i : Int) (n : Nat) : (numsAt s i n).length = n := by simp [numsAt]
theorem getN_no {s : ByteArray} {i : Int} (h : ¬ (0 ≤ i ∧ i ≤ (s.size : Int) - 8)) : getN s i = (0, -1) := by unfold getN; rw [if_neg h]
theorem getN_at {s : ByteArray} {i : Int} (h : 0 ≤ i ∧ i ≤ (s.size : Int) - 8) : (getN s i).2 = i + 8 := by unfold getN; rw [if_pos h]

set_option maxHeartbeats 3200000 in
theorem l07Get_any (s : ByteArray) (i : Int) (n : Nat) (w : World) (hs : s.size ≤ 1048576) (hi0 : 0 ≤ i) (hi1 : i ≤ 1000000) (hn : n ≤ 1000) :
    Calls Tryz.prog 78 #[.string s, .int .i64 i, .int .i64 (n : Int)] w fun e w' => ∃ (v : Value) (zs : List Int) (b : Bool), e = .returned (.tuple #[v, .bool b]) ∧ (((n = 0 ∨ i + 8 * (n : Int) ≤ s.size) ∧ b = true ∧ zs = numsAt s i n) ∨ (¬ (n = 0 ∨ i + 8 * (n : Int) ≤ s.size) ∧ b = false ∧ zs = [])) ∧ w'.ownsRow w.heap.size 3 1 v zs.length (zs.map (fun z => Value.int .i64 z)) ∧ Below w.heap.size w w' := by
  obtain ⟨i0, hi, hz0, hz1, hz2⟩ := info_parts infoCdI
  have E0 := ow_empty w w.heap.size 3 (Nat.le_refl _)
  have HE := (show Hid (_ ∧ _) from ⟨E0, ((Below.refl _ w).alloc (Nat.le_refl _) (.cells #[] 3) : Below w.heap.size w (w.alloc (.cells #[] 3)))⟩)
  clear E0
  go_enter Tryz.func78, Tryz.ntmps78
  go_wp2_with fail
  go_loopw [8, 9, 10, 11] (fun ov kv _ _ wr => ∃ k : Nat, k ≤ n ∧ kv = .int .i64 k ∧ (k = 0 ∨ i + 8 * (k : Int) ≤ s.size) ∧ wr.ownsRow w.heap.size 3 1 ov k ((numsAt s i k).map (fun z => Value.int .i64 z)) ∧ Below w.heap.size w wr) (fun _ kv _ _ _ => n - (intOf kv).toNat)
  case atStart => exact ⟨0, Nat.zero_le _, rfl, .inl rfl, HE.out.1, HE.out.2⟩
  case round =>
    clear HE
    obtain ⟨k, hk, rfl, hfit, hO, hB⟩ := hrel
    obtain ⟨oa, oc, rfl⟩ := own_form hO
    have hsz := hB.size
    by_cases hkn : k < n
    · have hkn' : ((k : Nat) : Int) < ((n : Nat) : Int) := by omega
      have HH := (show Hid (_ ∧ _) from ⟨hO, hB⟩)
      clear hO hB
      go_wp2_with fail
      refine (specGetNum_any s (i + 8 * (k : Int)) wr hs (by omega) (by omega)).mono ?_
      rintro e w1 ⟨rfl, b1⟩
      have O1 := own_moved HH.out.1 (fun g hg => b1.block g (own_lt HH.out.1 g hg))
      have B1 := HH.out.2.trans (b1.mono HH.out.2.size)
      by_cases hin : i + 8 * (k : Int) ≤ (s.size : Int) - 8
      · have h2 := getN_at (s := s) (i := i + 8 * (k : Int)) ⟨by omega, hin⟩
        have HN := (show Hid (_ ∧ True) from ⟨numsAt_more s i k, trivial⟩)
        generalize getN s (i + 8 * (k : Int)) = r at *
        obtain ⟨x, y⟩ := r
        simp only at h2 HN
        subst h2
        have hO2 := O1.alloc (.cells #[.int .i64 x] 3)
        have hB2 : Below w.heap.size w (w1.alloc (.cells #[.int .i64 x] 3)) := B1.alloc B1.size _
        have H2 := (show Hid (_ ∧ _) from ⟨hO2, hB2⟩)
        have hs1 := B1.size
        clear hO2 hB2 O1 B1 b1 HH
        go_wp2_with (at_builtin; refine wpList_append_own_at _ rfl _ _ 28 rfl w.heap.size 3 i0 (.int .i64 0) 1 8 Tryz.underlying28 hi hz0 hz1 hz2 rfl (by decide) _ k _ rfl H2.out.1 ⟨w1.heap.size, 0, none⟩ 1 1 [.int .i64 x] rfl rfl (cell_one_new _ _ _) (int_one _) (by unfold maxLen; omega) (by omega) (by simp; omega) ?_; intro v5 w5 hown5 hgrow5 hnil5 hat5)
        refine ⟨⟨k + 1, by omega, by go_num, .inr (by omega), ?_, ?_⟩, by simp [intOf]; omega⟩
        · rw [HN.out.1, List.map_append]
          exact hown5
        · exact Below.grown H2.out.2 hgrow5 (hB := H2.out.2.size) (hr := fun b hb => (own_type H2.out.1 b hb).1)
      · have h2 := getN_no (s := s) (i := i + 8 * (k : Int)) (by omega)
        rw [h2]
        have HE2 := (show Hid (_ ∧ _ ∧ _) from ⟨ow_empty w1 w.heap.size 3 B1.size, (B1.alloc B1.size (.cells #[] 3) : Below w.heap.size w (w1.alloc (.cells #[] 3))), (by omega : ¬ (n = 0 ∨ i + 8 * (n : Int) ≤ s.size))⟩)
        clear O1 B1 b1 HH h2
        go_wp2
        go_ret2
        exact ⟨_, [], false, rfl, .inr ⟨HE2.out.2.2, rfl, rfl⟩, HE2.out.1, HE2.out.2.1⟩
    · obtain rfl : k = n := by omega
      have HF := (show Hid (_ ∧ _ ∧ _) from ⟨hO, hB, hfit⟩)
      clear hO hB hfit
      go_wp2
      go_ret2
      refine ⟨_, numsAt s i k, true, rfl, .inl ⟨HF.out.2.2, rfl, rfl⟩, ?_, HF.out.2.1⟩
      rw [numsAt_len]
      exact HF.out.1
end Go.Proofs.YtlbinamlehapoaaGreatDoor

namespace Go.Proofs.YtlbinamlehapoaaGreatDoor
open Go.RowKit Go.Joins

set_option maxRecDepth 100000

theorem pow_small (n : Nat) (h : n ≤ 8) : 256 ^ n ≤ 18446744073709551616 := by
  have : n = 0 ∨ n = 1 ∨ n = 2 ∨ n = 3 ∨ n = 4 ∨ n = 5 ∨ n = 6 ∨ n = 7 ∨ n = 8 := by omega
  rcases this with rfl | rfl | rfl | rfl | rfl | rfl | rfl | rfl | rfl <;> decide
theorem bytesU_digits : ∀ (n : Nat) (l : List UInt8), l.length = n → n ≤ 8 → bytesU l < 256 ^ n ∧ (List.range n).map (fun i => byteAt (bytesU l) (n - 1 - i)) = l
  | 0, l, hl, _ => by
    obtain rfl := List.eq_nil_of_length_eq_zero hl
    exact ⟨by decide, rfl⟩
  | n + 1, l, hl, hn => by
    rcases nil_or_last l with rfl | ⟨l', b, rfl⟩
    · simp at hl
    have hl' : l'.length = n := by simpa using hl
    obtain ⟨h1, h2⟩ := bytesU_digits n l' hl' (by omega)
    have hb := b.toNat_lt
    have hp := pow_small (n + 1) hn
    have hu : bytesU (l' ++ [b]) = 256 * bytesU l' + b.toNat := by
      rw [bytesU_more]
      rw [Nat.pow_succ] at hp
      omega
    rw [hu]
    generalize bytesU l' = u at *
    refine ⟨by rw [Nat.pow_succ]; omega, ?_⟩
    rw [List.range_succ, List.map_append, List.map_singleton]
    congr 1
    · rw [← h2]
      have : (List.range n).length = n := List.length_range
      refine (List.map_congr_left fun i hi => ?_)
      have hi' : i < n := by simpa using hi
      unfold byteAt
      rw [show n + 1 - 1 - i = (n - 1 - i) + 1 by omega, Nat.pow_succ, Nat.mul_comm (256 ^ (n - 1 - i)) 256, ← Nat.div_div_eq_div_mul, show (256 * u + b.toNat) / 256 = u by omega]
    · unfold byteAt
      rw [show n + 1 - 1 - n = 0 by omega, Nat.pow_zero, Nat.div_one, show (256 * u + b.toNat) % 256 = b.toNat by omega, UInt8.ofNat_toNat]
theorem numB_back (l : List UInt8) (h : l.length = 8) : numB (wrap64 (bytesU l : Nat)) = l := by
  have hu : numU (wrap64 (bytesU l : Nat)) = bytesU l := by
    have := bytesU_lt l
    unfold numU wrap64
    omega
  unfold numB
  rw [hu]
  exact (bytesU_digits 8 l h (by omega)).2
theorem numsB_back (l : List UInt8) (p : Nat) : ∀ n, p + 8 * n ≤ l.length → numsB (numsL l p n) = (l.drop p).take (8 * n)
  | 0, _ => by simp [numsL, numsB]
  | n + 1, h => by
    rw [numsL_more, numsB_app, numsB_back l p n (by omega)]
    have e1 : numsB [numL l (p + 8 * n)] = numB (numL l (p + 8 * n)) := by simp [numsB]
    rw [e1]
    unfold numL
    rw [numB_back _ (by rw [List.length_take, List.length_drop]; omega), show 8 * (n + 1) = 8 * n + 8 by omega, List.take_add, List.drop_drop]
/-- The message that bytes tell. -/
def msgL (l : List UInt8) : Ms := ⟨numL l 0, numL l 8, numL l 16, numL l 24, numL l 32, ⟨numL l 40, numL l 48, numL l 56, numsL l 72 (numL l 64).toNat⟩⟩
/-- Whether bytes are a message's. -/
def msgFit (l : List UInt8) : Bool := decide (72 ≤ l.length) && inB (numL l 64) 0 100 && decide (l.length = 72 + 8 * (numL l 64).toNat) && (msgL l).ok
def zeroMs : Ms := ⟨0, 0, 0, 0, 0, ⟨0, 0, 0, []⟩⟩
/-- What is read. -/
def msgRes (l : List UInt8) : Ms := if msgFit l then msgL l else zeroMs
theorem msgL_bytes {l : List UInt8} (hc : inB (numL l 64) 0 100 = true) (hl : l.length = 72 + 8 * (numL l 64).toNat) : numsB (msgL l).nums ++ numsB (msgL l).cell.kids = l := by
  have h0 : 0 ≤ numL l 64 := by unfold inB at hc; simp at hc; exact hc.1
  have e1 : (msgL l).nums = numsL l 0 9 := by
    have : (((numsL l 72 (numL l 64).toNat).length : Nat) : Int) = numL l 64 := by rw [numsL_len]; omega
    show [numL l 0, numL l 8, numL l 16, numL l 24, numL l 32, numL l 40, numL l 48, numL l 56, (((numsL l 72 (numL l 64).toNat).length : Nat) : Int)] = _
    rw [this]
    rfl
  rw [e1, numsB_back l 0 9 (by omega), show (msgL l).cell.kids = numsL l 72 (numL l 64).toNat from rfl, numsB_back l 72 _ (by omega), List.drop_zero]
  have e2 : (l.drop 72).take (8 * (numL l 64).toNat) = l.drop 72 := List.take_of_length_le (by rw [List.length_drop]; omega)
  rw [e2]
  exact List.take_append_drop 72 l
theorem msgFit_yes {l : List UInt8} (h : msgFit l = true) : (msgL l).bytes = l := by
  unfold msgFit at h
  simp only [Bool.and_eq_true, decide_eq_true_eq] at h
  unfold Ms.bytes
  rw [h.2, if_pos rfl]
  exact msgL_bytes h.1.1.2 h.1.2
theorem bytes_len (m : Ms) (h : m.ok = true) : m.bytes.length = 72 + 8 * m.cell.kids.length := by
  unfold Ms.bytes
  rw [h, if_pos rfl, List.length_append, numsB_len, numsB_len]
  rfl
theorem msgFit_no {l : List UInt8} (h : msgFit l = false) (h1 : 72 ≤ l.length) (h2 : inB (numL l 64) 0 100 = true) : (msgL l).bytes ≠ l := by
  intro hb
  cases hok : (msgL l).ok with
  | false =>
    have : (msgL l).bytes = [] := by unfold Ms.bytes; rw [hok]; rfl
    rw [this] at hb
    rw [← hb] at h1
    simp at h1
  | true =>
    have hlen := bytes_len (msgL l) hok
    rw [hb, show (msgL l).cell.kids = numsL l 72 (numL l 64).toNat from rfl, numsL_len] at hlen
    unfold msgFit at h
    rw [h2, hok, decide_eq_true h1, decide_eq_true hlen] at h
    cases h
theorem getN_is {s : ByteArray} {i : Nat} (h : i + 8 ≤ s.size) : (getN s (i : Int)).1 = numL s.data.toList i := by
  unfold getN numL
  rw [if_pos (by omega), Int.toNat_natCast]
theorem numsAt_is {s : ByteArray} {i n : Nat} (h : n = 0 ∨ i + 8 * n ≤ s.size) : numsAt s (i : Int) n = numsL s.data.toList i n := by
  unfold numsAt numsL
  refine List.map_congr_left fun k hk => ?_
  have hk' : k < n := by simpa using hk
  rw [show (i : Int) + 8 * (k : Int) = ((i + 8 * k : Nat) : Int) by omega, getN_is (by omega)]
theorem zeroMs_fit : msgRes [] = zeroMs := rfl
theorem msgL_fits (l : List UInt8) : (inI64 (msgL l).kind ∧ inI64 (msgL l).frm ∧ inI64 (msgL l).dst ∧ inI64 (msgL l).id ∧ inI64 (msgL l).want) ∧ inI64 (msgL l).cell.kind ∧ inI64 (msgL l).cell.n ∧ inI64 (msgL l).cell.pos ∧ ∀ z ∈ (msgL l).cell.kids, inI64 z := by
  refine ⟨⟨numL_fit _ _, numL_fit _ _, numL_fit _ _, numL_fit _ _, numL_fit _ _⟩, numL_fit _ _, numL_fit _ _, numL_fit _ _, ?_⟩
  intro z hz
  have hz' : z ∈ numsL l 72 (numL l 64).toNat := hz
  unfold numsL at hz'
  obtain ⟨k, -, rfl⟩ := List.mem_map.1 hz'
  exact numL_fit _ _
end Go.Proofs.YtlbinamlehapoaaGreatDoor

namespace Go.Proofs.YtlbinamlehapoaaGreatDoor
open Go.RowKit Go.Joins

/-- Whether a cell's fields are right for its kind, with so many codes. -/
def Ce.fields (c : Ce) (codes : Int) : Bool :=
  if c.kind = 0 then (c.pos == 0) && ((c.kids.length : Int) == 0)
  else if c.kind = 1 ∨ c.kind = 5 then ((c.n == 0) && (c.pos == 0)) && ((c.kids.length : Int) == 0)
  else if c.kind = 2 then ((c.n == 0) && (c.pos == 0)) && ((c.kids.length : Int) == 2)
  else if c.kind = 3 then (inB c.n 1 6 && decide (0 ≤ c.pos)) && decide (c.pos < codes)
  else if c.kind = 4 then ((c.n == 0) && decide (0 ≤ c.pos)) && decide (c.pos < codes)
  else if c.kind = 6 then ((c.n == 0) && (c.pos == 0)) && ((c.kids.length : Int) == 1)
  else if c.kind = 7 then ((inB c.n (-1) 30 && decide (0 ≤ c.pos)) && ((c.kids.length : Int) == 0)) && (decide (0 ≤ c.n) || (c.pos == 0))
  else false
/-- Whether a cell is right, in a heap of so many. -/
def Ce.right (c : Ce) (cells codes : Int) : Bool := c.kids.all (fun k => inB k 0 (cells - 1)) && c.fields codes
/-- Whether a heap is. -/
def heapOk (es : List Ce) (codes : Int) : Bool := es.all (fun c => c.right es.length codes) && decide (es.length ≤ 3000)

/-- The cell at a place. -/
def cellAt (es : List Ce) (p : Int) : Option Ce := if 0 ≤ p then es[p.toNat]? else none
/-- Where one comes to from a place in fewer than so many steps. -/
def followN (es : List Ce) : Nat → Int → Int
  | 0, _ => -1
  | m + 1, p => match cellAt es p with
    | none => -1
    | some c => if c.kind = 6 then (match c.kids[0]? with | none => p | some q => followN es m q) else p
def follow (es : List Ce) (p : Int) : Int := followN es (es.length + 1) p

theorem cellAt_none {es : List Ce} {p : Int} (h : inB p 0 ((es.length : Int) - 1) = false) : cellAt es p = none := by
  unfold cellAt
  split
  · rename_i h0
    refine List.getElem?_eq_none ?_
    unfold inB at h
    rw [decide_eq_true h0, Bool.true_and] at h
    have := of_decide_eq_false h
    omega
  · rfl
theorem cellAt_some {es : List Ce} {p : Int} (h : inB p 0 ((es.length : Int) - 1) = true) : ∃ (k : Nat) (c : Ce), p = k ∧ k < es.length ∧ es[k]? = some c ∧ cellAt es p = some c := by
  unfold inB at h
  rw [Bool.and_eq_true, decide_eq_true_eq, decide_eq_true_eq] at h
  obtain ⟨k, rfl⟩ : ∃ k : Nat, p = k := ⟨p.toNat, by omega⟩
  have hk : k < es.length := by omega
  refine ⟨k, es[k], rfl, hk, List.getElem?_eq_getElem hk, ?_⟩
  unfold cellAt
  rw [if_pos h.1, Int.toNat_natCast]
  exact List.getElem?_eq_getElem hk
theorem followN_none {es : List Ce} {p : Int} (m : Nat) (h : cellAt es p = none) : followN es m p = -1 := by
  cases m with
  | zero => rfl
  | succ m => rw [followN, h]
theorem followN_here {es : List Ce} {p : Int} {c : Ce} (m : Nat) (h : cellAt es p = some c) (hc : c.kind ≠ 6 ∨ c.kids.length = 0) : followN es (m + 1) p = p := by
  rw [followN, h]
  simp only []
  by_cases hk : c.kind = 6
  · rw [if_pos hk, List.getElem?_eq_none (by rcases hc with hc | hc; exact absurd hk hc; omega)]
  · rw [if_neg hk]
theorem followN_on {es : List Ce} {p q : Int} {c : Ce} (m : Nat) (h : cellAt es p = some c) (hc : c.kind = 6) (hq : c.kids[0]? = some q) : followN es (m + 1) p = followN es m q := by
  rw [followN, h]
  simp only []
  rw [if_pos hc, hq]
end Go.Proofs.YtlbinamlehapoaaGreatDoor

namespace Go.Proofs.YtlbinamlehapoaaGreatDoor
open Go.RowKit Go.Joins

set_option maxRecDepth 100000

theorem all_take {α : Type} (p : α → Bool) (es : List α) (k : Nat) {x : α} (h : es[k]? = some x) (hp : (es.take k).all p = true) (hx : p x = true) : (es.take (k + 1)).all p = true := by
  have hk := (List.getElem?_eq_some_iff.1 h).1
  rw [List.take_succ_eq_append_getElem hk, List.all_append, hp, (List.getElem?_eq_some_iff.1 h).2]
  simp [hx]
theorem all_not {α : Type} (p : α → Bool) (es : List α) (k : Nat) {x : α} (h : es[k]? = some x) (hx : p x = false) : es.all p = false := by
  cases hh : es.all p with
  | false => rfl
  | true => rw [List.all_eq_true] at hh; rw [hh x (List.mem_of_getElem? h)] at hx; cases hx

/-- The loop over a cell's kids aside, its fields by its kind. -/
theorem fields_other (c : Ce) (codes : Int) (h : ¬ (0 ≤ c.kind ∧ c.kind ≤ 7)) : c.fields codes = false := by
  unfold Ce.fields
  rw [if_neg (by omega), if_neg (by omega), if_neg (by omega), if_neg (by omega), if_neg (by omega), if_neg (by omega), if_neg (by omega)]
end Go.Proofs.YtlbinamlehapoaaGreatDoor
