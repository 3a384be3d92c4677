/-
  The marks that the laws write into an answer: the text of a number.
  The laws' marking of a row of numbers, and their look whether the marks still stand.
  The laws' marking of a table, and their look whether the marks still stand.
  The laws' look whether the marks of a table still stand; both over a whole table.
-/
import Derived.Test.YtdadppjncdkpiaaRows
import Derived.WalkKit
import Derived.Lib.Strings
import Derived.Test.YtdadppjncdkpiaaOwnRow
import Derived.Test.YtdadppjncdkpiaaTabRow
namespace Go.Proofs.Ytdadppjncdkpiaa
open Go.RowKit

set_option maxRecDepth 100000

def markD : Nat → Nat → List UInt8 → List UInt8
  | 0, _, acc => acc
  | f + 1, n, acc => if n = 0 then acc else markD f (n / 10) (UInt8.ofNat (48 + n % 10) :: acc)
/-- The mark of a number. -/
def markT (k : Int) : ByteArray := if k ≤ 0 then ⟨#[109, 48]⟩ else ⟨(109 :: markD k.toNat k.toNat []).toArray⟩

theorem cat_cons (c : UInt8) (l : List UInt8) : (⟨#[c]⟩ ++ ⟨l.toArray⟩ : ByteArray) = ⟨(c :: l).toArray⟩ := by
  apply ByteArray.ext
  simp [ByteArray.data_append]

theorem mark_conv (w : World) (n : Nat) : (convert 192 9 (.slice (some ⟨w.heap.size, 0, none⟩) 1 1)).run Try.prog (w.alloc (.cells #[.int .u8 (48 + (n : Int) % 10)] 5)) = .ok (.string ⟨[UInt8.ofNat (48 + n % 10)].toArray⟩) (w.alloc (.cells #[.int .u8 (48 + (n : Int) % 10)] 5)) := by
  refine run_convert_bytes_back (P := Try.prog) _ 192 9 5 ⟨w.heap.size, 0, none⟩ 1 [UInt8.ofNat (48 + n % 10)] Try.underlying192 Try.underlying5 Try.underlying9 ?_
  intro j hj
  obtain rfl : j = 0 := by simpa using hj
  have e : ((UInt8.ofNat (48 + n % 10)).toNat : Int) = 48 + (n : Int) % 10 := by
    simp [UInt8.toNat_ofNat']
    omega
  rw [show ([UInt8.ofNat (48 + n % 10)][0]'hj) = UInt8.ofNat (48 + n % 10) from rfl, e]
  simp [Addr.add]

set_option maxHeartbeats 1600000 in
theorem markText_any (k : Int) (w : World) (h : k ≤ 1000000000) :
    Calls Try.prog 94 #[.int .i64 k] w fun e w' => e = .returned (.string (markT k)) ∧ Below w.heap.size w w' := by
  by_cases hp : k ≤ 0
  · have HE : Hid (markT k = ⟨#[109, 48]⟩) := by unfold markT; rw [if_pos hp]; rfl
    go_enter Try.func94, Try.ntmps94
    go_wp2
    go_ret
    exact ⟨by rw [HE.out]; rfl, Below.refl _ _⟩
  obtain ⟨m, rfl⟩ := Int.eq_ofNat_of_zero_le (show 0 ≤ k by omega)
  have HE : Hid (markT (m : Int) = ⟨(109 :: markD m m []).toArray⟩) := by unfold markT; rw [if_neg hp]; rfl
  go_enter Try.func94, Try.ntmps94
  go_wp2
  go_loopw [0, 3] (fun v t wr => ∃ (n f : Nat) (acc : List UInt8), v = .int .i64 n ∧ n ≤ m ∧ n ≤ f ∧ t = .string ⟨acc.toArray⟩ ∧ acc.length + n ≤ m ∧ Hid (markD m m [] = markD f n acc) ∧ Below w.heap.size w wr) (fun v _ _ => (intOf v).toNat)
  case atStart => exact ⟨m, m, [], rfl, Nat.le_refl _, Nat.le_refl _, rfl, by simp, rfl, Below.refl _ _⟩
  case round =>
    obtain ⟨n, f, acc, rfl, hnm, hnf, rfl, hacc, hst, hbw⟩ := hrel
    have hsz := hbw.size
    by_cases hz : 0 < n
    · have hz' : (0 : Int) < (n : Int) := by omega
      have hcv := mark_conv wr n
      obtain ⟨g, rfl⟩ : ∃ g, f = g + 1 := ⟨f - 1, by omega⟩
      have hst2 : Hid (markD m m [] = markD g (n / 10) (UInt8.ofNat (48 + n % 10) :: acc)) := by
        have := hst.out
        rw [markD, if_neg (by omega)] at this
        exact this
      generalize UInt8.ofNat (48 + n % 10) = c at hcv hst2
      go_wp2
      refine ⟨⟨n / 10, g, c :: acc, by simp, by omega, by omega, by rw [cat_cons], by simp; omega, hst2, hbw.alloc hsz _⟩, by simp [intOf]; omega⟩
    · have hz' : ¬ (0 : Int) < (n : Int) := by omega
      have HF : Hid (markD m m [] = acc) := by
        obtain rfl : n = 0 := by omega
        rw [hst.out]
        cases f with
        | zero => rfl
        | succ f => rw [markD, if_pos rfl]; rfl
      go_wp2
      go_ret
      exact ⟨by rw [HE.out, HF.out, ← cat_cons]; rfl, hbw⟩
end Go.Proofs.Ytdadppjncdkpiaa

namespace Go.Proofs.Ytdadppjncdkpiaa
open Go.RowKit Go.Joins

set_option maxRecDepth 100000

def marksI (k : Int) (n : Nat) : List Int := (List.range n).map (fun i : Nat => k + (i : Int))
theorem marksI_len (k : Int) (n : Nat) : (marksI k n).length = n := by simp [marksI]
theorem marksI_succ (k : Int) (n : Nat) : marksI k (n + 1) = marksI k n ++ [k + (n : Int)] := by simp [marksI, List.range_succ]
theorem marksI_at (k : Int) (n j : Nat) (h : j < n) : (marksI k n)[j]? = some (k + (j : Int)) := by simp [marksI, h]

theorem row_nil {w : World} {B size n : Nat} {e : TypeId} {v : Value} {xs : List Value} (h : w.ownsRow B e size v n xs) (hn : n = 0) : ∃ a c, v = .slice a 0 c := by
  subst hn
  exact own_form h
theorem set_one (xs : Array Value) (k : Nat) (u : Value) (L : List Value) (hs : k + 1 ≤ xs.size) (ht : xs.toList.take k = L) : (xs.setIfInBounds k u).toList.take (k + 1) = L ++ [u] := by
  obtain ⟨l⟩ := xs
  simp only [List.setIfInBounds_toArray] at *
  have hl : k + 1 ≤ l.length := by simpa using hs
  have hL : L.length = k := by rw [← ht]; simp; omega
  apply List.ext_getElem?
  intro j
  rcases Nat.lt_trichotomy j k with h | h | h
  · rw [List.getElem?_append_left (by omega), ← ht, List.getElem?_take_of_lt (by omega), List.getElem?_take_of_lt (by omega), List.getElem?_set_ne (by omega)]
  · subst h
    rw [List.getElem?_take_of_lt (by omega), List.getElem?_append_right (by omega), hL, Nat.sub_self, List.getElem?_set_self (by omega)]
    rfl
  · rw [List.getElem?_eq_none (by simp; omega), List.getElem?_eq_none (by simp; omega)]

set_option maxHeartbeats 3200000 in
theorem markIntS_any (B : Nat) (v : Value) (n : Nat) (xs : List Value) (k0 : Int) (w : World) (hk0 : 0 ≤ k0) (hk1 : k0 ≤ 100000000) (hn : n ≤ 100000000) (hrow : w.ownsRow B 3 1 v n xs) :
    Calls Try.prog 44 #[v, .int .i64 k0] w fun e w' => e = .returned (.int .i64 (k0 + n)) ∧ w'.ownsRow B 3 1 v n (intVs (marksI k0 n)) ∧ w.grownBy w' v.ownBlock := by
  by_cases hz : n = 0
  · subst hz
    obtain ⟨a1, c1, hv⟩ := row_nil hrow rfl
    have hrow' : w.ownsRow B 3 1 v 0 (intVs (marksI k0 0)) := by
      have e1 : xs = [] := List.eq_nil_of_length_eq_zero (by simpa using hrow.1)
      rw [e1] at hrow
      exact hrow
    have HR : Hid (w.ownsRow B 3 1 v 0 (intVs (marksI k0 0))) := hrow'
    clear hrow hrow'
    rw [hv] at HR ⊢
    go_enter Try.func44, Try.ntmps44
    go_wp2
    refine wp_loop_rounds 1 ?_
    rw [rounds_succ]
    go_wp2
    go_ret
    exact ⟨int_ret (by simp), HR.out, World.grownBy.refl _ _⟩
  rcases hrow.2 with ⟨_, h0⟩ | ⟨g, cap, cur, rfl, hb, hg, hnc, hcm, hcs, htake⟩
  · omega
  have HG : Hid (w.heap[g]? = some (.cells cur 3 (0, 0))) := hg
  clear hg hrow htake
  go_enter Try.func44, Try.ntmps44
  go_wp2
  go_loopw [1, 5] (fun kv i wr => ∃ k : Nat, k ≤ n ∧ i = .int .i64 k ∧ kv = .int .i64 (k0 + k) ∧ Hid (∃ cur', wr.heap[g]? = some (.cells cur' 3 (0, 0)) ∧ cur'.size = cap * 1 ∧ cur'.toList.take k = intVs (marksI k0 k)) ∧ Hid (w.grownBy wr (some g))) (fun _ i _ => n - (intOf i).toNat)
  case atStart => exact ⟨0, Nat.zero_le _, rfl, by simp, ⟨cur, HG.out, hcs, by simp [marksI]⟩, World.grownBy.refl _ _⟩
  case round =>
    obtain ⟨k, hk, rfl, rfl, ⟨cur', hg', hcs', ht'⟩, hgw⟩ := hrel
    have HC : Hid (wr.heap[g]? = some (.cells cur' 3 (0, 0))) := hg'
    have HT : Hid (cur'.toList.take k = intVs (marksI k0 k)) := ht'
    have HS : Hid (cur'.size = cap * 1) := hcs'
    clear hg' ht' hcs'
    by_cases hlt : k < n
    · have x0 : wr.cell? ⟨g, k, none⟩ = some (cur'[k]'(by have := HS.out; omega)) := by rw [cell_of_block HC.out]; exact Array.getElem?_eq_getElem _
      generalize cur'[k]'(by have := HS.out; omega) = y0 at x0
      have f0 : wr.frozen? ⟨g, k, none⟩ = false := unfrozen_of_block HC.out _
      have hlt' : ((k : Nat) : Int) < ((n : Nat) : Int) := by omega
      go_wp2
      refine ⟨⟨k + 1, by omega, by go_num, int_eqv (by omega), ⟨_, block_setCell HC.out _, by simp only [Array.size_setIfInBounds]; exact HS.out, ?_⟩, hgw.out.trans (Go.Lib.grownBy_setCell _ g _ _)⟩, by simp [intOf]; omega⟩
      rw [marksI_succ]
      unfold intVs
      rw [List.map_append]
      exact set_one cur' k _ _ (by have := HS.out; omega) HT.out
    · obtain rfl : k = n := by omega
      go_wp2
      go_ret
      refine ⟨rfl, ⟨by rw [List.length_map, marksI_len]; omega, .inr ⟨g, cap, cur', rfl, hb, HC.out, hnc, hcm, HS.out, ?_⟩⟩, hgw.out⟩
      rw [Nat.mul_one]
      exact HT.out

set_option maxHeartbeats 3200000 in
theorem heldIntS_any (B : Nat) (v : Value) (n : Nat) (k0 : Int) (w : World) (hk0 : 0 ≤ k0) (hk1 : k0 ≤ 100000000) (hn : n ≤ 100000000) (hrow : w.ownsRow B 3 1 v n (intVs (marksI k0 n))) :
    Calls Try.prog 48 #[v, .int .i64 k0] w fun e w' => e = .returned (.int .i64 (k0 + n)) ∧ Below w.heap.size w w' := by
  by_cases hz : n = 0
  · subst hz
    obtain ⟨a1, c1, rfl⟩ := row_nil hrow rfl
    clear hrow
    go_enter Try.func48, Try.ntmps48
    go_wp2
    refine wp_loop_rounds 1 ?_
    rw [rounds_succ]
    go_wp2
    go_ret
    exact ⟨int_ret (by simp), Below.refl _ _⟩
  obtain ⟨g, cap, rfl⟩ := own_some hrow (by omega)
  have hca : ∀ j, j < n → w.cell? ⟨g, j, none⟩ = some (.int .i64 (k0 + (j : Int))) := fun j hj => by
    have := hrow.cells (g := g) rfl j (.int .i64 (k0 + (j : Int))) (by rw [List.getElem?_map, marksI_at _ _ _ hj]; rfl)
    rw [addr_addI, Nat.zero_add] at this
    exact this
  have hlg := own_lt hrow g rfl
  clear hrow
  go_enter Try.func48, Try.ntmps48
  go_wp2
  go_loopw [1, 5] (fun kv i wr => ∃ k : Nat, k ≤ n ∧ i = .int .i64 k ∧ kv = .int .i64 (k0 + k) ∧ Below w.heap.size w wr) (fun _ i _ => n - (intOf i).toNat)
  case atStart => exact ⟨0, Nat.zero_le _, rfl, by simp, Below.refl _ _⟩
  case round =>
    obtain ⟨k, hk, rfl, rfl, hbw⟩ := hrel
    by_cases hlt : k < n
    · have a0 := hca k hlt
      rw [← hbw.cell (by exact hlg)] at a0
      have hlt' : ((k : Nat) : Int) < ((n : Nat) : Int) := by omega
      have e0 : (k0 + (k : Int) != k0 + (k : Int)) = false := by simp
      clear hca
      go_wp2
      refine ⟨⟨k + 1, by omega, by go_num, int_eqv (by omega), hbw⟩, by simp [intOf]; omega⟩
    · clear hca
      obtain rfl : k = n := by omega
      go_wp2
      go_ret
      exact ⟨rfl, hbw⟩
end Go.Proofs.Ytdadppjncdkpiaa

namespace Go.Proofs.Ytdadppjncdkpiaa
open Go.RowKit Go.Joins

set_option maxRecDepth 100000

def markC (k : Int) (c : Cd) : Cd := ⟨k, k + 1, markT (k + 1 + 1), marksI (k + 1 + 1 + 1) c.kids.length⟩
def marksC : Int → List (Cd × Value) → List (Cd × Value)
  | _, [] => []
  | k, r :: l => (markC k r.1, r.2) :: marksC (k + 3 + r.1.kids.length) l
def markE : Int → List (Cd × Value) → Int
  | k, [] => k
  | k, r :: l => markE (k + 3 + r.1.kids.length) l
theorem marksC_len : ∀ (l : List (Cd × Value)) (k : Int), (marksC k l).length = l.length
  | [], _ => rfl
  | r :: l, k => by rw [marksC, List.length_cons, marksC_len l, List.length_cons]
theorem markE_ge : ∀ (l : List (Cd × Value)) (k : Int), k ≤ markE k l
  | [], k => by rw [markE]; omega
  | r :: l, k => by rw [markE]; have := markE_ge l (k + 3 + r.1.kids.length); omega
theorem markE_app : ∀ (l m : List (Cd × Value)) (k : Int), markE k (l ++ m) = markE (markE k l) m
  | [], m, k => by rw [List.nil_append, markE]
  | r :: l, m, k => by rw [List.cons_append, markE, markE, markE_app l m]
theorem marksC_app : ∀ (l m : List (Cd × Value)) (k : Int), marksC k (l ++ m) = marksC k l ++ marksC (markE k l) m
  | [], m, k => by rw [List.nil_append, marksC, markE, List.nil_append]
  | r :: l, m, k => by rw [List.cons_append, marksC, marksC, markE, marksC_app l m, List.cons_append]
theorem markE_take (l : List (Cd × Value)) (k : Int) (j : Nat) : markE k (l.take j) ≤ markE k l := by
  conv => rhs; rw [← List.take_append_drop j l, markE_app]
  exact markE_ge _ _
theorem markE_three : ∀ (l : List (Cd × Value)) (k : Int), k + 3 * (l.length : Int) ≤ markE k l
  | [], k => by rw [markE]; simp
  | r :: l, k => by rw [markE]; have := markE_three l (k + 3 + r.1.kids.length); rw [List.length_cons]; omega

theorem markD_len : ∀ (f n : Nat) (acc : List UInt8), (markD f n acc).length ≤ acc.length + f
  | 0, _, acc => by rw [markD]; omega
  | f + 1, n, acc => by
    rw [markD]
    split
    · omega
    · have := markD_len f (n / 10) (UInt8.ofNat (48 + n % 10) :: acc)
      rw [List.length_cons] at this
      omega
theorem markT_size (k : Int) (h : k ≤ 1000000000) : (markT k).size ≤ maxLen := by
  unfold markT maxLen
  split
  · decide
  · have := markD_len k.toNat k.toNat []
    show (109 :: markD k.toNat k.toNat []).toArray.size ≤ _
    simp at this ⊢
    omega

theorem mid_cell (A D : List (Cd × Value)) (c : Cd) (u : Value) (i : Nat) (hi : i < 4) : ((A ++ (c, u) :: D).flatMap cdCells)[A.length * 4 + i]? = (cdCells (c, u))[i]? := by
  rw [List.flatMap_append, List.flatMap_cons, List.getElem?_append_right (by rw [cells_len]; omega), cells_len, show A.length * 4 + i - A.length * 4 = i by omega, List.getElem?_append_left (by simp [cdCells]; omega)]
theorem set_field (A D : List (Cd × Value)) (c c' : Cd) (u v : Value) (i : Nat) (hi : i < 4) (h : (cdCells (c, u)).set i v = cdCells (c', u)) : ((A ++ (c, u) :: D).flatMap cdCells).set (A.length * 4 + i) v = (A ++ (c', u) :: D).flatMap cdCells := by
  rw [List.flatMap_append, List.flatMap_append, List.flatMap_cons, List.flatMap_cons, List.set_append_right _ _ (by rw [cells_len]; omega), cells_len, show A.length * 4 + i - A.length * 4 = i by omega, List.set_append_left _ _ (by simp [cdCells]; omega), h]

/-- A field of a code is set. -/
theorem TabAt.field {W : World} {B g cap n i : Nat} {tv u v : Value} {A D : List (Cd × Value)} {tops : List Int} {c c' : Cd} (h : TabAt W B (.slice (some ⟨g, 0, none⟩) n cap) tv (A ++ (c, u) :: D) tops) (hn : n = (A ++ (c, u) :: D).length)
    (hi : i < 4) (hs : (cdCells (c, u)).set i v = cdCells (c', u)) (hok : CdOk c') (hk : c'.kids = c.kids) : TabAt (W.setCell ⟨g, A.length * 4 + i, none⟩ v) B (.slice (some ⟨g, 0, none⟩) n cap) tv (A ++ (c', u) :: D) tops := by
  have hcod := h.codes
  rw [← hn] at hcod
  have hst := hcod.stored (A.length * 4 + i) v
  have hint : ∀ (m : Nat) (v' : Value) (xs : List Value), W.ownsRow B 3 1 v' m xs → (W.setCell ⟨g, A.length * 4 + i, none⟩ v).ownsRow B 3 1 v' m xs := fun m v' xs ho =>
    own_moved ho (fun k hk => Below.heap_setCell _ _ _ _ (fun e => own_ne ho hcod (by decide) k hk (congrArg some e)))
  refine ⟨?_, hint _ _ _ h.tops, fun r hr => ?_, ?_⟩
  · have := hst.1
    rw [set_field A D c c' u v i hi hs, hn] at this
    rw [show (A ++ (c', u) :: D).length = (A ++ (c, u) :: D).length by simp, hn]
    exact this
  · rw [List.mem_append, List.mem_cons] at hr
    rcases hr with hr | rfl | hr
    · have := h.kids r (by simp [hr])
      exact ⟨hint _ _ _ this.1, this.2⟩
    · have := h.kids (c, u) (by simp)
      refine ⟨hint _ _ _ ?_, hok⟩
      show W.ownsRow B 3 1 u c'.kids.length (intVs c'.kids)
      rw [hk]
      exact this.1
    · have := h.kids r (by simp [hr])
      exact ⟨hint _ _ _ this.1, this.2⟩
  · have := h.apart
    simpa using this

/-- The kids of a code are written over. -/
theorem TabAt.ints {W W' : World} {B : Nat} {cv tv u : Value} {A D : List (Cd × Value)} {tops ks : List Int} {c : Cd} (h : TabAt W B cv tv (A ++ (c, u) :: D) tops)
    (hown : W'.ownsRow B 3 1 u c.kids.length (intVs ks)) (hks : ks.length = c.kids.length) (hg : W.grownBy W' u.ownBlock) : TabAt W' B cv tv (A ++ ({ c with kids := ks }, u) :: D) tops := by
  have hu := (h.kids (c, u) (by simp)).1
  have hap := List.pairwise_cons.1 h.apart
  have hap2 := hap.2
  rw [List.map_append, List.map_cons, List.pairwise_append] at hap2
  have hcons := List.pairwise_cons.1 hap2.2.1
  refine ⟨?_, own_kept h.tops hg (hap.1 u (by simp)), fun r hr => ?_, ?_⟩
  · have := own_moved (W' := W') h.codes (fun k hk => hg.block k (own_lt h.codes k hk) (own_ne h.codes hu (by decide) k hk))
    simpa [cdCells] using this
  · rw [List.mem_append, List.mem_cons] at hr
    rcases hr with hr | rfl | hr
    · have := h.kids r (by simp [hr])
      exact ⟨own_kept this.1 hg (hap2.2.2 r.2 (List.mem_map.2 ⟨r, hr, rfl⟩) u (by simp)), this.2⟩
    · refine ⟨?_, (h.kids (c, u) (by simp)).2⟩
      show W'.ownsRow B 3 1 u ks.length (intVs ks)
      rw [hks]
      exact hown
    · have := h.kids r (by simp [hr])
      exact ⟨own_kept this.1 hg (hcons.1 r.2 (List.mem_map.2 ⟨r, hr, rfl⟩)).symm, this.2⟩
  · have := h.apart
    simpa using this
/-- The tops are written over. -/
theorem TabAt.topInts {W W' : World} {B : Nat} {cv tv : Value} {rs : List (Cd × Value)} {tops ks : List Int} (h : TabAt W B cv tv rs tops)
    (hown : W'.ownsRow B 3 1 tv tops.length (intVs ks)) (hks : ks.length = tops.length) (hg : W.grownBy W' tv.ownBlock) : TabAt W' B cv tv rs ks := by
  have hap := List.pairwise_cons.1 h.apart
  refine ⟨own_moved h.codes (fun k hk => hg.block k (own_lt h.codes k hk) (own_ne h.codes h.tops (by decide) k hk)), ?_, fun r hr => ⟨own_kept (h.kids r hr).1 hg (hap.1 r.2 (List.mem_map.2 ⟨r, hr, rfl⟩)).symm, (h.kids r hr).2⟩, h.apart⟩
  rw [hks]
  exact hown

theorem at_split {l : List (Cd × Value)} {j : Nat} (h : j < l.length) (k : Int) : marksC k (l.take j) ++ l.drop j = marksC k (l.take j) ++ (l[j].1, l[j].2) :: l.drop (j + 1) := by
  rw [List.drop_eq_getElem_cons h]
theorem at_next {l : List (Cd × Value)} {j : Nat} (h : j < l.length) (k : Int) : marksC k (l.take (j + 1)) ++ l.drop (j + 1) = marksC k (l.take j) ++ (markC (markE k (l.take j)) l[j].1, l[j].2) :: l.drop (j + 1) := by
  rw [List.take_succ_eq_append_getElem h, marksC_app, List.append_assoc]
  rfl
theorem end_next {l : List (Cd × Value)} {j : Nat} (h : j < l.length) (k : Int) : markE k (l.take (j + 1)) = markE k (l.take j) + 3 + (l[j].1.kids.length : Int) := by
  rw [List.take_succ_eq_append_getElem h, markE_app]
  rfl

/-- What lies below B lies, and so does whatever is a table. -/
structure MkB (B : Nat) (w w' : World) : Prop where
  below : Below B w w'
  tabs : ∀ (k : Nat) (cs : Array Value), w.heap[k]? = some (Obj.cells cs 34 (0, 0)) → w'.heap[k]? = some (Obj.cells cs 34 (0, 0))
theorem MkB.refl (B : Nat) (w : World) : MkB B w w := ⟨Below.refl _ _, fun _ _ h => h⟩
theorem MkB.set {B : Nat} {w w' : World} (h : MkB B w w') {b : Nat} {cs : Array Value} {t : TypeId} {rng : Nat × Nat} (hb : w'.heap[b]? = some (.cells cs t rng)) (ht : t ≠ 34) (hB : B ≤ b) (off : Nat) (u : Value) : MkB B w (w'.setCell ⟨b, off, none⟩ u) :=
  ⟨h.below.setCell (p := ⟨b, off, none⟩) hB u, fun k cs' hk => by
    have h1 := h.tabs k cs' hk
    refine (Below.heap_setCell _ _ _ _ (fun e => ?_)).trans h1
    have e' : k = b := e
    subst e'
    rw [h1] at hb
    cases hb
    exact ht rfl⟩
theorem MkB.later {B : Nat} {w w' w'' : World} (h : MkB B w w') (hb : Below w'.heap.size w' w'') (hB : B ≤ w'.heap.size) : MkB B w w'' :=
  ⟨h.below.trans (hb.mono hB), fun k cs hk => (hb.block k (Array.getElem?_eq_some_iff.1 (h.tabs k cs hk)).1).trans (h.tabs k cs hk)⟩
theorem MkB.grown {B n size : Nat} {w w' w'' : World} {e : TypeId} {v : Value} {xs : List Value} (h : MkB B w w') (ho : w'.ownsRow B e size v n xs) (he : e ≠ 34) (hg : w'.grownBy w'' v.ownBlock) (hB : B ≤ w'.heap.size) : MkB B w w'' :=
  ⟨h.below.grown hg hB (fun q hq => (own_type ho q hq).1), fun k cs hk => by
    have h1 := h.tabs k cs hk
    refine (hg.block k (Array.getElem?_eq_some_iff.1 h1).1 (fun e' => ?_)).trans h1
    obtain ⟨_, cs', h2⟩ := own_type ho k e'.symm
    rw [h1] at h2
    cases h2
    exact he rfl⟩

set_option maxHeartbeats 3200000 in
theorem markCodeS_any (B : Nat) (cv tv : Value) (rs : List (Cd × Value)) (tops : List Int) (k0 : Int) (w : World) (hB : B ≤ w.heap.size) (hk0 : 0 ≤ k0) (hE : markE k0 rs ≤ 90000000) (hT : TabAt w B cv tv rs tops) :
    Calls Try.prog 67 #[cv, .int .i64 k0] w fun e w' => e = .returned (.int .i64 (markE k0 rs)) ∧ TabAt w' B cv tv (marksC k0 rs) tops ∧ MkB B w w' := by
  have h3 := markE_three rs k0
  by_cases hz : rs.length = 0
  · obtain rfl : rs = [] := List.eq_nil_of_length_eq_zero hz
    obtain ⟨a1, c1, hv⟩ := row_nil hT.codes rfl
    have HR : Hid (TabAt w B cv tv [] tops) := hT
    clear hT
    rw [hv] at HR ⊢
    go_enter Try.func67, Try.ntmps67
    go_wp2
    refine wp_loop_rounds 1 ?_
    rw [rounds_succ]
    go_wp2
    go_ret
    exact ⟨rfl, HR.out, MkB.refl _ _⟩
  obtain ⟨g, cap, rfl⟩ := own_some hT.codes (by omega)
  have HT : Hid (TabAt w B (.slice (some ⟨g, 0, none⟩) rs.length cap) tv rs tops) := hT
  clear hT
  go_enter Try.func67, Try.ntmps67
  go_wp2
  go_loopw [1, 5] (fun kv i wr => ∃ j : Nat, j ≤ rs.length ∧ i = .int .i64 j ∧ kv = .int .i64 (markE k0 (rs.take j)) ∧ Hid (TabAt wr B (.slice (some ⟨g, 0, none⟩) rs.length cap) tv (marksC k0 (rs.take j) ++ rs.drop j) tops) ∧ Hid (MkB B w wr)) (fun _ i _ => rs.length - (intOf i).toNat)
  case atStart => exact ⟨0, Nat.zero_le _, rfl, rfl, HT.out, MkB.refl _ _⟩
  case round =>
    obtain ⟨j, hj, rfl, rfl, hTr, hbr⟩ := hrel
    have hke := markE_take rs k0 j
    have hkg := markE_ge (rs.take j) k0
    by_cases hlt : j < rs.length
    · have hsp := at_split hlt k0
      have hnx := at_next hlt k0
      have hen := end_next hlt k0
      have hke1 := markE_take rs k0 (j + 1)
      rw [hsp] at hTr
      rw [hen] at hke1
      generalize rs[j].1 = c at *
      generalize rs[j].2 = u at *
      have hAl : (marksC k0 (rs.take j)).length = j := by rw [marksC_len, List.length_take]; omega
      have hnl : rs.length = (marksC k0 (rs.take j) ++ (c, u) :: rs.drop (j + 1)).length := by rw [List.length_append, hAl, List.length_cons, List.length_drop]; omega
      generalize hAA : marksC k0 (rs.take j) = A at *
      generalize hDD : rs.drop (j + 1) = D at *
      have hcd := (hTr.out.kids (c, u) (by simp)).2
      have hform := own_form (hTr.out.kids (c, u) (by simp)).1
      dsimp only at hform
      obtain ⟨ua, uc, rfl⟩ := hform
      generalize hkk : markE k0 (rs.take j) = k at *
      have hc : ∀ i v, i < 4 → (cdCells (c, .slice ua c.kids.length uc))[i]? = some v → wr.cell? ⟨g, j * 4 + i, none⟩ = some v := fun i v hi hv => by
        have := hTr.out.codes.cells (g := g) rfl (A.length * 4 + i) v (by rw [mid_cell A D c _ i hi]; exact hv)
        rw [addr_addI, Nat.zero_add, hAl] at this
        exact this
      have x0 : wr.cell? ⟨g, j * 4, none⟩ = some (.int .i64 c.kind) := hc 0 _ (by omega) rfl
      have x1 : wr.cell? ⟨g, j * 4 + 1, none⟩ = some (.int .i64 c.n) := hc 1 _ (by omega) rfl
      obtain ⟨hBg, cs, hcs⟩ := own_type hTr.out.codes g rfl
      have f0 : wr.frozen? ⟨g, j * 4, none⟩ = false := unfrozen_of_block hcs _
      have f1 : wr.frozen? ⟨g, j * 4 + 1, none⟩ = false := unfrozen_of_block hcs _
      have hglt := own_lt hTr.out.codes g rfl
      have hlt' : ((j : Nat) : Int) < ((rs.length : Nat) : Int) := by omega
      have T1 : TabAt (wr.setCell ⟨g, j * 4, none⟩ (.int .i64 k)) B (.slice (some ⟨g, 0, none⟩) rs.length cap) tv (A ++ (⟨k, c.n, c.text, c.kids⟩, .slice ua c.kids.length uc) :: D) tops := by
        have := hTr.out.field (i := 0) (v := .int .i64 k) (c' := ⟨k, c.n, c.text, c.kids⟩) hnl (by omega) rfl ⟨inI64_small (k := k) (by omega) (by omega), hcd.2⟩ rfl
        rw [hAl] at this
        exact this
      have T2 : TabAt ((wr.setCell ⟨g, j * 4, none⟩ (.int .i64 k)).setCell ⟨g, j * 4 + 1, none⟩ (.int .i64 (k + 1))) B (.slice (some ⟨g, 0, none⟩) rs.length cap) tv (A ++ (⟨k, k + 1, c.text, c.kids⟩, .slice ua c.kids.length uc) :: D) tops := by
        have := T1.field (i := 1) (v := .int .i64 (k + 1)) (c' := ⟨k, k + 1, c.text, c.kids⟩) (by rw [hnl]; simp) (by omega) rfl ⟨inI64_small (k := k) (by omega) (by omega), inI64_small (k := k + 1) (by omega) (by omega), hcd.2.2⟩ rfl
        rw [hAl] at this
        exact this
      have B2 : MkB B w ((wr.setCell ⟨g, j * 4, none⟩ (.int .i64 k)).setCell ⟨g, j * 4 + 1, none⟩ (.int .i64 (k + 1))) := (hbr.out.set hcs (by decide) hBg _ _).set (block_setCell hcs _) (by decide) hBg _ _
      have HX := (show Hid (_ ∧ _ ∧ _ ∧ _ ∧ _ ∧ _ ∧ _ ∧ _) from ⟨T2, B2, hAl, hnl, hnx, hen, hBg, hDD⟩)
      clear T1 T2 B2 hTr hbr hc hsp hnx hen hcs hcd hkk hAA hAl hnl HT hDD
      go_wp2_with fail
      refine (markText_any _ _ (by omega)).mono ?_
      rintro e w1 ⟨rfl, b1⟩
      have T3 := HX.out.1.below b1
      obtain ⟨_, cs1, hcs1⟩ := own_type T3.codes g rfl
      have hc1 : ∀ i v, i < 4 → (cdCells (⟨k, k + 1, c.text, c.kids⟩, Value.slice ua c.kids.length uc))[i]? = some v → w1.cell? ⟨g, j * 4 + i, none⟩ = some v := fun i v hi hv => by
        have := T3.codes.cells (g := g) rfl (A.length * 4 + i) v (by rw [mid_cell A D _ _ i hi]; exact hv)
        rw [addr_addI, Nat.zero_add, HX.out.2.2.1] at this
        exact this
      have x2 : w1.cell? ⟨g, j * 4 + 2, none⟩ = some (.string c.text) := hc1 2 _ (by omega) rfl
      have x3 : w1.cell? ⟨g, j * 4 + 3, none⟩ = some (.slice ua c.kids.length uc) := hc1 3 _ (by omega) rfl
      have f2 : w1.frozen? ⟨g, j * 4 + 2, none⟩ = false := unfrozen_of_block hcs1 _
      have T4 : TabAt (w1.setCell ⟨g, j * 4 + 2, none⟩ (.string (markT (k + 1 + 1)))) B (.slice (some ⟨g, 0, none⟩) rs.length cap) tv (A ++ (⟨k, k + 1, markT (k + 1 + 1), c.kids⟩, .slice ua c.kids.length uc) :: D) tops := by
        have := T3.field (i := 2) (v := .string (markT (k + 1 + 1))) (c' := ⟨k, k + 1, markT (k + 1 + 1), c.kids⟩) (by rw [HX.out.2.2.2.1]; simp) (by omega) rfl ⟨inI64_small (k := k) (by omega) (by omega), inI64_small (k := k + 1) (by omega) (by omega), markT_size (k + 1 + 1) (by omega)⟩ rfl
        rw [HX.out.2.2.1] at this
        exact this
      have hsB : B ≤ ((wr.setCell ⟨g, j * 4, none⟩ (.int .i64 k)).setCell ⟨g, j * 4 + 1, none⟩ (.int .i64 (k + 1))).heap.size := Nat.le_trans hB HX.out.2.1.below.size
      have B4 : MkB B w (w1.setCell ⟨g, j * 4 + 2, none⟩ (.string (markT (k + 1 + 1)))) := (HX.out.2.1.later b1 hsB).set hcs1 (by decide) HX.out.2.2.2.2.2.2.1 _ _
      have hmi := markIntS_any B _ c.kids.length _ (k + 1 + 1 + 1) _ (by omega) (by omega) (by omega) (T4.kids (⟨k, k + 1, markT (k + 1 + 1), c.kids⟩, .slice ua c.kids.length uc) (by simp)).1
      have HY := (show Hid (_ ∧ _ ∧ _) from ⟨T4, B4, hmi⟩)
      clear T3 T4 B4 hmi b1 hc1 hcs1 x0 x1 f0 f1
      go_wp2_with fail
      refine HY.out.2.2.mono ?_
      rintro e w5 ⟨rfl, hown5, hgr5⟩
      have T5 := HY.out.1.ints (ks := marksI (k + 1 + 1 + 1) c.kids.length) hown5 (marksI_len _ _) hgr5
      have hsB4 : B ≤ (w1.setCell ⟨g, j * 4 + 2, none⟩ (.string (markT (k + 1 + 1)))).heap.size := Nat.le_trans hB HY.out.2.1.below.size
      have B5 : MkB B w w5 := HY.out.2.1.grown (HY.out.1.kids (⟨k, k + 1, markT (k + 1 + 1), c.kids⟩, .slice ua c.kids.length uc) (by simp)).1 (by decide) hgr5 hsB4
      have HZ := (show Hid (_ ∧ _) from ⟨T5, B5⟩)
      clear T5 B5 hown5 hgr5
      go_wp2
      refine ⟨⟨j + 1, by omega, by go_num, ?_, ?_, HZ.out.2⟩, by simp [intOf]; omega⟩
      · rw [HX.out.2.2.2.2.2.1]; exact int_eqv (by omega)
      · rw [HX.out.2.2.2.2.2.2.2, HX.out.2.2.2.2.1]; exact HZ.out.1
    · obtain rfl : j = rs.length := by omega
      rw [List.take_length, List.drop_length, List.append_nil] at hTr
      rw [List.take_length]
      have HR := (show Hid (_ ∧ _) from ⟨hTr.out, hbr.out⟩)
      clear hTr hbr HT hke hkg
      go_wp2
      go_ret
      exact ⟨rfl, HR.out.1, HR.out.2⟩
end Go.Proofs.Ytdadppjncdkpiaa

namespace Go.Proofs.Ytdadppjncdkpiaa
open Go.RowKit Go.Joins

set_option maxRecDepth 100000

theorem marks_split {l : List (Cd × Value)} {j : Nat} (h : j < l.length) (k : Int) : marksC k l = marksC k (l.take j) ++ (markC (markE k (l.take j)) l[j].1, l[j].2) :: marksC (markE k (l.take (j + 1))) (l.drop (j + 1)) := by
  conv => lhs; rw [← List.take_append_drop j l, marksC_app, List.drop_eq_getElem_cons h, marksC]
  rw [end_next h]

set_option maxHeartbeats 3200000 in
theorem heldCodeS_any (B : Nat) (cv tv : Value) (rs : List (Cd × Value)) (tops : List Int) (k0 : Int) (w : World) (hk0 : 0 ≤ k0) (hE : markE k0 rs ≤ 90000000) (hT : TabAt w B cv tv (marksC k0 rs) tops) :
    Calls Try.prog 68 #[cv, .int .i64 k0] w fun e w' => e = .returned (.int .i64 (markE k0 rs)) ∧ Below w.heap.size w w' := by
  have h3 := markE_three rs k0
  have hml := marksC_len rs k0
  by_cases hz : rs.length = 0
  · obtain rfl : rs = [] := List.eq_nil_of_length_eq_zero hz
    obtain ⟨a1, c1, rfl⟩ := row_nil hT.codes rfl
    clear hT
    go_enter Try.func68, Try.ntmps68
    go_wp2
    refine wp_loop_rounds 1 ?_
    rw [rounds_succ]
    go_wp2
    go_ret
    exact ⟨rfl, Below.refl _ _⟩
  obtain ⟨g, cap, hv⟩ := own_some hT.codes (by omega)
  rw [hml] at hv
  subst hv
  have hlg := own_lt hT.codes g rfl
  have HC : Hid (∀ (j : Nat) (hj : j < rs.length), (∀ i v, i < 4 → (cdCells (markC (markE k0 (rs.take j)) rs[j].1, rs[j].2))[i]? = some v → w.cell? ⟨g, j * 4 + i, none⟩ = some v) ∧ w.ownsRow B 3 1 rs[j].2 rs[j].1.kids.length (intVs (marksI (markE k0 (rs.take j) + 1 + 1 + 1) rs[j].1.kids.length))) := fun j hj => by
    have hsp := marks_split hj k0
    have hT' := hT
    rw [hsp] at hT'
    have hAl : (marksC k0 (rs.take j)).length = j := by rw [marksC_len, List.length_take]; omega
    refine ⟨fun i v hi hv => ?_, ?_⟩
    · have := hT'.codes.cells (g := g) rfl ((marksC k0 (rs.take j)).length * 4 + i) v (by rw [mid_cell _ _ _ _ i hi]; exact hv)
      rw [addr_addI, Nat.zero_add, hAl] at this
      exact this
    · have := (hT'.kids (markC (markE k0 (rs.take j)) rs[j].1, rs[j].2) (by simp)).1
      rw [show (markC (markE k0 (rs.take j)) rs[j].1).kids = marksI (markE k0 (rs.take j) + 1 + 1 + 1) rs[j].1.kids.length from rfl, marksI_len] at this
      exact this
  clear hT hml
  go_enter Try.func68, Try.ntmps68
  go_wp2
  go_loopw [1, 5] (fun kv i wr => ∃ j : Nat, j ≤ rs.length ∧ i = .int .i64 j ∧ kv = .int .i64 (markE k0 (rs.take j)) ∧ Below w.heap.size w wr) (fun _ i _ => rs.length - (intOf i).toNat)
  case atStart => exact ⟨0, Nat.zero_le _, rfl, rfl, Below.refl _ _⟩
  case round =>
    obtain ⟨j, hj, rfl, rfl, hbw⟩ := hrel
    have hke := markE_take rs k0 j
    have hkg := markE_ge (rs.take j) k0
    by_cases hlt : j < rs.length
    · obtain ⟨hc, hi⟩ := HC.out j hlt
      have hen := end_next hlt k0
      have hke1 := markE_take rs k0 (j + 1)
      rw [hen] at hke1
      have HN : Hid (markE k0 (rs.take (j + 1)) = markE k0 (rs.take j) + 3 + (rs[j].1.kids.length : Int)) := hen
      clear hen
      generalize rs[j].1 = c at *
      generalize rs[j].2 = u at *
      obtain ⟨ua, uc, rfl⟩ := own_form hi
      generalize markE k0 (rs.take j) = k at *
      have a0 : wr.cell? ⟨g, j * 4, none⟩ = some (.int .i64 k) := (hbw.cell (p := ⟨g, j * 4, none⟩) hlg).trans (hc 0 _ (by omega) rfl)
      have a1 : wr.cell? ⟨g, j * 4 + 1, none⟩ = some (.int .i64 (k + 1)) := (hbw.cell (p := ⟨g, j * 4 + 1, none⟩) hlg).trans (hc 1 _ (by omega) rfl)
      have a2 : wr.cell? ⟨g, j * 4 + 2, none⟩ = some (.string (markT (k + 1 + 1))) := (hbw.cell (p := ⟨g, j * 4 + 2, none⟩) hlg).trans (hc 2 _ (by omega) rfl)
      have a3 : wr.cell? ⟨g, j * 4 + 3, none⟩ = some (.slice ua c.kids.length uc) := (hbw.cell (p := ⟨g, j * 4 + 3, none⟩) hlg).trans (hc 3 _ (by omega) rfl)
      have hlt' : ((j : Nat) : Int) < ((rs.length : Nat) : Int) := by omega
      have hsz := hbw.size
      have e0 : (k != k) = false := by simp
      have e1 : (k + 1 != k + 1) = false := by simp
      have e2 : ((markT (k + 1 + 1)).toList != (markT (k + 1 + 1)).toList) = false := by simp
      have HI := (show Hid (_ ∧ _) from ⟨hi, hbw⟩)
      clear hc hi HC
      go_wp2
      go_region_with (go_at_call 94; refine (markText_any _ _ (by omega)).mono ?_; rintro e w1 ⟨rfl, hb1⟩; have b2 : w1.cell? ⟨g, j * 4 + 2, none⟩ = some (.string (markT (k + 1 + 1))) := (hb1.cell (p := ⟨g, j * 4 + 2, none⟩) (by exact Nat.lt_of_lt_of_le hlg hsz)).trans (by exact a2))
      all_goals
        have b3 : w1.cell? ⟨g, j * 4 + 3, none⟩ = some (.slice ua c.kids.length uc) := (hb1.cell (p := ⟨g, j * 4 + 3, none⟩) (by exact Nat.lt_of_lt_of_le hlg hsz)).trans (by exact a3)
        have hbw2 : Below w.heap.size w w1 := HI.out.2.drew.trans (hb1.mono hsz)
        have hi2 : w1.ownsRow B 3 1 (.slice ua c.kids.length uc) c.kids.length (intVs (marksI (k + 1 + 1 + 1) c.kids.length)) := own_moved HI.out.1 (fun q hq => hbw2.block q (own_lt HI.out.1 q hq))
        have hhd := heldIntS_any B _ c.kids.length (k + 1 + 1 + 1) _ (by omega) (by omega) (by omega) hi2
        have HD := (show Hid (_ ∧ _) from ⟨hhd, hbw2⟩)
        have hs1 := hbw2.size
        clear hb1 hi2 hhd hbw2 hbw
        go_wp2_with fail
        refine HD.out.1.mono ?_
        rintro e w2 ⟨rfl, hb2⟩
        have hng : ¬ k + 1 + 1 + 1 + (c.kids.length : Int) < 0 := by omega
        have hbw3 : Below w.heap.size w w2 := HD.out.2.trans (hb2.mono hs1)
        clear hb2
        go_wp2
        refine ⟨⟨j + 1, by omega, by go_num, ?_, hbw3⟩, by simp [intOf]; omega⟩
        rw [HN.out]
        exact int_eqv (by omega)
    · clear HC
      obtain rfl : j = rs.length := by omega
      rw [List.take_length]
      go_wp2
      go_ret
      exact ⟨rfl, hbw⟩

/-- The table, when it is marked: its tops. -/
def markTops (k0 : Int) (rs : List (Cd × Value)) (n : Nat) : List Int := marksI (markE k0 rs) n

set_option maxHeartbeats 1600000 in
theorem markTable_any (B : Nat) (cv tv : Value) (rs : List (Cd × Value)) (tops : List Int) (w : World) (hB : B ≤ w.heap.size) (hE : markE 1 rs + tops.length ≤ 90000000) (hT : TabAt w B cv tv rs tops) :
    Calls Try.prog 22 #[.agg #[cv, tv], .int .i64 1] w fun e w' => e = .returned (.int .i64 (markE 1 rs + tops.length)) ∧ TabAt w' B cv tv (marksC 1 rs) (markTops 1 rs tops.length) ∧ MkB B w w' := by
  have hge := markE_ge rs 1
  obtain ⟨la, lc, rfl⟩ := own_form hT.codes
  obtain ⟨ka, kc, rfl⟩ := own_form hT.tops
  have O0 : (w.alloc (.cells #[.slice la rs.length lc, .slice ka tops.length kc] 34)).heap[w.heap.size]? = some (.cells #[.slice la rs.length lc, .slice ka tops.length kc] 34 (0, 0)) := (MapKept.heap_alloc w _).1
  have B0 : MkB B w (w.alloc (.cells #[.slice la rs.length lc, .slice ka tops.length kc] 34)) := (MkB.refl B w).later ((Below.refl _ w).alloc (Nat.le_refl _) _) hB
  have hm := markCodeS_any B _ _ rs tops 1 _ (by simp; omega) (by omega) (by omega) (hT.alloc (.cells #[.slice la rs.length lc, .slice ka tops.length kc] 34))
  have hs0 : (w.alloc (.cells #[.slice la rs.length lc, .slice ka tops.length kc] 34)).heap.size = w.heap.size + 1 := by simp
  have HM := (show Hid (_ ∧ _ ∧ _) from ⟨hm, B0, O0⟩)
  clear hm B0 O0 hT
  go_enter Try.func22, Try.ntmps22
  go_wp2_with fail
  refine HM.out.1.mono ?_
  rintro e w1 ⟨rfl, hT1, hb1⟩
  have O1 := hb1.tabs _ _ HM.out.2.2
  have y1 : w1.cell? ⟨w.heap.size, 1, none⟩ = some (.slice ka tops.length kc) := by rw [cell_of_block O1]; rfl
  have B1 : MkB B w w1 := ⟨HM.out.2.1.below.trans hb1.below, fun k cs hk => hb1.tabs k cs (HM.out.2.1.tabs k cs hk)⟩
  have hi := markIntS_any B _ tops.length _ (markE 1 rs) _ (by omega) (by omega) (by omega) hT1.tops
  have hs1 := B1.below.size
  have H1 := (show Hid (_ ∧ _ ∧ _) from ⟨hi, hT1, B1⟩)
  clear hi hT1 B1 hb1 O1 HM
  go_wp2_with fail
  refine H1.out.1.mono ?_
  rintro e w2 ⟨rfl, hown2, hgr2⟩
  have hT2 := H1.out.2.1.topInts (ks := markTops 1 rs tops.length) hown2 (marksI_len _ _) hgr2
  have B2 : MkB B w w2 := H1.out.2.2.grown H1.out.2.1.tops (by decide) hgr2 (by omega)
  have H2 := (show Hid (_ ∧ _) from ⟨hT2, B2⟩)
  clear hT2 B2 hown2 hgr2 H1
  go_wp2
  go_ret
  exact ⟨rfl, H2.out.1, H2.out.2⟩

set_option maxHeartbeats 1600000 in
theorem heldTable_any (B : Nat) (cv tv : Value) (rs : List (Cd × Value)) (n : Nat) (w : World) (hE : markE 1 rs + n ≤ 90000000) (hT : TabAt w B cv tv (marksC 1 rs) (markTops 1 rs n)) :
    Calls Try.prog 23 #[.agg #[cv, tv], .int .i64 1] w fun e w' => e = .returned (.int .i64 (markE 1 rs + n)) ∧ Below w.heap.size w w' := by
  have hge := markE_ge rs 1
  have hF1 := own_form hT.codes
  have hF2 := own_form hT.tops
  rw [marksC_len] at hF1
  rw [show (markTops 1 rs n).length = n from marksI_len _ _] at hF2
  obtain ⟨la, lc, rfl⟩ := hF1
  obtain ⟨ka, kc, rfl⟩ := hF2
  have O0 : (w.alloc (.cells #[.slice la rs.length lc, .slice ka n kc] 34)).heap[w.heap.size]? = some (.cells #[.slice la rs.length lc, .slice ka n kc] 34 (0, 0)) := (MapKept.heap_alloc w _).1
  have B0 : Below w.heap.size w (w.alloc (.cells #[.slice la rs.length lc, .slice ka n kc] 34)) := (Below.refl _ w).alloc (Nat.le_refl _) _
  have hm := heldCodeS_any B _ _ rs _ 1 _ (by omega) (by omega) (hT.alloc (.cells #[.slice la rs.length lc, .slice ka n kc] 34))
  have hs0 : (w.alloc (.cells #[.slice la rs.length lc, .slice ka n kc] 34)).heap.size = w.heap.size + 1 := by simp
  have HM := (show Hid (_ ∧ _ ∧ _ ∧ _) from ⟨hm, B0, O0, hT⟩)
  clear hm B0 O0 hT
  go_enter Try.func23, Try.ntmps23
  go_wp2_with fail
  refine HM.out.1.mono ?_
  rintro e w1 ⟨rfl, hb1⟩
  have O1 : w1.heap[w.heap.size]? = some (.cells #[.slice la rs.length lc, .slice ka n kc] 34 (0, 0)) := (hb1.block _ (by rw [hs0]; omega)).trans HM.out.2.2.1
  have y1 : w1.cell? ⟨w.heap.size, 1, none⟩ = some (.slice ka n kc) := by rw [cell_of_block O1]; rfl
  have B1 : Below w.heap.size w w1 := HM.out.2.1.trans (hb1.mono (by rw [hs0]; omega))
  have hi := heldIntS_any B _ n (markE 1 rs) w1 (by omega) (by omega) (by omega) (by have := (HM.out.2.2.2.below B1).tops; rw [show (markTops 1 rs n).length = n from marksI_len _ _] at this; exact this)
  have hs1 := B1.size
  have hng : ¬ markE 1 rs < 0 := by omega
  have H1 := (show Hid (_ ∧ _) from ⟨hi, B1⟩)
  clear hi B1 hb1 O1 HM
  go_wp2_with fail
  refine H1.out.1.mono ?_
  rintro e w2 ⟨rfl, hb2⟩
  have B2 : Below w.heap.size w w2 := H1.out.2.trans (hb2.mono hs1)
  have hng2 : ¬ markE 1 rs + (n : Int) < 0 := by omega
  clear hb2 H1
  go_wp2
  go_ret
  exact ⟨rfl, B2⟩
end Go.Proofs.Ytdadppjncdkpiaa
