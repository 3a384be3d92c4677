/-
  The specification's draws of the arguments of chapter 1's functions: texts of bounded length, numbers in range.
-/
import Derived.Test.YtfnnodaggjgkfaaGreatDoorDrawProg
import Derived.Test.YtfnnodaggjgkfaaGreatDoorDec
import Derived.Deep.RegionWith
namespace Go.Proofs.YtfnnodaggjgkfaaGreatDoor
open Go.RowKit Go.Joins

set_option maxRecDepth 100000

theorem below_of_dr {w w' : World} {o : Obj} (h : (w.alloc o).grownBy w' (some w.heap.size)) : Below w.heap.size w w' :=
  ((Below.refl _ w).alloc (Nat.le_refl _) o).grown h (by simp) (fun k hk => by cases hk; exact Nat.le_refl _)
theorem below_new {w w1 w' : World} (hb : Below w.heap.size w w1) (h : w1.grownBy w' (some w.heap.size)) : Below w.heap.size w w' :=
  hb.grown h hb.size (fun k hk => by cases hk; exact Nat.le_refl _)

set_option maxHeartbeats 1600000 in
theorem drawIsWord_dr (V : Value) (len : Nat) (w : World) (hcode : CodeIs w.heap.size w V len) :
    Calls Tryz.prog 8 #[V] w fun e w' => ∃ t : ByteArray, e = .returned (.string t) ∧ t.size ≤ 32 ∧ Below w.heap.size w w' := by
  go_enter Tryz.func8, Tryz.ntmps8
  go_wp2_with fail
  refine (new_dr V len _ hcode).mono ?_
  rintro e w1 ⟨rfl, h1, b1⟩
  go_wp2_with fail
  refine (pick_dr w.heap.size w.heap.size V len _ 11 32 _ (by decide) (texts_lit [⟨#[108, 101, 116]⟩, ⟨#[105, 110]⟩, ⟨#[105, 102]⟩, ⟨#[116, 104, 101, 110]⟩, ⟨#[101, 108, 115, 101]⟩, ⟨#[99, 97, 115, 101]⟩, ⟨#[111, 102]⟩, ⟨#[112, 97, 114]⟩, ⟨#[120]⟩, ⟨#[]⟩, ⟨#[108, 101, 116, 115]⟩] w1 11 32 w.heap.size rfl (by decide) (by decide) h1.2.1.lt) (h1.alloc _)).mono ?_
  rintro e w2 ⟨t, rfl, ht, h2, g2⟩
  go_wp2
  go_ret
  exact ⟨t, rfl, ht, below_new (b1.alloc b1.size _) g2⟩

set_option maxHeartbeats 1600000 in
theorem drawNameOk_dr (V : Value) (len : Nat) (w : World) (hcode : CodeIs w.heap.size w V len) :
    Calls Tryz.prog 9 #[V] w fun e w' => ∃ t : ByteArray, e = .returned (.string t) ∧ t.size ≤ 32 ∧ Below w.heap.size w w' := by
  go_enter Tryz.func9, Tryz.ntmps9
  go_wp2_with fail
  refine (new_dr V len _ hcode).mono ?_
  rintro e w1 ⟨rfl, h1, b1⟩
  go_wp2_with fail
  refine (pick_dr w.heap.size w.heap.size V len _ 9 32 _ (by decide) (texts_lit [⟨#[97]⟩, ⟨#[120, 49]⟩, ⟨#[49, 120]⟩, ⟨#[]⟩, ⟨#[108, 101, 116]⟩, ⟨#[97, 98, 99, 100, 101, 102, 103, 104]⟩, ⟨#[97, 98, 99, 100, 101, 102, 103, 104, 105]⟩, ⟨#[65]⟩, ⟨#[97, 95, 98]⟩] w1 9 32 w.heap.size rfl (by decide) (by decide) h1.2.1.lt) (h1.alloc _)).mono ?_
  rintro e w2 ⟨t, rfl, ht, h2, g2⟩
  go_wp2
  go_ret
  exact ⟨t, rfl, ht, below_new (b1.alloc b1.size _) g2⟩

theorem ints_lit (zs : List Int) (w : World) (t : TypeId) : ∀ j z, zs[j]? = some z → (w.alloc (.cells (zs.map (Value.int .i64)).toArray t)).cell? ⟨w.heap.size, j, none⟩ = some (.int .i64 z) := by
  intro j z hj
  rw [cell_of_block (MapKept.heap_alloc w _).1]
  simp [hj]

set_option maxHeartbeats 1600000 in
theorem drawDecText_dr (V : Value) (len : Nat) (w : World) (hcode : CodeIs w.heap.size w V len) :
    Calls Tryz.prog 10 #[V] w fun e w' => ∃ z : Int, e = .returned (.int .i64 z) ∧ -9223372036854775808 ≤ z ∧ z ≤ 9223372036854775807 ∧ Below w.heap.size w w' := by
  go_enter Tryz.func10, Tryz.ntmps10
  go_wp2_with fail
  refine (new_dr V len _ hcode).mono ?_
  rintro e w1 ⟨rfl, h1, b1⟩
  go_wp2_with fail
  refine (below_dr w.heap.size w.heap.size V len _ _ (by omega) (by omega) h1).mono ?_
  rintro e w2 ⟨x, rfl, x0, x1, h2, g2⟩
  go_wp2_with fail
  have hlt2 := h2.2.1.lt
  refine (pickInt_dr w.heap.size w.heap.size V len _ 6 6 [0, -1, 10, 9223372036854775807, -9223372036854775808, x] _ (by decide) (by decide) rfl (by omega) (ints_lit [0, -1, 10, 9223372036854775807, -9223372036854775808, x] w2 3) (h2.alloc _)).mono ?_
  rintro e w3 ⟨z, rfl, hz, h3, g3⟩
  have hb : -9223372036854775808 ≤ z ∧ z ≤ 9223372036854775807 := by
    simp only [List.mem_cons, List.not_mem_nil, or_false] at hz
    omega
  clear hz
  go_wp2
  go_ret
  exact ⟨z, rfl, hb.1, hb.2, below_new ((below_new b1 g2).alloc (below_new b1 g2).size _) g3⟩

set_option maxHeartbeats 1600000 in
theorem drawReadDec_dr (V : Value) (len : Nat) (w : World) (hcode : CodeIs w.heap.size w V len) :
    Calls Tryz.prog 11 #[V] w fun e w' => ∃ t : ByteArray, e = .returned (.string t) ∧ t.size ≤ 32 ∧ Below w.heap.size w w' := by
  go_enter Tryz.func11, Tryz.ntmps11
  go_wp2_with fail
  refine (new_dr V len _ hcode).mono ?_
  rintro e w1 ⟨rfl, h1, b1⟩
  go_wp2_with fail
  refine (once_dr w.heap.size w.heap.size V len _ _ (by omega) (by omega) h1).mono ?_
  rintro e w2 ⟨x, rfl, h2, g2⟩
  have b2 := below_new b1 g2
  clear g2 b1
  cases x
  · go_wp2_with fail
    refine (below_dr w.heap.size w.heap.size V len _ _ (by omega) (by omega) h2).mono ?_
    rintro e w3 ⟨z, rfl, z0, z1, h3, g3⟩
    go_wp2_with fail
    refine (specDec_any z _ (by omega) (by omega)).mono ?_
    rintro e w' ⟨rfl, rfl⟩
    have hsz : (⟨(Lib.itoa z).toArray⟩ : ByteArray).size ≤ 32 := by
      obtain ⟨k, rfl⟩ := Int.eq_ofNat_of_zero_le z0
      have e : Lib.itoa (k : Int) = Lib.decDigits k := by unfold Lib.itoa; rw [if_neg (by omega)]; simp
      have := dec_len20 k (by omega)
      rw [e, sz]
      simp
      omega
    generalize (⟨(Lib.itoa z).toArray⟩ : ByteArray) = t at *
    go_wp2
    go_ret
    exact ⟨t, rfl, hsz, below_new b2 g3⟩
  · go_wp2_with fail
    refine (pick_dr w.heap.size w.heap.size V len _ 7 32 _ (by decide) (texts_lit [⟨#[]⟩, ⟨#[45, 49]⟩, ⟨#[48, 48]⟩, ⟨#[48, 49]⟩, ⟨#[49, 120]⟩, ⟨#[57, 57, 57, 57, 57, 57, 57, 57, 57]⟩, ⟨#[49, 48, 48, 48, 48, 48, 48, 48, 48, 48]⟩] w2 7 32 w.heap.size rfl (by decide) (by decide) h2.2.1.lt) (h2.alloc _)).mono ?_
    rintro e w3 ⟨t, rfl, ht, h3, g3⟩
    go_wp2
    go_ret
    exact ⟨t, rfl, ht, below_new (b2.alloc b2.size _) g3⟩

set_option maxHeartbeats 1600000 in
theorem drawWords_dr (V : Value) (len : Nat) (w : World) (hcode : CodeIs w.heap.size w V len) :
    Calls Tryz.prog 12 #[V] w fun e w' => ∃ t : ByteArray, e = .returned (.string t) ∧ t.size ≤ 1000 ∧ Below w.heap.size w w' := by
  go_enter Tryz.func12, Tryz.ntmps12
  go_wp2_with fail
  refine (new_dr V len _ hcode).mono ?_
  rintro e w1 ⟨rfl, h1, b1⟩
  go_wp2_with fail
  refine (below_dr w.heap.size w.heap.size V len _ _ (by omega) (by omega) h1).mono ?_
  rintro e w2 ⟨m, rfl, m0, m1, h2, g2⟩
  have b2 := below_new b1 g2
  clear g2 b1
  go_wp2
  go_loopw [4, 6] (fun s i wr => ∃ (k : Nat) (t : ByteArray), (k : Int) ≤ m ∧ i = .int .i64 k ∧ s = .string t ∧ t.size ≤ 32 * k ∧ Dr w.heap.size wr w.heap.size V len ∧ Below w.heap.size w wr) (fun _ i _ => (m - intOf i).toNat)
  case atStart => exact ⟨0, ⟨#[]⟩, by omega, rfl, rfl, by simp [sz], h2, b2⟩
  case round =>
    obtain ⟨k, t, hk, rfl, rfl, ht, h3, b3⟩ := hrel
    by_cases hlt : (k : Int) < m
    · go_wp2_with fail
      refine (pick_dr w.heap.size w.heap.size V len _ 5 32 _ (by decide) (texts_lit [⟨#[97]⟩, ⟨#[32]⟩, ⟨#[98, 99]⟩, ⟨#[32]⟩, ⟨#[]⟩] wr 5 32 w.heap.size rfl (by decide) (by decide) h3.2.1.lt) (h3.alloc _)).mono ?_
      rintro e w4 ⟨u, rfl, hu, h4, g4⟩
      have b4 := below_new (b3.alloc b3.size _) g4
      clear g4
      go_wp2
      refine ⟨⟨k + 1, t ++ u, by omega, by go_num, rfl, by simp [ByteArray.size_append]; omega, h4, b4⟩, by simp [intOf]; omega⟩
    · go_wp2
      go_ret
      exact ⟨t, rfl, by omega, b3⟩
end Go.Proofs.YtfnnodaggjgkfaaGreatDoor
