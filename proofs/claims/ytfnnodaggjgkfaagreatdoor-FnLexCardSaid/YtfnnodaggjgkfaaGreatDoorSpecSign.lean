/-
  The specification's look at a sign at a place; and at any word at a place.
-/
import Derived.Test.YtfnnodaggjgkfaaGreatDoorSpecNext
namespace Go.Proofs.YtfnnodaggjgkfaaGreatDoor
open Go.RowKit Go.Maps Go.Joins Go.WideMaps

set_option maxRecDepth 100000

def twoB : List ByteArray := [⟨#[91, 93]⟩, ⟨#[45, 62]⟩, ⟨#[61, 61]⟩]
def oneB : List ByteArray := [⟨#[92]⟩, ⟨#[46]⟩, ⟨#[61]⟩, ⟨#[59]⟩, ⟨#[58]⟩, ⟨#[124]⟩, ⟨#[60]⟩, ⟨#[43]⟩, ⟨#[45]⟩, ⟨#[42]⟩, ⟨#[40]⟩, ⟨#[41]⟩]

theorem beq_swap (a b : List UInt8) : (a == b) = (b == a) := Bool.eq_iff_iff.2 (by simp only [beq_iff_eq]; exact ⟨fun h => h.symm, fun h => h.symm⟩)

theorem two_is (t : ByteArray) (h : t.size = 2) : among twoB t = isSg t := by
  have hl : t.toList.length = 2 := by rw [ByteArray.toList_eq]; simpa using h
  unfold among isSg twoB signs
  simp only [ByteArray.toList_eq] at hl ⊢
  match e : t.data.toList, hl with
  | [a, b], _ =>
    simp only [List.any_cons, List.any_nil, beq_swap [a, b]]
    simp
theorem one_is (t : ByteArray) (h : t.size = 1) : among oneB t = isSg t := by
  have hl : t.toList.length = 1 := by rw [ByteArray.toList_eq]; simpa using h
  unfold among isSg oneB signs
  simp only [ByteArray.toList_eq] at hl ⊢
  match e : t.data.toList, hl with
  | [a], _ =>
    simp only [List.any_cons, List.any_nil, beq_swap [a]]
    simp

theorem sign_is (s : ByteArray) (i : Nat) (h : i < s.size) : signNx (s.extract i s.size) = if i + 2 ≤ s.size ∧ isSg (s.extract i (i + 2)) = true then ⟨2, s.extract i (i + 2), 0, 2⟩ else if isSg (s.extract i (i + 1)) then ⟨2, s.extract i (i + 1), 0, 1⟩ else Nx.none := by
  unfold signNx
  rw [ext_ext, ext_ext]
  by_cases h2 : i + 2 ≤ s.size
  · have h2' : 2 ≤ (s.extract i s.size).size := by simp; omega
    simp only [h2, h2', true_and]
  · have h2' : ¬ 2 ≤ (s.extract i s.size).size := by simp; omega
    simp only [h2, h2', false_and, if_false]

theorem has_is (g n cap : Nat) (ss : List ByteArray) (s : ByteArray) (b : Bool) (w : World) (h : among ss s = b) (hn : n = ss.length) (hm : n ≤ maxLen)
    (hc : ∀ j, j < n → w.cell? ⟨g, j, none⟩ = some (.string (ss.getD j ByteArray.empty))) :
    Calls Tryz.prog 34 #[.slice (some ⟨g, 0, none⟩) n cap, .string s] w fun e w' => e = .returned (.bool b) ∧ w' = w := by
  rw [← h]; exact has_any g n cap ss s w hn hm hc

theorem lit_cells1 (ss : List ByteArray) (w : World) (o : Obj) (t : TypeId) (j : Nat) (h : j < ss.length) : ((w.alloc o).alloc (.cells (ss.map Value.string).toArray t)).cell? ⟨w.heap.size + 1, j, none⟩ = some (.string (ss.getD j ByteArray.empty)) := by
  have := lit_cells ss (w.alloc o) t j h
  have e : (w.alloc o).heap.size = w.heap.size + 1 := by simp
  rw [e] at this
  exact this
theorem lit_cells2 (ss : List ByteArray) (w : World) (o o' : Obj) (t : TypeId) (j : Nat) (h : j < ss.length) : (((w.alloc o).alloc o').alloc (.cells (ss.map Value.string).toArray t)).cell? ⟨w.heap.size + 1 + 1, j, none⟩ = some (.string (ss.getD j ByteArray.empty)) := by
  have := lit_cells1 ss (w.alloc o) o' t j h
  have e : (w.alloc o).heap.size = w.heap.size + 1 := by simp
  rw [e] at this
  exact this

set_option maxHeartbeats 3200000 in
theorem next_sign (s : ByteArray) (i : Nat) (w : World) (hs : s.size ≤ 1048576) (hi : i < s.size) (hl : lti (s[i].toNat : Int) = false) (hd : dgi (s[i].toNat : Int) = false) :
    Calls Tryz.prog 30 #[.string s, .int .i64 i] w fun e w' => e = .returned ((firstNx (s.extract i s.size)).valAt i) ∧ Below w.heap.size w w' := by
  have a0 : (0 : Int) ≤ (s[i].toNat : Int) := by omega
  have a9 : (s[i].toNat : Int) ≤ 255 := by have := UInt8.toNat_lt s[i]; omega
  have HQ : Hid (firstNx (s.extract i s.size) = signNx (s.extract i s.size)) := by
    unfold firstNx
    rw [ext_fst s i hi, show ltb s[i] = false from hl, show dgb s[i] = false from hd]
    rfl
  have hi' : ((i : Nat) : Int) < (s.size : Int) := by omega
  have HI := sign_is s i hi
  have hs1 : (s.extract i (i + 1)).size = 1 := by simp; omega
  have h1is := one_is (s.extract i (i + 1)) hs1
  have hsl1 : ∀ wx, (Instr.slice 9 (.string s) (some (.int .i64 (i : Int))) (some (.int .i64 ((i : Int) + 1))) none).run Tryz.prog wx = .ok (.string (s.extract i (i + 1))) wx := fun wx => by
    have h := run_slice_string (P := Tryz.prog) wx 9 s .i64 .i64 (i : Int) ((i : Int) + 1) Tryz.underlying9 (by omega) (by omega) (by omega)
    rw [show (i : Int).toNat = i by omega, show ((i : Int) + 1).toNat = i + 1 by omega] at h
    exact h
  by_cases h2 : i + 2 ≤ s.size
  · have hs2 : (s.extract i (i + 2)).size = 2 := by simp; omega
    have h2is := two_is (s.extract i (i + 2)) hs2
    have h2' : ((i : Nat) : Int) + 2 ≤ (s.size : Int) := by omega
    have hsl2 : ∀ wx, (Instr.slice 9 (.string s) (some (.int .i64 (i : Int))) (some (.int .i64 ((i : Int) + 2))) none).run Tryz.prog wx = .ok (.string (s.extract i (i + 2))) wx := fun wx => by
      have h := run_slice_string (P := Tryz.prog) wx 9 s .i64 .i64 (i : Int) ((i : Int) + 2) Tryz.underlying9 (by omega) (by omega) (by omega)
      rw [show (i : Int).toNat = i by omega, show ((i : Int) + 2).toNat = i + 2 by omega] at h
      exact h
    cases hg2 : isSg (s.extract i (i + 2))
    · have am2 : among twoB (s.extract i (i + 2)) = false := h2is.trans hg2
      cases hg1 : isSg (s.extract i (i + 1))
      · have HE : Hid (firstNx (s.extract i s.size) = Nx.none) := by rw [HQ.out, HI, if_neg (fun e => by rw [hg2] at e; exact absurd e.2 Bool.false_ne_true), hg1]; rfl
        have am1 : among oneB (s.extract i (i + 1)) = false := h1is.trans hg1
        clear HI hs1 h1is hs2 h2is hg2 hg1
        go_enter Tryz.func30, Tryz.ntmps30
        go_wp2_with (first
          | (go_at_call 36; refine (specLetter_is _ false a0 a9 hl _).mono ?_; rintro e w' ⟨rfl, rfl⟩)
          | (go_at_call 37; refine (specDigit_is _ false a0 a9 hd _).mono ?_; rintro e w' ⟨rfl, rfl⟩))
        refine (has_is (w.heap.size + 1) 3 3 twoB _ false _ am2 rfl (by decide) (lit_cells1 twoB w _ 9)).mono ?_
        rintro e w' ⟨rfl, rfl⟩
        go_wp2_with fail
        refine (has_is (w.heap.size + 1 + 1) 12 12 oneB _ false _ am1 rfl (by decide) (lit_cells2 oneB w _ _ 9)).mono ?_
        rintro e w' ⟨rfl, rfl⟩
        go_wp2
        refine bodyPost_ret (v := Nx.none.valAt i) (by simp [results, Tryz.results30, go_sem, Nx.valAt, Nx.none]) rfl ⟨by rw [HE.out], (((Below.refl _ w).alloc (Nat.le_refl _) _).alloc (by simp) _).alloc (by simp; omega) _⟩
      · have HE : Hid (firstNx (s.extract i s.size) = ⟨2, s.extract i (i + 1), 0, 1⟩) := by rw [HQ.out, HI, if_neg (fun e => by rw [hg2] at e; exact absurd e.2 Bool.false_ne_true), hg1]; rfl
        have am1 : among oneB (s.extract i (i + 1)) = true := h1is.trans hg1
        clear HI hs1 h1is hs2 h2is hg2 hg1
        go_enter Tryz.func30, Tryz.ntmps30
        go_wp2_with (first
          | (go_at_call 36; refine (specLetter_is _ false a0 a9 hl _).mono ?_; rintro e w' ⟨rfl, rfl⟩)
          | (go_at_call 37; refine (specDigit_is _ false a0 a9 hd _).mono ?_; rintro e w' ⟨rfl, rfl⟩))
        refine (has_is (w.heap.size + 1) 3 3 twoB _ false _ am2 rfl (by decide) (lit_cells1 twoB w _ 9)).mono ?_
        rintro e w' ⟨rfl, rfl⟩
        go_wp2_with fail
        refine (has_is (w.heap.size + 1 + 1) 12 12 oneB _ true _ am1 rfl (by decide) (lit_cells2 oneB w _ _ 9)).mono ?_
        rintro e w' ⟨rfl, rfl⟩
        go_wp2
        refine bodyPost_ret (v := (⟨2, s.extract i (i + 1), 0, 1⟩ : Nx).valAt i) (by simp [results, Tryz.results30, go_sem, Nx.valAt]) rfl ⟨by rw [HE.out], (((Below.refl _ w).alloc (Nat.le_refl _) _).alloc (by simp) _).alloc (by simp; omega) _⟩
    · have HE : Hid (firstNx (s.extract i s.size) = ⟨2, s.extract i (i + 2), 0, 2⟩) := by rw [HQ.out, HI, if_pos ⟨h2, hg2⟩]; rfl
      have am2 : among twoB (s.extract i (i + 2)) = true := h2is.trans hg2
      clear HI hs1 h1is hs2 h2is hg2
      go_enter Tryz.func30, Tryz.ntmps30
      go_wp2_with (first
        | (go_at_call 36; refine (specLetter_is _ false a0 a9 hl _).mono ?_; rintro e w' ⟨rfl, rfl⟩)
        | (go_at_call 37; refine (specDigit_is _ false a0 a9 hd _).mono ?_; rintro e w' ⟨rfl, rfl⟩))
      refine (has_is (w.heap.size + 1) 3 3 twoB _ true _ am2 rfl (by decide) (lit_cells1 twoB w _ 9)).mono ?_
      rintro e w' ⟨rfl, rfl⟩
      go_wp2
      refine bodyPost_ret (v := (⟨2, s.extract i (i + 2), 0, 2⟩ : Nx).valAt i) (by simp [results, Tryz.results30, go_sem, Nx.valAt]) rfl ⟨by rw [HE.out], ((Below.refl _ w).alloc (Nat.le_refl _) _).alloc (by simp) _⟩
  · have h2' : decide (((i : Nat) : Int) + 2 ≤ (s.size : Int)) = false := by simp; omega
    cases hg1 : isSg (s.extract i (i + 1))
    · have HE : Hid (firstNx (s.extract i s.size) = Nx.none) := by rw [HQ.out, HI, if_neg (fun e => h2 e.1), hg1]; rfl
      have am1 : among oneB (s.extract i (i + 1)) = false := h1is.trans hg1
      clear HI hs1 h1is hg1
      go_enter Tryz.func30, Tryz.ntmps30
      go_wp2_with (first
        | (go_at_call 36; refine (specLetter_is _ false a0 a9 hl _).mono ?_; rintro e w' ⟨rfl, rfl⟩)
        | (go_at_call 37; refine (specDigit_is _ false a0 a9 hd _).mono ?_; rintro e w' ⟨rfl, rfl⟩))
      refine (has_is (w.heap.size + 1) 12 12 oneB _ false _ am1 rfl (by decide) (lit_cells1 oneB w _ 9)).mono ?_
      rintro e w' ⟨rfl, rfl⟩
      go_wp2
      refine bodyPost_ret (v := Nx.none.valAt i) (by simp [results, Tryz.results30, go_sem, Nx.valAt, Nx.none]) rfl ⟨by rw [HE.out], ((Below.refl _ w).alloc (Nat.le_refl _) _).alloc (by simp) _⟩
    · have HE : Hid (firstNx (s.extract i s.size) = ⟨2, s.extract i (i + 1), 0, 1⟩) := by rw [HQ.out, HI, if_neg (fun e => h2 e.1), hg1]; rfl
      have am1 : among oneB (s.extract i (i + 1)) = true := h1is.trans hg1
      clear HI hs1 h1is hg1
      go_enter Tryz.func30, Tryz.ntmps30
      go_wp2_with (first
        | (go_at_call 36; refine (specLetter_is _ false a0 a9 hl _).mono ?_; rintro e w' ⟨rfl, rfl⟩)
        | (go_at_call 37; refine (specDigit_is _ false a0 a9 hd _).mono ?_; rintro e w' ⟨rfl, rfl⟩))
      refine (has_is (w.heap.size + 1) 12 12 oneB _ true _ am1 rfl (by decide) (lit_cells1 oneB w _ 9)).mono ?_
      rintro e w' ⟨rfl, rfl⟩
      go_wp2
      refine bodyPost_ret (v := (⟨2, s.extract i (i + 1), 0, 1⟩ : Nx).valAt i) (by simp [results, Tryz.results30, go_sem, Nx.valAt]) rfl ⟨by rw [HE.out], ((Below.refl _ w).alloc (Nat.le_refl _) _).alloc (by simp) _⟩

theorem next_any (s : ByteArray) (i : Nat) (w : World) (hs : s.size ≤ 1048576) (hi : i < s.size) :
    Calls Tryz.prog 30 #[.string s, .int .i64 i] w fun e w' => e = .returned ((firstNx (s.extract i s.size)).valAt i) ∧ Below w.heap.size w w' := by
  cases hl : lti (s[i].toNat : Int)
  · cases hd : dgi (s[i].toNat : Int)
    · exact next_sign s i w hs hi hl hd
    · exact next_digit s i w hs hi hl hd
  · exact next_letter s i w hs hi hl
end Go.Proofs.YtfnnodaggjgkfaaGreatDoor
