/-
  What a cluster has printed, in plain words; the program's and the specification's Printed answer it.
-/
import Derived.Test.YtlgnklpaebgnlaaDtShape
import Derived.Test.YtlgnklpaebgnlaaCloneAny
namespace Go.Proofs.Ytlgnklpaebgnlaa
open Go.RowKit Go.Joins

set_option maxRecDepth 100000

def printedOf : List (List Dt) → ByteArray × Bool
  | (_ :: _ :: _ :: .row ((.int d :: _ :: _ :: _ :: .str o :: _) :: _) :: _) :: _ => if d = 3 then (o, true) else (⟨#[]⟩, false)
  | _ => (⟨#[]⟩, false)

set_option maxHeartbeats 6400000 in
theorem specPrinted_any (vs : List Value) (x0 x1 : List (List Dt)) (S : Nat → Prop) (w : World) (hP : ClusterR [.row x0, .row x1]) (h : FsAt w S vs [.row x0, .row x1]) (hbk : Dt.bulkR [.row x0, .row x1] ≤ 1048576) :
    Calls Try.prog 13 #[.agg vs.toArray] w fun e w' => e = .returned (.tuple #[.string (printedOf x0).1, .bool (printedOf x0).2]) ∧ Below w.heap.size w w' := by
  obtain ⟨y0, y1, hy, hq0, hq1⟩ := hP
  obtain ⟨rfl, rfl⟩ : x0 = y0 ∧ x1 = y1 := by simpa using hy
  obtain ⟨v0, v1, rfl, a0, a1⟩ := fs2 h
  have HA := (show Hid (_ ∧ _) from ⟨a0, hq0⟩)
  obtain ⟨p0, c0, rfl⟩ := a0.form
  obtain ⟨p1, c1, rfl⟩ := a1.form
  have B0 : Hid (∀ o : Obj, Below w.heap.size w (w.alloc o)) := fun o => (Below.refl _ w).alloc (Nat.le_refl _) o
  have B1 : Hid (∀ o o' : Obj, Below w.heap.size w ((w.alloc o).alloc o')) := fun o o' => ((Below.refl _ w).alloc (Nat.le_refl _) o).alloc (by simp) o'
  clear a0 a1 h hq0 hq1 hy
  cases x0 with
  | nil =>
    clear HA hbk
    rw [show printedOf [] = (⟨#[]⟩, false) from rfl]
    go_enter Try.func13, Try.ntmps13
    go_wp2
    go_ret2
    exact ⟨rfl, B0.out _⟩
  | cons r rs =>
    have he : (r :: rs)[0]? = some r := rfl
    obtain ⟨u0, u1, u2, u3, u4, u5, u6, z7, z8, u9, u10, rfl, -, -, -, hq3, -, -, -, -, -⟩ := HA.out.2 0 r he
    obtain ⟨b, off, rfl, -, hb, us, hus⟩ := HA.out.1.at he
    have c3 : w.cell? ⟨b, off + 3, none⟩ = some (us 3) := by have := (hus 3 _ rfl).1; simpa using this
    have a3 := (hus 3 _ rfl).2
    obtain ⟨p3, d3, e3⟩ := a3.form
    rw [e3] at c3 a3
    have HT := (show Hid (_ ∧ _) from ⟨a3, hq3⟩)
    have hl0 : ((rs.length : Int) + 1 == 0) = false := by simp; omega
    clear hus HA a3 hq3 e3 he
    cases u3 with
    | nil =>
      clear HT hbk
      rw [show printedOf ([.row u0, .row u1, .row u2, .row [], .row u4, .row u5, .row u6, .int z7, .int z8, .row u9, .row u10] :: rs) = (⟨#[]⟩, false) from rfl]
      go_enter Try.func13, Try.ntmps13
      go_wp2
      go_ret2
      exact ⟨rfl, B0.out _⟩
    | cons t ts =>
      have he : (t :: ts)[0]? = some t := rfl
      obtain ⟨k0, k1, k2, k3, k4, rfl, -, -⟩ := HT.out.2 0 t he
      obtain ⟨b', off', rfl, -, hb', ut, hut⟩ := HT.out.1.at he
      have g0 : w.cell? ⟨b', off', none⟩ = some (ut 0) := by have := (hut 0 _ rfl).1; simpa using this
      have g1 : w.cell? ⟨b', off' + 1, none⟩ = some (ut 1) := by have := (hut 1 _ rfl).1; simpa using this
      have g2 : w.cell? ⟨b', off' + 2, none⟩ = some (ut 2) := by have := (hut 2 _ rfl).1; simpa using this
      have g3 : w.cell? ⟨b', off' + 3, none⟩ = some (ut 3) := by have := (hut 3 _ rfl).1; simpa using this
      have g4 : w.cell? ⟨b', off' + 4, none⟩ = some (ut 4) := by have := (hut 4 _ rfl).1; simpa using this
      rw [(hut 0 _ rfl).2.ofInt.1] at g0
      rw [(hut 1 _ rfl).2.ofInt.1] at g1
      obtain ⟨s2, t2, e2⟩ := (hut 2 _ rfl).2.form
      obtain ⟨s3, t3, e3⟩ := (hut 3 _ rfl).2.form
      rw [e2] at g2
      rw [e3] at g3
      have hk4 := (hut 4 _ rfl).2.ofStr.2
      rw [(hut 4 _ rfl).2.ofStr.1] at g4
      have hl1 : ((ts.length : Int) + 1 == 0) = false := by simp; omega
      have hk5 : k4.size ≤ 281474976710656 := by
        have h1 := bulkS_at (xs := ([.row u0, .row u1, .row u2, .row ([.int k0, .int k1, .row k2, .row k3, .str k4] :: ts), .row u4, .row u5, .row u6, .int z7, .int z8, .row u9, .row u10] :: rs)) (i := 0) rfl
        have h2 := bulkS_at (xs := ([.int k0, .int k1, .row k2, .row k3, .str k4] :: ts)) (i := 0) rfl
        simp only [Dt.bulkR, Dt.bulk] at h1 h2 hbk
        omega
      clear hbk hk4
      clear hut HT he e2 e3
      have hpr : printedOf ([.row u0, .row u1, .row u2, .row ([.int k0, .int k1, .row k2, .row k3, .str k4] :: ts), .row u4, .row u5, .row u6, .int z7, .int z8, .row u9, .row u10] :: rs) = if k0 = 3 then (k4, true) else (⟨#[]⟩, false) := rfl
      rw [hpr]
      clear hpr
      by_cases hd : k0 = 3
      · subst hd
        rw [if_pos rfl]
        go_enter Try.func13, Try.ntmps13
        go_wp2
        go_ret2
        exact ⟨rfl, B1.out _ _⟩
      · rw [if_neg hd]
        have hd1 : (k0 != 3) = true := by simp [hd]
        go_enter Try.func13, Try.ntmps13
        go_wp2
        go_ret2
        exact ⟨rfl, B1.out _ _⟩

set_option maxHeartbeats 6400000 in
theorem implPrinted_any (vs : List Value) (x0 x1 : List (List Dt)) (S : Nat → Prop) (w : World) (hP : ClusterR [.row x0, .row x1]) (h : FsAt w S vs [.row x0, .row x1]) (hbk : Dt.bulkR [.row x0, .row x1] ≤ 1048576) :
    Calls Try.prog 15 #[.agg vs.toArray] w fun e w' => e = .returned (.tuple #[.string (printedOf x0).1, .bool (printedOf x0).2]) ∧ Below w.heap.size w w' := by
  obtain ⟨y0, y1, hy, hq0, hq1⟩ := hP
  obtain ⟨rfl, rfl⟩ : x0 = y0 ∧ x1 = y1 := by simpa using hy
  obtain ⟨v0, v1, rfl, a0, a1⟩ := fs2 h
  have HA := (show Hid (_ ∧ _) from ⟨a0, hq0⟩)
  obtain ⟨p0, c0, rfl⟩ := a0.form
  obtain ⟨p1, c1, rfl⟩ := a1.form
  have B0 : Hid (∀ o : Obj, Below w.heap.size w (w.alloc o)) := fun o => (Below.refl _ w).alloc (Nat.le_refl _) o
  have B1 : Hid (∀ o o' : Obj, Below w.heap.size w ((w.alloc o).alloc o')) := fun o o' => ((Below.refl _ w).alloc (Nat.le_refl _) o).alloc (by simp) o'
  clear a0 a1 h hq0 hq1 hy
  cases x0 with
  | nil =>
    clear HA hbk
    rw [show printedOf [] = (⟨#[]⟩, false) from rfl]
    go_enter Try.func15, Try.ntmps15
    go_wp2
    go_ret2
    exact ⟨rfl, B0.out _⟩
  | cons r rs =>
    have he : (r :: rs)[0]? = some r := rfl
    obtain ⟨u0, u1, u2, u3, u4, u5, u6, z7, z8, u9, u10, rfl, -, -, -, hq3, -, -, -, -, -⟩ := HA.out.2 0 r he
    obtain ⟨b, off, rfl, -, hb, us, hus⟩ := HA.out.1.at he
    have c3 : w.cell? ⟨b, off + 3, none⟩ = some (us 3) := by have := (hus 3 _ rfl).1; simpa using this
    have a3 := (hus 3 _ rfl).2
    obtain ⟨p3, d3, e3⟩ := a3.form
    rw [e3] at c3 a3
    have HT := (show Hid (_ ∧ _) from ⟨a3, hq3⟩)
    have hl0 : ((rs.length : Int) + 1 == 0) = false := by simp; omega
    clear hus HA a3 hq3 e3 he
    cases u3 with
    | nil =>
      clear HT hbk
      rw [show printedOf ([.row u0, .row u1, .row u2, .row [], .row u4, .row u5, .row u6, .int z7, .int z8, .row u9, .row u10] :: rs) = (⟨#[]⟩, false) from rfl]
      go_enter Try.func15, Try.ntmps15
      go_wp2
      go_ret2
      exact ⟨rfl, B0.out _⟩
    | cons t ts =>
      have he : (t :: ts)[0]? = some t := rfl
      obtain ⟨k0, k1, k2, k3, k4, rfl, -, -⟩ := HT.out.2 0 t he
      obtain ⟨b', off', rfl, -, hb', ut, hut⟩ := HT.out.1.at he
      have g0 : w.cell? ⟨b', off', none⟩ = some (ut 0) := by have := (hut 0 _ rfl).1; simpa using this
      have g1 : w.cell? ⟨b', off' + 1, none⟩ = some (ut 1) := by have := (hut 1 _ rfl).1; simpa using this
      have g2 : w.cell? ⟨b', off' + 2, none⟩ = some (ut 2) := by have := (hut 2 _ rfl).1; simpa using this
      have g3 : w.cell? ⟨b', off' + 3, none⟩ = some (ut 3) := by have := (hut 3 _ rfl).1; simpa using this
      have g4 : w.cell? ⟨b', off' + 4, none⟩ = some (ut 4) := by have := (hut 4 _ rfl).1; simpa using this
      rw [(hut 0 _ rfl).2.ofInt.1] at g0
      rw [(hut 1 _ rfl).2.ofInt.1] at g1
      obtain ⟨s2, t2, e2⟩ := (hut 2 _ rfl).2.form
      obtain ⟨s3, t3, e3⟩ := (hut 3 _ rfl).2.form
      rw [e2] at g2
      rw [e3] at g3
      have hk4 := (hut 4 _ rfl).2.ofStr.2
      rw [(hut 4 _ rfl).2.ofStr.1] at g4
      have hl1 : ((ts.length : Int) + 1 == 0) = false := by simp; omega
      have hk5 : k4.size ≤ 281474976710656 := by
        have h1 := bulkS_at (xs := ([.row u0, .row u1, .row u2, .row ([.int k0, .int k1, .row k2, .row k3, .str k4] :: ts), .row u4, .row u5, .row u6, .int z7, .int z8, .row u9, .row u10] :: rs)) (i := 0) rfl
        have h2 := bulkS_at (xs := ([.int k0, .int k1, .row k2, .row k3, .str k4] :: ts)) (i := 0) rfl
        simp only [Dt.bulkR, Dt.bulk] at h1 h2 hbk
        omega
      clear hbk hk4
      clear hut HT he e2 e3
      have hpr : printedOf ([.row u0, .row u1, .row u2, .row ([.int k0, .int k1, .row k2, .row k3, .str k4] :: ts), .row u4, .row u5, .row u6, .int z7, .int z8, .row u9, .row u10] :: rs) = if k0 = 3 then (k4, true) else (⟨#[]⟩, false) := rfl
      rw [hpr]
      clear hpr
      by_cases hd : k0 = 3
      · subst hd
        rw [if_pos rfl]
        go_enter Try.func15, Try.ntmps15
        go_wp2_with (go_at_call 50; refine (strClone_any k4 _ hk5).mono ?_; rintro e w1 ⟨rfl, bb⟩)
        go_ret2
        exact ⟨rfl, (B1.out _ _).trans (bb.mono (B1.out _ _).size)⟩
      · rw [if_neg hd]
        have hd1 : (k0 != 3) = true := by simp [hd]
        go_enter Try.func15, Try.ntmps15
        go_wp2
        go_ret2
        exact ⟨rfl, B1.out _ _⟩
end Go.Proofs.Ytlgnklpaebgnlaa
