/-
  Arguments of any shape, opened.
-/
import Derived.Test.YtlgnklpaebgnlaaDtShape
namespace Go.Proofs.Ytlgnklpaebgnlaa
open Go.RowKit Go.Joins

set_option maxRecDepth 100000

theorem FsAt.get {w : World} {S : Nat → Prop} : ∀ {us : List Value} {r : List Dt}, FsAt w S us r → us.length = r.length ∧ ∀ (j : Nat) (d : Dt), r[j]? = some d → ∃ v, us[j]? = some v ∧ FAt w S v d
  | [], [], _ => ⟨rfl, fun j d h => by simp at h⟩
  | u :: us, d :: r, h => by
    obtain ⟨h1, h2⟩ := FsAt.get h.2
    refine ⟨by simp [h1], fun j d' hd => ?_⟩
    cases j with
    | zero => simp at hd; subst hd; exact ⟨u, rfl, h.1⟩
    | succ j => simpa using h2 j d' (by simpa using hd)
  | [], _ :: _, h => h.elim
  | _ :: _, [], h => h.elim

/-- What reading an argument's struct tells. -/
def OpenC (t : TypeId) (P : List Dt → Prop) : Prop := ∀ (H : Type) (enc : TypeId × Value → H) (w : World) (spare : Nat → Bool) (held : Bool) (fuel : Nat) (cs : List Value) (x : DataW H × List MemPlace),
  DataW.trod enc Try.prog w 0 spare held fuel t cs = some x → ∃ r, P r ∧ FsAt w (fun _ => True) cs r
def OpenS (t : TypeId) (P : List Dt → Prop) : Prop := ∀ (H : Type) (enc : TypeId × Value → H) (w : World) (spare : Nat → Bool) (held : Bool) (fuel : Nat) (cs : List Value) (x : DataW H × List MemPlace),
  DataW.trod enc Try.prog w 0 spare held fuel t cs = some x → ∃ v xs, cs = [v] ∧ AllR P xs ∧ FAt w (fun _ => True) v (.row xs)

theorem openInt : OpenC 3 IntR := by
  intro H enc w spare held fuel cs x h
  obtain ⟨k, rfl, _, wk⟩ := DataW.trod_int Try.underlying3 h
  exact ⟨_, ⟨k, rfl⟩, .int k (bounds_i64 wk), trivial⟩
theorem openString : OpenC 9 StringR := by
  intro H enc w spare held fuel cs x h
  obtain ⟨k, rfl, _, wk⟩ := DataW.trod_string Try.underlying9 h
  exact ⟨_, ⟨k, rfl⟩, .str k wk, trivial⟩

theorem open_slice {P : List Dt → Prop} {n : Nat} {ts te : TypeId} (hu : Try.prog.underlying ts = some (.slice te)) (hcell : Try.prog.cellsOf te = n) (hn : ∀ r, P r → r.length = n) (hpos : 0 < n) (he : OpenC te P) : OpenS ts P := by
  intro H enc w spare held fuel cs x h
  rcases DataW.trod_slice hu h with ⟨hcs, _⟩ | ⟨a, len, cap, elems, rest, m, hm, hcs, _, _, hlc, hcm, hel, hat, _, _⟩
  · exact ⟨_, [], hcs, fun i r h => by simp at h, .nil none 0⟩
  · have key : ∀ i, i < len → ∃ f : List Dt × List Value, P f.1 ∧ FsAt w (fun _ => True) f.2 f.1 ∧ ∀ j, j < n → w.cell? ((a.add (i * n)).add j) = f.2[j]? := by
      intro i hi
      have hb := hat i hi
      rw [List.getElem?_eq_getElem (by omega), hcell] at hb
      obtain ⟨cs', hc', ht'⟩ := Option.bind_eq_some_iff.1 hb
      obtain ⟨_, hl, hg⟩ := World.cells?_some hc'
      obtain ⟨r, hP, hf⟩ := he H enc w spare held _ _ _ ht'
      exact ⟨(r, cs'), hP, hf, hg⟩
    by_cases h0 : len = 0
    · subst h0
      exact ⟨_, [], hcs, fun i r h => by simp at h, .nil _ _⟩
    haveI : Inhabited (List Dt × List Value) := ⟨([], [])⟩
    obtain ⟨f, hf⟩ := Deep.choose_lt key
    have hlenP : ∀ i, i < len → (f i).1.length = n := fun i hi => hn _ (hf i hi).1
    have cellAt : ∀ i j d, i < len → (f i).1[j]? = some d → ∃ v, (f i).2[j]? = some v ∧ FAt w (fun _ => True) v d ∧ w.cell? ((a.add (i * n)).add j) = some v := by
      intro i j d hi hj
      obtain ⟨_, h2⟩ := (hf i hi).2.1.get
      obtain ⟨v, hv, hF⟩ := h2 j d hj
      have hjn : j < n := by have h1 := (List.getElem?_eq_some_iff.1 hj).1; rw [hlenP i hi] at h1; exact h1
      exact ⟨v, hv, hF, ((hf i hi).2.2 j hjn).trans hv⟩
    obtain ⟨b, off, spot⟩ := a
    have hspot : spot = none := by
      have hl0 := hlenP 0 (by omega)
      have hg0 : (f 0).1[0]? = some ((f 0).1[0]'(by omega)) := List.getElem?_eq_getElem _
      obtain ⟨v, _, _, hc0⟩ := cellAt 0 0 _ (by omega) hg0
      simpa [Addr.add] using World.cell?_spot hc0
    subst hspot
    have hbl : b < w.heap.size := by
      have hl0 := hlenP 0 (by omega)
      have hg0 : (f 0).1[0]? = some ((f 0).1[0]'(by omega)) := List.getElem?_eq_getElem _
      obtain ⟨v, _, _, hc0⟩ := cellAt 0 0 _ (by omega) hg0
      rw [addr_add, addr_add] at hc0
      exact World.block_lt_of_cell? _ _ hc0
    have hx : ∀ (i : Nat) (r : List Dt), ((List.range len).map (fun i => (f i).1))[i]? = some r → i < len ∧ r = (f i).1 := by
      intro i r hr
      have hi : i < len := by have := (List.getElem?_eq_some_iff.1 hr).1; simpa using this
      refine ⟨hi, ?_⟩
      simpa [hi] using hr.symm
    refine ⟨_, (List.range len).map (fun i => (f i).1), hcs, fun i r hr => ?_, ?_⟩
    · obtain ⟨hi, rfl⟩ := hx i r hr
      exact (hf i hi).1
    · have hll : len = ((List.range len).map (fun i => (f i).1)).length := by simp
      have := FAt.row (w := w) (S := fun _ => True) b off cap n ((List.range len).map (fun i => (f i).1)) (fun i j => ((f i).2[j]?).getD .nilFunc) (by simp; omega) trivial hbl
        (fun i r hr => by obtain ⟨hi, rfl⟩ := hx i r hr; exact hlenP i hi)
        (fun i j r d hr hj => by
          obtain ⟨hi, rfl⟩ := hx i r hr
          obtain ⟨v, hv, _, hc⟩ := cellAt i j d hi hj
          rw [addr_add, addr_add] at hc
          rw [hv]
          exact hc)
        (fun i j r d hr hj => by
          obtain ⟨hi, rfl⟩ := hx i r hr
          obtain ⟨v, hv, hF, _⟩ := cellAt i j d hi hj
          rw [hv]
          exact hF)
      rw [← hll] at this
      exact this
theorem openIntS : OpenS 23 IntR := open_slice Try.underlying23 (by kernel_rfl) IntR.len (by omega) openInt
/-- The argument itself. -/
theorem open_top {t : TypeId} {P : List Dt → Prop} {H : Type} {enc : TypeId × Value → H} {w : World} {spare : Nat → Bool} {held : Bool} {v : Value} {dd : DataW H} {p : List MemPlace} (ho : OpenC t P) (hv : ∃ cs, v = .agg cs ∧ cs.size = Try.prog.cellsOf t) (h : DataW.Trod enc Try.prog w 0 spare held t v dd p) : ∃ vs r, v = .agg vs.toArray ∧ P r ∧ FsAt w (fun _ => True) vs r := by
  obtain ⟨fuel, hf⟩ := h
  obtain ⟨cs, rfl, _⟩ := hv
  obtain ⟨l⟩ := cs
  obtain ⟨r, hP, hr⟩ := ho H enc w spare held fuel l _ hf
  exact ⟨l, r, rfl, hP, hr⟩
end Go.Proofs.Ytlgnklpaebgnlaa
