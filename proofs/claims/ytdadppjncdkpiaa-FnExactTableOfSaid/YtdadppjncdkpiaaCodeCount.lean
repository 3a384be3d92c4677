/-
  The program's codeCount: how many codes expressions have, each place in memory counted once.
-/
import Derived.Test.YtdadppjncdkpiaaNode
import Derived.Test.YtdadppjncdkpiaaPkMore
import Derived.Test.YtdadppjncdkpiaaRowBase
import Derived.Test.YtdadppjncdkpiaaOwnRow
import Derived.LoopTactic
namespace Go.Proofs.Ytdadppjncdkpiaa
open Go.RowKit Go.Joins

set_option maxRecDepth 100000

/-- A pointer into a plain block below a bound. -/
def PtrC (N : Nat) (w : World) (v : Value) : Prop := ∃ a, v = .pointer (some a) ∧ a.block < N ∧ Pl w a.block
theorem wrapC (x : Int) (h0 : 0 ≤ x) (h1 : x ≤ 1000000000) : wrap64 x = x := by
  unfold wrap64
  omega
theorem PtrC.kept {N : Nat} {w w' : World} {v : Value} (h : PtrC N w v) (hb : ∀ b, b < N → w'.heap[b]? = w.heap[b]?) : PtrC N w' v := by
  obtain ⟨a, hv, h1, ha⟩ := h
  exact ⟨a, hv, h1, ha.of (hb _ h1)⟩
theorem infoExpC : (Try.prog.info? 92).map (fun i => i.size) = some 4 := by kernel_rfl
theorem keysPtrC (N : Nat) : KeysGo Try.prog 100 (PtrC N) := by
  have h0 : KeysGo Try.prog 100 PtrK := by
    cases hj : Try.prog.info? 92 with
    | none => have := infoExpC; rw [hj] at this; cases this
    | some j =>
      have h4 : j.size = 4 := by have := infoExpC; rw [hj] at this; simpa using this
      exact ptr_keys Try.underlying100 hj (by omega)
  exact h0.sub (fun w v h => by obtain ⟨a, rfl, _, hp⟩ := h; exact ⟨a, rfl, hp⟩) (fun w w' v hg h => by obtain ⟨a, rfl, hn, hp⟩ := h; exact ⟨a, rfl, hn, hg _ hp⟩)
theorem zeroIntC (w : World) : (zeroValue 3).run Try.prog w = .ok (.int .i64 0) w := by kernel_rfl
def cntC (e : Ex) : Value := .int .i64 e.count
/-- All that the map holds is right. -/
def FinC (w : World) (f : Value → Option Value) : Prop := ∀ k u, f k = some u → ∃ p d e, k = .pointer (some p) ∧ NodeAt w d p e ∧ u = cntC e
theorem FinC.set {w : World} {f : Value → Option Value} (h : FinC w f) {p : Addr} {d : Nat} {e : Ex} (hn : NodeAt w d p e) : FinC w (setAt f (.pointer (some p)) (cntC e)) := by
  intro k u hk
  unfold setAt at hk
  split at hk
  · rename_i hh
    cases hk
    exact ⟨p, d, e, hh, hn, rfl⟩
  · exact h k u hk
theorem countL_take_le (l : List Ex) (n : Nat) : Ex.countL (l.take n) ≤ Ex.countL l := by
  induction l generalizing n with
  | nil => simp
  | cons x r ih =>
    cases n with
    | zero => simp [Ex.countL]
    | succ n => rw [List.take_succ_cons, Ex.countL, Ex.countL]; have := ih n; omega

set_option maxHeartbeats 6400000 in
theorem codeCount_any (w0 : World) (M : Nat) (hM : w0.heap.size ≤ M) : ∀ (d : Nat) (a : Option Addr) (cap : Nat) (es : List Ex) (f : Value → Option Value) (w : World), KidsAt w0 (Pl w0) d (.slice a es.length cap) es → Below w0.heap.size w0 w → PtMap (PtrC w0.heap.size) w M f → FinC w0 f → Ex.countL es ≤ 2000000 →
    Calls Try.prog 62 #[.slice a es.length cap, .map (some M)] w fun r w' => r = .returned (.int .i64 (Ex.countL es : Int)) ∧ ∃ f', PtMap (PtrC w0.heap.size) w' M f' ∧ FinC w0 f' ∧ w.grownBy w' (some M)
  | 0, _, _, _, _, _, hk, _, _, _, _ => hk.elim
  | d + 1, a, cap, es, f, w, hk, hb, hm, hf, hc => by
    have ih := codeCount_any w0 M hM d
    obtain ⟨a', cap', hv, hl, hcc⟩ := hk
    simp only [Value.slice.injEq, true_and] at hv
    obtain ⟨rfl, rfl⟩ := hv
    have hlen : es.length ≤ 2000000 := by
      have : ∀ l : List Ex, l.length ≤ Ex.countL l := by
        intro l
        induction l with
        | nil => simp
        | cons x r ih => rw [Ex.countL, List.length_cons]; have := Ex.count_eq x; omega
      exact Nat.le_trans (this es) hc
    have HC := (show Hid (_ ∧ _ ∧ _ ∧ _ ∧ _) from ⟨hcc, ih, hm, hf, hb⟩)
    clear hcc ih hm hf hb hl
    go_enter Try.func62, Try.ntmps62
    go_wp2
    go_loopw [5, 11] (fun sv i wr => ∃ (k : Nat) (f' : Value → Option Value), k ≤ es.length ∧ i = .int .i64 k ∧ sv = .int .i64 (Ex.countL (es.take k) : Int) ∧ PtMap (PtrC w0.heap.size) wr M f' ∧ FinC w0 f' ∧ w.grownBy wr (some M)) (fun _ i _ => es.length - (intOf i).toNat)
    case atStart => exact ⟨0, f, Nat.zero_le _, rfl, by simp [Ex.countL], HC.out.2.2.1, HC.out.2.2.2.1, World.grownBy.refl _ _⟩
    case round =>
      obtain ⟨k, f', hk, rfl, rfl, hm, hf, hg⟩ := hrel
      have hbw : Below w0.heap.size w0 wr := HC.out.2.2.2.2.grown hg HC.out.2.2.2.2.size (fun q hq => by cases hq; exact hM)
      by_cases hkl : k < es.length
      · have he := List.getElem?_eq_getElem hkl
        have hct := Ex.countL_take es k _ he
        have hcl := Nat.le_trans (countL_take_le es (k + 1)) hc
        generalize es[k] = x at *
        obtain ⟨b, off, kv, rfl, hSb, hlt, c0, c1, c2, c3, r1, r2, r3, hkk⟩ := HC.out.1 k x he
        have hnode : NodeAt w0 d ⟨b, off + k * 4, none⟩ x := ⟨b, off + k * 4, kv, rfl, hSb, c0, c1, c2, c3, r1, r2, r3, hkk⟩
        have hkey : PtrC w0.heap.size wr (.pointer (some ⟨b, off + k * 4, none⟩)) := ⟨_, rfl, hlt, hSb.below hbw⟩
        have hlk := hm.look (keysPtrC _) Try.underlying106 (zeroIntC _) hkey true
        have hlt' : ((k : Nat) : Int) < ((es.length : Nat) : Int) := by omega
        rw [hct] at hcl
        have hxc := Ex.count_eq x
        cases hfk : f' (.pointer (some ⟨b, off + k * 4, none⟩)) with
        | some u =>
          obtain ⟨p', d', e', hp', hn', rfl⟩ := hf _ _ hfk
          cases hp'
          obtain rfl := hn'.count hnode
          rw [hfk] at hlk
          simp only [if_true, Option.getD_some, Option.isSome_some, cntC] at hlk
          have HR := (show Hid (_ ∧ _ ∧ _ ∧ _) from ⟨hm, hf, hg, hct⟩)
          clear hm hf hg hct hnode hkey hn' hfk he c0 c1 c2 c3 hkk HC hbw hxc
          generalize Ex.countL (es.take k) = s0 at *
          generalize e'.count = n0 at *
          have hmn : min ((s0 : Int) + n0) 1073741825 = (s0 : Int) + n0 := by omega
          go_wp2
          refine ⟨⟨k + 1, f', by omega, by go_num, by rw [HR.out.2.2.2]; go_num, HR.out.1, HR.out.2.1, HR.out.2.2.1⟩, by simp [intOf]; omega⟩
        | none =>
          rw [hfk] at hlk
          simp only [if_true, Option.getD_none, Option.isSome_none] at hlk
          rw [← hbw.cell (by exact hlt)] at c3
          cases d with
          | zero => exact hkk.elim
          | succ d =>
            obtain ⟨ka, kc, rfl⟩ := hkk.form
            have hrec := HC.out.2.1 ka kc x.kids f' wr hkk hbw hm hf (by omega)
            have HR := (show Hid (_ ∧ _ ∧ _ ∧ _) from ⟨hrec, hnode, hg, hct⟩)
            have HK := (show Hid (_ ∧ _ ∧ _) from ⟨hkey, hxc, hbw.size⟩)
            clear hm hf hg hct hnode hfk he c0 c1 c2 hkk hbw hrec hkey hxc
            go_wp2_with (first
              | (go_at_call 62; refine HR.out.1.mono ?_; rintro e w2 ⟨rfl, f2, hm2, hf2, hg2⟩)
              | (at_mapUpdate; refine wpList_mapUpdate_pt _ rfl _ _ _ 106 rfl 3 (keysPtrC _) Try.underlying106 M f2 rfl hm2 _ _ rfl rfl (HK.out.1.kept (fun q hq => hg2.block q (by have := HK.out.2.2; omega) (fun e => by cases e; omega))) ?_; intro w3 hm3 hg3))
            have hxc := HK.out.2.1
            have hval : Value.int .i64 (wrap64 (1 + (Ex.countL x.kids : Int))) = cntC x := by
              unfold cntC
              rw [hxc, wrapC _ (by omega) (by omega)]
              rfl
            rw [hval] at hm3
            refine ⟨⟨k + 1, _, by omega, by go_num, ?_, hm3, hf2.set HR.out.2.1, ?_⟩, by simp [intOf]; omega⟩
            · rw [HR.out.2.2.2, hxc]
              rw [hxc] at hcl
              generalize Ex.countL (es.take k) = s0 at *
              generalize Ex.countL x.kids = n0 at *
              rw [wrapC (1 + (n0 : Int)) (by omega) (by omega), wrapC _ (by omega) (by omega), if_neg (by omega)]
              rfl
            · exact grown_two (grown_two HR.out.2.2.1 hg2 (fun g hg => .inl hg)) hg3.grown (fun g hg => .inl hg)
      · obtain rfl : k = es.length := by omega
        rw [List.take_length]
        have HR := (show Hid (_ ∧ _ ∧ _) from ⟨hm, hf, hg⟩)
        clear hm hf hg HC hbw
        go_wp2
        go_ret
        exact ⟨rfl, f', HR.out.1, HR.out.2.1, HR.out.2.2⟩
end Go.Proofs.Ytdadppjncdkpiaa
