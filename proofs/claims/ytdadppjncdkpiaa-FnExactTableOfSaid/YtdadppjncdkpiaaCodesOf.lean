/-
  codesOf: what it hands back tells all codes of the bodies, one behind the other.
-/
import Derived.Test.YtdadppjncdkpiaaImplTell
namespace Go.Proofs.Ytdadppjncdkpiaa
open Go.RowKit Go.Joins Go.Shelf

set_option maxRecDepth 100000
attribute [local go_sem] Oper.semAt_some

set_option maxHeartbeats 1600000 in
theorem codesOf1_any (w : World) (n₀ d Bb : Nat) (a : Option Addr) (cap : Nat) (es : List Ex) (hn : n₀ ≤ w.heap.size) (hBb : w.heap[Bb]? = some (.cells #[.slice a es.length cap] 51 (0, 0))) (hk : KidsAt w (fun b => b < n₀) (d + 1) (.slice a es.length cap) es) (hcnt : Ex.countL es ≤ 2000000) :
    TellSeq Try.prog 129 #[.pointer (some ⟨Bb, 0, none⟩)] encT OT n₀ (Ex.toldL (-1) 0 es) w := by
  intro l n J W hW hJ hY h0
  have hxl : (Ex.toldL (-1) 0 es).length ≤ 2000000 := by rw [Ex.toldL_len]; exact hcnt
  have hlt := (Array.getElem?_eq_some_iff.1 hBb).1
  have hbox : W.heap[Bb]? = some (.cells #[.slice a es.length cap] 51 (0, 0)) := (hW.block _ hlt).trans hBb
  have hBW : Below n₀ w W := hW.mono hn
  have hs := hW.size
  have hT := tell_any w n₀ l W.heap.size J (Ex.toldL (-1) 0 es) (by omega) hxl hJ hY d
  have hT0 : TellerAt (W.alloc (.cells #[.int .i64 0, .func (.yield l) #[] #[]] 197)) W.heap.size l 0 := (MapKept.heap_alloc W _).1
  have hJ0 := hJ _ _ _ h0 (StepI.alloc OT W (.cells #[.int .i64 0, .func (.yield l) #[] #[]] 197) (by omega))
  have hB0 : Below n₀ w (W.alloc (.cells #[.int .i64 0, .func (.yield l) #[] #[]] 197)) := hBW.alloc (by omega) _
  have hbox0 : (W.alloc (.cells #[.int .i64 0, .func (.yield l) #[] #[]] 197)).heap[Bb]? = some (.cells #[.slice a es.length cap] 51 (0, 0)) := (Below.heap_alloc _ _ _ (by omega)).trans hbox
  have x0 : (W.alloc (.cells #[.int .i64 0, .func (.yield l) #[] #[]] 197)).cell? ⟨Bb, 0, none⟩ = some (.slice a es.length cap) := by rw [cell_of_block hbox0]; rfl
  obtain ⟨a', cap', hv, hl, hc⟩ := hk
  cases hv
  unfold maxLen at hl
  have hct := Ex.countL_take es
  have hst : ∀ (p : Addr) (v : World), (store p (.func (.yield l) #[] #[]) .plain).run Try.prog v = stored Try.prog v p (.func (.yield l) #[] #[]) .plain := fun p v => run_store Try.prog v p _ .plain rfl
  have HH := (show Hid (_ ∧ _ ∧ _ ∧ _ ∧ _ ∧ _) from ⟨hT, hT0, hJ0, hB0, hbox0, hc⟩)
  clear hT hT0 hJ0 hB0 hbox0 hc hY hJ h0 hW hBW hbox hBb
  refine callsIn_of_wp Try.func129 rfl trivial ?_ rfl
  simp only [Try.ntmps129, List.size_toArray, List.length_cons, List.length_nil, Nat.reduceAdd, Nat.reduceSub, Array.replicate_succ, Array.replicate_zero, List.push_toArray, List.append_toArray, List.nil_append, List.cons_append]
  gi_wp2
  clear hst
  gi_loopw [4, 9] (fun _ i wr => ∃ j : Nat, j ≤ es.length ∧ i = .int .i64 j ∧ J (Ex.toldL (-1) 0 (es.take j)) wr ∧ TellerAt wr W.heap.size l (Ex.countL (es.take j)) ∧ Below n₀ w wr ∧ wr.heap[Bb]? = some (.cells #[.slice a es.length cap] 51 (0, 0))) (fun _ i _ => es.length - (intOf i).toNat)
  case atStart =>
    refine ⟨0, Nat.zero_le _, rfl, ?_, ?_, HH.out.2.2.2.1, HH.out.2.2.2.2.1⟩
    · rw [List.take_zero, Ex.toldL]; exact HH.out.2.2.1
    · rw [List.take_zero, Ex.countL]; exact HH.out.2.1
  case round =>
    obtain ⟨j, hjl, rfl, hjr, hTr, hBr, hbr⟩ := hrel
    have x1 : wr.cell? ⟨Bb, 0, none⟩ = some (.slice a es.length cap) := by rw [cell_of_block hbr]; rfl
    by_cases hlt : j < es.length
    · have he := List.getElem?_eq_getElem hlt
      have hcy := hct j _ he
      have htk : es.take (j + 1) = es.take j ++ [es[j]] := List.take_succ_eq_append_getElem hlt
      generalize es[j] = y at *
      obtain ⟨b', off', kv', rfl, hS', hl1, k0, k1, k2, k3, q1, q2, q3, kk⟩ := HH.out.2.2.2.2.2 j y he
      have hpl : (Ex.toldL (-1) 0 (es.take j)).length = Ex.countL (es.take j) := Ex.toldL_len _ _ _
      have hnext : Ex.toldL (-1) 0 (es.take j) ++ y.told (-1) (Ex.countL (es.take j)) = Ex.toldL (-1) 0 (es.take (j + 1)) := by
        rw [htk, toldL_snoc]; simp
      have hF := HH.out.1 (n - 1) b' (off' + j * 4) kv' y (-1) _ wr hS' k0 k1 k2 k3 kk hBr (by rw [hpl]; exact hTr) hjr (by rw [hpl, hnext]; exact toldL_take _ _ _ _)
      rw [hpl, hnext] at hF
      have HF := (show Hid (_ ∧ _ ∧ _) from ⟨hF, hcy, hbr⟩)
      have hlt' : ((j : Nat) : Int) < ((es.length : Nat) : Int) := by omega
      clear hF hjr hTr hBr k0 k1 k2 k3 q1 q2 q3 kk htk hnext he hcy hpl hct hbr x0
      gi_wp2_with fail
      refine ⟨trivial, fun h => (by cases h), ?_⟩
      refine HF.out.1.mono ?_
      rintro r W2 ⟨rfl, hj2, hT2, hB2, hK2⟩
      gi_wp2
      refine ⟨⟨j + 1, by omega, by go_num, hj2, ?_, hB2, hK2 _ _ _ HF.out.2.2⟩, by simp [intOf]; omega⟩
      rw [HF.out.2.1]
      exact hT2
    · obtain rfl : j = es.length := by omega
      rw [List.take_length] at hjr
      have HR := (show Hid (_ ∧ True) from ⟨hjr, trivial⟩)
      clear hjr hTr hBr hct hbr
      gi_wp2
      go_end0
      exact ⟨⟨_, rfl⟩, HR.out.1⟩

theorem codesOf_any (n : Nat) (a : Option Addr) (m cap : Nat) (w : World) :
    CallsIn Fence.wide n Try.prog 108 #[.slice a m cap] w fun e w' => e = .returned (.func (.func 129) #[] #[.pointer (some ⟨w.heap.size, 0, none⟩)]) ∧ w' = w.alloc (.cells #[.slice a m cap] 51) := by
  refine callsIn_of_wp Try.func108 rfl trivial ?_ rfl
  simp only [Try.ntmps108, List.size_toArray, List.length_cons, List.length_nil, Nat.reduceAdd, Nat.reduceSub, Array.replicate_succ, Array.replicate_zero, List.push_toArray, List.append_toArray, List.nil_append, List.cons_append]
  gi_wp2
  go_ret
  exact ⟨rfl, rfl⟩
end Go.Proofs.Ytdadppjncdkpiaa
