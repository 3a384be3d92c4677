/-
  Of lexing in plain words: the lines of the words never fall; a text that lexes does so with a blank, a line and a blank behind it, into as many words.
-/
import Derived.Test.YtfnnodaggjgkfaaGreatDoorLexDef
import Derived.Test.YtfnnodaggjgkfaaGreatDoorRead
import Derived.Lib.IndexBytes
namespace Go.Proofs.YtfnnodaggjgkfaaGreatDoor

set_option maxRecDepth 100000

def Rising (ts : List Tok) : Prop := ∀ k t u, ts[k]? = some t → ts[k + 1]? = some u → t.line ≤ u.line
theorem rising_snoc {ts : List Tok} {t : Tok} (h : Rising ts) (hb : ∀ u ∈ ts, u.line ≤ t.line) : Rising (ts ++ [t]) := by
  intro k a b ha hb'
  by_cases hk : k + 1 < ts.length
  · rw [List.getElem?_append_left (by omega)] at ha
    rw [List.getElem?_append_left hk] at hb'
    exact h k a b ha hb'
  · have hl := (List.getElem?_eq_some_iff.1 hb').1
    simp at hl
    have hlen : ts.length = k + 1 := by omega
    rw [List.getElem?_append_left (by omega)] at ha
    rw [List.getElem?_append_right (by omega)] at hb'
    rw [show k + 1 - ts.length = 0 by omega] at hb'
    obtain rfl : t = b := by simpa using hb'
    exact hb a (List.mem_of_getElem? ha)

theorem lexS_facts (s : ByteArray) : ∀ (f i : Nat) (ln : Int) (acc : List Tok), 1 ≤ ln → i ≤ s.size → Rising acc → (∀ u ∈ acc, u.line ≤ ln) → acc.length ≤ i →
    Rising (lexS s f i ln acc).1 ∧ (lexS s f i ln acc).1.length ≤ s.size ∧ ((lexS s f i ln acc).2 ≠ 0 → (lexS s f i ln acc).1 = [])
  | 0, i, ln, acc, hl, hi, h1, h2, h3 => ⟨h1, by simp only [lexS]; omega, fun h => absurd rfl h⟩
  | f + 1, i, ln, acc, hl, hi, h1, h2, h3 => by
    rw [lexS]
    by_cases hlt : i < s.size
    · rw [if_pos hlt]
      by_cases hb : ((s.data.toList.getD i 0).toNat : Int) = 32
      · rw [if_pos hb]; exact lexS_facts s f (i + 1) ln acc hl (by omega) h1 h2 (by omega)
      · rw [if_neg hb]
        by_cases hc : ((s.data.toList.getD i 0).toNat : Int) = 10
        · rw [if_pos hc]; exact lexS_facts s f (i + 1) (ln + 1) acc (by omega) (by omega) h1 (fun u hu => by have := h2 u hu; omega) (by omega)
        · rw [if_neg hc]
          by_cases hz : (firstNx (s.extract i s.size)).len = 0
          · rw [if_pos hz]; exact ⟨fun k t u ht => by simp at ht, Nat.zero_le _, fun _ => rfl⟩
          · rw [if_neg hz]
            have hsz : (s.extract i s.size).size = s.size - i := by simp
            have := firstNx_len (s.extract i s.size) (by omega)
            refine lexS_facts s f _ ln _ hl (by omega) (rising_snoc h1 h2) (fun u hu => ?_) (by simp; omega)
            rcases List.mem_append.1 hu with h | h
            · exact h2 u h
            · rw [List.mem_singleton.1 h]; exact Int.le_refl _
    · rw [if_neg hlt]; exact ⟨h1, by simp only; omega, fun h => absurd rfl h⟩

theorem lexR_facts (s : ByteArray) : Rising (lexR s).1 ∧ (lexR s).1.length ≤ s.size ∧ ((lexR s).2 ≠ 0 → (lexR s).1 = []) := by
  unfold lexR
  split
  · exact ⟨fun k t u ht => by simp at ht, Nat.zero_le _, fun _ => rfl⟩
  · exact lexS_facts s s.size 0 1 [] (by omega) (by omega) (fun k t u ht => by simp at ht) (fun u hu => by simp at hu) (by simp)

theorem takeWhile_more {α : Type} (p : α → Bool) (c : α) (r : List α) (hc : p c = false) : ∀ l : List α, (l ++ c :: r).takeWhile p = l.takeWhile p
  | [] => by simp [hc]
  | a :: l => by
    rw [List.cons_append, List.takeWhile_cons, List.takeWhile_cons, takeWhile_more p c r hc l]

theorem ext_left (x t : ByteArray) (k : Nat) (hk : k ≤ x.size) : (x ++ t).extract 0 k = x.extract 0 k := by
  apply ByteArray.ext
  apply Array.ext'
  have : k ≤ x.data.toList.length := by simpa using hk
  rw [Go.Lib.extract_data, Go.Lib.extract_data]
  simp only [ByteArray.data_append, Array.toList_append, List.drop_zero, Nat.sub_zero]
  rw [List.take_append_of_le_length (by simpa using this)]

theorem firstNx_more (x t : ByteArray) (r : List UInt8) (hx : 1 ≤ x.size) (ht : t.data.toList = 32 :: r) : firstNx (x ++ t) = firstNx x := by
  have hd : (x ++ t).data.toList = x.data.toList ++ 32 :: r := by rw [ByteArray.data_append, Array.toList_append, ht]
  have h0 : (x ++ t).data.toList.getD 0 0 = x.data.toList.getD 0 0 := by
    have : 0 < x.data.toList.length := by simp; omega
    rw [hd, List.getD, List.getD, List.getElem?_append_left this]
  have hn : nameLen (x ++ t).data.toList = nameLen x.data.toList := by unfold nameLen; rw [hd, takeWhile_more nmb 32 r (by decide)]
  have hg : digsLen (x ++ t).data.toList = digsLen x.data.toList := by unfold digsLen; rw [hd, takeWhile_more dgb 32 r (by decide)]
  have hnl := nameLen_le x
  have hdl := digsLen_le x
  have hne : (x ++ t).extract 0 (nameLen x.data.toList) = x.extract 0 (nameLen x.data.toList) := ext_left x t _ hnl
  have htk : (x ++ t).data.toList.take (digsLen x.data.toList) = x.data.toList.take (digsLen x.data.toList) := by
    rw [hd, List.take_append_of_le_length (by simpa using hdl)]
  have hsize : (x ++ t).size = x.size + t.size := ByteArray.size_append
  have hts : t.size = r.length + 1 := by have := congrArg List.length ht; simpa using this
  unfold firstNx
  rw [h0]
  split
  · unfold letterNx; rw [hn, hne]
  · split
    · unfold numberNx; rw [hg, htk]
    · unfold signNx
      rw [ext_left x t 1 hx]
      by_cases h2 : 2 ≤ x.size
      · rw [ext_left x t 2 h2]
        have e : (2 ≤ (x ++ t).size) = (2 ≤ x.size) := by rw [hsize]; exact propext ⟨fun _ => h2, fun _ => by omega⟩
        simp only [e]
      · have hno : isSg ((x ++ t).extract 0 2) = false := by
          have hl : x.data.toList.length = 1 := by simp; omega
          obtain ⟨a, ha⟩ : ∃ a, x.data.toList = [a] := List.length_eq_one_iff.1 hl
          have : ((x ++ t).extract 0 2).toList = [a, 32] := by
            rw [ByteArray.toList_eq, Go.Lib.extract_data, hd, ha]; simp
          unfold isSg
          rw [this]
          simp [signs]
        rw [hno]
        rw [if_neg (c := 2 ≤ (x ++ t).size ∧ false = true) (fun e => absurd e.2 Bool.false_ne_true), if_neg (c := 2 ≤ x.size ∧ isSg (x.extract 0 2) = true) (fun e => h2 e.1)]

theorem ext_tail (s t : ByteArray) (i : Nat) (hi : i ≤ s.size) : (s ++ t).extract i (s ++ t).size = s.extract i s.size ++ t := by
  apply ByteArray.ext
  apply Array.ext'
  rw [ByteArray.data_append, Array.toList_append, Go.Lib.extract_to_end, Go.Lib.extract_to_end, ByteArray.data_append, Array.toList_append, List.drop_append_of_le_length (by simpa using hi)]

abbrev tail3 : ByteArray := ⟨#[32, 10, 32]⟩
theorem lexS_tail (s : ByteArray) (g : Nat) (ln : Int) (acc : List Tok) : lexS (s ++ tail3) (g + 3) s.size ln acc = (acc, 0) := by
  have hsize : (s ++ tail3).size = s.size + 3 := ByteArray.size_append
  have hg : ∀ j c, tail3.data.toList[j]? = some c → (s ++ tail3).data.toList.getD (s.size + j) 0 = c := fun j c hj => by
    rw [ByteArray.data_append, Array.toList_append, List.getD, List.getElem?_append_right (by simp), show s.size + j - s.data.toList.length = j by simp, hj]
    rfl
  have g0 := hg 0 32 rfl
  have g1 := hg 1 10 rfl
  have g2 := hg 2 32 rfl
  rw [Nat.add_zero] at g0
  rw [lexS, if_pos (by omega), g0, if_pos (by decide), lexS, if_pos (by omega), g1, if_neg (by decide), if_pos (by decide), lexS, if_pos (by omega), g2, if_pos (by decide), lexS_end _ _ _ _ _ (by omega)]

theorem lexS_more (s : ByteArray) : ∀ (f g i : Nat) (ln : Int) (acc : List Tok), 1 ≤ ln → i ≤ s.size → s.size - i ≤ f → s.size - i + 3 ≤ g → (lexS s f i ln acc).2 = 0 →
    lexS (s ++ tail3) g i ln acc = ((lexS s f i ln acc).1, 0)
  | f, g, i, ln, acc, hl, hi, hf, hg, h0 => by
    have hsize : (s ++ tail3).size = s.size + 3 := ByteArray.size_append
    by_cases hlt : i < s.size
    · obtain ⟨f, rfl⟩ : ∃ f', f = f' + 1 := ⟨f - 1, by omega⟩
      obtain ⟨g, rfl⟩ : ∃ g', g = g' + 1 := ⟨g - 1, by omega⟩
      have hat : (s ++ tail3).data.toList.getD i 0 = s.data.toList.getD i 0 := by
        have : i < s.data.toList.length := by simpa using hlt
        rw [ByteArray.data_append, Array.toList_append, List.getD, List.getD, List.getElem?_append_left this]
      have hsz : (s.extract i s.size).size = s.size - i := by simp
      have hle := firstNx_len (s.extract i s.size) (by omega)
      have hfi : firstNx ((s ++ tail3).extract i (s ++ tail3).size) = firstNx (s.extract i s.size) := by
        rw [ext_tail s tail3 i hi]; exact firstNx_more _ _ [10, 32] (by omega) rfl
      rw [lexS, if_pos hlt] at h0
      rw [lexS, if_pos (by omega), hat, hfi]
      rw [lexS, if_pos hlt]
      by_cases hc1 : ((s.data.toList.getD i 0).toNat : Int) = 32
      · simp only [if_pos hc1] at h0 ⊢
        exact lexS_more s f g (i + 1) ln acc hl (by omega) (by omega) (by omega) h0
      · by_cases hc2 : ((s.data.toList.getD i 0).toNat : Int) = 10
        · simp only [if_neg hc1, if_pos hc2] at h0 ⊢
          exact lexS_more s f g (i + 1) (ln + 1) acc (by omega) (by omega) (by omega) (by omega) h0
        · by_cases hc3 : (firstNx (s.extract i s.size)).len = 0
          · simp only [if_neg hc1, if_neg hc2, if_pos hc3] at h0; omega
          · simp only [if_neg hc1, if_neg hc2, if_neg hc3] at h0 ⊢
            exact lexS_more s f g _ ln _ hl (by omega) (by omega) (by omega) h0
    · obtain rfl : i = s.size := by omega
      rw [lexS_end s f _ _ _ (by omega)]
      obtain ⟨g', rfl⟩ : ∃ g', g = g' + 3 := ⟨g - 3, by omega⟩
      exact lexS_tail s g' ln acc
  termination_by f => f

theorem lexR_more (s : ByteArray) (hs : s.size ≤ 1997) (h0 : (lexR s).2 = 0) : lexR (s ++ tail3) = ((lexR s).1, 0) := by
  have hsize : (s ++ tail3).size = s.size + 3 := ByteArray.size_append
  unfold lexR at h0 ⊢
  rw [if_neg (by omega)] at h0
  rw [if_neg (by omega), if_neg (by omega)]
  exact lexS_more s s.size (s ++ tail3).size 0 1 [] (by omega) (by omega) (by omega) (by omega) h0

theorem readD_back (r : ByteArray) (h : 0 ≤ readD r) : itoaB (readD r) = r := by
  unfold readD at h ⊢
  split at h
  · omega
  · split at h
    · rw [if_neg (by assumption), if_pos (by assumption)]
      have e := eq_of_beq (by assumption : ((itoaB (digitsV r)).toList == r.toList) = true)
      rw [ByteArray.toList_eq, ByteArray.toList_eq] at e
      exact ByteArray.ext (Array.ext' e)
    · omega
theorem readD_bd (r : ByteArray) : -1 ≤ readD r ∧ readD r < 1000000000 := by
  have := digitsV_bd r
  unfold readD
  split
  · omega
  · split <;> omega
theorem name_word (n : ByteArray) : isW n = false ∨ nameOk n = false := by
  unfold nameOk
  cases isW n <;> simp
end Go.Proofs.YtfnnodaggjgkfaaGreatDoor
