/-
  What the law of links asks, in plain words: a right link stays right, what comes twice is new once, what is sent stands last and goes when it is acknowledged.
  A link that is being drawn: its box, its rows, and what each change makes of them.
-/
import Derived.Test.YtlbinamlehapoaaGreatDoorNB
import Derived.Test.YtlbinamlehapoaaGreatDoorLinkSendS
import Derived.Test.YtlbinamlehapoaaGreatDoorNH
import Derived.Test.YtlbinamlehapoaaGreatDoorNE
import Derived.Test.YtlbinamlehapoaaGreatDoorNF
import Derived.Test.YtlbinamlehapoaaGreatDoorNL
namespace Go.Proofs.YtlbinamlehapoaaGreatDoor
open Go.RowKit Go.Joins

set_option maxRecDepth 100000

theorem asc_iff : ∀ (l : List Int) (a b : Int), ascB l a b = true ↔ (l.Pairwise (· < ·) ∧ ∀ z ∈ l, a ≤ z ∧ z ≤ b)
  | [], a, b => ⟨fun _ => ⟨List.Pairwise.nil, fun z hz => by cases hz⟩, fun _ => rfl⟩
  | n :: r, a, b => by
    rw [ascB, Bool.and_eq_true, asc_iff r (n + 1) b]
    unfold inB
    simp only [Bool.and_eq_true, decide_eq_true_eq, List.pairwise_cons, List.mem_cons]
    constructor
    · rintro ⟨⟨h1, h2⟩, h3, h4⟩
      refine ⟨⟨fun z hz => by have := h4 z hz; omega, h3⟩, fun z hz => ?_⟩
      rcases hz with rfl | hz
      · exact ⟨h1, h2⟩
      · have := h4 z hz
        omega
    · rintro ⟨⟨h1, h2⟩, h3⟩
      exact ⟨h3 n (.inl rfl), h2, fun z hz => by have := h1 z hz; have := h3 z (.inr hz); omega⟩
theorem Se.parts {s : Se} (h : s.ok = true) : (1 ≤ s.low ∧ s.low ≤ 1000000) ∧ s.ids.length ≤ 60 ∧ s.ids.Pairwise (· < ·) ∧ ∀ z ∈ s.ids, s.low ≤ z ∧ z ≤ 999999 := by
  unfold Se.ok inB at h
  simp only [Bool.and_eq_true, decide_eq_true_eq, asc_iff] at h
  exact ⟨h.1.1, by omega, h.2.1, h.2.2⟩
theorem Se.of_parts {s : Se} (h : (1 ≤ s.low ∧ s.low ≤ 1000000) ∧ s.ids.length ≤ 60 ∧ s.ids.Pairwise (· < ·) ∧ ∀ z ∈ s.ids, s.low ≤ z ∧ z ≤ 999999) : s.ok = true := by
  unfold Se.ok inB
  simp only [Bool.and_eq_true, decide_eq_true_eq, asc_iff]
  exact ⟨⟨h.1, by omega⟩, h.2.2.1, h.2.2.2⟩
theorem upTo_ge (a b : Int) : a ≤ upTo a b ∧ b ≤ upTo a b ∧ (upTo a b = a ∨ upTo a b = b) := by
  unfold upTo
  split <;> omega
theorem lift_ok {s : Se} {low : Int} (h : s.ok = true) (h1 : low ≤ 1000000) : (s.lift low).ok = true := by
  obtain ⟨p1, p2, p3, p4⟩ := Se.parts h
  have hu := upTo_ge s.low low
  refine Se.of_parts ⟨⟨?_, ?_⟩, ?_, ?_, fun z hz => ?_⟩
  · show 1 ≤ upTo s.low low; omega
  · show upTo s.low low ≤ 1000000; omega
  · exact Nat.le_trans (List.length_filter_le _ _) p2
  · exact p3.filter _
  · have hz' := List.mem_filter.1 hz
    exact ⟨of_decide_eq_true hz'.2, (p4 z hz'.1).2⟩
theorem lift_low (s : Se) (low : Int) : low ≤ (s.lift low).low := (upTo_ge s.low low).2.1
theorem lift_self {s : Se} {low : Int} (h : s.ok = true) (hl : low ≤ s.low) : s.lift low = s := by
  obtain ⟨p1, p2, p3, p4⟩ := Se.parts h
  have hu : upTo s.low low = s.low := by unfold upTo; split <;> omega
  unfold Se.lift
  rw [hu, List.filter_eq_self.2 (fun z hz => by simpa using (p4 z hz).1)]
theorem take_place (l : List Int) (q : Int) : l.take (placeL l q) = l.takeWhile (fun z => decide (z < q)) :=
  (List.prefix_iff_eq_take.1 (List.takeWhile_prefix _)).symm
theorem put_ok {s : Se} {q : Int} (h : s.ok = true) (hh : s.has q = false) (h6 : ¬ 60 ≤ s.ids.length) (hq : q ≤ 999999) : (s.put q).ok = true := by
  obtain ⟨p1, p2, p3, p4⟩ := Se.parts h
  unfold Se.has at hh
  simp only [Bool.or_eq_false_iff, decide_eq_false_iff_not, List.contains_eq_mem] at hh
  obtain ⟨hl, hn⟩ := hh
  have ht : ∀ z ∈ s.ids.take (placeL s.ids q), z < q := fun z hz => by
    rw [take_place] at hz
    have := List.all_eq_true.1 (List.all_takeWhile (p := fun z : Int => decide (z < q)) (l := s.ids)) z hz
    simpa using this
  have hd : ∀ z ∈ s.ids.drop (placeL s.ids q), q < z := fun z hz => by
    have h1 : z ∈ s.ids := List.mem_of_mem_drop hz
    rw [← count_place p3, count_drop p3] at hz
    have h2 := of_decide_eq_true (List.mem_filter.1 hz).2
    have h3 : z ≠ q := fun e => hn (e ▸ h1)
    omega
  have hsp : (s.ids.take (placeL s.ids q) ++ s.ids.drop (placeL s.ids q)).Pairwise (· < ·) := by rw [List.take_append_drop]; exact p3
  rw [List.pairwise_append] at hsp
  refine Se.of_parts ⟨p1, ?_, ?_, fun z hz => ?_⟩
  · show (s.ids.take (placeL s.ids q) ++ q :: s.ids.drop (placeL s.ids q)).length ≤ 60
    rw [List.length_append, List.length_cons, List.length_take, List.length_drop]
    omega
  · show (s.ids.take (placeL s.ids q) ++ q :: s.ids.drop (placeL s.ids q)).Pairwise (· < ·)
    rw [List.pairwise_append, List.pairwise_cons]
    refine ⟨hsp.1, ⟨hd, hsp.2.1⟩, fun a ha b hb => ?_⟩
    have h1 := ht a ha
    rcases List.mem_cons.1 hb with rfl | hb
    · exact h1
    · have := hd b hb
      omega
  · show s.low ≤ z ∧ z ≤ 999999
    have hz' : z ∈ s.ids.take (placeL s.ids q) ++ q :: s.ids.drop (placeL s.ids q) := hz
    rw [List.mem_append, List.mem_cons] at hz'
    rcases hz' with hz' | rfl | hz'
    · exact p4 z (List.mem_of_mem_take hz')
    · omega
    · exact p4 z (List.mem_of_mem_drop hz')
theorem put_has (s : Se) (q : Int) : (s.put q).has q = true := by
  unfold Se.has Se.put
  simp
theorem set_ok {l : Lk} {f : Nat} {s : Se} (h : l.ok = true) (hs : s.ok = true) : (l.setSe f s).ok = true := by
  unfold Lk.ok Lk.outOk at h ⊢
  unfold Lk.setSe
  simp only [List.length_set] at h ⊢
  rw [Bool.and_eq_true] at h ⊢
  refine ⟨h.1, List.all_eq_true.2 (fun z hz => ?_)⟩
  rcases List.mem_or_eq_of_mem_set hz with h1 | h1
  · exact List.all_eq_true.1 h.2 z h1
  · rw [h1]; exact hs
theorem takes_parts {l : Lk} {p : Pa} (h : l.takes p = true) : l.ok = true ∧ p.ok = true ∧ p.kind = 0 ∧ p.dst = l.id ∧ p.frm < l.seen.length ∧ 0 ≤ p.frm ∧ p.seq ≤ 999999 ∧ p.low ≤ p.seq := by
  unfold Lk.takes at h
  simp only [Bool.and_eq_true, beq_iff_eq, decide_eq_true_eq] at h
  obtain ⟨⟨⟨⟨h1, h2⟩, h3⟩, h4⟩, h5⟩ := h
  have h6 := h2
  unfold Pa.ok apartB nodeOk inB at h6
  rw [if_pos h3] at h6
  simp only [Bool.and_eq_true, decide_eq_true_eq] at h6
  have h7 := h6.2
  unfold Pa.data inB at h7
  simp only [Bool.and_eq_true, decide_eq_true_eq] at h7
  exact ⟨h1, h2, h3, h4, h5, by omega, by omega, by omega⟩
theorem seenOf_ok {l : Lk} {p : Pa} (h : l.takes p = true) : (l.seenOf p).ok = true ∧ p.low ≤ (l.seenOf p).low ∧ p.frm.toNat < l.seen.length := by
  obtain ⟨h1, h2, h3, h4, h5, h6, h7, h8⟩ := takes_parts h
  have hl : p.frm.toNat < l.seen.length := by omega
  have hs : (l.seen.getD p.frm.toNat ⟨0, []⟩).ok = true := by
    rw [List.getD_eq_getElem?_getD, List.getElem?_eq_getElem hl]
    exact List.all_eq_true.1 (Lk.parts h1).2.2.2.2.2 _ (List.getElem_mem hl)
  exact ⟨lift_ok hs (by omega), lift_low _ _, hl⟩
theorem take_ok {l : Lk} {p : Pa} (h : l.ok = true) : (l.take p).ok = true := by
  unfold Lk.take
  cases ht : l.takes p with
  | false => exact h
  | true =>
    obtain ⟨s1, s2, s3⟩ := seenOf_ok ht
    obtain ⟨h1, h2, h3, h4, h5, h6, h7, h8⟩ := takes_parts ht
    rw [if_pos rfl]
    split
    · exact set_ok h s1
    · rename_i hn
      simp only [Bool.or_eq_true, decide_eq_true_eq, not_or, Bool.not_eq_true] at hn
      exact set_ok h (put_ok s1 hn.1 hn.2 h7)
theorem fresh_due {l : Lk} {p : Pa} (h : l.fresh p = true) : l.due p = true := by
  unfold Lk.fresh at h
  unfold Lk.due
  simp only [Bool.and_eq_true, Bool.not_eq_true'] at h
  rw [h.1.1, h.1.2, h.2]
  rfl
/-- A link whose Seen is right there already and has the number. -/
theorem take_still {l : Lk} {p : Pa} {s : Se} {f : Nat} (hf : p.frm.toNat = f) (ht : l.takes p = true) (hs : s.ok = true) (hl : p.low ≤ s.low) (hh : s.has p.seq = true) :
    (l.setSe f s).fresh p = false ∧ (l.setSe f s).due p = true ∧ (l.setSe f s).take p = l.setSe f s := by
  obtain ⟨h1, h2, h3, h4, h5, h6, h7, h8⟩ := takes_parts ht
  have hlt : f < l.seen.length := by omega
  have e1 : (l.setSe f s).takes p = true := by
    unfold Lk.takes
    rw [set_ok h1 hs, h2, h3, h4]
    have : p.frm < ((l.setSe f s).seen.length : Int) := by unfold Lk.setSe; simpa using h5
    simp only [Bool.true_and, this, decide_true, Bool.and_true]
    unfold Lk.setSe
    simp
  have e2 : (l.setSe f s).seenOf p = s := by
    unfold Lk.seenOf Lk.setSe
    rw [hf, List.getD_eq_getElem?_getD, List.getElem?_set_self hlt]
    exact lift_self hs hl
  have e3 : (l.setSe f s).setSe f s = l.setSe f s := by
    unfold Lk.setSe
    simp
  unfold Lk.fresh Lk.due Lk.take
  rw [e1, e2, hh, hf, e3]
  simp
theorem take_twice {l : Lk} {p : Pa} (h : l.due p = true) : (l.take p).fresh p = false ∧ (l.take p).due p = true ∧ (l.take p).take p = l.take p := by
  have ht : l.takes p = true := by
    unfold Lk.due at h
    rw [Bool.and_eq_true] at h
    exact h.1
  obtain ⟨s1, s2, s3⟩ := seenOf_ok ht
  obtain ⟨h1, h2, h3, h4, h5, h6, h7, h8⟩ := takes_parts ht
  have hd : ((l.seenOf p).has p.seq || !decide (60 ≤ (l.seenOf p).ids.length)) = true := by
    unfold Lk.due at h
    rw [Bool.and_eq_true] at h
    exact h.2
  have e : l.take p = if (l.seenOf p).has p.seq || decide (60 ≤ (l.seenOf p).ids.length) then l.setSe p.frm.toNat (l.seenOf p) else l.setSe p.frm.toNat ((l.seenOf p).put p.seq) := by
    unfold Lk.take
    rw [ht, if_pos rfl]
  cases hh : (l.seenOf p).has p.seq with
  | true =>
    rw [hh, Bool.true_or, if_pos rfl] at e
    rw [e]
    exact take_still rfl ht s1 s2 hh
  | false =>
    rw [hh, Bool.false_or, Bool.not_eq_true', decide_eq_false_iff_not] at hd
    rw [hh, Bool.false_or, if_neg (by simpa using hd)] at e
    rw [e]
    exact take_still rfl ht (put_ok s1 hh hd h7) s2 (put_has _ _)
theorem goes_parts {l : Lk} {m : Ms} (h : l.goes m = true) : l.ok = true ∧ m.ok = true ∧ m.frm = l.id ∧ l.room = true := by
  unfold Lk.goes ownB at h
  simp only [Bool.and_eq_true, beq_iff_eq] at h
  exact ⟨h.1.1.1, h.1.1.2, h.1.2.1, h.2⟩
theorem goes_ok {l : Lk} {m : Ms} (h : l.goes m = true) (hf : m.fits) : (l.push m).ok = true := by
  obtain ⟨h1, h2, h3, h4⟩ := goes_parts h
  rw [← goes_is h1 h2 hf h3, h]
theorem send_ok {l : Lk} {m : Ms} (h : l.ok = true) (hf : m.fits) : (l.send m).ok = true := by
  unfold Lk.send
  cases hg : l.goes m with
  | false => exact h
  | true => exact goes_ok hg hf
theorem ack_filter {l : Lk} {frm seq : Int} (h : l.ok = true) : (l.ack frm seq).ok = true := by
  obtain ⟨h1, h2, h3, h4, h5, h6⟩ := Lk.parts h
  unfold Lk.ack
  rw [h, if_pos rfl]
  unfold Lk.ok Lk.outOk
  simp only [Bool.and_eq_true]
  refine ⟨⟨⟨h1, h2⟩, ?_, ?_, ?_⟩, h6⟩
  · have := List.length_filter_le (keepA frm seq) l.out
    have := of_decide_eq_true h3
    exact decide_eq_true (by omega)
  · exact List.all_eq_true.2 (fun z hz => List.all_eq_true.1 h4 z (List.mem_filter.1 hz).1)
  · rw [asc_iff] at h5 ⊢
    have hs : ((l.out.filter (keepA frm seq)).map Sn.seq).Sublist (l.out.map Sn.seq) := (List.filter_sublist).map _
    exact ⟨h5.1.sublist hs, fun z hz => h5.2 z (hs.subset hz)⟩
theorem new_ok {id nodes : Int} (h : amongB id nodes = true) : (newOf id nodes).ok = true := by
  unfold newOf newL
  rw [h, if_pos rfl]
  have h' := h
  unfold amongB at h'
  simp only [Bool.and_eq_true, decide_eq_true_eq] at h'
  have e : ((nodes.toNat : Nat) : Int) = nodes := by omega
  unfold Lk.ok Lk.outOk
  simp only [List.length_replicate, e, h, List.length_nil, List.all_nil, List.map_nil]
  have : (List.replicate nodes.toNat (⟨1, []⟩ : Se)).all Se.ok = true := List.all_eq_true.2 (fun z hz => by
    rw [List.eq_of_mem_replicate hz]
    rfl)
  rw [this]
  rfl
/-- What is sent stands last. -/
theorem again_push {l : Lk} {m : Ms} (h : l.goes m = true) (hf : m.fits) : (l.push m).again.length = l.out.length + 1 ∧ (l.push m).again[l.out.length]? = some (l.sendText m) := by
  have h1 := goes_ok h hf
  unfold Lk.again
  rw [h1, if_pos rfl, (send_yes h).1]
  have e : (l.push m).out = l.out ++ [l.sentOf m] := rfl
  rw [e, List.map_append]
  refine ⟨by simp, ?_⟩
  rw [List.getElem?_append_right (by simp)]
  simp
/-- What is acknowledged goes. -/
theorem ack_push {l : Lk} {m : Ms} (h : l.goes m = true) (hf : m.fits) : ((l.push m).ack m.dst l.next).out.length = l.out.length ∧ ((l.push m).ack m.dst l.next).again.length = l.out.length ∧ ((l.push m).ack m.dst l.next).ok = true := by
  have h1 := goes_ok h hf
  have h2 : ((l.push m).ack m.dst l.next).ok = true := ack_filter h1
  obtain ⟨g1, g2, g3, g4⟩ := goes_parts h
  have h5 := (Lk.parts g1).2.2.2.2.1
  rw [asc_iff] at h5
  have e : ((l.push m).ack m.dst l.next).out = l.out := by
    unfold Lk.ack
    rw [h1, if_pos rfl]
    show (l.out ++ [l.sentOf m]).filter (keepA m.dst l.next) = l.out
    rw [List.filter_append, List.filter_eq_self.2 (fun s hs => ?_)]
    · have : keepA m.dst l.next (l.sentOf m) = false := by
        unfold keepA Lk.sentOf
        simp
      simp [this]
    · have := (h5.2 s.seq (List.mem_map.2 ⟨s, hs, rfl⟩)).2
      have hne : (s.seq != l.next) = true := by
        simp only [bne_iff_ne, ne_eq]
        omega
      unfold keepA
      rw [hne, Bool.or_true]
  refine ⟨by rw [e], ?_, h2⟩
  unfold Lk.again
  rw [h2, if_pos rfl, List.length_map, e]
end Go.Proofs.YtlbinamlehapoaaGreatDoor

namespace Go.Proofs.YtlbinamlehapoaaGreatDoor
open Go.RowKit Go.Joins

set_option maxRecDepth 100000

structure LkDr (B g : Nat) (V : Value) (len : Nat) (w W : World) (lb : Nat) (l : Lk) (ov sv : Value) (rs : List (Se × Value)) : Prop where
  dr : Dr B W g V len
  grown : w.grownBy W (some g)
  res : W.heap[w.heap.size]? = some (.cells (Lk.row ⟨0, 0, [], []⟩ (.slice none 0 0) (.slice none 0 0)) 27)
  box : W.heap[lb]? = some (.cells (l.row ov sv) 27)
  own : LkOwn W (w.heap.size + 1) (.agg (l.row ov sv)) l ov sv rs
  apt : ∀ b, LkBlk ov sv rs b → b ≠ lb
  new : w.heap.size < lb
  glt : g < w.heap.size
theorem LkDr.step {B g : Nat} {V : Value} {len : Nat} {w W W' : World} {lb : Nat} {l : Lk} {ov sv : Value} {rs : List (Se × Value)} (h : LkDr B g V len w W lb l ov sv rs) (h1 : Dr B W' g V len) (g1 : W.grownBy W' (some g)) : LkDr B g V len w W' lb l ov sv rs := by
  have hn := h.new
  have hg := h.glt
  exact ⟨h1, h.grown.trans g1, (g1.block _ (lt_heap h.res) (fun e => by have := Option.some.inj e; omega)).trans h.res, (g1.block _ (lt_heap h.box) (fun e => by have := Option.some.inj e; omega)).trans h.box, h.own.moved (fun b hb => g1.block b (h.own.own hb).2 (fun e => by have := Option.some.inj e; have := (h.own.own hb).1; omega)), h.apt, hn, hg⟩
theorem LkDr.below {B g : Nat} {V : Value} {len : Nat} {w W W' : World} {lb : Nat} {l : Lk} {ov sv : Value} {rs : List (Se × Value)} (h : LkDr B g V len w W lb l ov sv rs) (hb : Below W.heap.size W W') : LkDr B g V len w W' lb l ov sv rs :=
  h.step (h.dr.below hb) ⟨hb.os, hb.tape, hb.output, hb.size, fun k hk _ => hb.block k hk⟩
theorem LkDr.alloc {B g : Nat} {V : Value} {len : Nat} {w W : World} {lb : Nat} {l : Lk} {ov sv : Value} {rs : List (Se × Value)} (h : LkDr B g V len w W lb l ov sv rs) (o : Obj) : LkDr B g V len w (W.alloc o) lb l ov sv rs :=
  h.below ((Below.refl _ W).alloc (Nat.le_refl _) o)
theorem LkDr.drew {B g : Nat} {V : Value} {len : Nat} {w W : World} {lb : Nat} {l : Lk} {ov sv : Value} {rs : List (Se × Value)} (h : LkDr B g V len w W lb l ov sv rs) : LkDr B g V len w W.drew lb l ov sv rs :=
  h.below (Below.refl _ W).drew
/-- A block that is none of these, and not the cursor's, is written. -/
theorem LkDr.far {B g : Nat} {V : Value} {len : Nat} {w W : World} {lb mb i : Nat} {u : Value} {l : Lk} {ov sv : Value} {rs : List (Se × Value)} (h : LkDr B g V len w W lb l ov sv rs) (hm : w.heap.size < mb) (hl : mb ≠ lb) (hb : ∀ b, LkBlk ov sv rs b → b ≠ mb) : LkDr B g V len w (W.setCell ⟨mb, i, none⟩ u) lb l ov sv rs := by
  have hn := h.new
  have hg := h.glt
  have h3 := h.dr.2.1.1
  have hw := Go.Lib.grownBy_setCell W mb i u
  exact ⟨h.dr.grownOwn hw (fun q e => by have := Option.some.inj e; omega), grown_two h.grown hw (fun q e => .inr (by have := Option.some.inj e; omega)), (hw.block _ (lt_heap h.res) (fun e => by have := Option.some.inj e; omega)).trans h.res, (hw.block _ (lt_heap h.box) (fun e => by have := Option.some.inj e; omega)).trans h.box, h.own.moved (fun b hb' => hw.block b (h.own.own hb').2 (fun e => by have := Option.some.inj e; exact hb b hb' this)), h.apt, hn, hg⟩
/-- Id or Next is written. -/
theorem LkDr.put {B g : Nat} {V : Value} {len : Nat} {w W : World} {lb i : Nat} {u : Value} {l : Lk} {ov sv : Value} {rs : List (Se × Value)} (h : LkDr B g V len w W lb l ov sv rs) (id next : Int) (hrow : (l.row ov sv).setIfInBounds i u = Lk.row ⟨id, next, l.out, l.seen⟩ ov sv) (hf : inI64 id ∧ inI64 next) : LkDr B g V len w (W.setCell ⟨lb, i, none⟩ u) lb ⟨id, next, l.out, l.seen⟩ ov sv rs := by
  have hn := h.new
  have hg := h.glt
  have h3 := h.dr.2.1.1
  have hw := Go.Lib.grownBy_setCell W lb i u
  have ho := h.own.moved (W' := W.setCell ⟨lb, i, none⟩ u) (fun b hb' => hw.block b (h.own.own hb').2 (fun e => by have := Option.some.inj e; exact h.apt b hb' this))
  exact ⟨h.dr.grownOwn hw (fun q e => by have := Option.some.inj e; omega), grown_two h.grown hw (fun q e => .inr (by have := Option.some.inj e; omega)), (hw.block _ (lt_heap h.res) (fun e => by have := Option.some.inj e; omega)).trans h.res, by rw [block_setCell (i := i) h.box _, hrow], ⟨rfl, hf, ho.out, ho.seen, ho.is⟩, h.apt, hn, hg⟩
theorem grown4 (W : World) (r : Nat) (v0 v1 v2 v3 : Value) : W.grownBy ((((W.setCell ⟨r, 0, none⟩ v0).setCell ⟨r, 1, none⟩ v1).setCell ⟨r, 2, none⟩ v2).setCell ⟨r, 3, none⟩ v3) (some r) :=
  (((Go.Lib.grownBy_setCell W r 0 v0).trans (Go.Lib.grownBy_setCell _ r 1 v1)).trans (Go.Lib.grownBy_setCell _ r 2 v2)).trans (Go.Lib.grownBy_setCell _ r 3 v3)
/-- Another link takes its place. -/
theorem LkDr.swap {B g C : Nat} {V : Value} {len : Nat} {w W : World} {lb : Nat} {l l' : Lk} {ov sv v' ov' sv' : Value} {rs rs' : List (Se × Value)} (h : LkDr B g V len w W lb l ov sv rs) (hO : LkOwn W C v' l' ov' sv' rs') (hC : lb < C) :
    LkDr B g V len w ((((W.setCell ⟨lb, 0, none⟩ (.int .i64 l'.id)).setCell ⟨lb, 1, none⟩ (.int .i64 l'.next)).setCell ⟨lb, 2, none⟩ ov').setCell ⟨lb, 3, none⟩ sv') lb l' ov' sv' rs' := by
  have hn := h.new
  have hg := h.glt
  have h3 := h.dr.2.1.1
  have hw := grown4 W lb (.int .i64 l'.id) (.int .i64 l'.next) ov' sv'
  have ho := own_set4 (B' := w.heap.size + 1) hO hC (by omega) (.int .i64 l'.id) (.int .i64 l'.next) ov' sv'
  exact ⟨h.dr.grownOwn hw (fun q e => by have := Option.some.inj e; omega), grown_two h.grown hw (fun q e => .inr (by have := Option.some.inj e; omega)), (hw.block _ (lt_heap h.res) (fun e => by have := Option.some.inj e; omega)).trans h.res, by rw [block_setCell (i := 3) (block_setCell (i := 2) (block_setCell (i := 1) (block_setCell (i := 0) h.box _) _) _) _]; rfl, ⟨rfl, ho.fits, ho.out, ho.seen, ho.is⟩, fun b hb => by have := (hO.own hb).1; omega, hn, hg⟩
theorem LkOwn.form {W : World} {B : Nat} {v : Value} {l : Lk} {ov sv : Value} {rs : List (Se × Value)} (h : LkOwn W B v l ov sv rs) : ∃ oa oc sa sc, ov = .slice oa l.out.length oc ∧ sv = .slice sa l.seen.length sc := by
  obtain ⟨oa, oc, rfl⟩ := own_form h.out.1
  obtain ⟨sa, sc, rfl⟩ := own_form h.seen.cells
  exact ⟨oa, oc, sa, sc, rfl, by rw [← h.is, List.length_map]⟩
/-- Low of the first Seen is written. -/
theorem LkDr.low {B g sg n cap : Nat} {V : Value} {len : Nat} {w W : World} {lb : Nat} {l : Lk} {ov kv : Value} {x : Se} {D : List (Se × Value)} (y : Int) (h : LkDr B g V len w W lb l ov (.slice (some ⟨sg, 0, none⟩) n cap) ((x, kv) :: D)) (hy : inI64 y) :
    LkDr B g V len w (W.setCell ⟨sg, 0, none⟩ (.int .i64 y)) lb ⟨l.id, l.next, l.out, ⟨y, x.ids⟩ :: l.seen.tail⟩ ov (.slice (some ⟨sg, 0, none⟩) n cap) ((⟨y, x.ids⟩, kv) :: D) := by
  have hn := h.new
  have hg := h.glt
  have h3 := h.dr.2.1.1
  have hsb : LkBlk ov (.slice (some ⟨sg, 0, none⟩) n cap) ((x, kv) :: D) sg := .inr (.inl rfl)
  have hs1 := (h.own.own hsb).1
  have hs2 := h.apt sg hsb
  have hw := Go.Lib.grownBy_setCell W sg 0 (.int .i64 y)
  have hc := h.own.seen.cells
  have hnl : n = ((x, kv) :: D).length := by
    obtain ⟨a, c, e⟩ := own_form hc
    cases e
    rfl
  subst hnl
  have keep : ∀ b, b ≠ sg → (W.setCell ⟨sg, 0, none⟩ (.int .i64 y)).heap[b]? = W.heap[b]? := fun b hb => Below.heap_setCell _ _ _ b (by simpa using hb)
  refine ⟨h.dr.grownOwn hw (fun q e => by have := Option.some.inj e; omega), grown_two h.grown hw (fun q e => .inr (by have := Option.some.inj e; omega)), (keep _ (by omega)).trans h.res, (keep _ (fun e => hs2 e.symm)).trans h.box, ⟨rfl, h.own.fits, h.own.out.moved (fun b hb => keep b (fun e => own_ne h.own.out.1 hc (by decide) b hb (by rw [e]; rfl))), ⟨?_, fun r hr => ?_, ?_⟩, ?_⟩, fun b hb => ?_, hn, hg⟩
  · have := own_put (i := 0) hc (by simp) (.int .i64 y)
    simpa [seCells] using this
  · have hk : W.ownsRow (w.heap.size + 1) 3 1 r.2 r.1.ids.length (intVs r.1.ids) ∧ SeOk r.1 := by
      rcases List.mem_cons.1 hr with rfl | hr
      · have := h.own.seen.kids (x, kv) (by simp)
        exact ⟨this.1, hy, this.2.2⟩
      · exact h.own.seen.kids r (by simp [hr])
    exact ⟨own_moved hk.1 (fun b hb => keep b (fun e => own_ne hk.1 hc (by decide) b hb (by rw [e]; rfl))), hk.2⟩
  · exact h.own.seen.apart
  · have := h.own.is
    rw [List.map_cons] at this
    show (⟨y, x.ids⟩ : Se) :: D.map Prod.fst = _
    rw [← this]
    rfl
  · refine h.apt b ?_
    rcases hb with hb | hb | ⟨r, hr, hb⟩
    · exact .inl hb
    · exact .inr (.inl hb)
    · rcases List.mem_cons.1 hr with rfl | hr
      · exact .inr (.inr ⟨(x, kv), by simp, hb⟩)
      · exact .inr (.inr ⟨r, by simp [hr], hb⟩)
/-- One number more among the first Seen's. -/
theorem LkDr.ids {B g sg n cap : Nat} {V : Value} {len : Nat} {w W W1 W' : World} {lb : Nat} {l : Lk} {ov kv kv' : Value} {x : Se} {D : List (Se × Value)} (z : Int) (h : LkDr B g V len w W lb l ov (.slice (some ⟨sg, 0, none⟩) n cap) ((x, kv) :: D)) (hz : inI64 z)
    (hb : Below W.heap.size W W1) (hrow : W'.ownsRow (w.heap.size + 1) 3 1 kv' (x.ids.length + 1) (intVs x.ids ++ intVs [z])) (hgw : W1.grownBy W' kv.ownBlock) (hat : kv'.ownBlock = kv.ownBlock ∨ kv'.ownBlock = some W1.heap.size) :
    LkDr B g V len w (W'.setCell ⟨sg, 1, none⟩ kv') lb ⟨l.id, l.next, l.out, ⟨x.low, x.ids ++ [z]⟩ :: l.seen.tail⟩ ov (.slice (some ⟨sg, 0, none⟩) n cap) ((⟨x.low, x.ids ++ [z]⟩, kv') :: D) := by
  have hn := h.new
  have hg := h.glt
  have h3 := h.dr.2.1.1
  have h1 := h.below hb
  have hsb : LkBlk ov (.slice (some ⟨sg, 0, none⟩) n cap) ((x, kv) :: D) sg := .inr (.inl rfl)
  have hs1 := (h1.own.own hsb).1
  have hs2 := h.apt sg hsb
  have hkb : ∀ b, kv.ownBlock = some b → w.heap.size + 1 ≤ b ∧ b < W1.heap.size ∧ b ≠ lb ∧ b ≠ sg := fun b hb' => by
    have hq : LkBlk ov (.slice (some ⟨sg, 0, none⟩) n cap) ((x, kv) :: D) b := .inr (.inr ⟨(x, kv), by simp, hb'⟩)
    exact ⟨(h1.own.own hq).1, (h1.own.own hq).2, h.apt b hq, fun e => own_ne (h1.own.seen.kids (x, kv) (by simp)).1 h1.own.seen.cells (by decide) b hb' (by rw [e]; rfl)⟩
  have hc := h1.own.seen.cells
  have hnl : n = ((x, kv) :: D).length := by
    obtain ⟨a, c, e⟩ := own_form hc
    cases e
    rfl
  subst hnl
  have keep : ∀ b, b < W1.heap.size → b ≠ sg → kv.ownBlock ≠ some b → (W'.setCell ⟨sg, 1, none⟩ kv').heap[b]? = W1.heap[b]? := fun b hlt hb hk =>
    (Below.heap_setCell _ _ _ b (by simpa using hb)).trans (hgw.block b hlt (fun e => hk e.symm))
  have hsg' : W'.heap[sg]? = W1.heap[sg]? := hgw.block sg (h1.own.own hsb).2 (fun e => (hkb sg e.symm).2.2.2 rfl)
  have hc' := own_moved (W' := W') hc (fun b hb' => by cases hb'; exact hsg')
  have D1 : Dr B W' g V len := h1.dr.grownOwn hgw (fun q e => by have := hkb q e; omega)
  have G1 : w.grownBy W' (some g) := grown_two h1.grown hgw (fun q e => .inr (by have := hkb q e; omega))
  refine ⟨D1.set (by omega) (by omega) _, grown_set G1 (by omega) _, (keep _ (lt_heap h1.res) (by omega) (fun e => by have := hkb _ e; omega)).trans h1.res, (keep _ (lt_heap h1.box) (fun e => hs2 e.symm) (fun e => (hkb _ e).2.2.1 rfl)).trans h1.box, ⟨rfl, h.own.fits, h1.own.out.moved (fun b hb' => keep b (own_lt h1.own.out.1 b hb') (fun e => own_ne h1.own.out.1 hc (by decide) b hb' (by rw [e]; rfl)) (fun e => own_ne h1.own.out.1 (h1.own.seen.kids (x, kv) (by simp)).1 (by decide) b hb' e.symm)), ⟨?_, fun r hr => ?_, ?_⟩, ?_⟩, fun b hb' => ?_, hn, hg⟩
  · have := own_put (i := 1) hc' (by simp; omega) kv'
    simpa [seCells] using this
  · rcases List.mem_cons.1 hr with rfl | hr
    · have hx := h1.own.seen.kids (x, kv) (by simp)
      refine ⟨?_, hx.2.1, fun q hq => ?_⟩
      · have : W'.ownsRow (w.heap.size + 1) 3 1 kv' (x.ids ++ [z]).length (intVs (x.ids ++ [z])) := by
          rw [List.length_append, List.length_singleton, intVs_app]
          exact hrow
        exact own_moved this (fun b hb' => Below.heap_setCell _ _ _ b (fun e => own_ne hrow hc' (by decide) b hb' (by rw [show b = sg from e]; rfl)))
      · rcases List.mem_append.1 hq with hq | hq
        · exact hx.2.2 q hq
        · rw [List.mem_singleton.1 hq]
          exact hz
    · have hk := h1.own.seen.kids r (by simp [hr])
      refine ⟨own_moved hk.1 (fun b hb' => keep b (own_lt hk.1 b hb') (fun e => own_ne hk.1 hc (by decide) b hb' (by rw [e]; rfl)) (fun e => ?_)), hk.2⟩
      have hap := h1.own.seen.apart
      rw [List.map_cons, List.pairwise_cons] at hap
      rcases hap.1 r.2 (List.mem_map.2 ⟨r, hr, rfl⟩) with ha | ha
      · rw [ha] at e; cases e
      · exact ha (e.trans hb'.symm)
  · have hap := h1.own.seen.apart
    rw [List.map_cons, List.pairwise_cons] at hap ⊢
    refine ⟨fun u hu => ?_, hap.2⟩
    obtain ⟨r, hr, rfl⟩ := List.mem_map.1 hu
    exact ((hap.1 r.2 (List.mem_map.2 ⟨r, hr, rfl⟩)).symm.grown (h1.own.seen.kids r (by simp [hr])).1 hat).symm
  · have := h.own.is
    rw [List.map_cons] at this
    show (⟨x.low, x.ids ++ [z]⟩ : Se) :: D.map Prod.fst = _
    rw [← this]
    rfl
  · rcases hb' with hb' | hb' | ⟨r, hr, hb'⟩
    · exact h.apt b (.inl hb')
    · exact h.apt b (.inr (.inl hb'))
    · rcases List.mem_cons.1 hr with rfl | hr
      · rcases hat with e | e
        · exact (hkb b (e.symm.trans hb')).2.2.1
        · have h5 := lt_heap h1.box
          have h6 : some b = some W1.heap.size := hb'.symm.trans e
          have := Option.some.inj h6
          omega
      · exact h.apt b (.inr (.inr ⟨r, by simp [hr], hb'⟩))
/-- One more among what was sent. -/
theorem LkDr.outs {B g : Nat} {V : Value} {len : Nat} {w W W1 W' : World} {lb : Nat} {l : Lk} {ov sv ov' : Value} {rs : List (Se × Value)} (x : Sn) (h : LkDr B g V len w W lb l ov sv rs) (hx : SnOk x)
    (hb : Below W.heap.size W W1) (hrow : W'.ownsRow (w.heap.size + 1) 68 3 ov' (l.out.length + 1) (l.out.flatMap snCells ++ snCells x)) (hgw : W1.grownBy W' ov.ownBlock) (hat : ov'.ownBlock = ov.ownBlock ∨ ov'.ownBlock = some W1.heap.size) :
    LkDr B g V len w (W'.setCell ⟨lb, 2, none⟩ ov') lb ⟨l.id, l.next, l.out ++ [x], l.seen⟩ ov' sv rs := by
  have hn := h.new
  have hg := h.glt
  have h3 := h.dr.2.1.1
  have h1 := h.below hb
  have hkb : ∀ b, ov.ownBlock = some b → w.heap.size + 1 ≤ b ∧ b < W1.heap.size ∧ b ≠ lb := fun b hb' => ⟨(h1.own.own (.inl hb')).1, (h1.own.own (.inl hb')).2, h.apt b (.inl hb')⟩
  have hlb : W'.heap[lb]? = some (.cells (l.row ov sv) 27) := (hgw.block lb (lt_heap h1.box) (fun e => (hkb lb e.symm).2.2 rfl)).trans h1.box
  have keep : ∀ b, b < W1.heap.size → b ≠ lb → ov.ownBlock ≠ some b → (W'.setCell ⟨lb, 2, none⟩ ov').heap[b]? = W1.heap[b]? := fun b hlt hb hk =>
    (Below.heap_setCell _ _ _ b (by simpa using hb)).trans (hgw.block b hlt (fun e => hk e.symm))
  have D1 : Dr B W' g V len := h1.dr.grownOwn hgw (fun q e => by have := hkb q e; omega)
  have G1 : w.grownBy W' (some g) := grown_two h1.grown hgw (fun q e => .inr (by have := hkb q e; omega))
  have hne : ∀ b, ov'.ownBlock = some b → b ≠ lb := fun b hb' => by
    rcases hat with e | e
    · exact (hkb b (e.symm.trans hb')).2.2
    · have h5 := lt_heap h1.box
      have h6 : some b = some W1.heap.size := hb'.symm.trans e
      have := Option.some.inj h6
      omega
  refine ⟨D1.set (by omega) (by omega) _, grown_set G1 (by omega) _, (keep _ (lt_heap h1.res) (by omega) (fun e => by have := hkb _ e; omega)).trans h1.res, by rw [block_setCell (i := 2) hlb _]; rfl, ⟨rfl, h.own.fits, ⟨?_, fun s hs => ?_⟩, h1.own.seen.moved (fun b hb' => keep b (h1.own.own (.inr hb')).2 (h.apt b (.inr hb')) (fun e => ?_)), h.own.is⟩, fun b hb' => ?_, hn, hg⟩
  · have : W'.ownsRow (w.heap.size + 1) 68 3 ov' (l.out ++ [x]).length ((l.out ++ [x]).flatMap snCells) := by
      rw [List.length_append, List.length_singleton, List.flatMap_append]
      simpa using hrow
    exact own_moved this (fun b hb' => Below.heap_setCell _ _ _ b (by simpa using hne b hb'))
  · rcases List.mem_append.1 hs with hs | hs
    · exact h.own.out.2 s hs
    · rw [List.mem_singleton.1 hs]; exact hx
  · rcases hb' with hb' | ⟨r, hr, hb'⟩
    · exact own_ne h1.own.out.1 h1.own.seen.cells (by decide) b e hb'.symm
    · exact own_ne h1.own.out.1 (h1.own.seen.kids r hr).1 (by decide) b e hb'.symm
  · rcases hb' with hb' | hb'
    · exact hne b hb'
    · exact h.apt b (.inr hb')
theorem LkDr.fin {B g : Nat} {V : Value} {len : Nat} {w W W' : World} {lb : Nat} {l : Lk} {ov sv : Value} {rs : List (Se × Value)} (h : LkDr B g V len w W lb l ov sv rs) (hg : W.grownBy W' (some w.heap.size)) : LkAt W' (fun b => w.heap.size ≤ b) (.agg (l.row ov sv)) l ∧ Dr B W' g V len ∧ w.grownBy W' (some g) := by
  have h1 := h.new
  have h2 := h.glt
  have h3 := h.dr.2.1.1
  refine ⟨h.own.at.kept (fun b hb hlt => hg.block b hlt (fun e => by have := Option.some.inj e; have := hb.1; omega)) hg.size (fun b hb _ => by have := hb.1; omega), h.dr.grownOwn hg (fun q e => by have := Option.some.inj e; omega), grown_two h.grown hg (fun q e => .inr (by have := Option.some.inj e; omega))⟩
end Go.Proofs.YtlbinamlehapoaaGreatDoor
