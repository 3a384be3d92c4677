/-
  The specification's ShowExp.
-/
import Derived.Test.YtfldnonifhedgaaDoorImplParts
import Derived.Test.YtfldnonifhedgaaDoorSpecKids
import Derived.Test.YtfldnonifhedgaaDoorExOpen
import Derived.Lib.QuietBelow
import Derived.BigQuiet
namespace Go.Proofs.YtfldnonifhedgaaDoor
open Go.RowKit Go.Joins

set_option maxRecDepth 100000

theorem infoStrS : (Tryd.prog.info? 9).map (fun i => (i.zero, i.size, i.bytes)) = some (some (.string ⟨#[]⟩), 1, 16) := by kernel_rfl
theorem strS_oneCell (b : ByteArray) : ∀ u ∈ [Value.string b], u.oneCell' = true := by
  intro u hu
  rw [List.mem_singleton.1 hu]
  rfl
theorem srow_empty (w : World) (base : Nat) (e : TypeId) (size : Nat) (h : base ≤ w.heap.size) : (w.alloc (.cells #[] e)).ownsRow base e size (.slice (some ⟨w.heap.size, 0, none⟩) 0 0) 0 [] :=
  World.ownsRow_made (size := size) (e := e) w #[] 0 h (Nat.zero_le _) (by simp)
/-- What kid i shows. -/
def kidS (x : Ex) (deep : Int) (i : Nat) : List UInt8 := (x.kids[i]?.map (fun y => y.show deep)).getD []
def kidVs (x : Ex) (deep : Int) (j : Nat) : List Value := (List.range j).map (fun i => Value.string (bsOf (kidS x deep i)))
theorem kidVs_succ (x : Ex) (deep : Int) (j : Nat) : kidVs x deep (j + 1) = kidVs x deep j ++ [.string (bsOf (kidS x deep j))] := by
  unfold kidVs
  rw [List.range_succ, List.map_append]
  rfl
theorem kidVs_at (x : Ex) (deep : Int) (j i : Nat) (h : i < j) : (kidVs x deep j)[i]? = some (.string (bsOf (kidS x deep i))) := by
  unfold kidVs
  rw [List.getElem?_map, List.getElem?_range h]
  rfl
theorem kidS_len (x : Ex) (deep : Int) (hb : x.bulk ≤ 1048576) (hf : x.fits) (i : Nat) : (bsOf (kidS x deep i)).size ≤ 67108928 := by
  have h2 : (bsOf (kidS x deep i)).size = (kidS x deep i).length := by simp [bsOf, ByteArray.size]
  rw [h2]
  unfold kidS
  cases he : x.kids[i]? with
  | none => simp
  | some y =>
    have h1 := bulk_at he
    have h3 := Ex.show_len y deep (fitsL_at ((Ex.fits_eq x).1 hf).2 he)
    have h4 := Ex.bulk_eq x
    simp only [Option.map_some, Option.getD_some]
    omega
theorem eq5 (a b c d e : List UInt8) : bsOf a ++ bsOf b ++ bsOf c ++ bsOf d ++ bsOf e = bsOf (a ++ (([] ++ (b ++ c)) ++ (d ++ e))) := by simp only [bsOf_app, List.nil_append, List.append_assoc]
theorem eq7 (a b c d e f g : List UInt8) : bsOf a ++ bsOf b ++ bsOf c ++ bsOf d ++ bsOf e ++ bsOf f ++ bsOf g = bsOf (a ++ ((([] ++ (b ++ c)) ++ (d ++ e)) ++ (f ++ g))) := by simp only [bsOf_app, List.nil_append, List.append_assoc]
theorem eq7t (a b : List UInt8) (t : ByteArray) (f g : List UInt8) : bsOf a ++ bsOf b ++ bsOf [32] ++ t ++ bsOf [32] ++ bsOf f ++ bsOf g = bsOf (a ++ (([] ++ (b ++ ([32] ++ t.data.toList ++ [32]))) ++ (f ++ g))) := by
  conv => lhs; rw [← bsOf_data t]
  simp only [bsOf_app, List.nil_append, List.append_assoc]
theorem eq3k (n b : List UInt8) : bsOf [40, 92] ++ bsOf n ++ bsOf [32, 46, 32] ++ bsOf b ++ bsOf [41] = bsOf (([40, 92] ++ n ++ [32, 46, 32]) ++ ([] ++ (b ++ [41]))) := by simp only [bsOf_app, List.nil_append, List.append_assoc]
theorem str_ret {a b : ByteArray} (h : a = b) : Ending.returned (.string a) = .returned (.string b) := by rw [h]

theorem own_slice {w : World} {B n : Nat} {e : TypeId} {v : Value} {xs : List Value} (h : w.ownsRow B e 1 v n xs) (hn : 0 < n) : ∃ g cp, v = .slice (some ⟨g, 0, none⟩) n cp := by
  rcases h.2 with ⟨_, h0⟩ | ⟨g, cp, cur, hv, _⟩
  · omega
  · exact ⟨g, cp, hv⟩

theorem show0 (x : Ex) (d : Int) : showTo x d 0 = [] := by rw [showTo]
theorem show1 (x : Ex) (d : Int) : showTo x d 1 = [] ++ (kidS x d 0 ++ partN x.kind x.n x.text 1) := by rw [showTo, showTo]; rfl
theorem show2 (x : Ex) (d : Int) : showTo x d 2 = ([] ++ (kidS x d 0 ++ partN x.kind x.n x.text 1)) ++ (kidS x d 1 ++ partN x.kind x.n x.text 2) := by rw [showTo, show1]; rfl
theorem show3 (x : Ex) (d : Int) : showTo x d 3 = (([] ++ (kidS x d 0 ++ partN x.kind x.n x.text 1)) ++ (kidS x d 1 ++ partN x.kind x.n x.text 2)) ++ (kidS x d 2 ++ partN x.kind x.n x.text 3) := by rw [showTo, show2]; rfl

def ShowS (d : Nat) : Prop := ∀ (v : Value) (x : Ex) (S : Nat → Prop) (w : World) (deep : Int), ExAt w S d v x → x.bulk ≤ 1048576 → -1 ≤ deep ∧ deep ≤ 60 →
  Calls Tryd.prog 10 #[v, .int .i64 deep] w fun e w' => e = .returned (.string (bsOf (x.show deep))) ∧ Below w.heap.size w w'

set_option maxHeartbeats 1600000 in
theorem l02Show_of (d : Nat) (hE : ShowS d) : ShowS (d + 1) := by
  intro v x S w deep h hb hd
  have hto := show_to x deep
  have hno := show_none x deep
  have hfit : x.fits := by obtain ⟨kv, -, -, h2, -, hk⟩ := h; exact (Ex.fits_eq x).2 ⟨h2, hk.fits⟩
  obtain ⟨kv, rfl, -, hn64, -, hk⟩ := h
  obtain ⟨a, cap, rfl, hl, hc⟩ := hk
  unfold maxLen at hl
  have B0 : Below w.heap.size w (w.alloc (.cells #[.int .i64 x.kind, .int .i64 x.n, .string x.text, .slice a x.kids.length cap] 29)) := (Below.refl _ w).alloc (Nat.le_refl _) _
  have O0 : (w.alloc (.cells #[.int .i64 x.kind, .int .i64 x.n, .string x.text, .slice a x.kids.length cap] 29)).heap[w.heap.size]? = some (.cells #[.int .i64 x.kind, .int .i64 x.n, .string x.text, .slice a x.kids.length cap] 29) := (MapKept.heap_alloc w _).1
  have P3 : (w.alloc (.cells #[.int .i64 x.kind, .int .i64 x.n, .string x.text, .slice a x.kids.length cap] 29)).heap.size = w.heap.size + 1 := by simp
  have HC := (show Hid (_ ∧ True) from ⟨hc, trivial⟩)
  have HE : Hid (ShowS d) := hE
  have HT := (show Hid (_ ∧ _ ∧ _) from ⟨hto, hno, hfit⟩)
  have HBx : Hid (∀ wk : World, Below (w.alloc (.cells #[.int .i64 x.kind, .int .i64 x.n, .string x.text, .slice a x.kids.length cap] 29)).heap.size (w.alloc (.cells #[.int .i64 x.kind, .int .i64 x.n, .string x.text, .slice a x.kids.length cap] 29)) wk → Below w.heap.size w wk ∧ wk.heap[w.heap.size]? = some (.cells #[.int .i64 x.kind, .int .i64 x.n, .string x.text, .slice a x.kids.length cap] 29) ∧ w.heap.size < wk.heap.size) := fun wk hb => ⟨B0.trans (hb.mono B0.size), (hb.block _ (by rw [P3]; omega)).trans O0, by have := hb.size; rw [P3] at this; omega⟩
  have Y0 : (w.alloc (.cells #[.int .i64 x.kind, .int .i64 x.n, .string x.text, .slice a x.kids.length cap] 29)).cell? ⟨w.heap.size, 0, none⟩ = some (.int .i64 x.kind) := by rw [cell_of_block O0]; rfl
  have Y3 : (w.alloc (.cells #[.int .i64 x.kind, .int .i64 x.n, .string x.text, .slice a x.kids.length cap] 29)).cell? ⟨w.heap.size, 3, none⟩ = some (.slice a x.kids.length cap) := by rw [cell_of_block O0]; rfl
  clear hc hE B0 O0 hto hno hfit
  by_cases hdp : deep < 0
  · have hr : x.show deep = [] := HT.out.2.1 (fun h => by omega)
    rw [hr]
    clear HC HE HT
    go_enter Tryd.func10, Tryd.ntmps10
    go_wp2_with fail
    generalize (w.alloc (.cells #[.int .i64 x.kind, .int .i64 x.n, .string x.text, .slice a x.kids.length cap] 29)) = w2 at *
    have k0 := cell_regrown Y0
    have k3 := cell_regrown Y3
    refine wp_region_quiet_below (by kernel_rfl) (by kernel_rfl) ?_
    repeat (go_big_quiet_step ((go_at_call 15; exact Calls.regrown_of (l02Kids_any _ _))))
    refine wpQuiet_nil ?_
    intro _ hw'
    obtain ⟨⟨dq, osq⟩, hw''⟩ := hw'
    subst hw''
    go_wp2
    go_ret
    exact ⟨rfl, (HBx.out _ (below_regrown w2 dq osq)).1⟩
  have gd : decide (deep < 0) = false := by simp; omega
  by_cases hlen : ((x.kids.length : Nat) : Int) = kidsOf x.kind
  case neg =>
    have gl : (((x.kids.length : Nat) : Int) != kidsOf x.kind) = true := by simp [hlen]
    have hr : x.show deep = [] := HT.out.2.1 (fun h => hlen h.2)
    rw [hr]
    clear HC HE HT
    go_enter Tryd.func10, Tryd.ntmps10
    go_wp2_with fail
    generalize (w.alloc (.cells #[.int .i64 x.kind, .int .i64 x.n, .string x.text, .slice a x.kids.length cap] 29)) = w2 at *
    have k0 := cell_regrown Y0
    have k3 := cell_regrown Y3
    refine wp_region_quiet_below (by kernel_rfl) (by kernel_rfl) ?_
    repeat (go_big_quiet_step ((go_at_call 15; exact Calls.regrown_of (l02Kids_any _ _))))
    refine wpQuiet_nil ?_
    intro _ hw'
    obtain ⟨⟨dq, osq⟩, hw''⟩ := hw'
    subst hw''
    go_wp2
    go_ret
    exact ⟨rfl, (HBx.out _ (below_regrown w2 dq osq)).1⟩
  have gl : (((x.kids.length : Nat) : Int) != kidsOf x.kind) = false := by simp [hlen]
  have HLEN : Hid (((x.kids.length : Nat) : Int) = kidsOf x.kind) := hlen
  clear hlen
  go_enter Tryd.func10, Tryd.ntmps10
  go_wp2_with fail
  generalize (w.alloc (.cells #[.int .i64 x.kind, .int .i64 x.n, .string x.text, .slice a x.kids.length cap] 29)) = w2 at *
  have k0 := cell_regrown Y0
  have k3 := cell_regrown Y3
  refine wp_region_quiet_below (by kernel_rfl) (by kernel_rfl) ?_
  repeat (go_big_quiet_step ((go_at_call 15; exact Calls.regrown_of (l02Kids_any _ _))))
  refine wpQuiet_nil ?_
  intro _ hw'
  obtain ⟨⟨dq, osq⟩, hw''⟩ := hw'
  subst hw''
  have HB3 := (show Hid (_ ∧ True) from ⟨HBx.out _ (below_regrown w2 dq osq), trivial⟩)
  clear k0 k3 Y0 Y3 HBx
  generalize Go.Sort.grow (redrawn w2 dq) osq = w3 at *
  have hlt3 : w.heap.size < w3.heap.size := HB3.out.1.2.2
  go_wp2
  obtain ⟨i0, hi, hz0, hz1, hz2⟩ := info_parts infoStrS
  have HSZ : Hid (∀ i, (bsOf (kidS x (deep - 1) i)).size ≤ 67108928) := fun i => kidS_len x (deep - 1) hb HT.out.2.2 i
  have hk3 : x.kids.length ≤ 3 := by
    have hl9 := HLEN.out
    have : kidsOf x.kind ≤ 3 := by unfold kidsOf; split <;> (try split) <;> (try split) <;> (try split) <;> omega
    omega
  go_loopw [5, 6] (fun v i wr => ∃ j : Nat, j ≤ x.kids.length ∧ i = .int .i64 j ∧ wr.ownsRow w3.heap.size 9 1 v j (kidVs x (deep - 1) j) ∧ Below w.heap.size w wr ∧ wr.heap[w.heap.size]? = some (.cells #[.int .i64 x.kind, .int .i64 x.n, .string x.text, .slice a x.kids.length cap] 29) ∧ w3.heap.size ≤ wr.heap.size) (fun _ i _ => x.kids.length - (intOf i).toNat)
  case atStart => exact ⟨0, Nat.zero_le _, rfl, srow_empty w3 _ _ _ (Nat.le_refl _), HB3.out.1.1.alloc HB3.out.1.1.size _, (Below.heap_alloc _ _ _ hlt3).trans HB3.out.1.2.1, by simp⟩
  case round =>
    obtain ⟨j, hk, rfl, hown, hbw, hO, hsr⟩ := hrel
    have P1r : wr.cell? ⟨w.heap.size, 3, none⟩ = some (.slice a x.kids.length cap) := by rw [cell_of_block hO]; rfl
    by_cases hkl : j < x.kids.length
    · have he := List.getElem?_eq_getElem hkl
      have hyb : x.kids.length + (x.kids[j]).bulk ≤ Ex.bulkL x.kids := bulk_at he
      have hks : kidS x (deep - 1) j = (x.kids[j]).show (deep - 1) := by unfold kidS; rw [he]; rfl
      have hbe := Ex.bulk_eq x
      generalize x.kids[j] = y at *
      obtain ⟨b, off, kv, rfl, -, hl1, c0, c1, c2, c3, r1, r2, r3, kk⟩ := HC.out.1 j y he
      rw [← hbw.cell (by exact hl1)] at c0 c1 c2 c3
      have HX : Hid (∀ wx : World, Below w.heap.size w wx → ExAt wx S d (.agg #[.int .i64 y.kind, .int .i64 y.n, .string y.text, kv]) y) := fun wx hx => ⟨kv, rfl, r1, r2, r3, kk.below hx⟩
      obtain ⟨ka, kc, rfl⟩ := kk.form
      have HS := (show Hid (_ ∧ _ ∧ _ ∧ _) from ⟨hown, hbw, hO, hks⟩)
      clear kk he HC r1 r2 r3 hown hbw hO hks
      have hlt' : ((j : Nat) : Int) < ((x.kids.length : Nat) : Int) := by omega
      have hw2 : IntKind.i64.wrap (deep - 1) = deep - 1 := by rw [IntKind.wrap_i64]; omega
      go_wp2_with (first
        | (go_at_call 10; refine (HE.out _ y S _ (deep - 1) (HX.out _ HS.out.2.1) (by omega) ⟨by omega, by omega⟩).mono ?_; rintro e w5 ⟨rfl, b5⟩; rw [← HS.out.2.2.2]; have hown5 := HS.out.1.kept (show wr.grownBy w5 none from ⟨b5.os, b5.tape, b5.output, b5.size, fun k hk _ => b5.block k hk⟩) (by cases (Value.ownBlock _) with | none => exact .inl rfl | some k => exact .inr (by simp)); have hs5 := b5.size)
        | (at_builtin; refine wpList_append_own _ rfl _ _ 45 rfl w3.heap.size 9 i0 (.string ⟨#[]⟩) 1 16 Tryd.underlying45 hi hz0 hz1 hz2 rfl (by decide) _ _ _ rfl (hown5.alloc _) ⟨w5.heap.size, 0, none⟩ 1 1 [.string (bsOf (kidS x (deep - 1) j))] rfl rfl (cell_one_new _ _ _) (strS_oneCell _) (by unfold maxLen; omega) (by omega) (by simp; omega) ?_; intro v6 w6 hown6 hgrow6 hnil6))
      have b6 : Below w.heap.size w w6 := ((HS.out.2.1.trans (b5.mono HS.out.2.1.size)).alloc (HS.out.2.1.trans (b5.mono HS.out.2.1.size)).size _).grown hgrow6 (by have := (HS.out.2.1.trans (b5.mono HS.out.2.1.size)).size; simp; omega) (fun k hk => by have := (hown5.lt k hk).1; omega)
      refine ⟨⟨j + 1, by omega, by go_num, by rw [kidVs_succ]; exact hown6, b6, ?_, by have := hgrow6.size; simp at this; omega⟩, by simp [intOf]; omega⟩
      have hlw : w.heap.size < w5.heap.size := by omega
      refine (hgrow6.block _ (by simp; omega) ?_).trans ((Below.heap_alloc _ _ _ hlw).trans ((b5.block _ (by omega)).trans HS.out.2.2.1))
      intro hc
      have := (hown5.lt _ hc.symm).1
      omega
    · obtain rfl : j = x.kids.length := by omega
      clear HC HE
      have z0 : wr.cell? ⟨w.heap.size, 0, none⟩ = some (.int .i64 x.kind) := by rw [cell_of_block hO]; rfl
      unfold inI64 at hn64
      have hbe := Ex.bulk_eq x
      have hk12 : x.kind = 0 ∨ x.kind = 1 ∨ x.kind = 2 ∨ x.kind = 3 ∨ x.kind = 4 ∨ x.kind = 5 ∨ x.kind = 6 ∨ x.kind = 7 ∨ x.kind = 8 ∨ x.kind = 9 ∨ x.kind = 10 ∨ x.kind = 11 := by
        have h0 : 0 ≤ kidsOf x.kind := by have := HLEN.out; omega
        unfold kidsOf at h0
        repeat' split at h0
        all_goals omega
      have hil := itoa_len x.n (by unfold inI64; exact hn64)
      have hsz : (bsOf (Lib.itoa x.n)).size = (Lib.itoa x.n).length := by simp [bsOf, ByteArray.size]
      have HD : Hid (∀ w : World, Calls Tryd.prog 16 #[.int .i64 x.n] w fun r w' => r = .returned (.string (bsOf (Lib.itoa x.n))) ∧ w' = w) := fun w => specDec_any x.n w hn64.1 hn64.2
      rcases hk12 with hkk | hkk | hkk | hkk | hkk | hkk | hkk | hkk | hkk | hkk | hkk | hkk
      · have hl9 := HLEN.out
        rw [hkk] at z0 hl9
        have hln : x.kids.length = 0 := by have : kidsOf 0 = 0 := rfl; omega
        have hres := HT.out.1 (by omega) HLEN.out
        rw [hln, show0, hkk] at hres
        have HR := (show Hid (_ ∧ True) from ⟨hres, trivial⟩)
        clear hres
        have z1 : wr.cell? ⟨w.heap.size, 1, none⟩ = some (.int .i64 x.n) := by rw [cell_of_block hO]; rfl
        have HBW : Hid (Below w.heap.size w wr) := hbw
        clear hown hbw hO hl9 hkk hk HT HSZ HLEN
        go_wp2_with (go_at_call 16; refine (HD.out _).mono ?_; rintro r w9 ⟨rfl, rfl⟩)
        go_ret
        exact ⟨str_ret (by rw [HR.out.1]; show _ = bsOf (Lib.itoa x.n ++ []); rw [List.append_nil]), HBW.out⟩
      · have hl9 := HLEN.out
        rw [hkk] at z0 hl9
        have hln : x.kids.length = 0 := by have : kidsOf 1 = 0 := rfl; omega
        have hres := HT.out.1 (by omega) HLEN.out
        rw [hln, show0, hkk] at hres
        have HR := (show Hid (_ ∧ True) from ⟨hres, trivial⟩)
        clear hres
        have z1 : wr.cell? ⟨w.heap.size, 1, none⟩ = some (.int .i64 x.n) := by rw [cell_of_block hO]; rfl
        have HBW : Hid (Below w.heap.size w wr) := hbw
        clear hown hbw hO hl9 hkk hk HT HSZ HLEN
        go_wp2_with (go_at_call 16; refine (HD.out _).mono ?_; rintro r w9 ⟨rfl, rfl⟩)
        go_ret
        exact ⟨str_ret (by rw [HR.out.1]; show _ = bsOf ((118 :: Lib.itoa x.n) ++ []); rw [List.append_nil]; exact bsOf_app [118] (Lib.itoa x.n)), HBW.out⟩
      · have hl9 := HLEN.out
        rw [hkk] at z0 hl9
        have hln : x.kids.length = 0 := by have : kidsOf 2 = 0 := rfl; omega
        have hres := HT.out.1 (by omega) HLEN.out
        rw [hln, show0, hkk] at hres
        have HR := (show Hid (_ ∧ True) from ⟨hres, trivial⟩)
        clear hres
        have z1 : wr.cell? ⟨w.heap.size, 1, none⟩ = some (.int .i64 x.n) := by rw [cell_of_block hO]; rfl
        have HBW : Hid (Below w.heap.size w wr) := hbw
        clear hown hbw hO hl9 hkk hk HT HSZ HLEN
        go_wp2_with (go_at_call 16; refine (HD.out _).mono ?_; rintro r w9 ⟨rfl, rfl⟩)
        go_ret
        exact ⟨str_ret (by rw [HR.out.1]; show _ = bsOf ((116 :: Lib.itoa x.n) ++ []); rw [List.append_nil]; exact bsOf_app [116] (Lib.itoa x.n)), HBW.out⟩
      · have hl9 := HLEN.out
        rw [hkk] at z0 hl9
        have hln : x.kids.length = 1 := by have : kidsOf 3 = 1 := rfl; omega
        have hres := HT.out.1 (by omega) HLEN.out
        rw [hln, show1, hkk] at hres
        have HR := (show Hid (_ ∧ True) from ⟨hres, trivial⟩)
        clear hres
        obtain ⟨g, cp, rfl⟩ := own_slice hown (by omega)
        have hcs := hown.cells (g := g) rfl
        have y0 : wr.cell? ⟨g, 0, none⟩ = some (.string (bsOf (kidS x (deep - 1) 0))) := by have := hcs 0 _ (kidVs_at x (deep - 1) _ 0 (by omega)); rw [addr_add] at this; simpa using this
        have s0 := HSZ.out 0
        have HKS := (show Hid (_ ∧ True) from ⟨hcs, trivial⟩)
        clear hcs HSZ HKS
        generalize hq0 : bsOf (kidS x (deep - 1) 0) = q0 at *
        have HQ := (show Hid (_ ∧ True) from ⟨hq0, trivial⟩)
        clear hq0
        have z1 : wr.cell? ⟨w.heap.size, 1, none⟩ = some (.int .i64 x.n) := by rw [cell_of_block hO]; rfl
        have HBW : Hid (Below w.heap.size w wr) := hbw
        clear hown hbw hO hl9 hkk hk HT HLEN
        go_wp2_with fail
        go_quiet (first | (go_at_call 16; refine Calls.quiet_of_same (HD.out _)))
        go_wp2
        go_ret
        exact ⟨str_ret (by rw [HR.out.1, ← HQ.out.1]; exact eq3k (Lib.itoa x.n) _), drewN_below HBW.out _⟩
      · have hl9 := HLEN.out
        rw [hkk] at z0 hl9
        have hln : x.kids.length = 2 := by have : kidsOf 4 = 2 := rfl; omega
        have hres := HT.out.1 (by omega) HLEN.out
        rw [hln, show2, hkk] at hres
        have HR := (show Hid (_ ∧ True) from ⟨hres, trivial⟩)
        clear hres
        obtain ⟨g, cp, rfl⟩ := own_slice hown (by omega)
        have hcs := hown.cells (g := g) rfl
        have y0 : wr.cell? ⟨g, 0, none⟩ = some (.string (bsOf (kidS x (deep - 1) 0))) := by have := hcs 0 _ (kidVs_at x (deep - 1) _ 0 (by omega)); rw [addr_add] at this; simpa using this
        have s0 := HSZ.out 0
        have y1 : wr.cell? ⟨g, 1, none⟩ = some (.string (bsOf (kidS x (deep - 1) 1))) := by have := hcs 1 _ (kidVs_at x (deep - 1) _ 1 (by omega)); rw [addr_add] at this; simpa using this
        have s1 := HSZ.out 1
        have HKS := (show Hid (_ ∧ True) from ⟨hcs, trivial⟩)
        clear hcs HSZ HKS
        generalize hq0 : bsOf (kidS x (deep - 1) 0) = q0 at *
        generalize hq1 : bsOf (kidS x (deep - 1) 1) = q1 at *
        have HQ := (show Hid (_ ∧ _ ∧ True) from ⟨hq0, hq1, trivial⟩)
        clear hq0 hq1
        have HBW : Hid (Below w.heap.size w wr) := hbw
        clear hown hbw hO hl9 hkk hk HT HLEN
        go_wp2_with fail
        go_quiet (first | (go_at_call 16; refine Calls.quiet_of_same (HD.out _)))
        go_wp2
        go_ret
        exact ⟨str_ret (by rw [HR.out.1, ← HQ.out.1, ← HQ.out.2.1]; exact eq5 [40] _ [32] _ [41]), drewN_below HBW.out _⟩
      · have hl9 := HLEN.out
        rw [hkk] at z0 hl9
        have hln : x.kids.length = 2 := by have : kidsOf 5 = 2 := rfl; omega
        have hres := HT.out.1 (by omega) HLEN.out
        rw [hln, show2, hkk] at hres
        have HR := (show Hid (_ ∧ True) from ⟨hres, trivial⟩)
        clear hres
        obtain ⟨g, cp, rfl⟩ := own_slice hown (by omega)
        have hcs := hown.cells (g := g) rfl
        have y0 : wr.cell? ⟨g, 0, none⟩ = some (.string (bsOf (kidS x (deep - 1) 0))) := by have := hcs 0 _ (kidVs_at x (deep - 1) _ 0 (by omega)); rw [addr_add] at this; simpa using this
        have s0 := HSZ.out 0
        have y1 : wr.cell? ⟨g, 1, none⟩ = some (.string (bsOf (kidS x (deep - 1) 1))) := by have := hcs 1 _ (kidVs_at x (deep - 1) _ 1 (by omega)); rw [addr_add] at this; simpa using this
        have s1 := HSZ.out 1
        have HKS := (show Hid (_ ∧ True) from ⟨hcs, trivial⟩)
        clear hcs HSZ HKS
        generalize hq0 : bsOf (kidS x (deep - 1) 0) = q0 at *
        generalize hq1 : bsOf (kidS x (deep - 1) 1) = q1 at *
        have HQ := (show Hid (_ ∧ _ ∧ True) from ⟨hq0, hq1, trivial⟩)
        clear hq0 hq1
        have HBW : Hid (Below w.heap.size w wr) := hbw
        clear hown hbw hO hl9 hkk hk HT HLEN
        go_wp2_with fail
        go_quiet (first | (go_at_call 16; refine Calls.quiet_of_same (HD.out _)))
        go_wp2
        go_ret
        exact ⟨str_ret (by rw [HR.out.1, ← HQ.out.1, ← HQ.out.2.1]; exact eq5 [40, 108, 101, 116, 32] _ [32, 105, 110, 32] _ [41]), drewN_below HBW.out _⟩
      · have hl9 := HLEN.out
        rw [hkk] at z0 hl9
        have hln : x.kids.length = 3 := by have : kidsOf 6 = 3 := rfl; omega
        have hres := HT.out.1 (by omega) HLEN.out
        rw [hln, show3, hkk] at hres
        have HR := (show Hid (_ ∧ True) from ⟨hres, trivial⟩)
        clear hres
        obtain ⟨g, cp, rfl⟩ := own_slice hown (by omega)
        have hcs := hown.cells (g := g) rfl
        have y0 : wr.cell? ⟨g, 0, none⟩ = some (.string (bsOf (kidS x (deep - 1) 0))) := by have := hcs 0 _ (kidVs_at x (deep - 1) _ 0 (by omega)); rw [addr_add] at this; simpa using this
        have s0 := HSZ.out 0
        have y1 : wr.cell? ⟨g, 1, none⟩ = some (.string (bsOf (kidS x (deep - 1) 1))) := by have := hcs 1 _ (kidVs_at x (deep - 1) _ 1 (by omega)); rw [addr_add] at this; simpa using this
        have s1 := HSZ.out 1
        have y2 : wr.cell? ⟨g, 2, none⟩ = some (.string (bsOf (kidS x (deep - 1) 2))) := by have := hcs 2 _ (kidVs_at x (deep - 1) _ 2 (by omega)); rw [addr_add] at this; simpa using this
        have s2 := HSZ.out 2
        have HKS := (show Hid (_ ∧ True) from ⟨hcs, trivial⟩)
        clear hcs HSZ HKS
        generalize hq0 : bsOf (kidS x (deep - 1) 0) = q0 at *
        generalize hq1 : bsOf (kidS x (deep - 1) 1) = q1 at *
        generalize hq2 : bsOf (kidS x (deep - 1) 2) = q2 at *
        have HQ := (show Hid (_ ∧ _ ∧ _ ∧ True) from ⟨hq0, hq1, hq2, trivial⟩)
        clear hq0 hq1 hq2
        have HBW : Hid (Below w.heap.size w wr) := hbw
        clear hown hbw hO hl9 hkk hk HT HLEN
        go_wp2_with fail
        go_quiet (first | (go_at_call 16; refine Calls.quiet_of_same (HD.out _)))
        go_wp2
        go_ret
        exact ⟨str_ret (by rw [HR.out.1, ← HQ.out.1, ← HQ.out.2.1, ← HQ.out.2.2.1]; exact eq7 [40, 105, 102, 32] _ [32, 116, 104, 101, 110, 32] _ [32, 101, 108, 115, 101, 32] _ [41]), drewN_below HBW.out _⟩
      · have hl9 := HLEN.out
        rw [hkk] at z0 hl9
        have hln : x.kids.length = 0 := by have : kidsOf 7 = 0 := rfl; omega
        have hres := HT.out.1 (by omega) HLEN.out
        rw [hln, show0, hkk] at hres
        have HR := (show Hid (_ ∧ True) from ⟨hres, trivial⟩)
        clear hres
        have HBW : Hid (Below w.heap.size w wr) := hbw
        clear hown hbw hO hl9 hkk hk HT HSZ HLEN
        go_wp2
        go_ret
        exact ⟨str_ret (by rw [HR.out.1]; rfl), HBW.out⟩
      · have hl9 := HLEN.out
        rw [hkk] at z0 hl9
        have hln : x.kids.length = 2 := by have : kidsOf 8 = 2 := rfl; omega
        have hres := HT.out.1 (by omega) HLEN.out
        rw [hln, show2, hkk] at hres
        have HR := (show Hid (_ ∧ True) from ⟨hres, trivial⟩)
        clear hres
        obtain ⟨g, cp, rfl⟩ := own_slice hown (by omega)
        have hcs := hown.cells (g := g) rfl
        have y0 : wr.cell? ⟨g, 0, none⟩ = some (.string (bsOf (kidS x (deep - 1) 0))) := by have := hcs 0 _ (kidVs_at x (deep - 1) _ 0 (by omega)); rw [addr_add] at this; simpa using this
        have s0 := HSZ.out 0
        have y1 : wr.cell? ⟨g, 1, none⟩ = some (.string (bsOf (kidS x (deep - 1) 1))) := by have := hcs 1 _ (kidVs_at x (deep - 1) _ 1 (by omega)); rw [addr_add] at this; simpa using this
        have s1 := HSZ.out 1
        have HKS := (show Hid (_ ∧ True) from ⟨hcs, trivial⟩)
        clear hcs HSZ HKS
        generalize hq0 : bsOf (kidS x (deep - 1) 0) = q0 at *
        generalize hq1 : bsOf (kidS x (deep - 1) 1) = q1 at *
        have HQ := (show Hid (_ ∧ _ ∧ True) from ⟨hq0, hq1, trivial⟩)
        clear hq0 hq1
        have HBW : Hid (Below w.heap.size w wr) := hbw
        clear hown hbw hO hl9 hkk hk HT HLEN
        go_wp2_with fail
        go_quiet (first | (go_at_call 16; refine Calls.quiet_of_same (HD.out _)))
        go_wp2
        go_ret
        exact ⟨str_ret (by rw [HR.out.1, ← HQ.out.1, ← HQ.out.2.1]; exact eq5 [40] _ [32, 58, 32] _ [41]), drewN_below HBW.out _⟩
      · have hl9 := HLEN.out
        rw [hkk] at z0 hl9
        have hln : x.kids.length = 3 := by have : kidsOf 9 = 3 := rfl; omega
        have hres := HT.out.1 (by omega) HLEN.out
        rw [hln, show3, hkk] at hres
        have HR := (show Hid (_ ∧ True) from ⟨hres, trivial⟩)
        clear hres
        obtain ⟨g, cp, rfl⟩ := own_slice hown (by omega)
        have hcs := hown.cells (g := g) rfl
        have y0 : wr.cell? ⟨g, 0, none⟩ = some (.string (bsOf (kidS x (deep - 1) 0))) := by have := hcs 0 _ (kidVs_at x (deep - 1) _ 0 (by omega)); rw [addr_add] at this; simpa using this
        have s0 := HSZ.out 0
        have y1 : wr.cell? ⟨g, 1, none⟩ = some (.string (bsOf (kidS x (deep - 1) 1))) := by have := hcs 1 _ (kidVs_at x (deep - 1) _ 1 (by omega)); rw [addr_add] at this; simpa using this
        have s1 := HSZ.out 1
        have y2 : wr.cell? ⟨g, 2, none⟩ = some (.string (bsOf (kidS x (deep - 1) 2))) := by have := hcs 2 _ (kidVs_at x (deep - 1) _ 2 (by omega)); rw [addr_add] at this; simpa using this
        have s2 := HSZ.out 2
        have HKS := (show Hid (_ ∧ True) from ⟨hcs, trivial⟩)
        clear hcs HSZ HKS
        generalize hq0 : bsOf (kidS x (deep - 1) 0) = q0 at *
        generalize hq1 : bsOf (kidS x (deep - 1) 1) = q1 at *
        generalize hq2 : bsOf (kidS x (deep - 1) 2) = q2 at *
        have HQ := (show Hid (_ ∧ _ ∧ _ ∧ True) from ⟨hq0, hq1, hq2, trivial⟩)
        clear hq0 hq1 hq2
        have HBW : Hid (Below w.heap.size w wr) := hbw
        clear hown hbw hO hl9 hkk hk HT HLEN
        go_wp2_with fail
        go_quiet (first | (go_at_call 16; refine Calls.quiet_of_same (HD.out _)))
        go_wp2
        go_ret
        exact ⟨str_ret (by rw [HR.out.1, ← HQ.out.1, ← HQ.out.2.1, ← HQ.out.2.2.1]; exact eq7 [40, 99, 97, 115, 101, 32] _ [32, 111, 102, 32] _ [32, 124, 32] _ [41]), drewN_below HBW.out _⟩
      · have hl9 := HLEN.out
        rw [hkk] at z0 hl9
        have hln : x.kids.length = 2 := by have : kidsOf 10 = 2 := rfl; omega
        have hres := HT.out.1 (by omega) HLEN.out
        rw [hln, show2, hkk] at hres
        have HR := (show Hid (_ ∧ True) from ⟨hres, trivial⟩)
        clear hres
        obtain ⟨g, cp, rfl⟩ := own_slice hown (by omega)
        have hcs := hown.cells (g := g) rfl
        have y0 : wr.cell? ⟨g, 0, none⟩ = some (.string (bsOf (kidS x (deep - 1) 0))) := by have := hcs 0 _ (kidVs_at x (deep - 1) _ 0 (by omega)); rw [addr_add] at this; simpa using this
        have s0 := HSZ.out 0
        have y1 : wr.cell? ⟨g, 1, none⟩ = some (.string (bsOf (kidS x (deep - 1) 1))) := by have := hcs 1 _ (kidVs_at x (deep - 1) _ 1 (by omega)); rw [addr_add] at this; simpa using this
        have s1 := HSZ.out 1
        have HKS := (show Hid (_ ∧ True) from ⟨hcs, trivial⟩)
        clear hcs HSZ HKS
        generalize hq0 : bsOf (kidS x (deep - 1) 0) = q0 at *
        generalize hq1 : bsOf (kidS x (deep - 1) 1) = q1 at *
        have HQ := (show Hid (_ ∧ _ ∧ True) from ⟨hq0, hq1, trivial⟩)
        clear hq0 hq1
        have z2 : wr.cell? ⟨w.heap.size, 2, none⟩ = some (.string x.text) := by rw [cell_of_block hO]; rfl
        have HBW : Hid (Below w.heap.size w wr) := hbw
        clear hown hbw hO hl9 hkk hk HT HLEN
        go_wp2_with fail
        go_quiet (first | (go_at_call 16; refine Calls.quiet_of_same (HD.out _)))
        go_wp2
        go_ret
        exact ⟨str_ret (by rw [HR.out.1, ← HQ.out.1, ← HQ.out.2.1]; exact eq7t [40] _ x.text _ [41]), drewN_below HBW.out _⟩
      · have hl9 := HLEN.out
        rw [hkk] at z0 hl9
        have hln : x.kids.length = 2 := by have : kidsOf 11 = 2 := rfl; omega
        have hres := HT.out.1 (by omega) HLEN.out
        rw [hln, show2, hkk] at hres
        have HR := (show Hid (_ ∧ True) from ⟨hres, trivial⟩)
        clear hres
        obtain ⟨g, cp, rfl⟩ := own_slice hown (by omega)
        have hcs := hown.cells (g := g) rfl
        have y0 : wr.cell? ⟨g, 0, none⟩ = some (.string (bsOf (kidS x (deep - 1) 0))) := by have := hcs 0 _ (kidVs_at x (deep - 1) _ 0 (by omega)); rw [addr_add] at this; simpa using this
        have s0 := HSZ.out 0
        have y1 : wr.cell? ⟨g, 1, none⟩ = some (.string (bsOf (kidS x (deep - 1) 1))) := by have := hcs 1 _ (kidVs_at x (deep - 1) _ 1 (by omega)); rw [addr_add] at this; simpa using this
        have s1 := HSZ.out 1
        have HKS := (show Hid (_ ∧ True) from ⟨hcs, trivial⟩)
        clear hcs HSZ HKS
        generalize hq0 : bsOf (kidS x (deep - 1) 0) = q0 at *
        generalize hq1 : bsOf (kidS x (deep - 1) 1) = q1 at *
        have HQ := (show Hid (_ ∧ _ ∧ True) from ⟨hq0, hq1, trivial⟩)
        clear hq0 hq1
        have HBW : Hid (Below w.heap.size w wr) := hbw
        clear hown hbw hO hl9 hkk hk HT HLEN
        go_wp2_with fail
        go_quiet (first | (go_at_call 16; refine Calls.quiet_of_same (HD.out _)))
        go_wp2
        go_ret
        exact ⟨str_ret (by rw [HR.out.1, ← HQ.out.1, ← HQ.out.2.1]; exact eq5 [40, 112, 97, 114, 32] _ [32, 105, 110, 32] _ [41]), drewN_below HBW.out _⟩

theorem l02Show_any : ∀ d, ShowS d
  | 0 => fun _ _ _ _ _ ⟨_, _, _, _, _, h⟩ => h.elim
  | d + 1 => l02Show_of d (l02Show_any d)

theorem specShow_any (d : Nat) (v : Value) (x : Ex) (S : Nat → Prop) (w : World) (h : ExAt w S d v x) (hb : x.bulk ≤ 1048576) :
    Calls Tryd.prog 5 #[v] w fun e w' => e = .returned (.string (bsOf (x.show 60))) ∧ Below w.heap.size w w' := by
  have H1 : Hid (ExAt w S d v x) := h
  obtain ⟨kv, rfl, -, -, -, hk⟩ := h
  obtain ⟨a, cap, rfl⟩ := hk.form
  clear hk
  have B0 : Below w.heap.size w (w.alloc (.cells #[.int .i64 x.kind, .int .i64 x.n, .string x.text, .slice a x.kids.length cap] 29)) := (Below.refl _ w).alloc (Nat.le_refl _) _
  have HS := (show Hid (_ ∧ _) from ⟨l02Show_any d _ x S _ 60 (H1.out.below B0) hb ⟨by omega, by omega⟩, B0⟩)
  clear B0
  go_enter Tryd.func5, Tryd.ntmps5
  go_wp2_with fail
  refine HS.out.1.mono ?_
  rintro e w1 ⟨rfl, b1⟩
  go_wp2
  go_ret
  exact ⟨rfl, HS.out.2.trans (b1.mono HS.out.2.size)⟩
end Go.Proofs.YtfldnonifhedgaaDoor
