/-
  The law of chapter 7, walked: a message and a pack come back from their bytes, and no other bytes are theirs.
-/
import Derived.Test.YtkfmkhhjkioeoaaGreatDoorDrawWTop
import Derived.Test.YtkfmkhhjkioeoaaGreatDoorMM
import Derived.Test.YtkfmkhhjkioeoaaGreatDoorImplPutMsg
import Derived.Test.YtkfmkhhjkioeoaaGreatDoorImplPutPack
import Derived.Test.YtkfmkhhjkioeoaaGreatDoorSpecGetPack
import Derived.Test.YtkfmkhhjkioeoaaGreatDoorImplMsgText
import Derived.Test.YtkfmkhhjkioeoaaGreatDoorSpecMsgText
import Derived.Test.YtkfmkhhjkioeoaaGreatDoorImplGetNum
import Derived.Test.YtkfmkhhjkioeoaaGreatDoorWireBack
import Derived.Deep.RegionHeld3
import Derived.Deep.CutBlock
import Derived.Laws.StructEq
import Derived.Lib.QuietBelow
import Derived.BigQuiet
namespace Go.Proofs.YtkfmkhhjkioeoaaGreatDoor
open Go.RowKit Go.Joins

set_option maxRecDepth 100000

theorem base_below {w W W' : World} (h : Below w.heap.size w W) (hb : Below W.heap.size W W') : Below w.heap.size w W' := h.trans (hb.mono h.size)
theorem blk_below {W W' : World} {b : Nat} {o : Obj} (h : W.heap[b]? = some o) (hb : Below W.heap.size W W') : W'.heap[b]? = some o := (hb.block b (Array.getElem?_eq_some_iff.1 h).1).trans h
theorem msT {w : World} {B : Nat} {v : Value} {m : Ms} (h : OwnMs w B v m) : MsAt w (fun _ => True) v m := by
  obtain ⟨S, kv, hv, e1, e2, e3, e4, hk⟩ := h.at_
  exact ⟨kv, hv, e1, e2, e3, e4, hk.kept (fun _ _ _ => rfl) (Nat.le_refl _) (fun _ _ _ => trivial)⟩
theorem bigW_any (a : Option Addr) (len cap : Nat) (w : World) :
    Calls Tryz.prog 4 #[.slice a len cap] w fun e w' => e = .returned (.bool (decide ((1048576 : Int) < (len : Int)))) ∧ w' = w := by
  go_enter Tryz.func4, Tryz.ntmps4
  go_wp2
  go_ret
  exact ⟨rfl, rfl⟩
/-- What the law has drawn and read. -/
structure WSt (w W : World) (bm bx yb bp ba bb : Nat) (m mx : Ms) (km kx ky : Value) (p pa : Pa) : Prop where
  base : Below w.heap.size w W
  am : MsAt W (fun _ => True) (.agg (m.row km)) m
  ax : MsAt W (fun _ => True) (.agg (mx.row kx)) mx
  ay : MsAt W (fun _ => True) (.agg (mx.row ky)) mx
  em : W.heap[bm]? = some (.cells (m.row km) 28)
  ex : W.heap[bx]? = some (.cells (mx.row kx) 28)
  ey : W.heap[yb]? = some (.cells (mx.row ky) 28)
  ep : W.heap[bp]? = some (.cells p.row 35)
  ea : W.heap[ba]? = some (.cells pa.row 35)
  eb : W.heap[bb]? = some (.cells pa.row 35)
theorem WSt.below {w W W' : World} {bm bx yb bp ba bb : Nat} {m mx : Ms} {km kx ky : Value} {p pa : Pa} (h : WSt w W bm bx yb bp ba bb m mx km kx ky p pa) (hb : Below W.heap.size W W') : WSt w W' bm bx yb bp ba bb m mx km kx ky p pa :=
  ⟨base_below h.base hb, h.am.below hb, h.ax.below hb, h.ay.below hb, blk_below h.em hb, blk_below h.ex hb, blk_below h.ey hb, blk_below h.ep hb, blk_below h.ea hb, blk_below h.eb hb⟩

theorem WSt.cells {w W : World} {bm bx yb bp ba bb : Nat} {m mx : Ms} {km kx ky : Value} {p pa : Pa} (h : WSt w W bm bx yb bp ba bb m mx km kx ky p pa) : W.cell? ⟨bm, 0, none⟩ = some (.int .i64 m.kind) ∧ W.cell? ⟨bm, 1, none⟩ = some (.int .i64 m.frm) ∧ W.cell? ⟨bm, 2, none⟩ = some (.int .i64 m.dst) ∧ W.cell? ⟨bm, 3, none⟩ = some (.int .i64 m.id) ∧ W.cell? ⟨bm, 4, none⟩ = some (.int .i64 m.want) ∧ W.cell? ⟨bm, 5, none⟩ = some (.int .i64 m.cell.kind) ∧ W.cell? ⟨bm, 6, none⟩ = some (.int .i64 m.cell.n) ∧ W.cell? ⟨bm, 7, none⟩ = some (.int .i64 m.cell.pos) ∧ W.cell? ⟨bm, 8, none⟩ = some (km) ∧ W.cell? ⟨bx, 0, none⟩ = some (.int .i64 mx.kind) ∧ W.cell? ⟨bx, 1, none⟩ = some (.int .i64 mx.frm) ∧ W.cell? ⟨bx, 2, none⟩ = some (.int .i64 mx.dst) ∧ W.cell? ⟨bx, 3, none⟩ = some (.int .i64 mx.id) ∧ W.cell? ⟨bx, 4, none⟩ = some (.int .i64 mx.want) ∧ W.cell? ⟨bx, 5, none⟩ = some (.int .i64 mx.cell.kind) ∧ W.cell? ⟨bx, 6, none⟩ = some (.int .i64 mx.cell.n) ∧ W.cell? ⟨bx, 7, none⟩ = some (.int .i64 mx.cell.pos) ∧ W.cell? ⟨bx, 8, none⟩ = some (kx) ∧ W.cell? ⟨yb, 0, none⟩ = some (.int .i64 mx.kind) ∧ W.cell? ⟨yb, 1, none⟩ = some (.int .i64 mx.frm) ∧ W.cell? ⟨yb, 2, none⟩ = some (.int .i64 mx.dst) ∧ W.cell? ⟨yb, 3, none⟩ = some (.int .i64 mx.id) ∧ W.cell? ⟨yb, 4, none⟩ = some (.int .i64 mx.want) ∧ W.cell? ⟨yb, 5, none⟩ = some (.int .i64 mx.cell.kind) ∧ W.cell? ⟨yb, 6, none⟩ = some (.int .i64 mx.cell.n) ∧ W.cell? ⟨yb, 7, none⟩ = some (.int .i64 mx.cell.pos) ∧ W.cell? ⟨yb, 8, none⟩ = some (ky) ∧ W.cell? ⟨bp, 0, none⟩ = some (.int .i64 p.kind) ∧ W.cell? ⟨bp, 1, none⟩ = some (.int .i64 p.frm) ∧ W.cell? ⟨bp, 2, none⟩ = some (.int .i64 p.dst) ∧ W.cell? ⟨bp, 3, none⟩ = some (.int .i64 p.seq) ∧ W.cell? ⟨bp, 4, none⟩ = some (.int .i64 p.low) ∧ W.cell? ⟨bp, 5, none⟩ = some (.string p.body) ∧ W.cell? ⟨ba, 0, none⟩ = some (.int .i64 pa.kind) ∧ W.cell? ⟨ba, 1, none⟩ = some (.int .i64 pa.frm) ∧ W.cell? ⟨ba, 2, none⟩ = some (.int .i64 pa.dst) ∧ W.cell? ⟨ba, 3, none⟩ = some (.int .i64 pa.seq) ∧ W.cell? ⟨ba, 4, none⟩ = some (.int .i64 pa.low) ∧ W.cell? ⟨ba, 5, none⟩ = some (.string pa.body) ∧ W.cell? ⟨bb, 0, none⟩ = some (.int .i64 pa.kind) ∧ W.cell? ⟨bb, 1, none⟩ = some (.int .i64 pa.frm) ∧ W.cell? ⟨bb, 2, none⟩ = some (.int .i64 pa.dst) ∧ W.cell? ⟨bb, 3, none⟩ = some (.int .i64 pa.seq) ∧ W.cell? ⟨bb, 4, none⟩ = some (.int .i64 pa.low) ∧ W.cell? ⟨bb, 5, none⟩ = some (.string pa.body) :=
  ⟨(cell_of_block h.em 0).trans rfl, (cell_of_block h.em 1).trans rfl, (cell_of_block h.em 2).trans rfl, (cell_of_block h.em 3).trans rfl, (cell_of_block h.em 4).trans rfl, (cell_of_block h.em 5).trans rfl, (cell_of_block h.em 6).trans rfl, (cell_of_block h.em 7).trans rfl, (cell_of_block h.em 8).trans rfl, (cell_of_block h.ex 0).trans rfl, (cell_of_block h.ex 1).trans rfl, (cell_of_block h.ex 2).trans rfl, (cell_of_block h.ex 3).trans rfl, (cell_of_block h.ex 4).trans rfl, (cell_of_block h.ex 5).trans rfl, (cell_of_block h.ex 6).trans rfl, (cell_of_block h.ex 7).trans rfl, (cell_of_block h.ex 8).trans rfl, (cell_of_block h.ey 0).trans rfl, (cell_of_block h.ey 1).trans rfl, (cell_of_block h.ey 2).trans rfl, (cell_of_block h.ey 3).trans rfl, (cell_of_block h.ey 4).trans rfl, (cell_of_block h.ey 5).trans rfl, (cell_of_block h.ey 6).trans rfl, (cell_of_block h.ey 7).trans rfl, (cell_of_block h.ey 8).trans rfl, (cell_of_block h.ep 0).trans rfl, (cell_of_block h.ep 1).trans rfl, (cell_of_block h.ep 2).trans rfl, (cell_of_block h.ep 3).trans rfl, (cell_of_block h.ep 4).trans rfl, (cell_of_block h.ep 5).trans rfl, (cell_of_block h.ea 0).trans rfl, (cell_of_block h.ea 1).trans rfl, (cell_of_block h.ea 2).trans rfl, (cell_of_block h.ea 3).trans rfl, (cell_of_block h.ea 4).trans rfl, (cell_of_block h.ea 5).trans rfl, (cell_of_block h.eb 0).trans rfl, (cell_of_block h.eb 1).trans rfl, (cell_of_block h.eb 2).trans rfl, (cell_of_block h.eb 3).trans rfl, (cell_of_block h.eb 4).trans rfl, (cell_of_block h.eb 5).trans rfl⟩
theorem pack_neq (p : Pa) (w : World) : (binOp .neq 35 (.agg p.row) (.agg p.row)).run Tryz.prog w = .ok (.bool false) w := by
  have h1 : (p.kind == p.kind) = true := by simp
  have h2 : (p.frm == p.frm) = true := by simp
  have h3 : (p.dst == p.dst) = true := by simp
  have h4 : (p.seq == p.seq) = true := by simp
  have h5 : (p.low == p.low) = true := by simp
  have h6 : (p.body.toList == p.body.toList) = true := by simp
  go_simp
theorem pack_eql (p : Pa) (w : World) : (binOp .eql 35 (.agg p.row) (.agg p.row)).run Tryz.prog w = .ok (.bool true) w := by
  have h1 : (p.kind == p.kind) = true := by simp
  have h2 : (p.frm == p.frm) = true := by simp
  have h3 : (p.dst == p.dst) = true := by simp
  have h4 : (p.seq == p.seq) = true := by simp
  have h5 : (p.low == p.low) = true := by simp
  have h6 : (p.body.toList == p.body.toList) = true := by simp
  go_simp

theorem wire_u {u : ByteArray} {mx : Ms} (h : msgRes u.data.toList = mx) (hf : msgFit u.data.toList = true) : (⟨mx.bytes.toArray⟩ : ByteArray) = u := by
  subst h
  unfold msgRes
  rw [hf, if_pos rfl]
  exact str_eq (msgFit_yes hf)
theorem wire_v {v : ByteArray} {pa : Pa} (h : packRes v.data.toList = pa) (hf : packFit v.data.toList = true) : (⟨pa.bytes.toArray⟩ : ByteArray) = v := by
  subst h
  unfold packRes
  rw [hf, if_pos rfl]
  exact str_eq (packFit_yes hf)
theorem wire_f {v : ByteArray} {pa : Pa} (h : packRes v.data.toList = pa) (hf : packFit v.data.toList = true) : pa.fits := by
  subst h
  unfold packRes
  rw [hf, if_pos rfl]
  exact packL_fits _
theorem wire_l {v : ByteArray} {pa : Pa} (h : packRes v.data.toList = pa) (hf : packFit v.data.toList = true) (hv : v.size ≤ 2000) : pa.body.size ≤ 3000 := by
  subst h
  unfold packRes
  rw [hf, if_pos rfl]
  show (v.data.toList.drop 48).toArray.size ≤ 3000
  rw [List.size_toArray, List.length_drop]
  have : v.data.toList.length = v.size := by simp
  omega

theorem num_there {n : Int} (hn : inI64 n) : getN ((⟨#[97]⟩ : ByteArray) ++ ⟨(numB n).toArray⟩) 1 = (n, 9) := by
  have hl : ((⟨#[97]⟩ : ByteArray) ++ ⟨(numB n).toArray⟩).data.toList = 97 :: numB n := by
    rw [ByteArray.data_append]
    simp
  have hs : ((⟨#[97]⟩ : ByteArray) ++ ⟨(numB n).toArray⟩).size = 9 := by
    rw [← ByteArray.size_data, ← Array.length_toList, hl, List.length_cons, numB_len]
  unfold getN
  rw [hs, hl, if_pos (by omega)]
  show (wrap64 (bytesU ((numB n).take 8) : Nat), (9 : Int)) = (n, 9)
  rw [List.take_of_length_le (by rw [numB_len]; omega), num_back hn]
theorem ms_fits {w : World} {S : Nat → Prop} {v : Value} {m : Ms} (h : MsAt w S v m) : m.fits := by
  obtain ⟨kv, hv, ⟨h1, h2, h3, h4, h5⟩, h6, h7, h8, a, c, h9, h10, hk⟩ := h
  refine ⟨h1, h2, h3, h4, h5, h6, h7, h8, fun z hz => ?_⟩
  obtain ⟨i, hi⟩ := List.getElem?_of_mem hz
  obtain ⟨_, _, _, _, _, _, h11⟩ := hk i z hi
  exact h11
theorem getMsg_back {m : Ms} (hok : m.ok = true) (hf : m.fits) (w : World) (hs : (⟨m.bytes.toArray⟩ : ByteArray).size ≤ 1048576) (hg : ET w) :
    Calls Tryz.prog 8 #[.string ⟨m.bytes.toArray⟩] w fun e w' => ∃ mv, e = .returned (.tuple #[mv, .bool true]) ∧ MsAt w' (fun _ => True) mv m ∧ Below w.heap.size w w' := by
  refine (implGetMsg_any ⟨m.bytes.toArray⟩ w hs hg).mono ?_
  rintro e w' ⟨mv, rfl, hm, hb⟩
  have h1 : msgFit (⟨m.bytes.toArray⟩ : ByteArray).data.toList = true := msg_back_fit hok hf
  have h2 : msgRes (⟨m.bytes.toArray⟩ : ByteArray).data.toList = m := by
    unfold msgRes
    rw [h1, if_pos rfl]
    exact msg_back hok hf
  rw [h2] at hm
  rw [h1]
  exact ⟨mv, rfl, msT hm, hb⟩
theorem getPack_back {p : Pa} (hok : p.ok = true) (hf : p.fits) (w : World) (hs : (⟨p.bytes.toArray⟩ : ByteArray).size ≤ 1048576) (hg : ET w) :
    Calls Tryz.prog 13 #[.string ⟨p.bytes.toArray⟩] w fun e w' => e = .returned (.tuple #[.agg p.row, .bool true]) ∧ Below w.heap.size w w' := by
  refine (implGetPack_any ⟨p.bytes.toArray⟩ w hs hg).mono ?_
  rintro e w' ⟨rfl, hb⟩
  have h1 : packFit (⟨p.bytes.toArray⟩ : ByteArray).data.toList = true := (pack_back hok hf).2
  have h2 : packRes (⟨p.bytes.toArray⟩ : ByteArray).data.toList = p := by
    unfold packRes
    rw [h1, if_pos rfl]
    exact (pack_back hok hf).1
  rw [h1, h2]
  exact ⟨rfl, hb⟩
theorem getPack_cut {p : Pa} (hok : p.ok = true) (hf : p.fits) (k : Nat) (hk : k < (⟨p.bytes.toArray⟩ : ByteArray).size) (w : World) (hs : (⟨p.bytes.toArray⟩ : ByteArray).size ≤ 1048576) (hg : ET w) :
    Calls Tryz.prog 13 #[.string ((⟨p.bytes.toArray⟩ : ByteArray).extract 0 k)] w fun e w' => ∃ r : Pa, e = .returned (.tuple #[.agg r.row, .bool false]) ∧ Below w.heap.size w w' := by
  refine (implGetPack_any _ w (by rw [ByteArray.size_extract]; omega) hg).mono ?_
  rintro e w' ⟨rfl, hb⟩
  have h0 : ((⟨p.bytes.toArray⟩ : ByteArray).extract 0 k).data.toList = p.bytes.take k := by
    rw [ByteArray.data_extract]
    simp
  have h1 : packFit ((⟨p.bytes.toArray⟩ : ByteArray).extract 0 k).data.toList = false := by
    rw [h0]
    exact pack_cut hok hf hk
  rw [h1]
  exact ⟨_, rfl, hb⟩
theorem at3_any (B : Nat) (V : Value) (len : Nat) (w : World) (hcode : CodeIs B w V len) :
    Calls Tryz.prog 32 #[V, .int .i64 3] w fun e w' => ∃ x : Int, e = .returned (.int .i64 x) ∧ 0 ≤ x ∧ x ≤ 255 ∧ w' = w := by
  obtain ⟨a, cap, rfl, hl, hc⟩ := hcode
  by_cases h : 3 < len
  · obtain ⟨b, off, rfl, -, hcell⟩ := hc (by omega)
    obtain ⟨z, z0, z1, hz⟩ := hcell 3 h
    clear hc hcell
    have h' : (3 : Int) < ((len : Nat) : Int) := by omega
    go_enter Tryz.func32, Tryz.ntmps32
    go_wp2
    go_ret
    exact ⟨_, rfl, by omega, by omega, rfl⟩
  · clear hc
    have h' : ¬ (3 : Int) < ((len : Nat) : Int) := by omega
    go_enter Tryz.func32, Tryz.ntmps32
    go_wp2
    go_ret
    exact ⟨_, rfl, by omega, by omega, rfl⟩
theorem msg_void {m : Ms} (h : m.ok = false) : m.bytes = [] := by unfold Ms.bytes; rw [h]; rfl
theorem msg_full {m : Ms} (h : m.ok = true) : ¬ m.bytes = [] ∧ m.bytes.isEmpty = false := by
  have hl := bytes_len m h
  cases hb : m.bytes with
  | nil => rw [hb, List.length_nil] at hl; omega
  | cons => exact ⟨by simp, rfl⟩
theorem pack_void {p : Pa} (h : p.ok = false) : p.bytes = [] := by unfold Pa.bytes; rw [h]; rfl
theorem pack_full {p : Pa} (h : p.ok = true) : ¬ p.bytes = [] ∧ p.bytes.isEmpty = false := by
  cases hb : p.bytes with
  | nil =>
    unfold Pa.bytes at hb
    rw [h] at hb
    have hl := congrArg List.length hb
    simp only [if_true, List.length_append, List.length_nil, numsB_len] at hl
    have h6 : p.nums.length = 6 := rfl
    omega
  | cons => exact ⟨by simp, rfl⟩

set_option maxHeartbeats 20000000 in
theorem wire_small (V : Value) (len : Nat) (w : World) (hl : len ≤ 1048576) (hcode : CodeIs w.heap.size w V len) (htab : Lib.TabIs Tryz.prog w "internal/strconv.uint64pow10" .u64 Lib.pow10Tab) (het : ET w) :
    Calls Tryz.prog 3 #[V] w fun e w' => e = .returned (.bool true) ∧ Below w.heap.size w w' := by
  obtain ⟨va, vc, rfl, -⟩ := id hcode
  have HC := (show Hid (_ ∧ _ ∧ _) from ⟨hcode, htab, het⟩)
  clear hcode htab het
  have hsm : decide ((1048576 : Int) < (len : Int)) = false := by simp; omega
  go_enter Tryz.func3, Tryz.ntmps3
  have HB0 := (show Hid (Below w.heap.size w w) from Below.refl _ _)
  go_wp2_with fail
  refine (bigW_any va len vc w).mono ?_
  rintro e w' ⟨rfl, hw'⟩
  rw [hsm, hw']
  clear hw' w'
  go_wp2_with fail
  refine (drawPutMsg_any _ len w HC.out.1).mono ?_
  rintro e w2 ⟨vm, m, rfl, hm, hml, b2⟩
  obtain ⟨ka, kc, rfl⟩ := hm.form
  have H2 := (show Hid (_ ∧ _) from ⟨base_below HB0.out b2, hm⟩)
  clear b2 hm HB0
  go_wp2_with fail
  have H2b := (show Hid (_ ∧ _ ∧ _) from ⟨base_below H2.out.1 ((Below.refl _ w2).alloc (Nat.le_refl _) (.cells (m.row (.slice ka m.cell.kids.length kc)) 28)), H2.out.2.below ((Below.refl _ w2).alloc (Nat.le_refl _) (.cells (m.row (.slice ka m.cell.kids.length kc)) 28)), (MapKept.heap_alloc w2 (.cells (m.row (.slice ka m.cell.kids.length kc)) 28)).1⟩)
  clear H2
  generalize w2.alloc (.cells (m.row (.slice ka m.cell.kids.length kc)) 28) = W2 at *
  generalize w2.heap.size = bm at *
  refine (implPutMsg_any _ m (fun _ => True) W2 H2b.out.2.1).mono ?_
  rintro e w3 ⟨rfl, b3⟩
  have H3 := (show Hid (_ ∧ _ ∧ _) from ⟨base_below H2b.out.1 b3, H2b.out.2.1.below b3, blk_below H2b.out.2.2 b3⟩)
  clear b3 H2b
  go_wp2_with fail
  refine (drawGetMsg_any _ len w3 (code_upW HC.out.1 H3.out.1)).mono ?_
  rintro e w4 ⟨u, rfl, hu, b4⟩
  have H4 := (show Hid (_ ∧ _ ∧ _) from ⟨base_below H3.out.1 b4, H3.out.2.1.below b4, blk_below H3.out.2.2 b4⟩)
  clear b4 H3
  go_wp2_with fail
  refine (implGetMsg_any u w4 (by omega) (HC.out.2.2.below H4.out.1)).mono ?_
  rintro e w5 ⟨vx, rfl, hx, b5⟩
  obtain ⟨xv, xc, rfl⟩ := hx.at_.choose_spec.form
  have H5 := (show Hid (_ ∧ _ ∧ _ ∧ _) from ⟨base_below H4.out.1 b5, H4.out.2.1.below b5, blk_below H4.out.2.2 b5, msT hx⟩)
  clear b5 hx H4
  go_wp2_with fail
  have H5b := (show Hid (_ ∧ _ ∧ _ ∧ _ ∧ _) from ⟨base_below H5.out.1 ((Below.refl _ w5).alloc (Nat.le_refl _) (.cells ((msgRes u.data.toList).row (.slice xv (msgRes u.data.toList).cell.kids.length xc)) 28)), H5.out.2.1.below ((Below.refl _ w5).alloc (Nat.le_refl _) (.cells ((msgRes u.data.toList).row (.slice xv (msgRes u.data.toList).cell.kids.length xc)) 28)), blk_below H5.out.2.2.1 ((Below.refl _ w5).alloc (Nat.le_refl _) (.cells ((msgRes u.data.toList).row (.slice xv (msgRes u.data.toList).cell.kids.length xc)) 28)), H5.out.2.2.2.below ((Below.refl _ w5).alloc (Nat.le_refl _) (.cells ((msgRes u.data.toList).row (.slice xv (msgRes u.data.toList).cell.kids.length xc)) 28)), (MapKept.heap_alloc w5 (.cells ((msgRes u.data.toList).row (.slice xv (msgRes u.data.toList).cell.kids.length xc)) 28)).1⟩)
  clear H5
  generalize w5.alloc (.cells ((msgRes u.data.toList).row (.slice xv (msgRes u.data.toList).cell.kids.length xc)) 28) = W5 at *
  generalize w5.heap.size = bx at *
  refine (specGetMsg_any u W5 (by omega)).mono ?_
  rintro e w6 ⟨vy, rfl, hy, b6⟩
  obtain ⟨yv, yc, rfl⟩ := hy.at_.choose_spec.form
  have H6 := (show Hid (_ ∧ _ ∧ _ ∧ _ ∧ _ ∧ _) from ⟨base_below H5b.out.1 b6, H5b.out.2.1.below b6, blk_below H5b.out.2.2.1 b6, H5b.out.2.2.2.1.below b6, blk_below H5b.out.2.2.2.2 b6, msT hy⟩)
  clear b6 hy H5b
  go_wp2_with fail
  have H6b := (show Hid (_ ∧ _ ∧ _ ∧ _ ∧ _ ∧ _ ∧ _) from ⟨base_below H6.out.1 ((Below.refl _ w6).alloc (Nat.le_refl _) (.cells ((msgRes u.data.toList).row (.slice yv (msgRes u.data.toList).cell.kids.length yc)) 28)), H6.out.2.1.below ((Below.refl _ w6).alloc (Nat.le_refl _) (.cells ((msgRes u.data.toList).row (.slice yv (msgRes u.data.toList).cell.kids.length yc)) 28)), blk_below H6.out.2.2.1 ((Below.refl _ w6).alloc (Nat.le_refl _) (.cells ((msgRes u.data.toList).row (.slice yv (msgRes u.data.toList).cell.kids.length yc)) 28)), H6.out.2.2.2.1.below ((Below.refl _ w6).alloc (Nat.le_refl _) (.cells ((msgRes u.data.toList).row (.slice yv (msgRes u.data.toList).cell.kids.length yc)) 28)), blk_below H6.out.2.2.2.2.1 ((Below.refl _ w6).alloc (Nat.le_refl _) (.cells ((msgRes u.data.toList).row (.slice yv (msgRes u.data.toList).cell.kids.length yc)) 28)), H6.out.2.2.2.2.2.below ((Below.refl _ w6).alloc (Nat.le_refl _) (.cells ((msgRes u.data.toList).row (.slice yv (msgRes u.data.toList).cell.kids.length yc)) 28)), (MapKept.heap_alloc w6 (.cells ((msgRes u.data.toList).row (.slice yv (msgRes u.data.toList).cell.kids.length yc)) 28)).1⟩)
  clear H6
  generalize w6.alloc (.cells ((msgRes u.data.toList).row (.slice yv (msgRes u.data.toList).cell.kids.length yc)) 28) = W6 at *
  generalize w6.heap.size = yb at *
  refine (drawPutPack_any _ len W6 (code_upW HC.out.1 H6b.out.1)).mono ?_
  rintro e w7 ⟨p, rfl, hpf, hpb, b7⟩
  have H7 := (show Hid (_ ∧ _ ∧ _ ∧ _ ∧ _ ∧ _ ∧ _) from ⟨base_below H6b.out.1 b7, H6b.out.2.1.below b7, blk_below H6b.out.2.2.1 b7, H6b.out.2.2.2.1.below b7, blk_below H6b.out.2.2.2.2.1 b7, H6b.out.2.2.2.2.2.1.below b7, blk_below H6b.out.2.2.2.2.2.2 b7⟩)
  clear b7 H6b
  go_wp2_with fail
  have H7b := (show Hid (_ ∧ _ ∧ _ ∧ _ ∧ _ ∧ _ ∧ _ ∧ _) from ⟨base_below H7.out.1 ((Below.refl _ w7).alloc (Nat.le_refl _) (.cells p.row 35)), H7.out.2.1.below ((Below.refl _ w7).alloc (Nat.le_refl _) (.cells p.row 35)), blk_below H7.out.2.2.1 ((Below.refl _ w7).alloc (Nat.le_refl _) (.cells p.row 35)), H7.out.2.2.2.1.below ((Below.refl _ w7).alloc (Nat.le_refl _) (.cells p.row 35)), blk_below H7.out.2.2.2.2.1 ((Below.refl _ w7).alloc (Nat.le_refl _) (.cells p.row 35)), H7.out.2.2.2.2.2.1.below ((Below.refl _ w7).alloc (Nat.le_refl _) (.cells p.row 35)), blk_below H7.out.2.2.2.2.2.2 ((Below.refl _ w7).alloc (Nat.le_refl _) (.cells p.row 35)), (MapKept.heap_alloc w7 (.cells p.row 35)).1⟩)
  clear H7
  generalize w7.alloc (.cells p.row 35) = W7 at *
  generalize w7.heap.size = bp at *
  refine (implPutPack_any p W7 (by omega) hpf (HC.out.2.2.below H7b.out.1)).mono ?_
  rintro e w8 ⟨rfl, b8⟩
  have H8 := (show Hid (_ ∧ _ ∧ _ ∧ _ ∧ _ ∧ _ ∧ _ ∧ _) from ⟨base_below H7b.out.1 b8, H7b.out.2.1.below b8, blk_below H7b.out.2.2.1 b8, H7b.out.2.2.2.1.below b8, blk_below H7b.out.2.2.2.2.1 b8, H7b.out.2.2.2.2.2.1.below b8, blk_below H7b.out.2.2.2.2.2.2.1 b8, blk_below H7b.out.2.2.2.2.2.2.2 b8⟩)
  clear b8 H7b
  go_wp2_with fail
  refine (drawGetPack_any _ len w8 (code_upW HC.out.1 H8.out.1)).mono ?_
  rintro e w9 ⟨v, rfl, hv, b9⟩
  have H9 := (show Hid (_ ∧ _ ∧ _ ∧ _ ∧ _ ∧ _ ∧ _ ∧ _) from ⟨base_below H8.out.1 b9, H8.out.2.1.below b9, blk_below H8.out.2.2.1 b9, H8.out.2.2.2.1.below b9, blk_below H8.out.2.2.2.2.1 b9, H8.out.2.2.2.2.2.1.below b9, blk_below H8.out.2.2.2.2.2.2.1 b9, blk_below H8.out.2.2.2.2.2.2.2 b9⟩)
  clear b9 H8
  go_wp2_with fail
  refine (implGetPack_any v w9 (by omega) (HC.out.2.2.below H9.out.1)).mono ?_
  rintro e w10 ⟨rfl, b10⟩
  have H10 := (show Hid (_ ∧ _ ∧ _ ∧ _ ∧ _ ∧ _ ∧ _ ∧ _) from ⟨base_below H9.out.1 b10, H9.out.2.1.below b10, blk_below H9.out.2.2.1 b10, H9.out.2.2.2.1.below b10, blk_below H9.out.2.2.2.2.1 b10, H9.out.2.2.2.2.2.1.below b10, blk_below H9.out.2.2.2.2.2.2.1 b10, blk_below H9.out.2.2.2.2.2.2.2 b10⟩)
  clear b10 H9
  go_wp2_with fail
  have H10b := (show Hid (_ ∧ _ ∧ _ ∧ _ ∧ _ ∧ _ ∧ _ ∧ _ ∧ _) from ⟨base_below H10.out.1 ((Below.refl _ w10).alloc (Nat.le_refl _) (.cells (packRes v.data.toList).row 35)), H10.out.2.1.below ((Below.refl _ w10).alloc (Nat.le_refl _) (.cells (packRes v.data.toList).row 35)), blk_below H10.out.2.2.1 ((Below.refl _ w10).alloc (Nat.le_refl _) (.cells (packRes v.data.toList).row 35)), H10.out.2.2.2.1.below ((Below.refl _ w10).alloc (Nat.le_refl _) (.cells (packRes v.data.toList).row 35)), blk_below H10.out.2.2.2.2.1 ((Below.refl _ w10).alloc (Nat.le_refl _) (.cells (packRes v.data.toList).row 35)), H10.out.2.2.2.2.2.1.below ((Below.refl _ w10).alloc (Nat.le_refl _) (.cells (packRes v.data.toList).row 35)), blk_below H10.out.2.2.2.2.2.2.1 ((Below.refl _ w10).alloc (Nat.le_refl _) (.cells (packRes v.data.toList).row 35)), blk_below H10.out.2.2.2.2.2.2.2 ((Below.refl _ w10).alloc (Nat.le_refl _) (.cells (packRes v.data.toList).row 35)), (MapKept.heap_alloc w10 (.cells (packRes v.data.toList).row 35)).1⟩)
  clear H10
  generalize w10.alloc (.cells (packRes v.data.toList).row 35) = W10 at *
  generalize w10.heap.size = ba at *
  refine (specGetPack_any v W10 (by omega)).mono ?_
  rintro e w11 ⟨rfl, b11⟩
  have H11 := (show Hid (_ ∧ _ ∧ _ ∧ _ ∧ _ ∧ _ ∧ _ ∧ _ ∧ _) from ⟨base_below H10b.out.1 b11, H10b.out.2.1.below b11, blk_below H10b.out.2.2.1 b11, H10b.out.2.2.2.1.below b11, blk_below H10b.out.2.2.2.2.1 b11, H10b.out.2.2.2.2.2.1.below b11, blk_below H10b.out.2.2.2.2.2.2.1 b11, blk_below H10b.out.2.2.2.2.2.2.2.1 b11, blk_below H10b.out.2.2.2.2.2.2.2.2 b11⟩)
  clear b11 H10b
  go_wp2_with fail
  have H11b := (show Hid (_ ∧ _ ∧ _ ∧ _ ∧ _ ∧ _ ∧ _ ∧ _ ∧ _ ∧ _) from ⟨base_below H11.out.1 ((Below.refl _ w11).alloc (Nat.le_refl _) (.cells (packRes v.data.toList).row 35)), H11.out.2.1.below ((Below.refl _ w11).alloc (Nat.le_refl _) (.cells (packRes v.data.toList).row 35)), blk_below H11.out.2.2.1 ((Below.refl _ w11).alloc (Nat.le_refl _) (.cells (packRes v.data.toList).row 35)), H11.out.2.2.2.1.below ((Below.refl _ w11).alloc (Nat.le_refl _) (.cells (packRes v.data.toList).row 35)), blk_below H11.out.2.2.2.2.1 ((Below.refl _ w11).alloc (Nat.le_refl _) (.cells (packRes v.data.toList).row 35)), H11.out.2.2.2.2.2.1.below ((Below.refl _ w11).alloc (Nat.le_refl _) (.cells (packRes v.data.toList).row 35)), blk_below H11.out.2.2.2.2.2.2.1 ((Below.refl _ w11).alloc (Nat.le_refl _) (.cells (packRes v.data.toList).row 35)), blk_below H11.out.2.2.2.2.2.2.2.1 ((Below.refl _ w11).alloc (Nat.le_refl _) (.cells (packRes v.data.toList).row 35)), blk_below H11.out.2.2.2.2.2.2.2.2 ((Below.refl _ w11).alloc (Nat.le_refl _) (.cells (packRes v.data.toList).row 35)), (MapKept.heap_alloc w11 (.cells (packRes v.data.toList).row 35)).1⟩)
  clear H11
  generalize w11.alloc (.cells (packRes v.data.toList).row 35) = W11 at *
  generalize w11.heap.size = bb at *
  refine (drawPutNum_any _ len W11 (code_upW HC.out.1 H11b.out.1)).mono ?_
  rintro e w12 ⟨n, rfl, hn, b12⟩
  have H12 := (show Hid (_ ∧ _ ∧ _ ∧ _ ∧ _ ∧ _ ∧ _ ∧ _ ∧ _ ∧ _) from ⟨base_below H11b.out.1 b12, H11b.out.2.1.below b12, blk_below H11b.out.2.2.1 b12, H11b.out.2.2.2.1.below b12, blk_below H11b.out.2.2.2.2.1 b12, H11b.out.2.2.2.2.2.1.below b12, blk_below H11b.out.2.2.2.2.2.2.1 b12, blk_below H11b.out.2.2.2.2.2.2.2.1 b12, blk_below H11b.out.2.2.2.2.2.2.2.2.1 b12, blk_below H11b.out.2.2.2.2.2.2.2.2.2 b12⟩)
  clear b12 H11b
  go_wp2_with fail
  refine (drawGetNum_any _ len w12 (code_upW HC.out.1 H12.out.1)).mono ?_
  rintro e w13 ⟨tx, i, rfl, htx, hi, b13⟩
  have H13 := (show Hid (_ ∧ _ ∧ _ ∧ _ ∧ _ ∧ _ ∧ _ ∧ _ ∧ _ ∧ _) from ⟨base_below H12.out.1 b13, H12.out.2.1.below b13, blk_below H12.out.2.2.1 b13, H12.out.2.2.2.1.below b13, blk_below H12.out.2.2.2.2.1 b13, H12.out.2.2.2.2.2.1.below b13, blk_below H12.out.2.2.2.2.2.2.1 b13, blk_below H12.out.2.2.2.2.2.2.2.1 b13, blk_below H12.out.2.2.2.2.2.2.2.2.1 b13, blk_below H12.out.2.2.2.2.2.2.2.2.2 b13⟩)
  clear b13 H12
  go_wp2_with fail
  refine (implGetNum_any tx i w13 (by omega) hi.1 hi.2).mono ?_
  rintro e w14 ⟨rfl, b14⟩
  have H14 := (show Hid (_ ∧ _ ∧ _ ∧ _ ∧ _ ∧ _ ∧ _ ∧ _ ∧ _ ∧ _) from ⟨base_below H13.out.1 b14, H13.out.2.1.below b14, blk_below H13.out.2.2.1 b14, H13.out.2.2.2.1.below b14, blk_below H13.out.2.2.2.2.1 b14, H13.out.2.2.2.2.2.1.below b14, blk_below H13.out.2.2.2.2.2.2.1 b14, blk_below H13.out.2.2.2.2.2.2.2.1 b14, blk_below H13.out.2.2.2.2.2.2.2.2.1 b14, blk_below H13.out.2.2.2.2.2.2.2.2.2 b14⟩)
  clear b14 H13
  go_wp2_with fail
  refine (specGetNum_any tx i w14 (by omega) hi.1 hi.2).mono ?_
  rintro e w15 ⟨rfl, b15⟩
  have H15 := (show Hid (_ ∧ _ ∧ _ ∧ _ ∧ _ ∧ _ ∧ _ ∧ _ ∧ _ ∧ _) from ⟨base_below H14.out.1 b15, H14.out.2.1.below b15, blk_below H14.out.2.2.1 b15, H14.out.2.2.2.1.below b15, blk_below H14.out.2.2.2.2.1 b15, H14.out.2.2.2.2.2.1.below b15, blk_below H14.out.2.2.2.2.2.2.1 b15, blk_below H14.out.2.2.2.2.2.2.2.1 b15, blk_below H14.out.2.2.2.2.2.2.2.2.1 b15, blk_below H14.out.2.2.2.2.2.2.2.2.2 b15⟩)
  clear b15 H14
  have HW : Hid (WSt w w15 bm bx yb bp ba bb m (msgRes u.data.toList) (.slice ka m.cell.kids.length kc) (.slice xv (msgRes u.data.toList).cell.kids.length xc) (.slice yv (msgRes u.data.toList).cell.kids.length yc) p (packRes v.data.toList)) := ⟨H15.out.1, H15.out.2.1, H15.out.2.2.2.1, H15.out.2.2.2.2.2.1, H15.out.2.2.1, H15.out.2.2.2.2.1, H15.out.2.2.2.2.2.2.1, H15.out.2.2.2.2.2.2.2.1, H15.out.2.2.2.2.2.2.2.2.1, H15.out.2.2.2.2.2.2.2.2.2⟩
  clear H15
  go_wp2_with fail
  have hmx : Hid (msgRes u.data.toList = msgRes u.data.toList) := rfl
  generalize hmxe : msgRes u.data.toList = mx at *
  generalize hpae : packRes v.data.toList = pa at *
  have HE := (show Hid (msgRes u.data.toList = mx ∧ packRes v.data.toList = pa) from ⟨hmxe, hpae⟩)
  clear hmxe hpae hmx
  have hpq := pack_neq pa
  generalize hokE : msgFit u.data.toList = ok at *
  generalize honE : packFit v.data.toList = one at *
  have HO := (show Hid (_ ∧ _) from ⟨hokE, honE⟩)
  clear hokE honE
  go_cut [178] from 32 (fun s wc => s = .bool false ∧ Hid (WSt w wc bm bx yb bp ba bb m mx (.slice ka m.cell.kids.length kc) (.slice xv mx.cell.kids.length xc) (.slice yv mx.cell.kids.length yc) p pa))
  case first =>
    dsimp only [List.append]
    have C1 : Hid (∀ wx : World, Below w15.heap.size w15 wx → Calls Tryz.prog 19 #[.agg (m.row (.slice ka m.cell.kids.length kc))] wx fun e w' => e = .returned (.string ⟨m.bytes.toArray⟩) ∧ Below wx.heap.size wx w') := fun wx hx => specPutMsg_any _ m (fun _ => True) wx (HW.out.am.below hx) (by omega)
    have C2 : Hid (∀ wx : World, Below w15.heap.size w15 wx → Calls Tryz.prog 20 #[.agg (mx.row (.slice xv mx.cell.kids.length xc)), .agg (mx.row (.slice yv mx.cell.kids.length yc))] wx fun e w' => e = .returned (.bool true) ∧ Below wx.heap.size wx w') := fun wx hx => sameMsg_same _ _ mx (fun _ => True) (fun _ => True) wx (HW.out.ax.below hx) (HW.out.ay.below hx)
    have C4 : Hid (∀ wx : World, Below w15.heap.size w15 wx → Calls Tryz.prog 21 #[.agg p.row] wx fun e w' => e = .returned (.string ⟨p.bytes.toArray⟩) ∧ Below wx.heap.size wx w') := fun wx hx => specPutPack_any p wx (by omega) hpf
    have C6 : Hid (∀ wx : World, Below w15.heap.size w15 wx → Calls Tryz.prog 22 #[.int .i64 n] wx fun e w' => e = .returned (.string ⟨(numB n).toArray⟩) ∧ Below wx.heap.size wx w') := fun wx hx => implPutNum_any n wx hn.1 hn.2
    have C7 : Hid (∀ wx : World, Below w15.heap.size w15 wx → Calls Tryz.prog 23 #[.int .i64 n] wx fun e w' => e = .returned (.string ⟨(numB n).toArray⟩) ∧ Below wx.heap.size wx w') := fun wx hx => specPutNum_any n wx hn.1 hn.2
    have C8 : Hid (∀ wx : World, Below w15.heap.size w15 wx → Calls Tryz.prog 24 #[.agg (m.row (.slice ka m.cell.kids.length kc))] wx fun e w' => e = .returned (.string ⟨m.textOf.toArray⟩) ∧ Below wx.heap.size wx w') := fun wx hx => implMsgText_any _ m (fun _ => True) wx (tabC_below HC.out.2.1 (base_below HW.out.base hx)) (HW.out.am.below hx) (by omega)
    have C9 : Hid (∀ wx : World, Below w15.heap.size w15 wx → Calls Tryz.prog 25 #[.agg (m.row (.slice ka m.cell.kids.length kc))] wx fun e w' => e = .returned (.string ⟨m.textOf.toArray⟩) ∧ Below wx.heap.size wx w') := fun wx hx => specMsgText_any _ m (fun _ => True) wx (HW.out.am.below hx) (by omega)
    have C10 : Hid (∀ wx : World, Below w15.heap.size w15 wx → Calls Tryz.prog 26 #[.string ⟨m.bytes.toArray⟩] wx fun e w' => e = .returned (.int .u32 ((crcSum m.bytes : Nat) : Int)) ∧ Below wx.heap.size wx w') := fun wx hx => (implCrc_any ⟨m.bytes.toArray⟩ wx (by have := msg_short hml; unfold maxLen; omega)).mono fun e w' h => ⟨h.1, h.2 ▸ Below.refl _ _⟩
    have C11 : Hid (∀ wx : World, Below w15.heap.size w15 wx → Calls Tryz.prog 27 #[.string ⟨m.bytes.toArray⟩] wx fun e w' => e = .returned (.int .u32 ((crcSum m.bytes : Nat) : Int)) ∧ Below wx.heap.size wx w') := fun wx hx => (specCrc_any ⟨m.bytes.toArray⟩ wx (by have := msg_short hml; unfold maxLen; omega)).mono fun e w' h => ⟨h.1, h.2 ▸ Below.refl _ _⟩
    have C12 : Hid (∀ wx : World, Below w15.heap.size w15 wx → Calls Tryz.prog 28 #[.agg (m.row (.slice ka m.cell.kids.length kc))] wx fun e w' => e = .returned (.bool m.ok) ∧ Below wx.heap.size wx w') := fun wx hx => implMsgOk_any _ m (fun _ => True) wx (HW.out.am.below hx)
    have C13 : Hid (∀ wx : World, Below w15.heap.size w15 wx → Calls Tryz.prog 29 #[.agg (m.row (.slice ka m.cell.kids.length kc))] wx fun e w' => e = .returned (.bool m.ok) ∧ Below wx.heap.size wx w') := fun wx hx => specMsgOk_any _ m (fun _ => True) wx (HW.out.am.below hx) (by omega)
    have C14 : Hid (∀ wx : World, Below w15.heap.size w15 wx → Calls Tryz.prog 30 #[.agg p.row] wx fun e w' => e = .returned (.bool p.ok) ∧ Below wx.heap.size wx w') := fun wx hx => implPackOk_any p wx (by omega) (HC.out.2.2.below (base_below HW.out.base hx))
    have C15 : Hid (∀ wx : World, Below w15.heap.size w15 wx → Calls Tryz.prog 31 #[.agg p.row] wx fun e w' => e = .returned (.bool p.ok) ∧ Below wx.heap.size wx w') := fun wx hx => specPackOk_any p wx (by omega)
    obtain ⟨k0, k1, k2, k3, k4, k5, k6, k7, k8, k9, k10, k11, k12, k13, k14, k15, k16, k17, k18, k19, k20, k21, k22, k23, k24, k25, k26, k27, k28, k29, k30, k31, k32, k33, k34, k35, k36, k37, k38, k39, k40, k41, k42, k43, k44⟩ := HW.out.cells
    have K0 := cell_regrown k0
    have K1 := cell_regrown k1
    have K2 := cell_regrown k2
    have K3 := cell_regrown k3
    have K4 := cell_regrown k4
    have K5 := cell_regrown k5
    have K6 := cell_regrown k6
    have K7 := cell_regrown k7
    have K8 := cell_regrown k8
    have K9 := cell_regrown k9
    have K10 := cell_regrown k10
    have K11 := cell_regrown k11
    have K12 := cell_regrown k12
    have K13 := cell_regrown k13
    have K14 := cell_regrown k14
    have K15 := cell_regrown k15
    have K16 := cell_regrown k16
    have K17 := cell_regrown k17
    have K18 := cell_regrown k18
    have K19 := cell_regrown k19
    have K20 := cell_regrown k20
    have K21 := cell_regrown k21
    have K22 := cell_regrown k22
    have K23 := cell_regrown k23
    have K24 := cell_regrown k24
    have K25 := cell_regrown k25
    have K26 := cell_regrown k26
    have K27 := cell_regrown k27
    have K28 := cell_regrown k28
    have K29 := cell_regrown k29
    have K30 := cell_regrown k30
    have K31 := cell_regrown k31
    have K32 := cell_regrown k32
    have K33 := cell_regrown k33
    have K34 := cell_regrown k34
    have K35 := cell_regrown k35
    have K36 := cell_regrown k36
    have K37 := cell_regrown k37
    have K38 := cell_regrown k38
    have K39 := cell_regrown k39
    have K40 := cell_regrown k40
    have K41 := cell_regrown k41
    have K42 := cell_regrown k42
    have K43 := cell_regrown k43
    have K44 := cell_regrown k44
    clear k0 k1 k2 k3 k4 k5 k6 k7 k8 k9 k10 k11 k12 k13 k14 k15 k16 k17 k18 k19 k20 k21 k22 k23 k24 k25 k26 k27 k28 k29 k30 k31 k32 k33 k34 k35 k36 k37 k38 k39 k40 k41 k42 k43 k44
    as_aux_lemma =>
     refine wp_region_quiet_below (by kernel_rfl) (by kernel_rfl) ?_
     as_aux_lemma =>
      iterate 12 (go_big_quiet_step (first | (go_at_call 19; exact Calls.regrown_of (C1.out _ (below_regrown w15 _ _))) | (go_at_call 20; exact Calls.regrown_of (C2.out _ (below_regrown w15 _ _))) | (go_at_call 21; exact Calls.regrown_of (C4.out _ (below_regrown w15 _ _))) | (go_at_call 22; exact Calls.regrown_of (C6.out _ (below_regrown w15 _ _))) | (go_at_call 23; exact Calls.regrown_of (C7.out _ (below_regrown w15 _ _))) | (go_at_call 24; exact Calls.regrown_of (C8.out _ (below_regrown w15 _ _))) | (go_at_call 25; exact Calls.regrown_of (C9.out _ (below_regrown w15 _ _))) | (go_at_call 26; exact Calls.regrown_of (C10.out _ (below_regrown w15 _ _))) | (go_at_call 27; exact Calls.regrown_of (C11.out _ (below_regrown w15 _ _))) | (go_at_call 28; exact Calls.regrown_of (C12.out _ (below_regrown w15 _ _))) | (go_at_call 29; exact Calls.regrown_of (C13.out _ (below_regrown w15 _ _))) | (go_at_call 30; exact Calls.regrown_of (C14.out _ (below_regrown w15 _ _))) | (go_at_call 31; exact Calls.regrown_of (C15.out _ (below_regrown w15 _ _)))))
      as_aux_lemma =>
       iterate 6 (go_big_quiet_step (first | (go_at_call 19; exact Calls.regrown_of (C1.out _ (below_regrown w15 _ _))) | (go_at_call 20; exact Calls.regrown_of (C2.out _ (below_regrown w15 _ _))) | (go_at_call 21; exact Calls.regrown_of (C4.out _ (below_regrown w15 _ _))) | (go_at_call 22; exact Calls.regrown_of (C6.out _ (below_regrown w15 _ _))) | (go_at_call 23; exact Calls.regrown_of (C7.out _ (below_regrown w15 _ _))) | (go_at_call 24; exact Calls.regrown_of (C8.out _ (below_regrown w15 _ _))) | (go_at_call 25; exact Calls.regrown_of (C9.out _ (below_regrown w15 _ _))) | (go_at_call 26; exact Calls.regrown_of (C10.out _ (below_regrown w15 _ _))) | (go_at_call 27; exact Calls.regrown_of (C11.out _ (below_regrown w15 _ _))) | (go_at_call 28; exact Calls.regrown_of (C12.out _ (below_regrown w15 _ _))) | (go_at_call 29; exact Calls.regrown_of (C13.out _ (below_regrown w15 _ _))) | (go_at_call 30; exact Calls.regrown_of (C14.out _ (below_regrown w15 _ _))) | (go_at_call 31; exact Calls.regrown_of (C15.out _ (below_regrown w15 _ _)))))
       cases ok with
       | false =>
         as_aux_lemma =>
          iterate 12 (go_big_quiet_step (first | (go_at_call 19; exact Calls.regrown_of (C1.out _ (below_regrown w15 _ _))) | (go_at_call 20; exact Calls.regrown_of (C2.out _ (below_regrown w15 _ _))) | (go_at_call 21; exact Calls.regrown_of (C4.out _ (below_regrown w15 _ _))) | (go_at_call 22; exact Calls.regrown_of (C6.out _ (below_regrown w15 _ _))) | (go_at_call 23; exact Calls.regrown_of (C7.out _ (below_regrown w15 _ _))) | (go_at_call 24; exact Calls.regrown_of (C8.out _ (below_regrown w15 _ _))) | (go_at_call 25; exact Calls.regrown_of (C9.out _ (below_regrown w15 _ _))) | (go_at_call 26; exact Calls.regrown_of (C10.out _ (below_regrown w15 _ _))) | (go_at_call 27; exact Calls.regrown_of (C11.out _ (below_regrown w15 _ _))) | (go_at_call 28; exact Calls.regrown_of (C12.out _ (below_regrown w15 _ _))) | (go_at_call 29; exact Calls.regrown_of (C13.out _ (below_regrown w15 _ _))) | (go_at_call 30; exact Calls.regrown_of (C14.out _ (below_regrown w15 _ _))) | (go_at_call 31; exact Calls.regrown_of (C15.out _ (below_regrown w15 _ _)))))
          as_aux_lemma =>
           iterate 12 (go_big_quiet_step (first | (go_at_call 19; exact Calls.regrown_of (C1.out _ (below_regrown w15 _ _))) | (go_at_call 20; exact Calls.regrown_of (C2.out _ (below_regrown w15 _ _))) | (go_at_call 21; exact Calls.regrown_of (C4.out _ (below_regrown w15 _ _))) | (go_at_call 22; exact Calls.regrown_of (C6.out _ (below_regrown w15 _ _))) | (go_at_call 23; exact Calls.regrown_of (C7.out _ (below_regrown w15 _ _))) | (go_at_call 24; exact Calls.regrown_of (C8.out _ (below_regrown w15 _ _))) | (go_at_call 25; exact Calls.regrown_of (C9.out _ (below_regrown w15 _ _))) | (go_at_call 26; exact Calls.regrown_of (C10.out _ (below_regrown w15 _ _))) | (go_at_call 27; exact Calls.regrown_of (C11.out _ (below_regrown w15 _ _))) | (go_at_call 28; exact Calls.regrown_of (C12.out _ (below_regrown w15 _ _))) | (go_at_call 29; exact Calls.regrown_of (C13.out _ (below_regrown w15 _ _))) | (go_at_call 30; exact Calls.regrown_of (C14.out _ (below_regrown w15 _ _))) | (go_at_call 31; exact Calls.regrown_of (C15.out _ (below_regrown w15 _ _)))))
           as_aux_lemma =>
            iterate 1 (go_big_quiet_step (first | (go_at_call 19; exact Calls.regrown_of (C1.out _ (below_regrown w15 _ _))) | (go_at_call 20; exact Calls.regrown_of (C2.out _ (below_regrown w15 _ _))) | (go_at_call 21; exact Calls.regrown_of (C4.out _ (below_regrown w15 _ _))) | (go_at_call 22; exact Calls.regrown_of (C6.out _ (below_regrown w15 _ _))) | (go_at_call 23; exact Calls.regrown_of (C7.out _ (below_regrown w15 _ _))) | (go_at_call 24; exact Calls.regrown_of (C8.out _ (below_regrown w15 _ _))) | (go_at_call 25; exact Calls.regrown_of (C9.out _ (below_regrown w15 _ _))) | (go_at_call 26; exact Calls.regrown_of (C10.out _ (below_regrown w15 _ _))) | (go_at_call 27; exact Calls.regrown_of (C11.out _ (below_regrown w15 _ _))) | (go_at_call 28; exact Calls.regrown_of (C12.out _ (below_regrown w15 _ _))) | (go_at_call 29; exact Calls.regrown_of (C13.out _ (below_regrown w15 _ _))) | (go_at_call 30; exact Calls.regrown_of (C14.out _ (below_regrown w15 _ _))) | (go_at_call 31; exact Calls.regrown_of (C15.out _ (below_regrown w15 _ _)))))
            cases one with
            | false =>
              as_aux_lemma =>
               iterate 12 (go_big_quiet_step (first | (go_at_call 19; exact Calls.regrown_of (C1.out _ (below_regrown w15 _ _))) | (go_at_call 20; exact Calls.regrown_of (C2.out _ (below_regrown w15 _ _))) | (go_at_call 21; exact Calls.regrown_of (C4.out _ (below_regrown w15 _ _))) | (go_at_call 22; exact Calls.regrown_of (C6.out _ (below_regrown w15 _ _))) | (go_at_call 23; exact Calls.regrown_of (C7.out _ (below_regrown w15 _ _))) | (go_at_call 24; exact Calls.regrown_of (C8.out _ (below_regrown w15 _ _))) | (go_at_call 25; exact Calls.regrown_of (C9.out _ (below_regrown w15 _ _))) | (go_at_call 26; exact Calls.regrown_of (C10.out _ (below_regrown w15 _ _))) | (go_at_call 27; exact Calls.regrown_of (C11.out _ (below_regrown w15 _ _))) | (go_at_call 28; exact Calls.regrown_of (C12.out _ (below_regrown w15 _ _))) | (go_at_call 29; exact Calls.regrown_of (C13.out _ (below_regrown w15 _ _))) | (go_at_call 30; exact Calls.regrown_of (C14.out _ (below_regrown w15 _ _))) | (go_at_call 31; exact Calls.regrown_of (C15.out _ (below_regrown w15 _ _)))))
               as_aux_lemma =>
                iterate 12 (go_big_quiet_step (first | (go_at_call 19; exact Calls.regrown_of (C1.out _ (below_regrown w15 _ _))) | (go_at_call 20; exact Calls.regrown_of (C2.out _ (below_regrown w15 _ _))) | (go_at_call 21; exact Calls.regrown_of (C4.out _ (below_regrown w15 _ _))) | (go_at_call 22; exact Calls.regrown_of (C6.out _ (below_regrown w15 _ _))) | (go_at_call 23; exact Calls.regrown_of (C7.out _ (below_regrown w15 _ _))) | (go_at_call 24; exact Calls.regrown_of (C8.out _ (below_regrown w15 _ _))) | (go_at_call 25; exact Calls.regrown_of (C9.out _ (below_regrown w15 _ _))) | (go_at_call 26; exact Calls.regrown_of (C10.out _ (below_regrown w15 _ _))) | (go_at_call 27; exact Calls.regrown_of (C11.out _ (below_regrown w15 _ _))) | (go_at_call 28; exact Calls.regrown_of (C12.out _ (below_regrown w15 _ _))) | (go_at_call 29; exact Calls.regrown_of (C13.out _ (below_regrown w15 _ _))) | (go_at_call 30; exact Calls.regrown_of (C14.out _ (below_regrown w15 _ _))) | (go_at_call 31; exact Calls.regrown_of (C15.out _ (below_regrown w15 _ _)))))
                as_aux_lemma =>
                 iterate 12 (go_big_quiet_step (first | (go_at_call 19; exact Calls.regrown_of (C1.out _ (below_regrown w15 _ _))) | (go_at_call 20; exact Calls.regrown_of (C2.out _ (below_regrown w15 _ _))) | (go_at_call 21; exact Calls.regrown_of (C4.out _ (below_regrown w15 _ _))) | (go_at_call 22; exact Calls.regrown_of (C6.out _ (below_regrown w15 _ _))) | (go_at_call 23; exact Calls.regrown_of (C7.out _ (below_regrown w15 _ _))) | (go_at_call 24; exact Calls.regrown_of (C8.out _ (below_regrown w15 _ _))) | (go_at_call 25; exact Calls.regrown_of (C9.out _ (below_regrown w15 _ _))) | (go_at_call 26; exact Calls.regrown_of (C10.out _ (below_regrown w15 _ _))) | (go_at_call 27; exact Calls.regrown_of (C11.out _ (below_regrown w15 _ _))) | (go_at_call 28; exact Calls.regrown_of (C12.out _ (below_regrown w15 _ _))) | (go_at_call 29; exact Calls.regrown_of (C13.out _ (below_regrown w15 _ _))) | (go_at_call 30; exact Calls.regrown_of (C14.out _ (below_regrown w15 _ _))) | (go_at_call 31; exact Calls.regrown_of (C15.out _ (below_regrown w15 _ _)))))
                 as_aux_lemma =>
                  iterate 12 (go_big_quiet_step (first | (go_at_call 19; exact Calls.regrown_of (C1.out _ (below_regrown w15 _ _))) | (go_at_call 20; exact Calls.regrown_of (C2.out _ (below_regrown w15 _ _))) | (go_at_call 21; exact Calls.regrown_of (C4.out _ (below_regrown w15 _ _))) | (go_at_call 22; exact Calls.regrown_of (C6.out _ (below_regrown w15 _ _))) | (go_at_call 23; exact Calls.regrown_of (C7.out _ (below_regrown w15 _ _))) | (go_at_call 24; exact Calls.regrown_of (C8.out _ (below_regrown w15 _ _))) | (go_at_call 25; exact Calls.regrown_of (C9.out _ (below_regrown w15 _ _))) | (go_at_call 26; exact Calls.regrown_of (C10.out _ (below_regrown w15 _ _))) | (go_at_call 27; exact Calls.regrown_of (C11.out _ (below_regrown w15 _ _))) | (go_at_call 28; exact Calls.regrown_of (C12.out _ (below_regrown w15 _ _))) | (go_at_call 29; exact Calls.regrown_of (C13.out _ (below_regrown w15 _ _))) | (go_at_call 30; exact Calls.regrown_of (C14.out _ (below_regrown w15 _ _))) | (go_at_call 31; exact Calls.regrown_of (C15.out _ (below_regrown w15 _ _)))))
                  as_aux_lemma =>
                   repeat (go_big_quiet_step (first | (go_at_call 19; exact Calls.regrown_of (C1.out _ (below_regrown w15 _ _))) | (go_at_call 20; exact Calls.regrown_of (C2.out _ (below_regrown w15 _ _))) | (go_at_call 21; exact Calls.regrown_of (C4.out _ (below_regrown w15 _ _))) | (go_at_call 22; exact Calls.regrown_of (C6.out _ (below_regrown w15 _ _))) | (go_at_call 23; exact Calls.regrown_of (C7.out _ (below_regrown w15 _ _))) | (go_at_call 24; exact Calls.regrown_of (C8.out _ (below_regrown w15 _ _))) | (go_at_call 25; exact Calls.regrown_of (C9.out _ (below_regrown w15 _ _))) | (go_at_call 26; exact Calls.regrown_of (C10.out _ (below_regrown w15 _ _))) | (go_at_call 27; exact Calls.regrown_of (C11.out _ (below_regrown w15 _ _))) | (go_at_call 28; exact Calls.regrown_of (C12.out _ (below_regrown w15 _ _))) | (go_at_call 29; exact Calls.regrown_of (C13.out _ (below_regrown w15 _ _))) | (go_at_call 30; exact Calls.regrown_of (C14.out _ (below_regrown w15 _ _))) | (go_at_call 31; exact Calls.regrown_of (C15.out _ (below_regrown w15 _ _)))))
                   refine wpQuiet_nil ?_
                   intro _ hw'
                   obtain ⟨⟨dq, osq⟩, hw''⟩ := hw'
                   subst hw''
                   have b6 := HW.out.below (below_regrown w15 dq osq)
                   clear K0 K1 K2 K3 K4 K5 K6 K7 K8 K9 K10 K11 K12 K13 K14 K15 K16 K17 K18 K19 K20 K21 K22 K23 K24 K25 K26 K27 K28 K29 K30 K31 K32 K33 K34 K35 K36 K37 K38 K39 K40 K41 K42 K43 K44
                   go_wp2_with fail
                   go_meet
                   exact ⟨rfl, b6⟩
            | true =>
              have C5 : Hid (∀ wx : World, Below w15.heap.size w15 wx → Calls Tryz.prog 11 #[.agg pa.row] wx fun e w' => e = .returned (.string v) ∧ Below wx.heap.size wx w') := fun wx hx => by have := implPutPack_any pa wx (by have := wire_l HE.out.2 HO.out.2 hv; omega) (wire_f HE.out.2 HO.out.2) (HC.out.2.2.below (base_below HW.out.base hx)); rw [wire_v HE.out.2 HO.out.2] at this; exact this
              as_aux_lemma =>
               iterate 12 (go_big_quiet_step (first | (go_at_call 19; exact Calls.regrown_of (C1.out _ (below_regrown w15 _ _))) | (go_at_call 20; exact Calls.regrown_of (C2.out _ (below_regrown w15 _ _))) | (go_at_call 21; exact Calls.regrown_of (C4.out _ (below_regrown w15 _ _))) | (go_at_call 22; exact Calls.regrown_of (C6.out _ (below_regrown w15 _ _))) | (go_at_call 23; exact Calls.regrown_of (C7.out _ (below_regrown w15 _ _))) | (go_at_call 24; exact Calls.regrown_of (C8.out _ (below_regrown w15 _ _))) | (go_at_call 25; exact Calls.regrown_of (C9.out _ (below_regrown w15 _ _))) | (go_at_call 26; exact Calls.regrown_of (C10.out _ (below_regrown w15 _ _))) | (go_at_call 27; exact Calls.regrown_of (C11.out _ (below_regrown w15 _ _))) | (go_at_call 28; exact Calls.regrown_of (C12.out _ (below_regrown w15 _ _))) | (go_at_call 29; exact Calls.regrown_of (C13.out _ (below_regrown w15 _ _))) | (go_at_call 30; exact Calls.regrown_of (C14.out _ (below_regrown w15 _ _))) | (go_at_call 31; exact Calls.regrown_of (C15.out _ (below_regrown w15 _ _))) | (go_at_call 11; exact Calls.regrown_of (C5.out _ (below_regrown w15 _ _)))))
               as_aux_lemma =>
                iterate 12 (go_big_quiet_step (first | (go_at_call 19; exact Calls.regrown_of (C1.out _ (below_regrown w15 _ _))) | (go_at_call 20; exact Calls.regrown_of (C2.out _ (below_regrown w15 _ _))) | (go_at_call 21; exact Calls.regrown_of (C4.out _ (below_regrown w15 _ _))) | (go_at_call 22; exact Calls.regrown_of (C6.out _ (below_regrown w15 _ _))) | (go_at_call 23; exact Calls.regrown_of (C7.out _ (below_regrown w15 _ _))) | (go_at_call 24; exact Calls.regrown_of (C8.out _ (below_regrown w15 _ _))) | (go_at_call 25; exact Calls.regrown_of (C9.out _ (below_regrown w15 _ _))) | (go_at_call 26; exact Calls.regrown_of (C10.out _ (below_regrown w15 _ _))) | (go_at_call 27; exact Calls.regrown_of (C11.out _ (below_regrown w15 _ _))) | (go_at_call 28; exact Calls.regrown_of (C12.out _ (below_regrown w15 _ _))) | (go_at_call 29; exact Calls.regrown_of (C13.out _ (below_regrown w15 _ _))) | (go_at_call 30; exact Calls.regrown_of (C14.out _ (below_regrown w15 _ _))) | (go_at_call 31; exact Calls.regrown_of (C15.out _ (below_regrown w15 _ _))) | (go_at_call 11; exact Calls.regrown_of (C5.out _ (below_regrown w15 _ _)))))
                as_aux_lemma =>
                 iterate 12 (go_big_quiet_step (first | (go_at_call 19; exact Calls.regrown_of (C1.out _ (below_regrown w15 _ _))) | (go_at_call 20; exact Calls.regrown_of (C2.out _ (below_regrown w15 _ _))) | (go_at_call 21; exact Calls.regrown_of (C4.out _ (below_regrown w15 _ _))) | (go_at_call 22; exact Calls.regrown_of (C6.out _ (below_regrown w15 _ _))) | (go_at_call 23; exact Calls.regrown_of (C7.out _ (below_regrown w15 _ _))) | (go_at_call 24; exact Calls.regrown_of (C8.out _ (below_regrown w15 _ _))) | (go_at_call 25; exact Calls.regrown_of (C9.out _ (below_regrown w15 _ _))) | (go_at_call 26; exact Calls.regrown_of (C10.out _ (below_regrown w15 _ _))) | (go_at_call 27; exact Calls.regrown_of (C11.out _ (below_regrown w15 _ _))) | (go_at_call 28; exact Calls.regrown_of (C12.out _ (below_regrown w15 _ _))) | (go_at_call 29; exact Calls.regrown_of (C13.out _ (below_regrown w15 _ _))) | (go_at_call 30; exact Calls.regrown_of (C14.out _ (below_regrown w15 _ _))) | (go_at_call 31; exact Calls.regrown_of (C15.out _ (below_regrown w15 _ _))) | (go_at_call 11; exact Calls.regrown_of (C5.out _ (below_regrown w15 _ _)))))
                 as_aux_lemma =>
                  iterate 12 (go_big_quiet_step (first | (go_at_call 19; exact Calls.regrown_of (C1.out _ (below_regrown w15 _ _))) | (go_at_call 20; exact Calls.regrown_of (C2.out _ (below_regrown w15 _ _))) | (go_at_call 21; exact Calls.regrown_of (C4.out _ (below_regrown w15 _ _))) | (go_at_call 22; exact Calls.regrown_of (C6.out _ (below_regrown w15 _ _))) | (go_at_call 23; exact Calls.regrown_of (C7.out _ (below_regrown w15 _ _))) | (go_at_call 24; exact Calls.regrown_of (C8.out _ (below_regrown w15 _ _))) | (go_at_call 25; exact Calls.regrown_of (C9.out _ (below_regrown w15 _ _))) | (go_at_call 26; exact Calls.regrown_of (C10.out _ (below_regrown w15 _ _))) | (go_at_call 27; exact Calls.regrown_of (C11.out _ (below_regrown w15 _ _))) | (go_at_call 28; exact Calls.regrown_of (C12.out _ (below_regrown w15 _ _))) | (go_at_call 29; exact Calls.regrown_of (C13.out _ (below_regrown w15 _ _))) | (go_at_call 30; exact Calls.regrown_of (C14.out _ (below_regrown w15 _ _))) | (go_at_call 31; exact Calls.regrown_of (C15.out _ (below_regrown w15 _ _))) | (go_at_call 11; exact Calls.regrown_of (C5.out _ (below_regrown w15 _ _)))))
                  as_aux_lemma =>
                   repeat (go_big_quiet_step (first | (go_at_call 19; exact Calls.regrown_of (C1.out _ (below_regrown w15 _ _))) | (go_at_call 20; exact Calls.regrown_of (C2.out _ (below_regrown w15 _ _))) | (go_at_call 21; exact Calls.regrown_of (C4.out _ (below_regrown w15 _ _))) | (go_at_call 22; exact Calls.regrown_of (C6.out _ (below_regrown w15 _ _))) | (go_at_call 23; exact Calls.regrown_of (C7.out _ (below_regrown w15 _ _))) | (go_at_call 24; exact Calls.regrown_of (C8.out _ (below_regrown w15 _ _))) | (go_at_call 25; exact Calls.regrown_of (C9.out _ (below_regrown w15 _ _))) | (go_at_call 26; exact Calls.regrown_of (C10.out _ (below_regrown w15 _ _))) | (go_at_call 27; exact Calls.regrown_of (C11.out _ (below_regrown w15 _ _))) | (go_at_call 28; exact Calls.regrown_of (C12.out _ (below_regrown w15 _ _))) | (go_at_call 29; exact Calls.regrown_of (C13.out _ (below_regrown w15 _ _))) | (go_at_call 30; exact Calls.regrown_of (C14.out _ (below_regrown w15 _ _))) | (go_at_call 31; exact Calls.regrown_of (C15.out _ (below_regrown w15 _ _))) | (go_at_call 11; exact Calls.regrown_of (C5.out _ (below_regrown w15 _ _)))))
                   refine wpQuiet_nil ?_
                   intro _ hw'
                   obtain ⟨⟨dq, osq⟩, hw''⟩ := hw'
                   subst hw''
                   have b6 := HW.out.below (below_regrown w15 dq osq)
                   clear K0 K1 K2 K3 K4 K5 K6 K7 K8 K9 K10 K11 K12 K13 K14 K15 K16 K17 K18 K19 K20 K21 K22 K23 K24 K25 K26 K27 K28 K29 K30 K31 K32 K33 K34 K35 K36 K37 K38 K39 K40 K41 K42 K43 K44
                   go_wp2_with fail
                   go_meet
                   exact ⟨rfl, b6⟩
       | true =>
         have C3 : Hid (∀ wx : World, Below w15.heap.size w15 wx → Calls Tryz.prog 6 #[.agg (mx.row (.slice xv mx.cell.kids.length xc))] wx fun e w' => e = .returned (.string u) ∧ Below wx.heap.size wx w') := fun wx hx => by have := implPutMsg_any _ mx (fun _ => True) wx (HW.out.ax.below hx); rw [wire_u HE.out.1 HO.out.1] at this; exact this
         as_aux_lemma =>
          iterate 12 (go_big_quiet_step (first | (go_at_call 19; exact Calls.regrown_of (C1.out _ (below_regrown w15 _ _))) | (go_at_call 20; exact Calls.regrown_of (C2.out _ (below_regrown w15 _ _))) | (go_at_call 21; exact Calls.regrown_of (C4.out _ (below_regrown w15 _ _))) | (go_at_call 22; exact Calls.regrown_of (C6.out _ (below_regrown w15 _ _))) | (go_at_call 23; exact Calls.regrown_of (C7.out _ (below_regrown w15 _ _))) | (go_at_call 24; exact Calls.regrown_of (C8.out _ (below_regrown w15 _ _))) | (go_at_call 25; exact Calls.regrown_of (C9.out _ (below_regrown w15 _ _))) | (go_at_call 26; exact Calls.regrown_of (C10.out _ (below_regrown w15 _ _))) | (go_at_call 27; exact Calls.regrown_of (C11.out _ (below_regrown w15 _ _))) | (go_at_call 28; exact Calls.regrown_of (C12.out _ (below_regrown w15 _ _))) | (go_at_call 29; exact Calls.regrown_of (C13.out _ (below_regrown w15 _ _))) | (go_at_call 30; exact Calls.regrown_of (C14.out _ (below_regrown w15 _ _))) | (go_at_call 31; exact Calls.regrown_of (C15.out _ (below_regrown w15 _ _))) | (go_at_call 6; exact Calls.regrown_of (C3.out _ (below_regrown w15 _ _)))))
          as_aux_lemma =>
           iterate 12 (go_big_quiet_step (first | (go_at_call 19; exact Calls.regrown_of (C1.out _ (below_regrown w15 _ _))) | (go_at_call 20; exact Calls.regrown_of (C2.out _ (below_regrown w15 _ _))) | (go_at_call 21; exact Calls.regrown_of (C4.out _ (below_regrown w15 _ _))) | (go_at_call 22; exact Calls.regrown_of (C6.out _ (below_regrown w15 _ _))) | (go_at_call 23; exact Calls.regrown_of (C7.out _ (below_regrown w15 _ _))) | (go_at_call 24; exact Calls.regrown_of (C8.out _ (below_regrown w15 _ _))) | (go_at_call 25; exact Calls.regrown_of (C9.out _ (below_regrown w15 _ _))) | (go_at_call 26; exact Calls.regrown_of (C10.out _ (below_regrown w15 _ _))) | (go_at_call 27; exact Calls.regrown_of (C11.out _ (below_regrown w15 _ _))) | (go_at_call 28; exact Calls.regrown_of (C12.out _ (below_regrown w15 _ _))) | (go_at_call 29; exact Calls.regrown_of (C13.out _ (below_regrown w15 _ _))) | (go_at_call 30; exact Calls.regrown_of (C14.out _ (below_regrown w15 _ _))) | (go_at_call 31; exact Calls.regrown_of (C15.out _ (below_regrown w15 _ _))) | (go_at_call 6; exact Calls.regrown_of (C3.out _ (below_regrown w15 _ _)))))
           as_aux_lemma =>
            iterate 1 (go_big_quiet_step (first | (go_at_call 19; exact Calls.regrown_of (C1.out _ (below_regrown w15 _ _))) | (go_at_call 20; exact Calls.regrown_of (C2.out _ (below_regrown w15 _ _))) | (go_at_call 21; exact Calls.regrown_of (C4.out _ (below_regrown w15 _ _))) | (go_at_call 22; exact Calls.regrown_of (C6.out _ (below_regrown w15 _ _))) | (go_at_call 23; exact Calls.regrown_of (C7.out _ (below_regrown w15 _ _))) | (go_at_call 24; exact Calls.regrown_of (C8.out _ (below_regrown w15 _ _))) | (go_at_call 25; exact Calls.regrown_of (C9.out _ (below_regrown w15 _ _))) | (go_at_call 26; exact Calls.regrown_of (C10.out _ (below_regrown w15 _ _))) | (go_at_call 27; exact Calls.regrown_of (C11.out _ (below_regrown w15 _ _))) | (go_at_call 28; exact Calls.regrown_of (C12.out _ (below_regrown w15 _ _))) | (go_at_call 29; exact Calls.regrown_of (C13.out _ (below_regrown w15 _ _))) | (go_at_call 30; exact Calls.regrown_of (C14.out _ (below_regrown w15 _ _))) | (go_at_call 31; exact Calls.regrown_of (C15.out _ (below_regrown w15 _ _))) | (go_at_call 6; exact Calls.regrown_of (C3.out _ (below_regrown w15 _ _)))))
            cases one with
            | false =>
              as_aux_lemma =>
               iterate 12 (go_big_quiet_step (first | (go_at_call 19; exact Calls.regrown_of (C1.out _ (below_regrown w15 _ _))) | (go_at_call 20; exact Calls.regrown_of (C2.out _ (below_regrown w15 _ _))) | (go_at_call 21; exact Calls.regrown_of (C4.out _ (below_regrown w15 _ _))) | (go_at_call 22; exact Calls.regrown_of (C6.out _ (below_regrown w15 _ _))) | (go_at_call 23; exact Calls.regrown_of (C7.out _ (below_regrown w15 _ _))) | (go_at_call 24; exact Calls.regrown_of (C8.out _ (below_regrown w15 _ _))) | (go_at_call 25; exact Calls.regrown_of (C9.out _ (below_regrown w15 _ _))) | (go_at_call 26; exact Calls.regrown_of (C10.out _ (below_regrown w15 _ _))) | (go_at_call 27; exact Calls.regrown_of (C11.out _ (below_regrown w15 _ _))) | (go_at_call 28; exact Calls.regrown_of (C12.out _ (below_regrown w15 _ _))) | (go_at_call 29; exact Calls.regrown_of (C13.out _ (below_regrown w15 _ _))) | (go_at_call 30; exact Calls.regrown_of (C14.out _ (below_regrown w15 _ _))) | (go_at_call 31; exact Calls.regrown_of (C15.out _ (below_regrown w15 _ _))) | (go_at_call 6; exact Calls.regrown_of (C3.out _ (below_regrown w15 _ _)))))
               as_aux_lemma =>
                iterate 12 (go_big_quiet_step (first | (go_at_call 19; exact Calls.regrown_of (C1.out _ (below_regrown w15 _ _))) | (go_at_call 20; exact Calls.regrown_of (C2.out _ (below_regrown w15 _ _))) | (go_at_call 21; exact Calls.regrown_of (C4.out _ (below_regrown w15 _ _))) | (go_at_call 22; exact Calls.regrown_of (C6.out _ (below_regrown w15 _ _))) | (go_at_call 23; exact Calls.regrown_of (C7.out _ (below_regrown w15 _ _))) | (go_at_call 24; exact Calls.regrown_of (C8.out _ (below_regrown w15 _ _))) | (go_at_call 25; exact Calls.regrown_of (C9.out _ (below_regrown w15 _ _))) | (go_at_call 26; exact Calls.regrown_of (C10.out _ (below_regrown w15 _ _))) | (go_at_call 27; exact Calls.regrown_of (C11.out _ (below_regrown w15 _ _))) | (go_at_call 28; exact Calls.regrown_of (C12.out _ (below_regrown w15 _ _))) | (go_at_call 29; exact Calls.regrown_of (C13.out _ (below_regrown w15 _ _))) | (go_at_call 30; exact Calls.regrown_of (C14.out _ (below_regrown w15 _ _))) | (go_at_call 31; exact Calls.regrown_of (C15.out _ (below_regrown w15 _ _))) | (go_at_call 6; exact Calls.regrown_of (C3.out _ (below_regrown w15 _ _)))))
                as_aux_lemma =>
                 iterate 12 (go_big_quiet_step (first | (go_at_call 19; exact Calls.regrown_of (C1.out _ (below_regrown w15 _ _))) | (go_at_call 20; exact Calls.regrown_of (C2.out _ (below_regrown w15 _ _))) | (go_at_call 21; exact Calls.regrown_of (C4.out _ (below_regrown w15 _ _))) | (go_at_call 22; exact Calls.regrown_of (C6.out _ (below_regrown w15 _ _))) | (go_at_call 23; exact Calls.regrown_of (C7.out _ (below_regrown w15 _ _))) | (go_at_call 24; exact Calls.regrown_of (C8.out _ (below_regrown w15 _ _))) | (go_at_call 25; exact Calls.regrown_of (C9.out _ (below_regrown w15 _ _))) | (go_at_call 26; exact Calls.regrown_of (C10.out _ (below_regrown w15 _ _))) | (go_at_call 27; exact Calls.regrown_of (C11.out _ (below_regrown w15 _ _))) | (go_at_call 28; exact Calls.regrown_of (C12.out _ (below_regrown w15 _ _))) | (go_at_call 29; exact Calls.regrown_of (C13.out _ (below_regrown w15 _ _))) | (go_at_call 30; exact Calls.regrown_of (C14.out _ (below_regrown w15 _ _))) | (go_at_call 31; exact Calls.regrown_of (C15.out _ (below_regrown w15 _ _))) | (go_at_call 6; exact Calls.regrown_of (C3.out _ (below_regrown w15 _ _)))))
                 as_aux_lemma =>
                  iterate 12 (go_big_quiet_step (first | (go_at_call 19; exact Calls.regrown_of (C1.out _ (below_regrown w15 _ _))) | (go_at_call 20; exact Calls.regrown_of (C2.out _ (below_regrown w15 _ _))) | (go_at_call 21; exact Calls.regrown_of (C4.out _ (below_regrown w15 _ _))) | (go_at_call 22; exact Calls.regrown_of (C6.out _ (below_regrown w15 _ _))) | (go_at_call 23; exact Calls.regrown_of (C7.out _ (below_regrown w15 _ _))) | (go_at_call 24; exact Calls.regrown_of (C8.out _ (below_regrown w15 _ _))) | (go_at_call 25; exact Calls.regrown_of (C9.out _ (below_regrown w15 _ _))) | (go_at_call 26; exact Calls.regrown_of (C10.out _ (below_regrown w15 _ _))) | (go_at_call 27; exact Calls.regrown_of (C11.out _ (below_regrown w15 _ _))) | (go_at_call 28; exact Calls.regrown_of (C12.out _ (below_regrown w15 _ _))) | (go_at_call 29; exact Calls.regrown_of (C13.out _ (below_regrown w15 _ _))) | (go_at_call 30; exact Calls.regrown_of (C14.out _ (below_regrown w15 _ _))) | (go_at_call 31; exact Calls.regrown_of (C15.out _ (below_regrown w15 _ _))) | (go_at_call 6; exact Calls.regrown_of (C3.out _ (below_regrown w15 _ _)))))
                  as_aux_lemma =>
                   repeat (go_big_quiet_step (first | (go_at_call 19; exact Calls.regrown_of (C1.out _ (below_regrown w15 _ _))) | (go_at_call 20; exact Calls.regrown_of (C2.out _ (below_regrown w15 _ _))) | (go_at_call 21; exact Calls.regrown_of (C4.out _ (below_regrown w15 _ _))) | (go_at_call 22; exact Calls.regrown_of (C6.out _ (below_regrown w15 _ _))) | (go_at_call 23; exact Calls.regrown_of (C7.out _ (below_regrown w15 _ _))) | (go_at_call 24; exact Calls.regrown_of (C8.out _ (below_regrown w15 _ _))) | (go_at_call 25; exact Calls.regrown_of (C9.out _ (below_regrown w15 _ _))) | (go_at_call 26; exact Calls.regrown_of (C10.out _ (below_regrown w15 _ _))) | (go_at_call 27; exact Calls.regrown_of (C11.out _ (below_regrown w15 _ _))) | (go_at_call 28; exact Calls.regrown_of (C12.out _ (below_regrown w15 _ _))) | (go_at_call 29; exact Calls.regrown_of (C13.out _ (below_regrown w15 _ _))) | (go_at_call 30; exact Calls.regrown_of (C14.out _ (below_regrown w15 _ _))) | (go_at_call 31; exact Calls.regrown_of (C15.out _ (below_regrown w15 _ _))) | (go_at_call 6; exact Calls.regrown_of (C3.out _ (below_regrown w15 _ _)))))
                   refine wpQuiet_nil ?_
                   intro _ hw'
                   obtain ⟨⟨dq, osq⟩, hw''⟩ := hw'
                   subst hw''
                   have b6 := HW.out.below (below_regrown w15 dq osq)
                   clear K0 K1 K2 K3 K4 K5 K6 K7 K8 K9 K10 K11 K12 K13 K14 K15 K16 K17 K18 K19 K20 K21 K22 K23 K24 K25 K26 K27 K28 K29 K30 K31 K32 K33 K34 K35 K36 K37 K38 K39 K40 K41 K42 K43 K44
                   go_wp2_with fail
                   go_meet
                   exact ⟨rfl, b6⟩
            | true =>
              have C5 : Hid (∀ wx : World, Below w15.heap.size w15 wx → Calls Tryz.prog 11 #[.agg pa.row] wx fun e w' => e = .returned (.string v) ∧ Below wx.heap.size wx w') := fun wx hx => by have := implPutPack_any pa wx (by have := wire_l HE.out.2 HO.out.2 hv; omega) (wire_f HE.out.2 HO.out.2) (HC.out.2.2.below (base_below HW.out.base hx)); rw [wire_v HE.out.2 HO.out.2] at this; exact this
              as_aux_lemma =>
               iterate 12 (go_big_quiet_step (first | (go_at_call 19; exact Calls.regrown_of (C1.out _ (below_regrown w15 _ _))) | (go_at_call 20; exact Calls.regrown_of (C2.out _ (below_regrown w15 _ _))) | (go_at_call 21; exact Calls.regrown_of (C4.out _ (below_regrown w15 _ _))) | (go_at_call 22; exact Calls.regrown_of (C6.out _ (below_regrown w15 _ _))) | (go_at_call 23; exact Calls.regrown_of (C7.out _ (below_regrown w15 _ _))) | (go_at_call 24; exact Calls.regrown_of (C8.out _ (below_regrown w15 _ _))) | (go_at_call 25; exact Calls.regrown_of (C9.out _ (below_regrown w15 _ _))) | (go_at_call 26; exact Calls.regrown_of (C10.out _ (below_regrown w15 _ _))) | (go_at_call 27; exact Calls.regrown_of (C11.out _ (below_regrown w15 _ _))) | (go_at_call 28; exact Calls.regrown_of (C12.out _ (below_regrown w15 _ _))) | (go_at_call 29; exact Calls.regrown_of (C13.out _ (below_regrown w15 _ _))) | (go_at_call 30; exact Calls.regrown_of (C14.out _ (below_regrown w15 _ _))) | (go_at_call 31; exact Calls.regrown_of (C15.out _ (below_regrown w15 _ _))) | (go_at_call 6; exact Calls.regrown_of (C3.out _ (below_regrown w15 _ _))) | (go_at_call 11; exact Calls.regrown_of (C5.out _ (below_regrown w15 _ _)))))
               as_aux_lemma =>
                iterate 12 (go_big_quiet_step (first | (go_at_call 19; exact Calls.regrown_of (C1.out _ (below_regrown w15 _ _))) | (go_at_call 20; exact Calls.regrown_of (C2.out _ (below_regrown w15 _ _))) | (go_at_call 21; exact Calls.regrown_of (C4.out _ (below_regrown w15 _ _))) | (go_at_call 22; exact Calls.regrown_of (C6.out _ (below_regrown w15 _ _))) | (go_at_call 23; exact Calls.regrown_of (C7.out _ (below_regrown w15 _ _))) | (go_at_call 24; exact Calls.regrown_of (C8.out _ (below_regrown w15 _ _))) | (go_at_call 25; exact Calls.regrown_of (C9.out _ (below_regrown w15 _ _))) | (go_at_call 26; exact Calls.regrown_of (C10.out _ (below_regrown w15 _ _))) | (go_at_call 27; exact Calls.regrown_of (C11.out _ (below_regrown w15 _ _))) | (go_at_call 28; exact Calls.regrown_of (C12.out _ (below_regrown w15 _ _))) | (go_at_call 29; exact Calls.regrown_of (C13.out _ (below_regrown w15 _ _))) | (go_at_call 30; exact Calls.regrown_of (C14.out _ (below_regrown w15 _ _))) | (go_at_call 31; exact Calls.regrown_of (C15.out _ (below_regrown w15 _ _))) | (go_at_call 6; exact Calls.regrown_of (C3.out _ (below_regrown w15 _ _))) | (go_at_call 11; exact Calls.regrown_of (C5.out _ (below_regrown w15 _ _)))))
                as_aux_lemma =>
                 iterate 12 (go_big_quiet_step (first | (go_at_call 19; exact Calls.regrown_of (C1.out _ (below_regrown w15 _ _))) | (go_at_call 20; exact Calls.regrown_of (C2.out _ (below_regrown w15 _ _))) | (go_at_call 21; exact Calls.regrown_of (C4.out _ (below_regrown w15 _ _))) | (go_at_call 22; exact Calls.regrown_of (C6.out _ (below_regrown w15 _ _))) | (go_at_call 23; exact Calls.regrown_of (C7.out _ (below_regrown w15 _ _))) | (go_at_call 24; exact Calls.regrown_of (C8.out _ (below_regrown w15 _ _))) | (go_at_call 25; exact Calls.regrown_of (C9.out _ (below_regrown w15 _ _))) | (go_at_call 26; exact Calls.regrown_of (C10.out _ (below_regrown w15 _ _))) | (go_at_call 27; exact Calls.regrown_of (C11.out _ (below_regrown w15 _ _))) | (go_at_call 28; exact Calls.regrown_of (C12.out _ (below_regrown w15 _ _))) | (go_at_call 29; exact Calls.regrown_of (C13.out _ (below_regrown w15 _ _))) | (go_at_call 30; exact Calls.regrown_of (C14.out _ (below_regrown w15 _ _))) | (go_at_call 31; exact Calls.regrown_of (C15.out _ (below_regrown w15 _ _))) | (go_at_call 6; exact Calls.regrown_of (C3.out _ (below_regrown w15 _ _))) | (go_at_call 11; exact Calls.regrown_of (C5.out _ (below_regrown w15 _ _)))))
                 as_aux_lemma =>
                  iterate 12 (go_big_quiet_step (first | (go_at_call 19; exact Calls.regrown_of (C1.out _ (below_regrown w15 _ _))) | (go_at_call 20; exact Calls.regrown_of (C2.out _ (below_regrown w15 _ _))) | (go_at_call 21; exact Calls.regrown_of (C4.out _ (below_regrown w15 _ _))) | (go_at_call 22; exact Calls.regrown_of (C6.out _ (below_regrown w15 _ _))) | (go_at_call 23; exact Calls.regrown_of (C7.out _ (below_regrown w15 _ _))) | (go_at_call 24; exact Calls.regrown_of (C8.out _ (below_regrown w15 _ _))) | (go_at_call 25; exact Calls.regrown_of (C9.out _ (below_regrown w15 _ _))) | (go_at_call 26; exact Calls.regrown_of (C10.out _ (below_regrown w15 _ _))) | (go_at_call 27; exact Calls.regrown_of (C11.out _ (below_regrown w15 _ _))) | (go_at_call 28; exact Calls.regrown_of (C12.out _ (below_regrown w15 _ _))) | (go_at_call 29; exact Calls.regrown_of (C13.out _ (below_regrown w15 _ _))) | (go_at_call 30; exact Calls.regrown_of (C14.out _ (below_regrown w15 _ _))) | (go_at_call 31; exact Calls.regrown_of (C15.out _ (below_regrown w15 _ _))) | (go_at_call 6; exact Calls.regrown_of (C3.out _ (below_regrown w15 _ _))) | (go_at_call 11; exact Calls.regrown_of (C5.out _ (below_regrown w15 _ _)))))
                  as_aux_lemma =>
                   repeat (go_big_quiet_step (first | (go_at_call 19; exact Calls.regrown_of (C1.out _ (below_regrown w15 _ _))) | (go_at_call 20; exact Calls.regrown_of (C2.out _ (below_regrown w15 _ _))) | (go_at_call 21; exact Calls.regrown_of (C4.out _ (below_regrown w15 _ _))) | (go_at_call 22; exact Calls.regrown_of (C6.out _ (below_regrown w15 _ _))) | (go_at_call 23; exact Calls.regrown_of (C7.out _ (below_regrown w15 _ _))) | (go_at_call 24; exact Calls.regrown_of (C8.out _ (below_regrown w15 _ _))) | (go_at_call 25; exact Calls.regrown_of (C9.out _ (below_regrown w15 _ _))) | (go_at_call 26; exact Calls.regrown_of (C10.out _ (below_regrown w15 _ _))) | (go_at_call 27; exact Calls.regrown_of (C11.out _ (below_regrown w15 _ _))) | (go_at_call 28; exact Calls.regrown_of (C12.out _ (below_regrown w15 _ _))) | (go_at_call 29; exact Calls.regrown_of (C13.out _ (below_regrown w15 _ _))) | (go_at_call 30; exact Calls.regrown_of (C14.out _ (below_regrown w15 _ _))) | (go_at_call 31; exact Calls.regrown_of (C15.out _ (below_regrown w15 _ _))) | (go_at_call 6; exact Calls.regrown_of (C3.out _ (below_regrown w15 _ _))) | (go_at_call 11; exact Calls.regrown_of (C5.out _ (below_regrown w15 _ _)))))
                   refine wpQuiet_nil ?_
                   intro _ hw'
                   obtain ⟨⟨dq, osq⟩, hw''⟩ := hw'
                   subst hw''
                   have b6 := HW.out.below (below_regrown w15 dq osq)
                   clear K0 K1 K2 K3 K4 K5 K6 K7 K8 K9 K10 K11 K12 K13 K14 K15 K16 K17 K18 K19 K20 K21 K22 K23 K24 K25 K26 K27 K28 K29 K30 K31 K32 K33 K34 K35 K36 K37 K38 K39 K40 K41 K42 K43 K44
                   go_wp2_with fail
                   go_meet
                   exact ⟨rfl, b6⟩
  case rest =>
  obtain ⟨rfl, HR⟩ := hcut
  clear HW hpq HE HO
  have hsz := msg_short hml
  have htz := pack_short hpb
  go_wp2_with fail
  refine (implPutNum_any n wc hn.1 hn.2).mono ?_
  rintro e w17 ⟨rfl, b17⟩
  have H17 := (show Hid (WSt w w17 _ _ _ _ _ _ _ _ _ _ _ _ _) from HR.out.below b17)
  clear b17 HR
  have hnl : (⟨(numB n).toArray⟩ : ByteArray).size = 8 := by show (numB n).toArray.size = 8; rw [List.size_toArray, numB_len]
  have hgn := num_there hn
  generalize (⟨(numB n).toArray⟩ : ByteArray) = nb at *
  have hnb : ((⟨#[97]⟩ : ByteArray) ++ nb).size ≤ 1048576 := by have e1 : (⟨#[97]⟩ : ByteArray).size = 1 := rfl; rw [ByteArray.size_append, hnl, e1]; omega
  go_wp2_with fail
  refine (implGetNum_any _ 1 w17 hnb (by omega) (by omega)).mono ?_
  rintro e w18 ⟨rfl, b18⟩
  rw [hgn]
  have H18 := (show Hid (WSt w w18 _ _ _ _ _ _ _ _ _ _ _ _ _) from H17.out.below b18)
  clear b18 H17 hnb hgn hnl
  obtain ⟨k0, k1, k2, k3, k4, k5, k6, k7, k8, k9, k10, k11, k12, k13, k14, k15, k16, k17, k18, k19, k20, k21, k22, k23, k24, k25, k26, k27, k28, k29, k30, k31, k32, k33, k34, k35, k36, k37, k38, k39, k40, k41, k42, k43, k44⟩ := H18.out.cells
  clear k9 k10 k11 k12 k13 k14 k15 k16 k17 k18 k19 k20 k21 k22 k23 k24 k25 k26 k33 k34 k35 k36 k37 k38 k39 k40 k41 k42 k43 k44
  obtain ⟨mo, hmo⟩ : ∃ b, m.ok = b := ⟨_, rfl⟩
  obtain ⟨po, hpo⟩ : ∃ b, p.ok = b := ⟨_, rfl⟩
  have HMP := (show Hid (_ ∧ _) from ⟨hmo, hpo⟩)
  clear hmo hpo
  cases mo with
  | false =>
    have hm1 := msg_void HMP.out.1
    cases po with
    | false =>
      have hp1 := pack_void HMP.out.2
      go_wp2_with (first | (go_at_call 29; refine (specMsgOk_any _ m (fun _ => True) _ H18.out.am (by omega)).mono ?_; rintro e w19 ⟨rfl, b19⟩; rw [HMP.out.1]; have H19 := (show Hid (WSt w w19 _ _ _ _ _ _ _ _ _ _ _ _ _) from H18.out.below b19); clear b19 k0 k1 k2 k3 k4 k5 k6 k7 k8 k27 k28 k29 k30 k31 k32; obtain ⟨k0, k1, k2, k3, k4, k5, k6, k7, k8, k9, k10, k11, k12, k13, k14, k15, k16, k17, k18, k19, k20, k21, k22, k23, k24, k25, k26, k27, k28, k29, k30, k31, k32, k33, k34, k35, k36, k37, k38, k39, k40, k41, k42, k43, k44⟩ := H19.out.cells; clear H18 k9 k10 k11 k12 k13 k14 k15 k16 k17 k18 k19 k20 k21 k22 k23 k24 k25 k26 k33 k34 k35 k36 k37 k38 k39 k40 k41 k42 k43 k44) | (go_at_call 31; refine (specPackOk_any p _ (by omega)).mono ?_; rintro e w20 ⟨rfl, b20⟩; rw [HMP.out.2]; have H20 := (show Hid (WSt w w20 _ _ _ _ _ _ _ _ _ _ _ _ _) from H19.out.below b20); clear b20 H19))
      go_ret
      exact ⟨rfl, H20.out.base⟩
    | true =>
      have hp1 := (pack_full HMP.out.2).1
      have hp2 := (pack_full HMP.out.2).2
      go_wp2_with (first | (go_at_call 29; refine (specMsgOk_any _ m (fun _ => True) _ H18.out.am (by omega)).mono ?_; rintro e w19 ⟨rfl, b19⟩; rw [HMP.out.1]; have H19 := (show Hid (WSt w w19 _ _ _ _ _ _ _ _ _ _ _ _ _) from H18.out.below b19); clear b19 k0 k1 k2 k3 k4 k5 k6 k7 k8 k27 k28 k29 k30 k31 k32; obtain ⟨k0, k1, k2, k3, k4, k5, k6, k7, k8, k9, k10, k11, k12, k13, k14, k15, k16, k17, k18, k19, k20, k21, k22, k23, k24, k25, k26, k27, k28, k29, k30, k31, k32, k33, k34, k35, k36, k37, k38, k39, k40, k41, k42, k43, k44⟩ := H19.out.cells; clear H18 k9 k10 k11 k12 k13 k14 k15 k16 k17 k18 k19 k20 k21 k22 k23 k24 k25 k26 k33 k34 k35 k36 k37 k38 k39 k40 k41 k42 k43 k44) | (go_at_call 31; refine (specPackOk_any p _ (by omega)).mono ?_; rintro e w20 ⟨rfl, b20⟩; rw [HMP.out.2]; have H20 := (show Hid (WSt w w20 _ _ _ _ _ _ _ _ _ _ _ _ _) from H19.out.below b20); clear b20 H19))
      refine (getPack_back HMP.out.2 hpf w20 (by omega) (HC.out.2.2.below H20.out.base)).mono ?_
      rintro e w23 ⟨rfl, b23⟩
      have H23 := (show Hid (WSt w (w23.alloc (.cells p.row 35)) _ _ _ _ _ _ _ _ _ _ _ _ _ ∧ _) from ⟨(H20.out.below b23).below ((Below.refl _ w23).alloc (Nat.le_refl _) (.cells p.row 35)), (MapKept.heap_alloc w23 (.cells p.row 35)).1⟩)
      clear b23 H20
      clear k0 k1 k2 k3 k4 k5 k6 k7 k8 k27 k28 k29 k30 k31 k32
      go_wp2_with fail
      generalize w23.alloc (.cells p.row 35) = W23 at *
      generalize w23.heap.size = rb at *
      refine (at3_any w.heap.size _ len W23 (HC.out.1.kept (fun k hk => H23.out.1.base.block k hk))).mono ?_
      rintro e w24 ⟨x, rfl, x0, x1, hw24⟩
      rw [hw24]
      clear hw24 w24
      obtain ⟨x, rfl⟩ := Int.eq_ofNat_of_zero_le x0
      have htp : 0 < p.bytes.length := List.length_pos_iff.2 hp1
      have hxm : x % p.bytes.length < p.bytes.length := Nat.mod_lt _ htp
      have hxl : x % p.bytes.length ≤ p.bytes.length := Nat.le_of_lt hxm
      have hxi : ((x % p.bytes.length : Nat) : Int) ≤ ((p.bytes.length : Nat) : Int) := by omega
      have hxj : (x : Int) % ((p.bytes.length : Nat) : Int) ≤ ((p.bytes.length : Nat) : Int) := by omega
      have hxz : (0 : Int) ≤ (x : Int) % ((p.bytes.length : Nat) : Int) := by omega
      go_wp2_with fail
      refine (getPack_cut HMP.out.2 hpf (x % p.bytes.length) (by show _ < p.bytes.toArray.size; rw [List.size_toArray]; exact hxm) W23 (by omega) (HC.out.2.2.below H23.out.1.base)).mono ?_
      rintro e w25 ⟨r, rfl, b25⟩
      have bR : Below w25.heap.size w25 (w25.alloc (.cells #[.int .i64 r.kind, .int .i64 r.frm, .int .i64 r.dst, .int .i64 r.seq, .int .i64 r.low, .string r.body] 35)) := (Below.refl _ w25).alloc (Nat.le_refl _) _
      have H25 := (show Hid (WSt w (w25.alloc (.cells #[.int .i64 r.kind, .int .i64 r.frm, .int .i64 r.dst, .int .i64 r.seq, .int .i64 r.low, .string r.body] 35)) _ _ _ _ _ _ _ _ _ _ _ _ _ ∧ _) from ⟨(H23.out.1.below b25).below bR, blk_below (blk_below H23.out.2 b25) bR⟩)
      clear b25 H23 hxm hxl hxi hxj hxz bR
      obtain ⟨k0, k1, k2, k3, k4, k5, k6, k7, k8, k9, k10, k11, k12, k13, k14, k15, k16, k17, k18, k19, k20, k21, k22, k23, k24, k25, k26, k27, k28, k29, k30, k31, k32, k33, k34, k35, k36, k37, k38, k39, k40, k41, k42, k43, k44⟩ := H25.out.1.cells
      clear k0 k1 k2 k3 k4 k5 k6 k7 k8 k9 k10 k11 k12 k13 k14 k15 k16 k17 k18 k19 k20 k21 k22 k23 k24 k25 k26 k33 k34 k35 k36 k37 k38 k39 k40 k41 k42 k43 k44
      have g0 : (w25.alloc (.cells #[.int .i64 r.kind, .int .i64 r.frm, .int .i64 r.dst, .int .i64 r.seq, .int .i64 r.low, .string r.body] 35)).cell? ⟨rb, 0, none⟩ = some (.int .i64 p.kind) := (cell_of_block H25.out.2 0).trans rfl
      have g1 : (w25.alloc (.cells #[.int .i64 r.kind, .int .i64 r.frm, .int .i64 r.dst, .int .i64 r.seq, .int .i64 r.low, .string r.body] 35)).cell? ⟨rb, 1, none⟩ = some (.int .i64 p.frm) := (cell_of_block H25.out.2 1).trans rfl
      have g2 : (w25.alloc (.cells #[.int .i64 r.kind, .int .i64 r.frm, .int .i64 r.dst, .int .i64 r.seq, .int .i64 r.low, .string r.body] 35)).cell? ⟨rb, 2, none⟩ = some (.int .i64 p.dst) := (cell_of_block H25.out.2 2).trans rfl
      have g3 : (w25.alloc (.cells #[.int .i64 r.kind, .int .i64 r.frm, .int .i64 r.dst, .int .i64 r.seq, .int .i64 r.low, .string r.body] 35)).cell? ⟨rb, 3, none⟩ = some (.int .i64 p.seq) := (cell_of_block H25.out.2 3).trans rfl
      have g4 : (w25.alloc (.cells #[.int .i64 r.kind, .int .i64 r.frm, .int .i64 r.dst, .int .i64 r.seq, .int .i64 r.low, .string r.body] 35)).cell? ⟨rb, 4, none⟩ = some (.int .i64 p.low) := (cell_of_block H25.out.2 4).trans rfl
      have g5 : (w25.alloc (.cells #[.int .i64 r.kind, .int .i64 r.frm, .int .i64 r.dst, .int .i64 r.seq, .int .i64 r.low, .string r.body] 35)).cell? ⟨rb, 5, none⟩ = some (.string p.body) := (cell_of_block H25.out.2 5).trans rfl
      have hpq := pack_eql p
      go_wp2_with fail
      go_ret
      exact ⟨rfl, H25.out.1.base⟩
  | true =>
    have hm1 := (msg_full HMP.out.1).1
    have hm2 := (msg_full HMP.out.1).2
    cases po with
    | false =>
      have hp1 := pack_void HMP.out.2
      go_wp2_with (first | (go_at_call 29; refine (specMsgOk_any _ m (fun _ => True) _ H18.out.am (by omega)).mono ?_; rintro e w19 ⟨rfl, b19⟩; rw [HMP.out.1]; have H19 := (show Hid (WSt w w19 _ _ _ _ _ _ _ _ _ _ _ _ _) from H18.out.below b19); clear b19 k0 k1 k2 k3 k4 k5 k6 k7 k8 k27 k28 k29 k30 k31 k32; obtain ⟨k0, k1, k2, k3, k4, k5, k6, k7, k8, k9, k10, k11, k12, k13, k14, k15, k16, k17, k18, k19, k20, k21, k22, k23, k24, k25, k26, k27, k28, k29, k30, k31, k32, k33, k34, k35, k36, k37, k38, k39, k40, k41, k42, k43, k44⟩ := H19.out.cells; clear H18 k9 k10 k11 k12 k13 k14 k15 k16 k17 k18 k19 k20 k21 k22 k23 k24 k25 k26 k33 k34 k35 k36 k37 k38 k39 k40 k41 k42 k43 k44) | (go_at_call 31; refine (specPackOk_any p _ (by omega)).mono ?_; rintro e w20 ⟨rfl, b20⟩; rw [HMP.out.2]; have H20 := (show Hid (WSt w w20 _ _ _ _ _ _ _ _ _ _ _ _ _) from H19.out.below b20); clear b20 H19))
      refine (getMsg_back HMP.out.1 (ms_fits H20.out.am) w20 (by omega) (HC.out.2.2.below H20.out.base)).mono ?_
      rintro e w21 ⟨vb, rfl, hvb, b21⟩
      obtain ⟨ba2, bc2, rfl⟩ := hvb.form
      have H21 := (show Hid (WSt w (w21.alloc (.cells (m.row (.slice ba2 m.cell.kids.length bc2)) 28)) _ _ _ _ _ _ _ _ _ _ _ _ _ ∧ _ ∧ _) from ⟨(H20.out.below b21).below ((Below.refl _ w21).alloc (Nat.le_refl _) (.cells (m.row (.slice ba2 m.cell.kids.length bc2)) 28)), hvb.below ((Below.refl _ w21).alloc (Nat.le_refl _) (.cells (m.row (.slice ba2 m.cell.kids.length bc2)) 28)), (MapKept.heap_alloc w21 (.cells (m.row (.slice ba2 m.cell.kids.length bc2)) 28)).1⟩)
      clear b21 hvb H20 k0 k1 k2 k3 k4 k5 k6 k7 k8 k27 k28 k29 k30 k31 k32
      obtain ⟨k0, k1, k2, k3, k4, k5, k6, k7, k8, k9, k10, k11, k12, k13, k14, k15, k16, k17, k18, k19, k20, k21, k22, k23, k24, k25, k26, k27, k28, k29, k30, k31, k32, k33, k34, k35, k36, k37, k38, k39, k40, k41, k42, k43, k44⟩ := H21.out.1.cells
      clear k9 k10 k11 k12 k13 k14 k15 k16 k17 k18 k19 k20 k21 k22 k23 k24 k25 k26 k33 k34 k35 k36 k37 k38 k39 k40 k41 k42 k43 k44
      have g0 : (w21.alloc (.cells (m.row (.slice ba2 m.cell.kids.length bc2)) 28)).cell? ⟨w21.heap.size, 0, none⟩ = some (.int .i64 m.kind) := (cell_of_block H21.out.2.2 0).trans rfl
      have g1 : (w21.alloc (.cells (m.row (.slice ba2 m.cell.kids.length bc2)) 28)).cell? ⟨w21.heap.size, 1, none⟩ = some (.int .i64 m.frm) := (cell_of_block H21.out.2.2 1).trans rfl
      have g2 : (w21.alloc (.cells (m.row (.slice ba2 m.cell.kids.length bc2)) 28)).cell? ⟨w21.heap.size, 2, none⟩ = some (.int .i64 m.dst) := (cell_of_block H21.out.2.2 2).trans rfl
      have g3 : (w21.alloc (.cells (m.row (.slice ba2 m.cell.kids.length bc2)) 28)).cell? ⟨w21.heap.size, 3, none⟩ = some (.int .i64 m.id) := (cell_of_block H21.out.2.2 3).trans rfl
      have g4 : (w21.alloc (.cells (m.row (.slice ba2 m.cell.kids.length bc2)) 28)).cell? ⟨w21.heap.size, 4, none⟩ = some (.int .i64 m.want) := (cell_of_block H21.out.2.2 4).trans rfl
      have g5 : (w21.alloc (.cells (m.row (.slice ba2 m.cell.kids.length bc2)) 28)).cell? ⟨w21.heap.size, 5, none⟩ = some (.int .i64 m.cell.kind) := (cell_of_block H21.out.2.2 5).trans rfl
      have g6 : (w21.alloc (.cells (m.row (.slice ba2 m.cell.kids.length bc2)) 28)).cell? ⟨w21.heap.size, 6, none⟩ = some (.int .i64 m.cell.n) := (cell_of_block H21.out.2.2 6).trans rfl
      have g7 : (w21.alloc (.cells (m.row (.slice ba2 m.cell.kids.length bc2)) 28)).cell? ⟨w21.heap.size, 7, none⟩ = some (.int .i64 m.cell.pos) := (cell_of_block H21.out.2.2 7).trans rfl
      have g8 : (w21.alloc (.cells (m.row (.slice ba2 m.cell.kids.length bc2)) 28)).cell? ⟨w21.heap.size, 8, none⟩ = some (.slice ba2 m.cell.kids.length bc2) := (cell_of_block H21.out.2.2 8).trans rfl
      go_wp2_with (go_at_call 20; refine (sameMsg_same _ _ m (fun _ => True) (fun _ => True) _ H21.out.2.1 H21.out.1.am).mono ?_; rintro e w22 ⟨rfl, b22⟩; have H22 := (show Hid (WSt w w22 _ _ _ _ _ _ _ _ _ _ _ _ _) from H21.out.1.below b22); clear b22 H21 g0 g1 g2 g3 g4 g5 g6 g7 g8 k0 k1 k2 k3 k4 k5 k6 k7 k8 k27 k28 k29 k30 k31 k32)
      go_ret
      exact ⟨rfl, H22.out.base⟩
    | true =>
      have hp1 := (pack_full HMP.out.2).1
      have hp2 := (pack_full HMP.out.2).2
      go_wp2_with (first | (go_at_call 29; refine (specMsgOk_any _ m (fun _ => True) _ H18.out.am (by omega)).mono ?_; rintro e w19 ⟨rfl, b19⟩; rw [HMP.out.1]; have H19 := (show Hid (WSt w w19 _ _ _ _ _ _ _ _ _ _ _ _ _) from H18.out.below b19); clear b19 k0 k1 k2 k3 k4 k5 k6 k7 k8 k27 k28 k29 k30 k31 k32; obtain ⟨k0, k1, k2, k3, k4, k5, k6, k7, k8, k9, k10, k11, k12, k13, k14, k15, k16, k17, k18, k19, k20, k21, k22, k23, k24, k25, k26, k27, k28, k29, k30, k31, k32, k33, k34, k35, k36, k37, k38, k39, k40, k41, k42, k43, k44⟩ := H19.out.cells; clear H18 k9 k10 k11 k12 k13 k14 k15 k16 k17 k18 k19 k20 k21 k22 k23 k24 k25 k26 k33 k34 k35 k36 k37 k38 k39 k40 k41 k42 k43 k44) | (go_at_call 31; refine (specPackOk_any p _ (by omega)).mono ?_; rintro e w20 ⟨rfl, b20⟩; rw [HMP.out.2]; have H20 := (show Hid (WSt w w20 _ _ _ _ _ _ _ _ _ _ _ _ _) from H19.out.below b20); clear b20 H19))
      refine (getMsg_back HMP.out.1 (ms_fits H20.out.am) w20 (by omega) (HC.out.2.2.below H20.out.base)).mono ?_
      rintro e w21 ⟨vb, rfl, hvb, b21⟩
      obtain ⟨ba2, bc2, rfl⟩ := hvb.form
      have H21 := (show Hid (WSt w (w21.alloc (.cells (m.row (.slice ba2 m.cell.kids.length bc2)) 28)) _ _ _ _ _ _ _ _ _ _ _ _ _ ∧ _ ∧ _) from ⟨(H20.out.below b21).below ((Below.refl _ w21).alloc (Nat.le_refl _) (.cells (m.row (.slice ba2 m.cell.kids.length bc2)) 28)), hvb.below ((Below.refl _ w21).alloc (Nat.le_refl _) (.cells (m.row (.slice ba2 m.cell.kids.length bc2)) 28)), (MapKept.heap_alloc w21 (.cells (m.row (.slice ba2 m.cell.kids.length bc2)) 28)).1⟩)
      clear b21 hvb H20 k0 k1 k2 k3 k4 k5 k6 k7 k8 k27 k28 k29 k30 k31 k32
      obtain ⟨k0, k1, k2, k3, k4, k5, k6, k7, k8, k9, k10, k11, k12, k13, k14, k15, k16, k17, k18, k19, k20, k21, k22, k23, k24, k25, k26, k27, k28, k29, k30, k31, k32, k33, k34, k35, k36, k37, k38, k39, k40, k41, k42, k43, k44⟩ := H21.out.1.cells
      clear k9 k10 k11 k12 k13 k14 k15 k16 k17 k18 k19 k20 k21 k22 k23 k24 k25 k26 k33 k34 k35 k36 k37 k38 k39 k40 k41 k42 k43 k44
      have g0 : (w21.alloc (.cells (m.row (.slice ba2 m.cell.kids.length bc2)) 28)).cell? ⟨w21.heap.size, 0, none⟩ = some (.int .i64 m.kind) := (cell_of_block H21.out.2.2 0).trans rfl
      have g1 : (w21.alloc (.cells (m.row (.slice ba2 m.cell.kids.length bc2)) 28)).cell? ⟨w21.heap.size, 1, none⟩ = some (.int .i64 m.frm) := (cell_of_block H21.out.2.2 1).trans rfl
      have g2 : (w21.alloc (.cells (m.row (.slice ba2 m.cell.kids.length bc2)) 28)).cell? ⟨w21.heap.size, 2, none⟩ = some (.int .i64 m.dst) := (cell_of_block H21.out.2.2 2).trans rfl
      have g3 : (w21.alloc (.cells (m.row (.slice ba2 m.cell.kids.length bc2)) 28)).cell? ⟨w21.heap.size, 3, none⟩ = some (.int .i64 m.id) := (cell_of_block H21.out.2.2 3).trans rfl
      have g4 : (w21.alloc (.cells (m.row (.slice ba2 m.cell.kids.length bc2)) 28)).cell? ⟨w21.heap.size, 4, none⟩ = some (.int .i64 m.want) := (cell_of_block H21.out.2.2 4).trans rfl
      have g5 : (w21.alloc (.cells (m.row (.slice ba2 m.cell.kids.length bc2)) 28)).cell? ⟨w21.heap.size, 5, none⟩ = some (.int .i64 m.cell.kind) := (cell_of_block H21.out.2.2 5).trans rfl
      have g6 : (w21.alloc (.cells (m.row (.slice ba2 m.cell.kids.length bc2)) 28)).cell? ⟨w21.heap.size, 6, none⟩ = some (.int .i64 m.cell.n) := (cell_of_block H21.out.2.2 6).trans rfl
      have g7 : (w21.alloc (.cells (m.row (.slice ba2 m.cell.kids.length bc2)) 28)).cell? ⟨w21.heap.size, 7, none⟩ = some (.int .i64 m.cell.pos) := (cell_of_block H21.out.2.2 7).trans rfl
      have g8 : (w21.alloc (.cells (m.row (.slice ba2 m.cell.kids.length bc2)) 28)).cell? ⟨w21.heap.size, 8, none⟩ = some (.slice ba2 m.cell.kids.length bc2) := (cell_of_block H21.out.2.2 8).trans rfl
      go_wp2_with (go_at_call 20; refine (sameMsg_same _ _ m (fun _ => True) (fun _ => True) _ H21.out.2.1 H21.out.1.am).mono ?_; rintro e w22 ⟨rfl, b22⟩; have H22 := (show Hid (WSt w w22 _ _ _ _ _ _ _ _ _ _ _ _ _) from H21.out.1.below b22); clear b22 H21 g0 g1 g2 g3 g4 g5 g6 g7 g8 k0 k1 k2 k3 k4 k5 k6 k7 k8 k27 k28 k29 k30 k31 k32)
      refine (getPack_back HMP.out.2 hpf w22 (by omega) (HC.out.2.2.below H22.out.base)).mono ?_
      rintro e w23 ⟨rfl, b23⟩
      have H23 := (show Hid (WSt w (w23.alloc (.cells p.row 35)) _ _ _ _ _ _ _ _ _ _ _ _ _ ∧ _) from ⟨(H22.out.below b23).below ((Below.refl _ w23).alloc (Nat.le_refl _) (.cells p.row 35)), (MapKept.heap_alloc w23 (.cells p.row 35)).1⟩)
      clear b23 H22
      go_wp2_with fail
      generalize w23.alloc (.cells p.row 35) = W23 at *
      generalize w23.heap.size = rb at *
      refine (at3_any w.heap.size _ len W23 (HC.out.1.kept (fun k hk => H23.out.1.base.block k hk))).mono ?_
      rintro e w24 ⟨x, rfl, x0, x1, hw24⟩
      rw [hw24]
      clear hw24 w24
      obtain ⟨x, rfl⟩ := Int.eq_ofNat_of_zero_le x0
      have htp : 0 < p.bytes.length := List.length_pos_iff.2 hp1
      have hxm : x % p.bytes.length < p.bytes.length := Nat.mod_lt _ htp
      have hxl : x % p.bytes.length ≤ p.bytes.length := Nat.le_of_lt hxm
      have hxi : ((x % p.bytes.length : Nat) : Int) ≤ ((p.bytes.length : Nat) : Int) := by omega
      have hxj : (x : Int) % ((p.bytes.length : Nat) : Int) ≤ ((p.bytes.length : Nat) : Int) := by omega
      have hxz : (0 : Int) ≤ (x : Int) % ((p.bytes.length : Nat) : Int) := by omega
      go_wp2_with fail
      refine (getPack_cut HMP.out.2 hpf (x % p.bytes.length) (by show _ < p.bytes.toArray.size; rw [List.size_toArray]; exact hxm) W23 (by omega) (HC.out.2.2.below H23.out.1.base)).mono ?_
      rintro e w25 ⟨r, rfl, b25⟩
      have bR : Below w25.heap.size w25 (w25.alloc (.cells #[.int .i64 r.kind, .int .i64 r.frm, .int .i64 r.dst, .int .i64 r.seq, .int .i64 r.low, .string r.body] 35)) := (Below.refl _ w25).alloc (Nat.le_refl _) _
      have H25 := (show Hid (WSt w (w25.alloc (.cells #[.int .i64 r.kind, .int .i64 r.frm, .int .i64 r.dst, .int .i64 r.seq, .int .i64 r.low, .string r.body] 35)) _ _ _ _ _ _ _ _ _ _ _ _ _ ∧ _) from ⟨(H23.out.1.below b25).below bR, blk_below (blk_below H23.out.2 b25) bR⟩)
      clear b25 H23 hxm hxl hxi hxj hxz bR
      obtain ⟨k0, k1, k2, k3, k4, k5, k6, k7, k8, k9, k10, k11, k12, k13, k14, k15, k16, k17, k18, k19, k20, k21, k22, k23, k24, k25, k26, k27, k28, k29, k30, k31, k32, k33, k34, k35, k36, k37, k38, k39, k40, k41, k42, k43, k44⟩ := H25.out.1.cells
      clear k0 k1 k2 k3 k4 k5 k6 k7 k8 k9 k10 k11 k12 k13 k14 k15 k16 k17 k18 k19 k20 k21 k22 k23 k24 k25 k26 k33 k34 k35 k36 k37 k38 k39 k40 k41 k42 k43 k44
      have g0 : (w25.alloc (.cells #[.int .i64 r.kind, .int .i64 r.frm, .int .i64 r.dst, .int .i64 r.seq, .int .i64 r.low, .string r.body] 35)).cell? ⟨rb, 0, none⟩ = some (.int .i64 p.kind) := (cell_of_block H25.out.2 0).trans rfl
      have g1 : (w25.alloc (.cells #[.int .i64 r.kind, .int .i64 r.frm, .int .i64 r.dst, .int .i64 r.seq, .int .i64 r.low, .string r.body] 35)).cell? ⟨rb, 1, none⟩ = some (.int .i64 p.frm) := (cell_of_block H25.out.2 1).trans rfl
      have g2 : (w25.alloc (.cells #[.int .i64 r.kind, .int .i64 r.frm, .int .i64 r.dst, .int .i64 r.seq, .int .i64 r.low, .string r.body] 35)).cell? ⟨rb, 2, none⟩ = some (.int .i64 p.dst) := (cell_of_block H25.out.2 2).trans rfl
      have g3 : (w25.alloc (.cells #[.int .i64 r.kind, .int .i64 r.frm, .int .i64 r.dst, .int .i64 r.seq, .int .i64 r.low, .string r.body] 35)).cell? ⟨rb, 3, none⟩ = some (.int .i64 p.seq) := (cell_of_block H25.out.2 3).trans rfl
      have g4 : (w25.alloc (.cells #[.int .i64 r.kind, .int .i64 r.frm, .int .i64 r.dst, .int .i64 r.seq, .int .i64 r.low, .string r.body] 35)).cell? ⟨rb, 4, none⟩ = some (.int .i64 p.low) := (cell_of_block H25.out.2 4).trans rfl
      have g5 : (w25.alloc (.cells #[.int .i64 r.kind, .int .i64 r.frm, .int .i64 r.dst, .int .i64 r.seq, .int .i64 r.low, .string r.body] 35)).cell? ⟨rb, 5, none⟩ = some (.string p.body) := (cell_of_block H25.out.2 5).trans rfl
      have hpq := pack_eql p
      go_wp2_with fail
      go_ret
      exact ⟨rfl, H25.out.1.base⟩
end Go.Proofs.YtkfmkhhjkioeoaaGreatDoor
