/-
  The law of links, walked.
-/
import Derived.Test.YtlbinamlehapoaaGreatDoorDrawLTop
import Derived.Test.YtlbinamlehapoaaGreatDoorNN
import Derived.Test.YtlbinamlehapoaaGreatDoorLinkTakeP
import Derived.Test.YtlbinamlehapoaaGreatDoorNJ
import Derived.Test.YtlbinamlehapoaaGreatDoorNH
import Derived.Test.YtlbinamlehapoaaGreatDoorNE
import Derived.Test.YtlbinamlehapoaaGreatDoorNF
import Derived.Test.YtlbinamlehapoaaGreatDoorImplLinkOk
import Derived.Test.YtlbinamlehapoaaGreatDoorSpecLinkOk
import Derived.Test.YtlbinamlehapoaaGreatDoorMZ
import Derived.Deep.CutBlock
import Derived.Deep.RegionHeld3
import Derived.Deep.DeepCutAuto
namespace Go.Proofs.YtlbinamlehapoaaGreatDoor
open Go.RowKit Go.Joins

set_option maxRecDepth 100000

theorem bigL_any (a : Option Addr) (len cap : Nat) (w : World) :
    Calls Tryz.prog 4 #[.slice a len cap] w fun e w' => e = .returned (.bool (decide ((1048576 : Int) < (len : Int)))) ∧ w' = w := by
  go_enter Tryz.func4, Tryz.ntmps4
  go_wp2
  go_ret
  exact ⟨rfl, rfl⟩
/-- A link in its box. -/
def LB (W : World) (b : Nat) (l : Lk) (ov sv : Value) : Prop := W.heap[b]? = some (.cells (l.row ov sv) 27) ∧ LkAt W (fun _ => True) (.agg (l.row ov sv)) l
theorem LB.below {W W' : World} {b : Nat} {l : Lk} {ov sv : Value} (h : LB W b l ov sv) (hb : Below W.heap.size W W') : LB W' b l ov sv := ⟨(hb.block _ (lt_heap h.1)).trans h.1, h.2.below hb⟩
theorem LB.new {W : World} {S : Nat → Prop} {l : Lk} {ov sv : Value} (h : LkAt W S (.agg (l.row ov sv)) l) : LB (W.alloc (.cells (l.row ov sv) 27)) W.heap.size l ov sv :=
  ⟨(MapKept.heap_alloc W _).1, h.kept (fun b _ hlt => Below.heap_alloc W _ b hlt) (by simp) (fun _ _ _ => trivial)⟩
/-- A message in its box. -/
def MgB (W : World) (b : Nat) (m : Ms) (kv : Value) : Prop := W.heap[b]? = some (.cells (m.row kv) 32) ∧ MsAt W (fun _ => True) (.agg (m.row kv)) m
theorem MgB.below {W W' : World} {b : Nat} {m : Ms} {kv : Value} (h : MgB W b m kv) (hb : Below W.heap.size W W') : MgB W' b m kv := ⟨(hb.block _ (lt_heap h.1)).trans h.1, h.2.below hb⟩
theorem MgB.new {W : World} {S : Nat → Prop} {m : Ms} {kv : Value} (h : MsAt W S (.agg (m.row kv)) m) : MgB (W.alloc (.cells (m.row kv) 32)) W.heap.size m kv := by
  refine ⟨(MapKept.heap_alloc W _).1, ?_⟩
  obtain ⟨kv', hv, h1, h2, h3, h4, hk⟩ := h
  exact ⟨kv', hv, h1, h2, h3, h4, hk.kept (fun b _ hlt => Below.heap_alloc W _ b hlt) (by simp) (fun _ _ _ => trivial)⟩
def PB (W : World) (b : Nat) (p : Pa) : Prop := W.heap[b]? = some (.cells p.row 38)
theorem PB.below {W W' : World} {b : Nat} {p : Pa} (h : PB W b p) (hb : Below W.heap.size W W') : PB W' b p := (hb.block _ (lt_heap h)).trans h
theorem base_below {w W W' : World} (h : Below w.heap.size w W) (hb : Below W.heap.size W W') : Below w.heap.size w W' := h.trans (hb.mono h.size)
theorem own_out {W : World} {B : Nat} {v : Value} {l : Lk} {ov sv : Value} {rs : List (Se × Value)} (h : LkOwn W B v l ov sv rs) : ∃ oa oc sa sc, v = .agg (l.row (.slice oa l.out.length oc) (.slice sa l.seen.length sc)) ∧ LkAt W (fun _ => True) (.agg (l.row (.slice oa l.out.length oc) (.slice sa l.seen.length sc))) l := by
  obtain ⟨oa, oc, sa, sc, rfl, rfl⟩ := h.form
  have hv := h.val
  subst hv
  exact ⟨oa, oc, sa, sc, rfl, h.at.kept (fun _ _ _ => rfl) (Nat.le_refl _) (fun _ _ _ => trivial)⟩
/-- What a call that makes a link answers. -/
def Mk (W : World) (k : Lk) (mk : Value → Value) (e : Ending) (w' : World) : Prop := ∃ oa oc sa sc, e = .returned (mk (.agg (k.row (.slice oa k.out.length oc) (.slice sa k.seen.length sc)))) ∧ LkAt w' (fun _ => True) (.agg (k.row (.slice oa k.out.length oc) (.slice sa k.seen.length sc))) k ∧ Below W.heap.size W w'
theorem mk_of {W : World} {k : Lk} {mk : Value → Value} {e : Ending} {w' : World} (h : ∃ v ov sv rs, e = .returned (mk v) ∧ LkOwn w' W.heap.size v k ov sv rs ∧ Below W.heap.size W w') : Mk W k mk e w' := by
  obtain ⟨v, ov, sv, rs, rfl, hO, hb⟩ := h
  obtain ⟨oa, oc, sa, sc, rfl, ha⟩ := own_out hO
  exact ⟨oa, oc, sa, sc, rfl, ha, hb⟩
theorem sendP (v vm : Value) (l n : Lk) (m : Ms) (tx : ByteArray) (gs : Bool) (S T : Nat → Prop) (a0 a1 a2 : Addr) (w : World) (h1 : l.send m = n) (h2 : l.sendText m = tx) (h3 : l.goes m = gs) (h : LkAt w S v l) (hm : MsAt w T vm m) (hb : l.bulk ≤ 1048576) (hg : ET w) (he : EG a0 a1 a2 w) :
    Calls Tryz.prog 6 #[v, vm] w (Mk w n (fun x => .tuple #[x, .string tx, .bool gs])) := by
  subst h1 h2 h3
  exact (implLinkSend_any v vm l m S T a0 a1 a2 w h hm hb hg he).mono fun e w' h => mk_of h
theorem sendS (v vm : Value) (l n : Lk) (m : Ms) (tx : ByteArray) (gs : Bool) (S T : Nat → Prop) (w : World) (h1 : l.send m = n) (h2 : l.sendText m = tx) (h3 : l.goes m = gs) (h : LkAt w S v l) (hm : MsAt w T vm m) (hb : l.bulk ≤ 1048576) (hk : m.cell.kids.length ≤ 4194304) :
    Calls Tryz.prog 7 #[v, vm] w (Mk w n (fun x => .tuple #[x, .string tx, .bool gs])) := by
  subst h1 h2 h3
  exact (specLinkSend_any v vm l m S T w h hm hb hk).mono fun e w' h => mk_of h
theorem takeP (v : Value) (l y : Lk) (p : Pa) (gf gd : Bool) (S : Nat → Prop) (a0 a2 a3 a4 : Addr) (w : World) (h1 : l.take p = y) (h2 : l.fresh p = gf) (h3 : l.due p = gd) (h : LkAt w S v l) (hb : l.bulk ≤ 1048576) (hs : p.body.size ≤ 1048576) (hpf : p.fits) (hg : ET w) (he : EGT a0 a2 a3 a4 w) :
    Calls Tryz.prog 9 #[v, .agg p.row] w (Mk w y (fun x => .tuple #[x, .bool gf, .bool gd])) := by
  subst h1 h2 h3
  exact (implLinkTake_any v l p S a0 a2 a3 a4 w h hb hs hpf hg he).mono fun e w' h => mk_of h
theorem takeS (v : Value) (l y : Lk) (p : Pa) (gf gd : Bool) (S : Nat → Prop) (w : World) (h1 : l.take p = y) (h2 : l.fresh p = gf) (h3 : l.due p = gd) (h : LkAt w S v l) (hb : l.bulk ≤ 1048576) (hs : p.body.size ≤ 1048576) (hpf : p.fits) :
    Calls Tryz.prog 10 #[v, .agg p.row] w (Mk w y (fun x => .tuple #[x, .bool gf, .bool gd])) := by
  subst h1 h2 h3
  exact (specLinkTake_any v l p S w h hb hs hpf).mono fun e w' h => mk_of h
theorem ackP (v : Value) (l k : Lk) (frm seq : Int) (S : Nat → Prop) (w : World) (h1 : l.ack frm seq = k) (h : LkAt w S v l) (hb : l.bulk ≤ 1048576) (hg : ET w) :
    Calls Tryz.prog 12 #[v, .int .i64 frm, .int .i64 seq] w (Mk w k (fun x => x)) := by
  subst h1
  exact (implLinkAck_any v l frm seq S w h hb hg).mono fun e w' h => mk_of h
theorem ackS (v : Value) (l k : Lk) (frm seq : Int) (S : Nat → Prop) (w : World) (h1 : l.ack frm seq = k) (h : LkAt w S v l) (hb : l.bulk ≤ 1048576) :
    Calls Tryz.prog 18 #[v, .int .i64 frm, .int .i64 seq] w (Mk w k (fun x => x)) := by
  subst h1
  exact (specLinkAck_any v l frm seq S w h hb).mono fun e w' h => mk_of h
theorem newP (id nodes : Int) (k : Lk) (ok : Bool) (w : World) (h1 : newOf id nodes = k) (h2 : amongB id nodes = ok) (hid : inI64 id) :
    Calls Tryz.prog 15 #[.int .i64 id, .int .i64 nodes] w (Mk w k (fun x => .tuple #[x, .bool ok])) := by
  subst h1 h2
  exact (implLinkNew_any id nodes w hid).mono fun e w' h => mk_of h
theorem newS (id nodes : Int) (k : Lk) (ok : Bool) (w : World) (h1 : newOf id nodes = k) (h2 : amongB id nodes = ok) (hid : inI64 id) :
    Calls Tryz.prog 16 #[.int .i64 id, .int .i64 nodes] w (Mk w k (fun x => .tuple #[x, .bool ok])) := by
  subst h1 h2
  exact (specLinkNew_any id nodes w hid).mono fun e w' h => mk_of h


/-- A link's cells. -/
def LC (W : World) (b : Nat) (l : Lk) (ov sv : Value) : Prop := W.cell? ⟨b, 0, none⟩ = some (.int .i64 l.id) ∧ W.cell? ⟨b, 1, none⟩ = some (.int .i64 l.next) ∧ W.cell? ⟨b, 2, none⟩ = some ov ∧ W.cell? ⟨b, 3, none⟩ = some sv
theorem step_callG1 {P : Program} {ops : Array Oper} {o : Oper} {a : Act} {w : World} {K : Act → World → Prop} {Q : Exit → Act → World → Prop} {E : Prop}
    (hw : Region.wanted o (yielded ops a.tmps) = true) (f : FuncId) (x : Operand) (ts : Array TypeId) (hop : o.op = Op.call { callee := Callee.value (.func f), args := #[x], argTypes := ts }) (hent : ∀ args w, (callFunc f args).run P w = .ok (.enter f args) w)
    (u : Value) (hx : a.eval x = u) (Post : Value → World → Prop) (hc : Calls P f #[u] w fun e w' => ∃ r, e = .returned r ∧ Post r w') (hK : ∀ r w', Post r w' → K (a.put o.dst r) w') :
    if Region.wanted o (yielded ops a.tmps) = true then Oper.wp P o a w K Q else E := by
  rw [if_pos hw]
  unfold Oper.wp execOp
  have hf : a.eval (.func f) = .func (.func f) #[] #[] := rfl
  simp [hop, resolve, invoke, hx, hf, hent, Deferred.ofValue]
  refine hc.mono ?_
  rintro e w' ⟨r, rfl, h⟩
  exact hK r w' h
theorem step_callG2 {P : Program} {ops : Array Oper} {o : Oper} {a : Act} {w : World} {K : Act → World → Prop} {Q : Exit → Act → World → Prop} {E : Prop}
    (hw : Region.wanted o (yielded ops a.tmps) = true) (f : FuncId) (x y : Operand) (ts : Array TypeId) (hop : o.op = Op.call { callee := Callee.value (.func f), args := #[x, y], argTypes := ts }) (hent : ∀ args w, (callFunc f args).run P w = .ok (.enter f args) w)
    (u v : Value) (hx : a.eval x = u) (hy : a.eval y = v) (Post : Value → World → Prop) (hc : Calls P f #[u, v] w fun e w' => ∃ r, e = .returned r ∧ Post r w') (hK : ∀ r w', Post r w' → K (a.put o.dst r) w') :
    if Region.wanted o (yielded ops a.tmps) = true then Oper.wp P o a w K Q else E := by
  rw [if_pos hw]
  unfold Oper.wp execOp
  have hf : a.eval (.func f) = .func (.func f) #[] #[] := rfl
  simp [hop, resolve, invoke, hx, hy, hf, hent, Deferred.ofValue]
  refine hc.mono ?_
  rintro e w' ⟨r, rfl, h⟩
  exact hK r w' h
theorem step_callG3 {P : Program} {ops : Array Oper} {o : Oper} {a : Act} {w : World} {K : Act → World → Prop} {Q : Exit → Act → World → Prop} {E : Prop}
    (hw : Region.wanted o (yielded ops a.tmps) = true) (f : FuncId) (x y z : Operand) (ts : Array TypeId) (hop : o.op = Op.call { callee := Callee.value (.func f), args := #[x, y, z], argTypes := ts }) (hent : ∀ args w, (callFunc f args).run P w = .ok (.enter f args) w)
    (u v t : Value) (hx : a.eval x = u) (hy : a.eval y = v) (hz : a.eval z = t) (Post : Value → World → Prop) (hc : Calls P f #[u, v, t] w fun e w' => ∃ r, e = .returned r ∧ Post r w') (hK : ∀ r w', Post r w' → K (a.put o.dst r) w') :
    if Region.wanted o (yielded ops a.tmps) = true then Oper.wp P o a w K Q else E := by
  rw [if_pos hw]
  unfold Oper.wp execOp
  have hf : a.eval (.func f) = .func (.func f) #[] #[] := rfl
  simp [hop, resolve, invoke, hx, hy, hz, hf, hent, Deferred.ofValue]
  refine hc.mono ?_
  rintro e w' ⟨r, rfl, h⟩
  exact hK r w' h
theorem ent_sameLink : ∀ args w, (callFunc 17 args).run Tryz.prog w = .ok (.enter 17 args) w := enters_of Tryz.func17 (by kernel_rfl) rfl
theorem ent_sameTexts : ∀ args w, (callFunc 19 args).run Tryz.prog w = .ok (.enter 19 args) w := enters_of Tryz.func19 (by kernel_rfl) rfl
theorem ent_ackS : ∀ args w, (callFunc 18 args).run Tryz.prog w = .ok (.enter 18 args) w := enters_of Tryz.func18 (by kernel_rfl) rfl
theorem ent_againP : ∀ args w, (callFunc 20 args).run Tryz.prog w = .ok (.enter 20 args) w := enters_of Tryz.func20 (by kernel_rfl) rfl
theorem ent_againS : ∀ args w, (callFunc 21 args).run Tryz.prog w = .ok (.enter 21 args) w := enters_of Tryz.func21 (by kernel_rfl) rfl
theorem ent_okP : ∀ args w, (callFunc 22 args).run Tryz.prog w = .ok (.enter 22 args) w := enters_of Tryz.func22 (by kernel_rfl) rfl
theorem ent_okS : ∀ args w, (callFunc 23 args).run Tryz.prog w = .ok (.enter 23 args) w := enters_of Tryz.func23 (by kernel_rfl) rfl


theorem okP (l : Lk) (v : Value) (o : Bool) (S : Nat → Prop) (w : World) (h1 : l.ok = o) (h : LkAt w S v l) (hb : l.bulk ≤ 1048576) (hg : ET w) :
    Calls Tryz.prog 22 #[v] w fun e w' => e = .returned (.bool o) ∧ Below w.heap.size w w' := by
  subst h1
  exact implLinkOk_any v l S w h hb hg
theorem okS (l : Lk) (v : Value) (o : Bool) (S : Nat → Prop) (w : World) (h1 : l.ok = o) (h : LkAt w S v l) (hb : l.bulk ≤ 1048576) :
    Calls Tryz.prog 23 #[v] w fun e w' => e = .returned (.bool o) ∧ Below w.heap.size w w' := by
  subst h1
  exact specLinkOk_any v l S w h hb
theorem bulk_send {l : Lk} {m : Ms} (hf : m.fits) (hb : l.bulk ≤ 300000) : (l.send m).bulk ≤ 300000 := by
  cases h : l.ok with
  | true => exact Nat.le_trans (ok_bulk (send_ok h hf)) (by decide)
  | false =>
    have : l.goes m = false := by unfold Lk.goes; rw [h]; rfl
    rw [(send_no this).2.2]
    exact hb
theorem bulk_take {l : Lk} {p : Pa} (hb : l.bulk ≤ 300000) : (l.take p).bulk ≤ 300000 := by
  cases h : l.ok with
  | true => exact Nat.le_trans (ok_bulk (take_ok h)) (by decide)
  | false =>
    have : l.takes p = false := by unfold Lk.takes; rw [h]; rfl
    rw [(take_no this).2.2]
    exact hb

set_option maxHeartbeats 12800000 in
theorem link_small (a : Option Addr) (len cap : Nat) (w : World) (e0 e1 e2 e3 e4 : Addr) (hl : len ≤ 1048576) (hcode : CodeIs w.heap.size w (.slice a len cap) len) (het : ET w) (heg : EG e0 e1 e2 w) (hegt : EGT e0 e2 e3 e4 w) :
    Calls Tryz.prog 3 #[.slice a len cap] w fun e w' => e = .returned (.bool true) ∧ Below w.heap.size w w' := by
  have hnot := ex_not
  have hbig : decide ((1048576 : Int) < (len : Int)) = false := by simp; omega
  have HC := (show Hid (∀ W : World, Below w.heap.size w W → CodeIs W.heap.size W (.slice a len cap) len) from fun W hb => code_upL hcode hb)
  have H0 := (show Hid (Below w.heap.size w w ∧ ET w ∧ EG e0 e1 e2 w ∧ EGT e0 e2 e3 e4 w) from ⟨Below.refl _ w, het, heg, hegt⟩)
  clear hcode het heg hegt hl
  go_enter Tryz.func3, Tryz.ntmps3
  go_wp2_with fail
  refine (bigL_any a len cap _).mono ?_
  rintro e w' ⟨rfl, hw'⟩
  rw [hbig, hw']
  clear hw' w' hbig
  go_wp2_with fail
  refine (drawLinkSend_any _ len w (HC.out w H0.out.1)).mono ?_
  rintro e u1 ⟨v, l, vm, m, rfl, hv, hlb, hm, hmk, b1⟩
  obtain ⟨oa3, oc3, sa3, sc3, rfl, -, -⟩ := hv.form
  obtain ⟨ka, kc, rfl⟩ := hm.form
  have HB3 := (show Hid (_ ∧ _) from ⟨hlb, hmk⟩)
  clear hlb hmk
  have B1 : Below u1.heap.size u1 (u1.alloc (.cells (Lk.row l (.slice oa3 l.out.length oc3) (.slice sa3 l.seen.length sc3)) 27)) := (Below.refl _ u1).alloc (Nat.le_refl _) _
  have B2 : Below (u1.alloc (.cells (Lk.row l (.slice oa3 l.out.length oc3) (.slice sa3 l.seen.length sc3)) 27)).heap.size (u1.alloc (.cells (Lk.row l (.slice oa3 l.out.length oc3) (.slice sa3 l.seen.length sc3)) 27)) ((u1.alloc (.cells (Lk.row l (.slice oa3 l.out.length oc3) (.slice sa3 l.seen.length sc3)) 27)).alloc (.cells (m.row (.slice ka m.cell.kids.length kc)) 32)) := (Below.refl _ _).alloc (Nat.le_refl _) _
  have H1 := (show Hid (Below w.heap.size w ((u1.alloc (.cells (Lk.row l (.slice oa3 l.out.length oc3) (.slice sa3 l.seen.length sc3)) 27)).alloc (.cells (m.row (.slice ka m.cell.kids.length kc)) 32)) ∧ ET ((u1.alloc (.cells (Lk.row l (.slice oa3 l.out.length oc3) (.slice sa3 l.seen.length sc3)) 27)).alloc (.cells (m.row (.slice ka m.cell.kids.length kc)) 32)) ∧ EG e0 e1 e2 ((u1.alloc (.cells (Lk.row l (.slice oa3 l.out.length oc3) (.slice sa3 l.seen.length sc3)) 27)).alloc (.cells (m.row (.slice ka m.cell.kids.length kc)) 32)) ∧ EGT e0 e2 e3 e4 ((u1.alloc (.cells (Lk.row l (.slice oa3 l.out.length oc3) (.slice sa3 l.seen.length sc3)) 27)).alloc (.cells (m.row (.slice ka m.cell.kids.length kc)) 32)) ∧ LB ((u1.alloc (.cells (Lk.row l (.slice oa3 l.out.length oc3) (.slice sa3 l.seen.length sc3)) 27)).alloc (.cells (m.row (.slice ka m.cell.kids.length kc)) 32)) u1.heap.size l (.slice oa3 l.out.length oc3) (.slice sa3 l.seen.length sc3) ∧ MgB ((u1.alloc (.cells (Lk.row l (.slice oa3 l.out.length oc3) (.slice sa3 l.seen.length sc3)) 27)).alloc (.cells (m.row (.slice ka m.cell.kids.length kc)) 32)) (u1.heap.size + 1) m (.slice ka m.cell.kids.length kc)) from ⟨base_below (H0.out.1) ((b1.trans (B1.mono b1.size)).trans (B2.mono (Nat.le_trans b1.size B1.size))), (H0.out.2.1).below ((b1.trans (B1.mono b1.size)).trans (B2.mono (Nat.le_trans b1.size B1.size))), (H0.out.2.2.1).below ((b1.trans (B1.mono b1.size)).trans (B2.mono (Nat.le_trans b1.size B1.size))), (H0.out.2.2.2).below ((b1.trans (B1.mono b1.size)).trans (B2.mono (Nat.le_trans b1.size B1.size))), (LB.new hv).below B2, by have := MgB.new (hm.below B1); simpa using this⟩)
  clear hv hm b1 B1 B2 H0
  go_upto_region 4 with fail
  generalize ((u1.alloc (.cells (Lk.row l (.slice oa3 l.out.length oc3) (.slice sa3 l.seen.length sc3)) 27)).alloc (.cells (m.row (.slice ka m.cell.kids.length kc)) 32)) = W1 at *
  generalize hb4 : u1.heap.size + 1 = b4 at *
  generalize u1.heap.size = b3 at *
  clear hb4
  obtain ⟨n, tx, gs, HE⟩ : ∃ (n : Lk) (tx : ByteArray) (gs : Bool), Hid (l.send m = n ∧ l.sendText m = tx ∧ l.goes m = gs) := ⟨_, _, _, rfl, rfl, rfl⟩
  obtain ⟨q0, q1, q2, q3⟩ := lbox (H1.out.2.2.2.2.1).1
  have hmc : ∀ i u, (m.row (.slice ka m.cell.kids.length kc))[i]? = some u → W1.cell? ⟨b4, i, none⟩ = some u := fun i u hu => by rw [cell_of_block (H1.out.2.2.2.2.2).1]; exact hu
  have mc0 := hmc 0 _ rfl
  have mc1 := hmc 1 _ rfl
  have mc2 := hmc 2 _ rfl
  have mc3 := hmc 3 _ rfl
  have mc4 := hmc 4 _ rfl
  have mc5 := hmc 5 _ rfl
  have mc6 := hmc 6 _ rfl
  have mc7 := hmc 7 _ rfl
  have mc8 := hmc 8 _ rfl
  clear hmc
  go_wp2_with fail
  refine (sendP _ _ l n m tx gs _ _ e0 e1 e2 W1 HE.out.1 HE.out.2.1 HE.out.2.2 (H1.out.2.2.2.2.1).2 (H1.out.2.2.2.2.2).2 (Nat.le_trans HB3.out.1 (by decide)) (H1.out.2.1) (H1.out.2.2.1)).mono ?_
  rintro e u2 ⟨oa5, oc5, sa5, sc5, rfl, hA, bb⟩
  have B1 : Below u2.heap.size u2 (u2.alloc (.cells (Lk.row n (.slice oa5 n.out.length oc5) (.slice sa5 n.seen.length sc5)) 27)) := (Below.refl _ u2).alloc (Nat.le_refl _) _
  have H2 := (show Hid (Below w.heap.size w (u2.alloc (.cells (Lk.row n (.slice oa5 n.out.length oc5) (.slice sa5 n.seen.length sc5)) 27)) ∧ ET (u2.alloc (.cells (Lk.row n (.slice oa5 n.out.length oc5) (.slice sa5 n.seen.length sc5)) 27)) ∧ EG e0 e1 e2 (u2.alloc (.cells (Lk.row n (.slice oa5 n.out.length oc5) (.slice sa5 n.seen.length sc5)) 27)) ∧ EGT e0 e2 e3 e4 (u2.alloc (.cells (Lk.row n (.slice oa5 n.out.length oc5) (.slice sa5 n.seen.length sc5)) 27)) ∧ LB (u2.alloc (.cells (Lk.row n (.slice oa5 n.out.length oc5) (.slice sa5 n.seen.length sc5)) 27)) b3 l (.slice oa3 l.out.length oc3) (.slice sa3 l.seen.length sc3) ∧ MgB (u2.alloc (.cells (Lk.row n (.slice oa5 n.out.length oc5) (.slice sa5 n.seen.length sc5)) 27)) b4 m (.slice ka m.cell.kids.length kc) ∧ LB (u2.alloc (.cells (Lk.row n (.slice oa5 n.out.length oc5) (.slice sa5 n.seen.length sc5)) 27)) u2.heap.size n (.slice oa5 n.out.length oc5) (.slice sa5 n.seen.length sc5)) from ⟨base_below (H1.out.1) (bb.trans (B1.mono bb.size)), (H1.out.2.1).below (bb.trans (B1.mono bb.size)), (H1.out.2.2.1).below (bb.trans (B1.mono bb.size)), (H1.out.2.2.2.1).below (bb.trans (B1.mono bb.size)), (H1.out.2.2.2.2.1).below (bb.trans (B1.mono bb.size)), (H1.out.2.2.2.2.2).below (bb.trans (B1.mono bb.size)), LB.new hA⟩)
  clear hA bb B1 H1 q0 q1 q2 q3 mc0 mc1 mc2 mc3 mc4 mc5 mc6 mc7 mc8
  go_upto_region 5 with fail
  generalize u2.alloc (.cells (Lk.row n (.slice oa5 n.out.length oc5) (.slice sa5 n.seen.length sc5)) 27) = W2 at *
  generalize u2.heap.size = b5 at *
  as_aux_lemma =>
   obtain ⟨q0, q1, q2, q3⟩ := lbox (H2.out.2.2.2.2.1).1
   have hmc : ∀ i u, (m.row (.slice ka m.cell.kids.length kc))[i]? = some u → W2.cell? ⟨b4, i, none⟩ = some u := fun i u hu => by rw [cell_of_block (H2.out.2.2.2.2.2.1).1]; exact hu
   have mc0 := hmc 0 _ rfl
   have mc1 := hmc 1 _ rfl
   have mc2 := hmc 2 _ rfl
   have mc3 := hmc 3 _ rfl
   have mc4 := hmc 4 _ rfl
   have mc5 := hmc 5 _ rfl
   have mc6 := hmc 6 _ rfl
   have mc7 := hmc 7 _ rfl
   have mc8 := hmc 8 _ rfl
   clear hmc
   go_wp2_with fail
   refine (sendS _ _ l n m tx gs _ _ W2 HE.out.1 HE.out.2.1 HE.out.2.2 (H2.out.2.2.2.2.1).2 (H2.out.2.2.2.2.2.1).2 (Nat.le_trans HB3.out.1 (by decide)) (Nat.le_trans HB3.out.2 (by decide))).mono ?_
   rintro e u3 ⟨oa8, oc8, sa8, sc8, rfl, hA, bb⟩
   have B1 : Below u3.heap.size u3 (u3.alloc (.cells (Lk.row n (.slice oa8 n.out.length oc8) (.slice sa8 n.seen.length sc8)) 27)) := (Below.refl _ u3).alloc (Nat.le_refl _) _
   have H3 := (show Hid (Below w.heap.size w (u3.alloc (.cells (Lk.row n (.slice oa8 n.out.length oc8) (.slice sa8 n.seen.length sc8)) 27)) ∧ ET (u3.alloc (.cells (Lk.row n (.slice oa8 n.out.length oc8) (.slice sa8 n.seen.length sc8)) 27)) ∧ EG e0 e1 e2 (u3.alloc (.cells (Lk.row n (.slice oa8 n.out.length oc8) (.slice sa8 n.seen.length sc8)) 27)) ∧ EGT e0 e2 e3 e4 (u3.alloc (.cells (Lk.row n (.slice oa8 n.out.length oc8) (.slice sa8 n.seen.length sc8)) 27)) ∧ LB (u3.alloc (.cells (Lk.row n (.slice oa8 n.out.length oc8) (.slice sa8 n.seen.length sc8)) 27)) b3 l (.slice oa3 l.out.length oc3) (.slice sa3 l.seen.length sc3) ∧ MgB (u3.alloc (.cells (Lk.row n (.slice oa8 n.out.length oc8) (.slice sa8 n.seen.length sc8)) 27)) b4 m (.slice ka m.cell.kids.length kc) ∧ LB (u3.alloc (.cells (Lk.row n (.slice oa8 n.out.length oc8) (.slice sa8 n.seen.length sc8)) 27)) b5 n (.slice oa5 n.out.length oc5) (.slice sa5 n.seen.length sc5) ∧ LB (u3.alloc (.cells (Lk.row n (.slice oa8 n.out.length oc8) (.slice sa8 n.seen.length sc8)) 27)) u3.heap.size n (.slice oa8 n.out.length oc8) (.slice sa8 n.seen.length sc8)) from ⟨base_below (H2.out.1) (bb.trans (B1.mono bb.size)), (H2.out.2.1).below (bb.trans (B1.mono bb.size)), (H2.out.2.2.1).below (bb.trans (B1.mono bb.size)), (H2.out.2.2.2.1).below (bb.trans (B1.mono bb.size)), (H2.out.2.2.2.2.1).below (bb.trans (B1.mono bb.size)), (H2.out.2.2.2.2.2.1).below (bb.trans (B1.mono bb.size)), (H2.out.2.2.2.2.2.2).below (bb.trans (B1.mono bb.size)), LB.new hA⟩)
   clear hA bb B1 H2 q0 q1 q2 q3 mc0 mc1 mc2 mc3 mc4 mc5 mc6 mc7 mc8
   go_upto_region 6 with fail
   generalize u3.alloc (.cells (Lk.row n (.slice oa8 n.out.length oc8) (.slice sa8 n.seen.length sc8)) 27) = W3 at *
   generalize u3.heap.size = b8 at *
   as_aux_lemma =>
    go_wp2_with fail
    refine (drawLinkTake_any _ len W3 (HC.out W3 (H3.out.1))).mono ?_
    rintro e u4 ⟨v, x, p, rfl, hv, hxb, hpf, hpb, b1⟩
    obtain ⟨oa11, oc11, sa11, sc11, rfl, -, -⟩ := hv.form
    have HB11 := (show Hid (_ ∧ _ ∧ _) from ⟨hxb, hpf, hpb⟩)
    clear hxb hpf hpb
    have B1 : Below u4.heap.size u4 (u4.alloc (.cells (Lk.row x (.slice oa11 x.out.length oc11) (.slice sa11 x.seen.length sc11)) 27)) := (Below.refl _ u4).alloc (Nat.le_refl _) _
    have B2 : Below (u4.alloc (.cells (Lk.row x (.slice oa11 x.out.length oc11) (.slice sa11 x.seen.length sc11)) 27)).heap.size (u4.alloc (.cells (Lk.row x (.slice oa11 x.out.length oc11) (.slice sa11 x.seen.length sc11)) 27)) ((u4.alloc (.cells (Lk.row x (.slice oa11 x.out.length oc11) (.slice sa11 x.seen.length sc11)) 27)).alloc (.cells (Pa.row p) 38)) := (Below.refl _ _).alloc (Nat.le_refl _) _
    have P2 : ((u4.alloc (.cells (Lk.row x (.slice oa11 x.out.length oc11) (.slice sa11 x.seen.length sc11)) 27)).alloc (.cells (Pa.row p) 38)).heap[u4.heap.size + 1]? = some (.cells (Pa.row p) 38) := by have := (MapKept.heap_alloc (u4.alloc (.cells (Lk.row x (.slice oa11 x.out.length oc11) (.slice sa11 x.seen.length sc11)) 27)) (.cells (Pa.row p) 38)).1; simpa using this
    have H4 := (show Hid (Below w.heap.size w ((u4.alloc (.cells (Lk.row x (.slice oa11 x.out.length oc11) (.slice sa11 x.seen.length sc11)) 27)).alloc (.cells (Pa.row p) 38)) ∧ ET ((u4.alloc (.cells (Lk.row x (.slice oa11 x.out.length oc11) (.slice sa11 x.seen.length sc11)) 27)).alloc (.cells (Pa.row p) 38)) ∧ EG e0 e1 e2 ((u4.alloc (.cells (Lk.row x (.slice oa11 x.out.length oc11) (.slice sa11 x.seen.length sc11)) 27)).alloc (.cells (Pa.row p) 38)) ∧ EGT e0 e2 e3 e4 ((u4.alloc (.cells (Lk.row x (.slice oa11 x.out.length oc11) (.slice sa11 x.seen.length sc11)) 27)).alloc (.cells (Pa.row p) 38)) ∧ LB ((u4.alloc (.cells (Lk.row x (.slice oa11 x.out.length oc11) (.slice sa11 x.seen.length sc11)) 27)).alloc (.cells (Pa.row p) 38)) b3 l (.slice oa3 l.out.length oc3) (.slice sa3 l.seen.length sc3) ∧ MgB ((u4.alloc (.cells (Lk.row x (.slice oa11 x.out.length oc11) (.slice sa11 x.seen.length sc11)) 27)).alloc (.cells (Pa.row p) 38)) b4 m (.slice ka m.cell.kids.length kc) ∧ LB ((u4.alloc (.cells (Lk.row x (.slice oa11 x.out.length oc11) (.slice sa11 x.seen.length sc11)) 27)).alloc (.cells (Pa.row p) 38)) b5 n (.slice oa5 n.out.length oc5) (.slice sa5 n.seen.length sc5) ∧ LB ((u4.alloc (.cells (Lk.row x (.slice oa11 x.out.length oc11) (.slice sa11 x.seen.length sc11)) 27)).alloc (.cells (Pa.row p) 38)) b8 n (.slice oa8 n.out.length oc8) (.slice sa8 n.seen.length sc8) ∧ LB ((u4.alloc (.cells (Lk.row x (.slice oa11 x.out.length oc11) (.slice sa11 x.seen.length sc11)) 27)).alloc (.cells (Pa.row p) 38)) u4.heap.size x (.slice oa11 x.out.length oc11) (.slice sa11 x.seen.length sc11) ∧ PB ((u4.alloc (.cells (Lk.row x (.slice oa11 x.out.length oc11) (.slice sa11 x.seen.length sc11)) 27)).alloc (.cells (Pa.row p) 38)) (u4.heap.size + 1) p) from ⟨base_below (H3.out.1) ((b1.trans (B1.mono b1.size)).trans (B2.mono (Nat.le_trans b1.size B1.size))), (H3.out.2.1).below ((b1.trans (B1.mono b1.size)).trans (B2.mono (Nat.le_trans b1.size B1.size))), (H3.out.2.2.1).below ((b1.trans (B1.mono b1.size)).trans (B2.mono (Nat.le_trans b1.size B1.size))), (H3.out.2.2.2.1).below ((b1.trans (B1.mono b1.size)).trans (B2.mono (Nat.le_trans b1.size B1.size))), (H3.out.2.2.2.2.1).below ((b1.trans (B1.mono b1.size)).trans (B2.mono (Nat.le_trans b1.size B1.size))), (H3.out.2.2.2.2.2.1).below ((b1.trans (B1.mono b1.size)).trans (B2.mono (Nat.le_trans b1.size B1.size))), (H3.out.2.2.2.2.2.2.1).below ((b1.trans (B1.mono b1.size)).trans (B2.mono (Nat.le_trans b1.size B1.size))), (H3.out.2.2.2.2.2.2.2).below ((b1.trans (B1.mono b1.size)).trans (B2.mono (Nat.le_trans b1.size B1.size))), (LB.new hv).below B2, P2⟩)
    clear hv b1 B1 B2 P2 H3
    go_upto_region 7 with fail
    generalize ((u4.alloc (.cells (Lk.row x (.slice oa11 x.out.length oc11) (.slice sa11 x.seen.length sc11)) 27)).alloc (.cells (Pa.row p) 38)) = W4 at *
    generalize hb12 : u4.heap.size + 1 = b12 at *
    generalize u4.heap.size = b11 at *
    clear hb12
    obtain ⟨y, gf, gd, HT⟩ : ∃ (y : Lk) (gf gd : Bool), Hid (x.take p = y ∧ x.fresh p = gf ∧ x.due p = gd) := ⟨_, _, _, rfl, rfl, rfl⟩
    obtain ⟨q0, q1, q2, q3⟩ := lbox (H4.out.2.2.2.2.2.2.2.2.1).1
    have hpc : ∀ i u, (Pa.row p)[i]? = some u → W4.cell? ⟨b12, i, none⟩ = some u := fun i u hu => by rw [cell_of_block (H4.out.2.2.2.2.2.2.2.2.2)]; exact hu
    have pc0 := hpc 0 _ rfl
    have pc1 := hpc 1 _ rfl
    have pc2 := hpc 2 _ rfl
    have pc3 := hpc 3 _ rfl
    have pc4 := hpc 4 _ rfl
    have pc5 := hpc 5 _ rfl
    clear hpc
    go_wp2_with fail
    refine (takeP _ x y p gf gd _ e0 e2 e3 e4 W4 HT.out.1 HT.out.2.1 HT.out.2.2 (H4.out.2.2.2.2.2.2.2.2.1).2 (Nat.le_trans HB11.out.1 (by decide)) (Nat.le_trans HB11.out.2.2 (by decide)) HB11.out.2.1 (H4.out.2.1) (H4.out.2.2.2.1)).mono ?_
    rintro e u5 ⟨oa13, oc13, sa13, sc13, rfl, hA, bb⟩
    have B1 : Below u5.heap.size u5 (u5.alloc (.cells (Lk.row y (.slice oa13 y.out.length oc13) (.slice sa13 y.seen.length sc13)) 27)) := (Below.refl _ u5).alloc (Nat.le_refl _) _
    have H5 := (show Hid (Below w.heap.size w (u5.alloc (.cells (Lk.row y (.slice oa13 y.out.length oc13) (.slice sa13 y.seen.length sc13)) 27)) ∧ ET (u5.alloc (.cells (Lk.row y (.slice oa13 y.out.length oc13) (.slice sa13 y.seen.length sc13)) 27)) ∧ EG e0 e1 e2 (u5.alloc (.cells (Lk.row y (.slice oa13 y.out.length oc13) (.slice sa13 y.seen.length sc13)) 27)) ∧ EGT e0 e2 e3 e4 (u5.alloc (.cells (Lk.row y (.slice oa13 y.out.length oc13) (.slice sa13 y.seen.length sc13)) 27)) ∧ LB (u5.alloc (.cells (Lk.row y (.slice oa13 y.out.length oc13) (.slice sa13 y.seen.length sc13)) 27)) b3 l (.slice oa3 l.out.length oc3) (.slice sa3 l.seen.length sc3) ∧ MgB (u5.alloc (.cells (Lk.row y (.slice oa13 y.out.length oc13) (.slice sa13 y.seen.length sc13)) 27)) b4 m (.slice ka m.cell.kids.length kc) ∧ LB (u5.alloc (.cells (Lk.row y (.slice oa13 y.out.length oc13) (.slice sa13 y.seen.length sc13)) 27)) b5 n (.slice oa5 n.out.length oc5) (.slice sa5 n.seen.length sc5) ∧ LB (u5.alloc (.cells (Lk.row y (.slice oa13 y.out.length oc13) (.slice sa13 y.seen.length sc13)) 27)) b8 n (.slice oa8 n.out.length oc8) (.slice sa8 n.seen.length sc8) ∧ LB (u5.alloc (.cells (Lk.row y (.slice oa13 y.out.length oc13) (.slice sa13 y.seen.length sc13)) 27)) b11 x (.slice oa11 x.out.length oc11) (.slice sa11 x.seen.length sc11) ∧ PB (u5.alloc (.cells (Lk.row y (.slice oa13 y.out.length oc13) (.slice sa13 y.seen.length sc13)) 27)) b12 p ∧ LB (u5.alloc (.cells (Lk.row y (.slice oa13 y.out.length oc13) (.slice sa13 y.seen.length sc13)) 27)) u5.heap.size y (.slice oa13 y.out.length oc13) (.slice sa13 y.seen.length sc13)) from ⟨base_below (H4.out.1) (bb.trans (B1.mono bb.size)), (H4.out.2.1).below (bb.trans (B1.mono bb.size)), (H4.out.2.2.1).below (bb.trans (B1.mono bb.size)), (H4.out.2.2.2.1).below (bb.trans (B1.mono bb.size)), (H4.out.2.2.2.2.1).below (bb.trans (B1.mono bb.size)), (H4.out.2.2.2.2.2.1).below (bb.trans (B1.mono bb.size)), (H4.out.2.2.2.2.2.2.1).below (bb.trans (B1.mono bb.size)), (H4.out.2.2.2.2.2.2.2.1).below (bb.trans (B1.mono bb.size)), (H4.out.2.2.2.2.2.2.2.2.1).below (bb.trans (B1.mono bb.size)), (H4.out.2.2.2.2.2.2.2.2.2).below (bb.trans (B1.mono bb.size)), LB.new hA⟩)
    clear hA bb B1 H4 q0 q1 q2 q3 pc0 pc1 pc2 pc3 pc4 pc5
    go_upto_region 8 with fail
    generalize u5.alloc (.cells (Lk.row y (.slice oa13 y.out.length oc13) (.slice sa13 y.seen.length sc13)) 27) = W5 at *
    generalize u5.heap.size = b13 at *
    as_aux_lemma =>
     obtain ⟨q0, q1, q2, q3⟩ := lbox (H5.out.2.2.2.2.2.2.2.2.1).1
     have hpc : ∀ i u, (Pa.row p)[i]? = some u → W5.cell? ⟨b12, i, none⟩ = some u := fun i u hu => by rw [cell_of_block (H5.out.2.2.2.2.2.2.2.2.2.1)]; exact hu
     have pc0 := hpc 0 _ rfl
     have pc1 := hpc 1 _ rfl
     have pc2 := hpc 2 _ rfl
     have pc3 := hpc 3 _ rfl
     have pc4 := hpc 4 _ rfl
     have pc5 := hpc 5 _ rfl
     clear hpc
     go_wp2_with fail
     refine (takeS _ x y p gf gd _ W5 HT.out.1 HT.out.2.1 HT.out.2.2 (H5.out.2.2.2.2.2.2.2.2.1).2 (Nat.le_trans HB11.out.1 (by decide)) (Nat.le_trans HB11.out.2.2 (by decide)) HB11.out.2.1).mono ?_
     rintro e u6 ⟨oa16, oc16, sa16, sc16, rfl, hA, bb⟩
     have B1 : Below u6.heap.size u6 (u6.alloc (.cells (Lk.row y (.slice oa16 y.out.length oc16) (.slice sa16 y.seen.length sc16)) 27)) := (Below.refl _ u6).alloc (Nat.le_refl _) _
     have H6 := (show Hid (Below w.heap.size w (u6.alloc (.cells (Lk.row y (.slice oa16 y.out.length oc16) (.slice sa16 y.seen.length sc16)) 27)) ∧ ET (u6.alloc (.cells (Lk.row y (.slice oa16 y.out.length oc16) (.slice sa16 y.seen.length sc16)) 27)) ∧ EG e0 e1 e2 (u6.alloc (.cells (Lk.row y (.slice oa16 y.out.length oc16) (.slice sa16 y.seen.length sc16)) 27)) ∧ EGT e0 e2 e3 e4 (u6.alloc (.cells (Lk.row y (.slice oa16 y.out.length oc16) (.slice sa16 y.seen.length sc16)) 27)) ∧ LB (u6.alloc (.cells (Lk.row y (.slice oa16 y.out.length oc16) (.slice sa16 y.seen.length sc16)) 27)) b3 l (.slice oa3 l.out.length oc3) (.slice sa3 l.seen.length sc3) ∧ MgB (u6.alloc (.cells (Lk.row y (.slice oa16 y.out.length oc16) (.slice sa16 y.seen.length sc16)) 27)) b4 m (.slice ka m.cell.kids.length kc) ∧ LB (u6.alloc (.cells (Lk.row y (.slice oa16 y.out.length oc16) (.slice sa16 y.seen.length sc16)) 27)) b5 n (.slice oa5 n.out.length oc5) (.slice sa5 n.seen.length sc5) ∧ LB (u6.alloc (.cells (Lk.row y (.slice oa16 y.out.length oc16) (.slice sa16 y.seen.length sc16)) 27)) b8 n (.slice oa8 n.out.length oc8) (.slice sa8 n.seen.length sc8) ∧ LB (u6.alloc (.cells (Lk.row y (.slice oa16 y.out.length oc16) (.slice sa16 y.seen.length sc16)) 27)) b11 x (.slice oa11 x.out.length oc11) (.slice sa11 x.seen.length sc11) ∧ PB (u6.alloc (.cells (Lk.row y (.slice oa16 y.out.length oc16) (.slice sa16 y.seen.length sc16)) 27)) b12 p ∧ LB (u6.alloc (.cells (Lk.row y (.slice oa16 y.out.length oc16) (.slice sa16 y.seen.length sc16)) 27)) b13 y (.slice oa13 y.out.length oc13) (.slice sa13 y.seen.length sc13) ∧ LB (u6.alloc (.cells (Lk.row y (.slice oa16 y.out.length oc16) (.slice sa16 y.seen.length sc16)) 27)) u6.heap.size y (.slice oa16 y.out.length oc16) (.slice sa16 y.seen.length sc16)) from ⟨base_below (H5.out.1) (bb.trans (B1.mono bb.size)), (H5.out.2.1).below (bb.trans (B1.mono bb.size)), (H5.out.2.2.1).below (bb.trans (B1.mono bb.size)), (H5.out.2.2.2.1).below (bb.trans (B1.mono bb.size)), (H5.out.2.2.2.2.1).below (bb.trans (B1.mono bb.size)), (H5.out.2.2.2.2.2.1).below (bb.trans (B1.mono bb.size)), (H5.out.2.2.2.2.2.2.1).below (bb.trans (B1.mono bb.size)), (H5.out.2.2.2.2.2.2.2.1).below (bb.trans (B1.mono bb.size)), (H5.out.2.2.2.2.2.2.2.2.1).below (bb.trans (B1.mono bb.size)), (H5.out.2.2.2.2.2.2.2.2.2.1).below (bb.trans (B1.mono bb.size)), (H5.out.2.2.2.2.2.2.2.2.2.2).below (bb.trans (B1.mono bb.size)), LB.new hA⟩)
     clear hA bb B1 H5 q0 q1 q2 q3 pc0 pc1 pc2 pc3 pc4 pc5
     go_upto_region 9 with fail
     generalize u6.alloc (.cells (Lk.row y (.slice oa16 y.out.length oc16) (.slice sa16 y.seen.length sc16)) 27) = W6 at *
     generalize u6.heap.size = b16 at *
     as_aux_lemma =>
      go_wp2_with fail
      refine (drawLinkAck_any _ len W6 (HC.out W6 (H6.out.1))).mono ?_
      rintro e u7 ⟨v, q, fa, sq, rfl, hv, hqb, b1⟩
      obtain ⟨oa19, oc19, sa19, sc19, rfl, -, -⟩ := hv.form
      have HB19 := (show Hid (_ ∧ True) from ⟨hqb, trivial⟩)
      clear hqb
      have B1 : Below u7.heap.size u7 (u7.alloc (.cells (Lk.row q (.slice oa19 q.out.length oc19) (.slice sa19 q.seen.length sc19)) 27)) := (Below.refl _ u7).alloc (Nat.le_refl _) _
      have H7 := (show Hid (Below w.heap.size w (u7.alloc (.cells (Lk.row q (.slice oa19 q.out.length oc19) (.slice sa19 q.seen.length sc19)) 27)) ∧ ET (u7.alloc (.cells (Lk.row q (.slice oa19 q.out.length oc19) (.slice sa19 q.seen.length sc19)) 27)) ∧ EG e0 e1 e2 (u7.alloc (.cells (Lk.row q (.slice oa19 q.out.length oc19) (.slice sa19 q.seen.length sc19)) 27)) ∧ EGT e0 e2 e3 e4 (u7.alloc (.cells (Lk.row q (.slice oa19 q.out.length oc19) (.slice sa19 q.seen.length sc19)) 27)) ∧ LB (u7.alloc (.cells (Lk.row q (.slice oa19 q.out.length oc19) (.slice sa19 q.seen.length sc19)) 27)) b3 l (.slice oa3 l.out.length oc3) (.slice sa3 l.seen.length sc3) ∧ MgB (u7.alloc (.cells (Lk.row q (.slice oa19 q.out.length oc19) (.slice sa19 q.seen.length sc19)) 27)) b4 m (.slice ka m.cell.kids.length kc) ∧ LB (u7.alloc (.cells (Lk.row q (.slice oa19 q.out.length oc19) (.slice sa19 q.seen.length sc19)) 27)) b5 n (.slice oa5 n.out.length oc5) (.slice sa5 n.seen.length sc5) ∧ LB (u7.alloc (.cells (Lk.row q (.slice oa19 q.out.length oc19) (.slice sa19 q.seen.length sc19)) 27)) b8 n (.slice oa8 n.out.length oc8) (.slice sa8 n.seen.length sc8) ∧ LB (u7.alloc (.cells (Lk.row q (.slice oa19 q.out.length oc19) (.slice sa19 q.seen.length sc19)) 27)) b11 x (.slice oa11 x.out.length oc11) (.slice sa11 x.seen.length sc11) ∧ PB (u7.alloc (.cells (Lk.row q (.slice oa19 q.out.length oc19) (.slice sa19 q.seen.length sc19)) 27)) b12 p ∧ LB (u7.alloc (.cells (Lk.row q (.slice oa19 q.out.length oc19) (.slice sa19 q.seen.length sc19)) 27)) b13 y (.slice oa13 y.out.length oc13) (.slice sa13 y.seen.length sc13) ∧ LB (u7.alloc (.cells (Lk.row q (.slice oa19 q.out.length oc19) (.slice sa19 q.seen.length sc19)) 27)) b16 y (.slice oa16 y.out.length oc16) (.slice sa16 y.seen.length sc16) ∧ LB (u7.alloc (.cells (Lk.row q (.slice oa19 q.out.length oc19) (.slice sa19 q.seen.length sc19)) 27)) u7.heap.size q (.slice oa19 q.out.length oc19) (.slice sa19 q.seen.length sc19)) from ⟨base_below (H6.out.1) (b1.trans (B1.mono b1.size)), (H6.out.2.1).below (b1.trans (B1.mono b1.size)), (H6.out.2.2.1).below (b1.trans (B1.mono b1.size)), (H6.out.2.2.2.1).below (b1.trans (B1.mono b1.size)), (H6.out.2.2.2.2.1).below (b1.trans (B1.mono b1.size)), (H6.out.2.2.2.2.2.1).below (b1.trans (B1.mono b1.size)), (H6.out.2.2.2.2.2.2.1).below (b1.trans (B1.mono b1.size)), (H6.out.2.2.2.2.2.2.2.1).below (b1.trans (B1.mono b1.size)), (H6.out.2.2.2.2.2.2.2.2.1).below (b1.trans (B1.mono b1.size)), (H6.out.2.2.2.2.2.2.2.2.2.1).below (b1.trans (B1.mono b1.size)), (H6.out.2.2.2.2.2.2.2.2.2.2.1).below (b1.trans (B1.mono b1.size)), (H6.out.2.2.2.2.2.2.2.2.2.2.2).below (b1.trans (B1.mono b1.size)), LB.new hv⟩)
      clear hv b1 B1 H6
      go_upto_region 10 with fail
      generalize u7.alloc (.cells (Lk.row q (.slice oa19 q.out.length oc19) (.slice sa19 q.seen.length sc19)) 27) = W7 at *
      generalize u7.heap.size = b19 at *
      obtain ⟨qa, HQ⟩ : ∃ qa : Lk, Hid (q.ack fa sq = qa) := ⟨_, rfl⟩
      obtain ⟨q0, q1, q2, q3⟩ := lbox (H7.out.2.2.2.2.2.2.2.2.2.2.2.2).1
      go_wp2_with fail
      refine (ackP _ q qa fa sq _ W7 HQ.out (H7.out.2.2.2.2.2.2.2.2.2.2.2.2).2 (Nat.le_trans HB19.out.1 (by decide)) (H7.out.2.1)).mono ?_
      rintro e u8 ⟨oa22, oc22, sa22, sc22, rfl, hA, bb⟩
      have B1 : Below u8.heap.size u8 (u8.alloc (.cells (Lk.row qa (.slice oa22 qa.out.length oc22) (.slice sa22 qa.seen.length sc22)) 27)) := (Below.refl _ u8).alloc (Nat.le_refl _) _
      have H8 := (show Hid (Below w.heap.size w (u8.alloc (.cells (Lk.row qa (.slice oa22 qa.out.length oc22) (.slice sa22 qa.seen.length sc22)) 27)) ∧ ET (u8.alloc (.cells (Lk.row qa (.slice oa22 qa.out.length oc22) (.slice sa22 qa.seen.length sc22)) 27)) ∧ EG e0 e1 e2 (u8.alloc (.cells (Lk.row qa (.slice oa22 qa.out.length oc22) (.slice sa22 qa.seen.length sc22)) 27)) ∧ EGT e0 e2 e3 e4 (u8.alloc (.cells (Lk.row qa (.slice oa22 qa.out.length oc22) (.slice sa22 qa.seen.length sc22)) 27)) ∧ LB (u8.alloc (.cells (Lk.row qa (.slice oa22 qa.out.length oc22) (.slice sa22 qa.seen.length sc22)) 27)) b3 l (.slice oa3 l.out.length oc3) (.slice sa3 l.seen.length sc3) ∧ MgB (u8.alloc (.cells (Lk.row qa (.slice oa22 qa.out.length oc22) (.slice sa22 qa.seen.length sc22)) 27)) b4 m (.slice ka m.cell.kids.length kc) ∧ LB (u8.alloc (.cells (Lk.row qa (.slice oa22 qa.out.length oc22) (.slice sa22 qa.seen.length sc22)) 27)) b5 n (.slice oa5 n.out.length oc5) (.slice sa5 n.seen.length sc5) ∧ LB (u8.alloc (.cells (Lk.row qa (.slice oa22 qa.out.length oc22) (.slice sa22 qa.seen.length sc22)) 27)) b8 n (.slice oa8 n.out.length oc8) (.slice sa8 n.seen.length sc8) ∧ LB (u8.alloc (.cells (Lk.row qa (.slice oa22 qa.out.length oc22) (.slice sa22 qa.seen.length sc22)) 27)) b11 x (.slice oa11 x.out.length oc11) (.slice sa11 x.seen.length sc11) ∧ PB (u8.alloc (.cells (Lk.row qa (.slice oa22 qa.out.length oc22) (.slice sa22 qa.seen.length sc22)) 27)) b12 p ∧ LB (u8.alloc (.cells (Lk.row qa (.slice oa22 qa.out.length oc22) (.slice sa22 qa.seen.length sc22)) 27)) b13 y (.slice oa13 y.out.length oc13) (.slice sa13 y.seen.length sc13) ∧ LB (u8.alloc (.cells (Lk.row qa (.slice oa22 qa.out.length oc22) (.slice sa22 qa.seen.length sc22)) 27)) b16 y (.slice oa16 y.out.length oc16) (.slice sa16 y.seen.length sc16) ∧ LB (u8.alloc (.cells (Lk.row qa (.slice oa22 qa.out.length oc22) (.slice sa22 qa.seen.length sc22)) 27)) b19 q (.slice oa19 q.out.length oc19) (.slice sa19 q.seen.length sc19) ∧ LB (u8.alloc (.cells (Lk.row qa (.slice oa22 qa.out.length oc22) (.slice sa22 qa.seen.length sc22)) 27)) u8.heap.size qa (.slice oa22 qa.out.length oc22) (.slice sa22 qa.seen.length sc22)) from ⟨base_below (H7.out.1) (bb.trans (B1.mono bb.size)), (H7.out.2.1).below (bb.trans (B1.mono bb.size)), (H7.out.2.2.1).below (bb.trans (B1.mono bb.size)), (H7.out.2.2.2.1).below (bb.trans (B1.mono bb.size)), (H7.out.2.2.2.2.1).below (bb.trans (B1.mono bb.size)), (H7.out.2.2.2.2.2.1).below (bb.trans (B1.mono bb.size)), (H7.out.2.2.2.2.2.2.1).below (bb.trans (B1.mono bb.size)), (H7.out.2.2.2.2.2.2.2.1).below (bb.trans (B1.mono bb.size)), (H7.out.2.2.2.2.2.2.2.2.1).below (bb.trans (B1.mono bb.size)), (H7.out.2.2.2.2.2.2.2.2.2.1).below (bb.trans (B1.mono bb.size)), (H7.out.2.2.2.2.2.2.2.2.2.2.1).below (bb.trans (B1.mono bb.size)), (H7.out.2.2.2.2.2.2.2.2.2.2.2.1).below (bb.trans (B1.mono bb.size)), (H7.out.2.2.2.2.2.2.2.2.2.2.2.2).below (bb.trans (B1.mono bb.size)), LB.new hA⟩)
      clear hA bb B1 H7 q0 q1 q2 q3
      go_upto_region 11 with fail
      generalize u8.alloc (.cells (Lk.row qa (.slice oa22 qa.out.length oc22) (.slice sa22 qa.seen.length sc22)) 27) = W8 at *
      generalize u8.heap.size = b22 at *
      as_aux_lemma =>
       go_wp2_with fail
       refine (drawLinkAgain_any _ len W8 (HC.out W8 (H8.out.1))).mono ?_
       rintro e u9 ⟨v, r, rfl, hv, hrb, b1⟩
       obtain ⟨oa23, oc23, sa23, sc23, rfl, -, -⟩ := hv.form
       have HB23 := (show Hid (_ ∧ True) from ⟨hrb, trivial⟩)
       clear hrb
       have B1 : Below u9.heap.size u9 (u9.alloc (.cells (Lk.row r (.slice oa23 r.out.length oc23) (.slice sa23 r.seen.length sc23)) 27)) := (Below.refl _ u9).alloc (Nat.le_refl _) _
       have H9 := (show Hid (Below w.heap.size w (u9.alloc (.cells (Lk.row r (.slice oa23 r.out.length oc23) (.slice sa23 r.seen.length sc23)) 27)) ∧ ET (u9.alloc (.cells (Lk.row r (.slice oa23 r.out.length oc23) (.slice sa23 r.seen.length sc23)) 27)) ∧ EG e0 e1 e2 (u9.alloc (.cells (Lk.row r (.slice oa23 r.out.length oc23) (.slice sa23 r.seen.length sc23)) 27)) ∧ EGT e0 e2 e3 e4 (u9.alloc (.cells (Lk.row r (.slice oa23 r.out.length oc23) (.slice sa23 r.seen.length sc23)) 27)) ∧ LB (u9.alloc (.cells (Lk.row r (.slice oa23 r.out.length oc23) (.slice sa23 r.seen.length sc23)) 27)) b3 l (.slice oa3 l.out.length oc3) (.slice sa3 l.seen.length sc3) ∧ MgB (u9.alloc (.cells (Lk.row r (.slice oa23 r.out.length oc23) (.slice sa23 r.seen.length sc23)) 27)) b4 m (.slice ka m.cell.kids.length kc) ∧ LB (u9.alloc (.cells (Lk.row r (.slice oa23 r.out.length oc23) (.slice sa23 r.seen.length sc23)) 27)) b5 n (.slice oa5 n.out.length oc5) (.slice sa5 n.seen.length sc5) ∧ LB (u9.alloc (.cells (Lk.row r (.slice oa23 r.out.length oc23) (.slice sa23 r.seen.length sc23)) 27)) b8 n (.slice oa8 n.out.length oc8) (.slice sa8 n.seen.length sc8) ∧ LB (u9.alloc (.cells (Lk.row r (.slice oa23 r.out.length oc23) (.slice sa23 r.seen.length sc23)) 27)) b11 x (.slice oa11 x.out.length oc11) (.slice sa11 x.seen.length sc11) ∧ PB (u9.alloc (.cells (Lk.row r (.slice oa23 r.out.length oc23) (.slice sa23 r.seen.length sc23)) 27)) b12 p ∧ LB (u9.alloc (.cells (Lk.row r (.slice oa23 r.out.length oc23) (.slice sa23 r.seen.length sc23)) 27)) b13 y (.slice oa13 y.out.length oc13) (.slice sa13 y.seen.length sc13) ∧ LB (u9.alloc (.cells (Lk.row r (.slice oa23 r.out.length oc23) (.slice sa23 r.seen.length sc23)) 27)) b16 y (.slice oa16 y.out.length oc16) (.slice sa16 y.seen.length sc16) ∧ LB (u9.alloc (.cells (Lk.row r (.slice oa23 r.out.length oc23) (.slice sa23 r.seen.length sc23)) 27)) b19 q (.slice oa19 q.out.length oc19) (.slice sa19 q.seen.length sc19) ∧ LB (u9.alloc (.cells (Lk.row r (.slice oa23 r.out.length oc23) (.slice sa23 r.seen.length sc23)) 27)) b22 qa (.slice oa22 qa.out.length oc22) (.slice sa22 qa.seen.length sc22) ∧ LB (u9.alloc (.cells (Lk.row r (.slice oa23 r.out.length oc23) (.slice sa23 r.seen.length sc23)) 27)) u9.heap.size r (.slice oa23 r.out.length oc23) (.slice sa23 r.seen.length sc23)) from ⟨base_below (H8.out.1) (b1.trans (B1.mono b1.size)), (H8.out.2.1).below (b1.trans (B1.mono b1.size)), (H8.out.2.2.1).below (b1.trans (B1.mono b1.size)), (H8.out.2.2.2.1).below (b1.trans (B1.mono b1.size)), (H8.out.2.2.2.2.1).below (b1.trans (B1.mono b1.size)), (H8.out.2.2.2.2.2.1).below (b1.trans (B1.mono b1.size)), (H8.out.2.2.2.2.2.2.1).below (b1.trans (B1.mono b1.size)), (H8.out.2.2.2.2.2.2.2.1).below (b1.trans (B1.mono b1.size)), (H8.out.2.2.2.2.2.2.2.2.1).below (b1.trans (B1.mono b1.size)), (H8.out.2.2.2.2.2.2.2.2.2.1).below (b1.trans (B1.mono b1.size)), (H8.out.2.2.2.2.2.2.2.2.2.2.1).below (b1.trans (B1.mono b1.size)), (H8.out.2.2.2.2.2.2.2.2.2.2.2.1).below (b1.trans (B1.mono b1.size)), (H8.out.2.2.2.2.2.2.2.2.2.2.2.2.1).below (b1.trans (B1.mono b1.size)), (H8.out.2.2.2.2.2.2.2.2.2.2.2.2.2).below (b1.trans (B1.mono b1.size)), LB.new hv⟩)
       clear hv b1 B1 H8
       go_upto_region 12 with fail
       generalize u9.alloc (.cells (Lk.row r (.slice oa23 r.out.length oc23) (.slice sa23 r.seen.length sc23)) 27) = W9 at *
       generalize u9.heap.size = b23 at *
       go_wp2_with fail
       refine (drawLinkNew_any _ len W9 (HC.out W9 (H9.out.1))).mono ?_
       rintro e W10 ⟨id, nodes, rfl, hid, b1⟩
       have H10 := (show Hid (Below w.heap.size w W10 ∧ ET W10 ∧ EG e0 e1 e2 W10 ∧ EGT e0 e2 e3 e4 W10 ∧ LB W10 b3 l (.slice oa3 l.out.length oc3) (.slice sa3 l.seen.length sc3) ∧ MgB W10 b4 m (.slice ka m.cell.kids.length kc) ∧ LB W10 b5 n (.slice oa5 n.out.length oc5) (.slice sa5 n.seen.length sc5) ∧ LB W10 b8 n (.slice oa8 n.out.length oc8) (.slice sa8 n.seen.length sc8) ∧ LB W10 b11 x (.slice oa11 x.out.length oc11) (.slice sa11 x.seen.length sc11) ∧ PB W10 b12 p ∧ LB W10 b13 y (.slice oa13 y.out.length oc13) (.slice sa13 y.seen.length sc13) ∧ LB W10 b16 y (.slice oa16 y.out.length oc16) (.slice sa16 y.seen.length sc16) ∧ LB W10 b19 q (.slice oa19 q.out.length oc19) (.slice sa19 q.seen.length sc19) ∧ LB W10 b22 qa (.slice oa22 qa.out.length oc22) (.slice sa22 qa.seen.length sc22) ∧ LB W10 b23 r (.slice oa23 r.out.length oc23) (.slice sa23 r.seen.length sc23)) from ⟨base_below (H9.out.1) b1, (H9.out.2.1).below b1, (H9.out.2.2.1).below b1, (H9.out.2.2.2.1).below b1, (H9.out.2.2.2.2.1).below b1, (H9.out.2.2.2.2.2.1).below b1, (H9.out.2.2.2.2.2.2.1).below b1, (H9.out.2.2.2.2.2.2.2.1).below b1, (H9.out.2.2.2.2.2.2.2.2.1).below b1, (H9.out.2.2.2.2.2.2.2.2.2.1).below b1, (H9.out.2.2.2.2.2.2.2.2.2.2.1).below b1, (H9.out.2.2.2.2.2.2.2.2.2.2.2.1).below b1, (H9.out.2.2.2.2.2.2.2.2.2.2.2.2.1).below b1, (H9.out.2.2.2.2.2.2.2.2.2.2.2.2.2.1).below b1, (H9.out.2.2.2.2.2.2.2.2.2.2.2.2.2.2).below b1⟩)
       clear b1 H9 HC
       go_upto_region 13 with fail
       obtain ⟨c, mk, HN⟩ : ∃ (c : Lk) (mk : Bool), Hid (newOf id nodes = c ∧ amongB id nodes = mk) := ⟨_, _, rfl, rfl⟩
       go_wp2_with fail
       refine (newP id nodes c mk W10 HN.out.1 HN.out.2 hid).mono ?_
       rintro e u11 ⟨oa26, oc26, sa26, sc26, rfl, hA, bb⟩
       have B1 : Below u11.heap.size u11 (u11.alloc (.cells (Lk.row c (.slice oa26 c.out.length oc26) (.slice sa26 c.seen.length sc26)) 27)) := (Below.refl _ u11).alloc (Nat.le_refl _) _
       have H11 := (show Hid (Below w.heap.size w (u11.alloc (.cells (Lk.row c (.slice oa26 c.out.length oc26) (.slice sa26 c.seen.length sc26)) 27)) ∧ ET (u11.alloc (.cells (Lk.row c (.slice oa26 c.out.length oc26) (.slice sa26 c.seen.length sc26)) 27)) ∧ EG e0 e1 e2 (u11.alloc (.cells (Lk.row c (.slice oa26 c.out.length oc26) (.slice sa26 c.seen.length sc26)) 27)) ∧ EGT e0 e2 e3 e4 (u11.alloc (.cells (Lk.row c (.slice oa26 c.out.length oc26) (.slice sa26 c.seen.length sc26)) 27)) ∧ LB (u11.alloc (.cells (Lk.row c (.slice oa26 c.out.length oc26) (.slice sa26 c.seen.length sc26)) 27)) b3 l (.slice oa3 l.out.length oc3) (.slice sa3 l.seen.length sc3) ∧ MgB (u11.alloc (.cells (Lk.row c (.slice oa26 c.out.length oc26) (.slice sa26 c.seen.length sc26)) 27)) b4 m (.slice ka m.cell.kids.length kc) ∧ LB (u11.alloc (.cells (Lk.row c (.slice oa26 c.out.length oc26) (.slice sa26 c.seen.length sc26)) 27)) b5 n (.slice oa5 n.out.length oc5) (.slice sa5 n.seen.length sc5) ∧ LB (u11.alloc (.cells (Lk.row c (.slice oa26 c.out.length oc26) (.slice sa26 c.seen.length sc26)) 27)) b8 n (.slice oa8 n.out.length oc8) (.slice sa8 n.seen.length sc8) ∧ LB (u11.alloc (.cells (Lk.row c (.slice oa26 c.out.length oc26) (.slice sa26 c.seen.length sc26)) 27)) b11 x (.slice oa11 x.out.length oc11) (.slice sa11 x.seen.length sc11) ∧ PB (u11.alloc (.cells (Lk.row c (.slice oa26 c.out.length oc26) (.slice sa26 c.seen.length sc26)) 27)) b12 p ∧ LB (u11.alloc (.cells (Lk.row c (.slice oa26 c.out.length oc26) (.slice sa26 c.seen.length sc26)) 27)) b13 y (.slice oa13 y.out.length oc13) (.slice sa13 y.seen.length sc13) ∧ LB (u11.alloc (.cells (Lk.row c (.slice oa26 c.out.length oc26) (.slice sa26 c.seen.length sc26)) 27)) b16 y (.slice oa16 y.out.length oc16) (.slice sa16 y.seen.length sc16) ∧ LB (u11.alloc (.cells (Lk.row c (.slice oa26 c.out.length oc26) (.slice sa26 c.seen.length sc26)) 27)) b19 q (.slice oa19 q.out.length oc19) (.slice sa19 q.seen.length sc19) ∧ LB (u11.alloc (.cells (Lk.row c (.slice oa26 c.out.length oc26) (.slice sa26 c.seen.length sc26)) 27)) b22 qa (.slice oa22 qa.out.length oc22) (.slice sa22 qa.seen.length sc22) ∧ LB (u11.alloc (.cells (Lk.row c (.slice oa26 c.out.length oc26) (.slice sa26 c.seen.length sc26)) 27)) b23 r (.slice oa23 r.out.length oc23) (.slice sa23 r.seen.length sc23) ∧ LB (u11.alloc (.cells (Lk.row c (.slice oa26 c.out.length oc26) (.slice sa26 c.seen.length sc26)) 27)) u11.heap.size c (.slice oa26 c.out.length oc26) (.slice sa26 c.seen.length sc26)) from ⟨base_below (H10.out.1) (bb.trans (B1.mono bb.size)), (H10.out.2.1).below (bb.trans (B1.mono bb.size)), (H10.out.2.2.1).below (bb.trans (B1.mono bb.size)), (H10.out.2.2.2.1).below (bb.trans (B1.mono bb.size)), (H10.out.2.2.2.2.1).below (bb.trans (B1.mono bb.size)), (H10.out.2.2.2.2.2.1).below (bb.trans (B1.mono bb.size)), (H10.out.2.2.2.2.2.2.1).below (bb.trans (B1.mono bb.size)), (H10.out.2.2.2.2.2.2.2.1).below (bb.trans (B1.mono bb.size)), (H10.out.2.2.2.2.2.2.2.2.1).below (bb.trans (B1.mono bb.size)), (H10.out.2.2.2.2.2.2.2.2.2.1).below (bb.trans (B1.mono bb.size)), (H10.out.2.2.2.2.2.2.2.2.2.2.1).below (bb.trans (B1.mono bb.size)), (H10.out.2.2.2.2.2.2.2.2.2.2.2.1).below (bb.trans (B1.mono bb.size)), (H10.out.2.2.2.2.2.2.2.2.2.2.2.2.1).below (bb.trans (B1.mono bb.size)), (H10.out.2.2.2.2.2.2.2.2.2.2.2.2.2.1).below (bb.trans (B1.mono bb.size)), (H10.out.2.2.2.2.2.2.2.2.2.2.2.2.2.2).below (bb.trans (B1.mono bb.size)), LB.new hA⟩)
       clear hA bb B1 H10 
       go_upto_region 14 with fail
       generalize u11.alloc (.cells (Lk.row c (.slice oa26 c.out.length oc26) (.slice sa26 c.seen.length sc26)) 27) = W11 at *
       generalize u11.heap.size = b26 at *
       as_aux_lemma =>
        go_wp2_with fail
        refine (newS id nodes c mk W11 HN.out.1 HN.out.2 hid).mono ?_
        rintro e u12 ⟨oa28, oc28, sa28, sc28, rfl, hA, bb⟩
        have B1 : Below u12.heap.size u12 (u12.alloc (.cells (Lk.row c (.slice oa28 c.out.length oc28) (.slice sa28 c.seen.length sc28)) 27)) := (Below.refl _ u12).alloc (Nat.le_refl _) _
        have H12 := (show Hid (Below w.heap.size w (u12.alloc (.cells (Lk.row c (.slice oa28 c.out.length oc28) (.slice sa28 c.seen.length sc28)) 27)) ∧ ET (u12.alloc (.cells (Lk.row c (.slice oa28 c.out.length oc28) (.slice sa28 c.seen.length sc28)) 27)) ∧ EG e0 e1 e2 (u12.alloc (.cells (Lk.row c (.slice oa28 c.out.length oc28) (.slice sa28 c.seen.length sc28)) 27)) ∧ EGT e0 e2 e3 e4 (u12.alloc (.cells (Lk.row c (.slice oa28 c.out.length oc28) (.slice sa28 c.seen.length sc28)) 27)) ∧ LB (u12.alloc (.cells (Lk.row c (.slice oa28 c.out.length oc28) (.slice sa28 c.seen.length sc28)) 27)) b3 l (.slice oa3 l.out.length oc3) (.slice sa3 l.seen.length sc3) ∧ MgB (u12.alloc (.cells (Lk.row c (.slice oa28 c.out.length oc28) (.slice sa28 c.seen.length sc28)) 27)) b4 m (.slice ka m.cell.kids.length kc) ∧ LB (u12.alloc (.cells (Lk.row c (.slice oa28 c.out.length oc28) (.slice sa28 c.seen.length sc28)) 27)) b5 n (.slice oa5 n.out.length oc5) (.slice sa5 n.seen.length sc5) ∧ LB (u12.alloc (.cells (Lk.row c (.slice oa28 c.out.length oc28) (.slice sa28 c.seen.length sc28)) 27)) b8 n (.slice oa8 n.out.length oc8) (.slice sa8 n.seen.length sc8) ∧ LB (u12.alloc (.cells (Lk.row c (.slice oa28 c.out.length oc28) (.slice sa28 c.seen.length sc28)) 27)) b11 x (.slice oa11 x.out.length oc11) (.slice sa11 x.seen.length sc11) ∧ PB (u12.alloc (.cells (Lk.row c (.slice oa28 c.out.length oc28) (.slice sa28 c.seen.length sc28)) 27)) b12 p ∧ LB (u12.alloc (.cells (Lk.row c (.slice oa28 c.out.length oc28) (.slice sa28 c.seen.length sc28)) 27)) b13 y (.slice oa13 y.out.length oc13) (.slice sa13 y.seen.length sc13) ∧ LB (u12.alloc (.cells (Lk.row c (.slice oa28 c.out.length oc28) (.slice sa28 c.seen.length sc28)) 27)) b16 y (.slice oa16 y.out.length oc16) (.slice sa16 y.seen.length sc16) ∧ LB (u12.alloc (.cells (Lk.row c (.slice oa28 c.out.length oc28) (.slice sa28 c.seen.length sc28)) 27)) b19 q (.slice oa19 q.out.length oc19) (.slice sa19 q.seen.length sc19) ∧ LB (u12.alloc (.cells (Lk.row c (.slice oa28 c.out.length oc28) (.slice sa28 c.seen.length sc28)) 27)) b22 qa (.slice oa22 qa.out.length oc22) (.slice sa22 qa.seen.length sc22) ∧ LB (u12.alloc (.cells (Lk.row c (.slice oa28 c.out.length oc28) (.slice sa28 c.seen.length sc28)) 27)) b23 r (.slice oa23 r.out.length oc23) (.slice sa23 r.seen.length sc23) ∧ LB (u12.alloc (.cells (Lk.row c (.slice oa28 c.out.length oc28) (.slice sa28 c.seen.length sc28)) 27)) b26 c (.slice oa26 c.out.length oc26) (.slice sa26 c.seen.length sc26) ∧ LB (u12.alloc (.cells (Lk.row c (.slice oa28 c.out.length oc28) (.slice sa28 c.seen.length sc28)) 27)) u12.heap.size c (.slice oa28 c.out.length oc28) (.slice sa28 c.seen.length sc28)) from ⟨base_below (H11.out.1) (bb.trans (B1.mono bb.size)), (H11.out.2.1).below (bb.trans (B1.mono bb.size)), (H11.out.2.2.1).below (bb.trans (B1.mono bb.size)), (H11.out.2.2.2.1).below (bb.trans (B1.mono bb.size)), (H11.out.2.2.2.2.1).below (bb.trans (B1.mono bb.size)), (H11.out.2.2.2.2.2.1).below (bb.trans (B1.mono bb.size)), (H11.out.2.2.2.2.2.2.1).below (bb.trans (B1.mono bb.size)), (H11.out.2.2.2.2.2.2.2.1).below (bb.trans (B1.mono bb.size)), (H11.out.2.2.2.2.2.2.2.2.1).below (bb.trans (B1.mono bb.size)), (H11.out.2.2.2.2.2.2.2.2.2.1).below (bb.trans (B1.mono bb.size)), (H11.out.2.2.2.2.2.2.2.2.2.2.1).below (bb.trans (B1.mono bb.size)), (H11.out.2.2.2.2.2.2.2.2.2.2.2.1).below (bb.trans (B1.mono bb.size)), (H11.out.2.2.2.2.2.2.2.2.2.2.2.2.1).below (bb.trans (B1.mono bb.size)), (H11.out.2.2.2.2.2.2.2.2.2.2.2.2.2.1).below (bb.trans (B1.mono bb.size)), (H11.out.2.2.2.2.2.2.2.2.2.2.2.2.2.2.1).below (bb.trans (B1.mono bb.size)), (H11.out.2.2.2.2.2.2.2.2.2.2.2.2.2.2.2).below (bb.trans (B1.mono bb.size)), LB.new hA⟩)
        clear hA bb B1 H11 
        go_upto_region 15 with fail
        generalize u12.alloc (.cells (Lk.row c (.slice oa28 c.out.length oc28) (.slice sa28 c.seen.length sc28)) 27) = W12 at *
        generalize u12.heap.size = b28 at *
        as_aux_lemma =>
         have HS0 : Hid (∀ W' : World, Below W12.heap.size W12 W' → (LC W' b5 n (.slice oa5 n.out.length oc5) (.slice sa5 n.seen.length sc5) ∧ LC W' b8 n (.slice oa8 n.out.length oc8) (.slice sa8 n.seen.length sc8) ∧ LC W' b13 y (.slice oa13 y.out.length oc13) (.slice sa13 y.seen.length sc13) ∧ LC W' b16 y (.slice oa16 y.out.length oc16) (.slice sa16 y.seen.length sc16) ∧ LC W' b22 qa (.slice oa22 qa.out.length oc22) (.slice sa22 qa.seen.length sc22) ∧ LC W' b19 q (.slice oa19 q.out.length oc19) (.slice sa19 q.seen.length sc19) ∧ LC W' b23 r (.slice oa23 r.out.length oc23) (.slice sa23 r.seen.length sc23) ∧ LC W' b26 c (.slice oa26 c.out.length oc26) (.slice sa26 c.seen.length sc26) ∧ LC W' b28 c (.slice oa28 c.out.length oc28) (.slice sa28 c.seen.length sc28) ∧ LC W' b3 l (.slice oa3 l.out.length oc3) (.slice sa3 l.seen.length sc3))) := fun W' hb => ⟨lbox ((H12.out.2.2.2.2.2.2.1).below hb).1, lbox ((H12.out.2.2.2.2.2.2.2.1).below hb).1, lbox ((H12.out.2.2.2.2.2.2.2.2.2.2.1).below hb).1, lbox ((H12.out.2.2.2.2.2.2.2.2.2.2.2.1).below hb).1, lbox ((H12.out.2.2.2.2.2.2.2.2.2.2.2.2.2.1).below hb).1, lbox ((H12.out.2.2.2.2.2.2.2.2.2.2.2.2.1).below hb).1, lbox ((H12.out.2.2.2.2.2.2.2.2.2.2.2.2.2.2.1).below hb).1, lbox ((H12.out.2.2.2.2.2.2.2.2.2.2.2.2.2.2.2.1).below hb).1, lbox ((H12.out.2.2.2.2.2.2.2.2.2.2.2.2.2.2.2.2).below hb).1, lbox ((H12.out.2.2.2.2.1).below hb).1⟩
         have hst : (tx.toList == tx.toList) = true := by simp
         have hgs : (gs != gs) = false := by simp
         have hgf : (gf != gf) = false := by simp
         have hgd : (gd != gd) = false := by simp
         have hmk : (mk != mk) = false := by simp
         have hlo : (l.ok != l.ok) = false := by simp
         have hgs' : (gs == gs) = true := by simp
         have hgf' : (gf == gf) = true := by simp
         have hgd' : (gd == gd) = true := by simp
         have hmk' : (mk == mk) = true := by simp
         have hlo' : (l.ok == l.ok) = true := by simp
         go_cut [168] from 104 (fun v wc => v = .bool false ∧ Hid (Below w.heap.size w wc ∧ ET wc ∧ EG e0 e1 e2 wc ∧ EGT e0 e2 e3 e4 wc ∧ LB wc b3 l (.slice oa3 l.out.length oc3) (.slice sa3 l.seen.length sc3) ∧ MgB wc b4 m (.slice ka m.cell.kids.length kc) ∧ LB wc b5 n (.slice oa5 n.out.length oc5) (.slice sa5 n.seen.length sc5) ∧ LB wc b8 n (.slice oa8 n.out.length oc8) (.slice sa8 n.seen.length sc8) ∧ LB wc b11 x (.slice oa11 x.out.length oc11) (.slice sa11 x.seen.length sc11) ∧ PB wc b12 p ∧ LB wc b13 y (.slice oa13 y.out.length oc13) (.slice sa13 y.seen.length sc13) ∧ LB wc b16 y (.slice oa16 y.out.length oc16) (.slice sa16 y.seen.length sc16) ∧ LB wc b19 q (.slice oa19 q.out.length oc19) (.slice sa19 q.seen.length sc19) ∧ LB wc b22 qa (.slice oa22 qa.out.length oc22) (.slice sa22 qa.seen.length sc22) ∧ LB wc b23 r (.slice oa23 r.out.length oc23) (.slice sa23 r.seen.length sc23) ∧ LB wc b26 c (.slice oa26 c.out.length oc26) (.slice sa26 c.seen.length sc26) ∧ LB wc b28 c (.slice oa28 c.out.length oc28) (.slice sa28 c.seen.length sc28)))
         case first =>
           as_aux_lemma =>
            dsimp only [List.append]
            have BD := (show Hid (Below W12.heap.size W12 W12.drew) from (Below.refl _ W12).drew)
            refine wp_region_held_drew (S := fun W' => LC W' b5 n (.slice oa5 n.out.length oc5) (.slice sa5 n.seen.length sc5) ∧ LC W' b8 n (.slice oa8 n.out.length oc8) (.slice sa8 n.seen.length sc8) ∧ LC W' b13 y (.slice oa13 y.out.length oc13) (.slice sa13 y.seen.length sc13) ∧ LC W' b16 y (.slice oa16 y.out.length oc16) (.slice sa16 y.seen.length sc16) ∧ LC W' b22 qa (.slice oa22 qa.out.length oc22) (.slice sa22 qa.seen.length sc22) ∧ LC W' b19 q (.slice oa19 q.out.length oc19) (.slice sa19 q.seen.length sc19) ∧ LC W' b23 r (.slice oa23 r.out.length oc23) (.slice sa23 r.seen.length sc23) ∧ LC W' b26 c (.slice oa26 c.out.length oc26) (.slice sa26 c.seen.length sc26) ∧ LC W' b28 c (.slice oa28 c.out.length oc28) (.slice sa28 c.seen.length sc28) ∧ LC W' b3 l (.slice oa3 l.out.length oc3) (.slice sa3 l.seen.length sc3)) (by kernel_rfl) (HS0.out W12 (Below.refl _ W12)) (fun hS => ?_)
            refine wpAnyH_take (i := 0) (v := .agg (Lk.row n (.slice oa5 n.out.length oc5) (.slice sa5 n.seen.length sc5))) rfl (by kernel_rfl) (by kernel_rfl) (by kernel_rfl) (fun _ _ _ h => h) (Or.inl ⟨by rfl, ?_⟩) (HS0.out _ BD.out) ?_
            · intro wq hSw
              obtain ⟨c0, c1, c2, c3⟩ := hSw.1
              go_simp
            simp only [Act.put, List.getElem_toArray, List.getElem_cons_zero, List.setIfInBounds_toArray, List.set_cons_zero, List.set_cons_succ]
            refine wpAnyH_take (i := 1) (v := .agg (Lk.row n (.slice oa8 n.out.length oc8) (.slice sa8 n.seen.length sc8))) rfl (by kernel_rfl) (by kernel_rfl) (by kernel_rfl) (fun _ _ _ h => h) (Or.inl ⟨by rfl, ?_⟩) (HS0.out _ BD.out) ?_
            · intro wq hSw
              obtain ⟨c0, c1, c2, c3⟩ := hSw.2.1
              go_simp
            simp only [Act.put, List.getElem_toArray, List.getElem_cons_zero, List.getElem_cons_succ, List.setIfInBounds_toArray, List.set_cons_zero, List.set_cons_succ]
            refine wpAnyH_ready (rs := [2]) (by kernel_rfl) (by simp) ?_
            refine AllReadyH.cons rfl (fun K hK => ?_) AllReadyH.nil
            refine step_callG2 (by rfl) 17 (.tmp 104) (.tmp 105) _ rfl ent_sameLink (.agg (Lk.row n (.slice oa5 n.out.length oc5) (.slice sa5 n.seen.length sc5))) (.agg (Lk.row n (.slice oa8 n.out.length oc8) (.slice sa8 n.seen.length sc8))) (by first | (simp [Act.eval]; done) | simp [Act.eval, Act.put]) (by first | (simp [Act.eval]; done) | simp [Act.eval, Act.put]) (fun r w' => r = .bool true ∧ Below (W12.drew).heap.size (W12.drew) w') ((sameLink_same _ _ n _ _ _ ((H12.out.2.2.2.2.2.2.1).below BD.out).2 ((H12.out.2.2.2.2.2.2.2.1).below BD.out).2).mono (fun e w' h => ⟨_, h.1, rfl, h.2⟩)) ?_
            rintro r x1 ⟨rfl, nb⟩
            have G1 := (show Hid (Below W12.heap.size W12 x1) from BD.out.trans (nb.mono BD.out.size))
            clear nb
            refine hK.out _ _ (HS0.out _ G1.out) (fun _ => ?_)
            clear hK K
            simp only [Act.put, List.getElem_toArray, List.getElem_cons_zero, List.getElem_cons_succ, List.setIfInBounds_toArray, List.set_cons_zero, List.set_cons_succ]
            refine wpAnyH_take (i := 3) (v := .bool false) rfl (by kernel_rfl) (by kernel_rfl) (by kernel_rfl) (fun _ _ _ h => h) (Or.inl ⟨by rfl, ?_⟩) (HS0.out _ G1.out) ?_
            · intro wq hSw
              go_simp
            simp only [Act.put, List.getElem_toArray, List.getElem_cons_zero, List.getElem_cons_succ, List.setIfInBounds_toArray, List.set_cons_zero, List.set_cons_succ]
            refine wpAnyH_take (i := 4) (v := .bool false) rfl (by kernel_rfl) (by kernel_rfl) (by kernel_rfl) (fun _ _ _ h => h) (Or.inl ⟨by rfl, ?_⟩) (HS0.out _ G1.out) ?_
            · intro wq hSw
              go_simp
            simp only [Act.put, List.getElem_toArray, List.getElem_cons_zero, List.getElem_cons_succ, List.setIfInBounds_toArray, List.set_cons_zero, List.set_cons_succ]
            refine wpAnyH_take (i := 5) (v := .string tx) rfl (by kernel_rfl) (by kernel_rfl) (by kernel_rfl) (fun _ _ _ h => h) (Or.inl ⟨by rfl, ?_⟩) (HS0.out _ G1.out) ?_
            · intro wq hSw
              go_simp
            simp only [Act.put, List.getElem_toArray, List.getElem_cons_zero, List.getElem_cons_succ, List.setIfInBounds_toArray, List.set_cons_zero, List.set_cons_succ]
            refine wpAnyH_take (i := 6) (v := .string tx) rfl (by kernel_rfl) (by kernel_rfl) (by kernel_rfl) (fun _ _ _ h => h) (Or.inl ⟨by rfl, ?_⟩) (HS0.out _ G1.out) ?_
            · intro wq hSw
              go_simp
            simp only [Act.put, List.getElem_toArray, List.getElem_cons_zero, List.getElem_cons_succ, List.setIfInBounds_toArray, List.set_cons_zero, List.set_cons_succ]
            refine wpAnyH_take (i := 7) (v := .bool false) rfl (by kernel_rfl) (by kernel_rfl) (by kernel_rfl) (fun _ _ _ h => h) (Or.inl ⟨by rfl, ?_⟩) (HS0.out _ G1.out) ?_
            · intro wq hSw
              go_simp
            simp only [Act.put, List.getElem_toArray, List.getElem_cons_zero, List.getElem_cons_succ, List.setIfInBounds_toArray, List.set_cons_zero, List.set_cons_succ]
            as_aux_lemma =>
             refine wpAnyH_take (i := 8) (v := .bool false) rfl (by kernel_rfl) (by kernel_rfl) (by kernel_rfl) (fun _ _ _ h => h) (Or.inl ⟨by rfl, ?_⟩) (HS0.out _ G1.out) ?_
             · intro wq hSw
               go_simp
             simp only [Act.put, List.getElem_toArray, List.getElem_cons_zero, List.getElem_cons_succ, List.setIfInBounds_toArray, List.set_cons_zero, List.set_cons_succ]
             refine wpAnyH_take (i := 9) (v := .bool false) rfl (by kernel_rfl) (by kernel_rfl) (by kernel_rfl) (fun _ _ _ h => h) (Or.inl ⟨by rfl, ?_⟩) (HS0.out _ G1.out) ?_
             · intro wq hSw
               go_simp
             simp only [Act.put, List.getElem_toArray, List.getElem_cons_zero, List.getElem_cons_succ, List.setIfInBounds_toArray, List.set_cons_zero, List.set_cons_succ]
             refine wpAnyH_take (i := 10) (v := .bool gs) rfl (by kernel_rfl) (by kernel_rfl) (by kernel_rfl) (fun _ _ _ h => h) (Or.inl ⟨by rfl, ?_⟩) (HS0.out _ G1.out) ?_
             · intro wq hSw
               go_simp
             simp only [Act.put, List.getElem_toArray, List.getElem_cons_zero, List.getElem_cons_succ, List.setIfInBounds_toArray, List.set_cons_zero, List.set_cons_succ]
             refine wpAnyH_take (i := 11) (v := .bool gs) rfl (by kernel_rfl) (by kernel_rfl) (by kernel_rfl) (fun _ _ _ h => h) (Or.inl ⟨by rfl, ?_⟩) (HS0.out _ G1.out) ?_
             · intro wq hSw
               go_simp
             simp only [Act.put, List.getElem_toArray, List.getElem_cons_zero, List.getElem_cons_succ, List.setIfInBounds_toArray, List.set_cons_zero, List.set_cons_succ]
             refine wpAnyH_take (i := 12) (v := .bool false) rfl (by kernel_rfl) (by kernel_rfl) (by kernel_rfl) (fun _ _ _ h => h) (Or.inl ⟨by rfl, ?_⟩) (HS0.out _ G1.out) ?_
             · intro wq hSw
               go_simp
             simp only [Act.put, List.getElem_toArray, List.getElem_cons_zero, List.getElem_cons_succ, List.setIfInBounds_toArray, List.set_cons_zero, List.set_cons_succ]
             refine wpAnyH_take (i := 13) (v := .bool false) rfl (by kernel_rfl) (by kernel_rfl) (by kernel_rfl) (fun _ _ _ h => h) (Or.inl ⟨by rfl, ?_⟩) (HS0.out _ G1.out) ?_
             · intro wq hSw
               go_simp
             simp only [Act.put, List.getElem_toArray, List.getElem_cons_zero, List.getElem_cons_succ, List.setIfInBounds_toArray, List.set_cons_zero, List.set_cons_succ]
             refine wpAnyH_take (i := 14) (v := .bool false) rfl (by kernel_rfl) (by kernel_rfl) (by kernel_rfl) (fun _ _ _ h => h) (Or.inl ⟨by rfl, ?_⟩) (HS0.out _ G1.out) ?_
             · intro wq hSw
               go_simp
             simp only [Act.put, List.getElem_toArray, List.getElem_cons_zero, List.getElem_cons_succ, List.setIfInBounds_toArray, List.set_cons_zero, List.set_cons_succ]
             refine wpAnyH_take (i := 15) (v := .agg (Lk.row y (.slice oa13 y.out.length oc13) (.slice sa13 y.seen.length sc13))) rfl (by kernel_rfl) (by kernel_rfl) (by kernel_rfl) (fun _ _ _ h => h) (Or.inl ⟨by rfl, ?_⟩) (HS0.out _ G1.out) ?_
             · intro wq hSw
               obtain ⟨c0, c1, c2, c3⟩ := hSw.2.2.1
               go_simp
             simp only [Act.put, List.getElem_toArray, List.getElem_cons_zero, List.getElem_cons_succ, List.setIfInBounds_toArray, List.set_cons_zero, List.set_cons_succ]
             as_aux_lemma =>
              refine wpAnyH_take (i := 16) (v := .agg (Lk.row y (.slice oa16 y.out.length oc16) (.slice sa16 y.seen.length sc16))) rfl (by kernel_rfl) (by kernel_rfl) (by kernel_rfl) (fun _ _ _ h => h) (Or.inl ⟨by rfl, ?_⟩) (HS0.out _ G1.out) ?_
              · intro wq hSw
                obtain ⟨c0, c1, c2, c3⟩ := hSw.2.2.2.1
                go_simp
              simp only [Act.put, List.getElem_toArray, List.getElem_cons_zero, List.getElem_cons_succ, List.setIfInBounds_toArray, List.set_cons_zero, List.set_cons_succ]
              refine wpAnyH_ready (rs := [17]) (by kernel_rfl) (by simp) ?_
              refine AllReadyH.cons rfl (fun K hK => ?_) AllReadyH.nil
              refine step_callG2 (by rfl) 17 (.tmp 119) (.tmp 120) _ rfl ent_sameLink (.agg (Lk.row y (.slice oa13 y.out.length oc13) (.slice sa13 y.seen.length sc13))) (.agg (Lk.row y (.slice oa16 y.out.length oc16) (.slice sa16 y.seen.length sc16))) (by first | (simp [Act.eval]; done) | simp [Act.eval, Act.put]) (by first | (simp [Act.eval]; done) | simp [Act.eval, Act.put]) (fun r w' => r = .bool true ∧ Below (x1).heap.size (x1) w') ((sameLink_same _ _ y _ _ _ ((H12.out.2.2.2.2.2.2.2.2.2.2.1).below G1.out).2 ((H12.out.2.2.2.2.2.2.2.2.2.2.2.1).below G1.out).2).mono (fun e w' h => ⟨_, h.1, rfl, h.2⟩)) ?_
              rintro r x2 ⟨rfl, nb⟩
              have G2 := (show Hid (Below W12.heap.size W12 x2) from G1.out.trans (nb.mono G1.out.size))
              clear nb
              refine hK.out _ _ (HS0.out _ G2.out) (fun _ => ?_)
              clear hK K
              simp only [Act.put, List.getElem_toArray, List.getElem_cons_zero, List.getElem_cons_succ, List.setIfInBounds_toArray, List.set_cons_zero, List.set_cons_succ]
              refine wpAnyH_take (i := 18) (v := .bool false) rfl (by kernel_rfl) (by kernel_rfl) (by kernel_rfl) (fun _ _ _ h => h) (Or.inl ⟨by rfl, ?_⟩) (HS0.out _ G2.out) ?_
              · intro wq hSw
                go_simp
              simp only [Act.put, List.getElem_toArray, List.getElem_cons_zero, List.getElem_cons_succ, List.setIfInBounds_toArray, List.set_cons_zero, List.set_cons_succ]
              refine wpAnyH_take (i := 19) (v := .bool false) rfl (by kernel_rfl) (by kernel_rfl) (by kernel_rfl) (fun _ _ _ h => h) (Or.inl ⟨by rfl, ?_⟩) (HS0.out _ G2.out) ?_
              · intro wq hSw
                go_simp
              simp only [Act.put, List.getElem_toArray, List.getElem_cons_zero, List.getElem_cons_succ, List.setIfInBounds_toArray, List.set_cons_zero, List.set_cons_succ]
              refine wpAnyH_take (i := 20) (v := .bool false) rfl (by kernel_rfl) (by kernel_rfl) (by kernel_rfl) (fun _ _ _ h => h) (Or.inl ⟨by rfl, ?_⟩) (HS0.out _ G2.out) ?_
              · intro wq hSw
                go_simp
              simp only [Act.put, List.getElem_toArray, List.getElem_cons_zero, List.getElem_cons_succ, List.setIfInBounds_toArray, List.set_cons_zero, List.set_cons_succ]
              refine wpAnyH_take (i := 21) (v := .bool gf) rfl (by kernel_rfl) (by kernel_rfl) (by kernel_rfl) (fun _ _ _ h => h) (Or.inl ⟨by rfl, ?_⟩) (HS0.out _ G2.out) ?_
              · intro wq hSw
                go_simp
              simp only [Act.put, List.getElem_toArray, List.getElem_cons_zero, List.getElem_cons_succ, List.setIfInBounds_toArray, List.set_cons_zero, List.set_cons_succ]
              refine wpAnyH_take (i := 22) (v := .bool gf) rfl (by kernel_rfl) (by kernel_rfl) (by kernel_rfl) (fun _ _ _ h => h) (Or.inl ⟨by rfl, ?_⟩) (HS0.out _ G2.out) ?_
              · intro wq hSw
                go_simp
              simp only [Act.put, List.getElem_toArray, List.getElem_cons_zero, List.getElem_cons_succ, List.setIfInBounds_toArray, List.set_cons_zero, List.set_cons_succ]
              refine wpAnyH_take (i := 23) (v := .bool false) rfl (by kernel_rfl) (by kernel_rfl) (by kernel_rfl) (fun _ _ _ h => h) (Or.inl ⟨by rfl, ?_⟩) (HS0.out _ G2.out) ?_
              · intro wq hSw
                go_simp
              simp only [Act.put, List.getElem_toArray, List.getElem_cons_zero, List.getElem_cons_succ, List.setIfInBounds_toArray, List.set_cons_zero, List.set_cons_succ]
              refine wpAnyH_take (i := 24) (v := .bool false) rfl (by kernel_rfl) (by kernel_rfl) (by kernel_rfl) (fun _ _ _ h => h) (Or.inl ⟨by rfl, ?_⟩) (HS0.out _ G2.out) ?_
              · intro wq hSw
                go_simp
              simp only [Act.put, List.getElem_toArray, List.getElem_cons_zero, List.getElem_cons_succ, List.setIfInBounds_toArray, List.set_cons_zero, List.set_cons_succ]
              as_aux_lemma =>
               refine wpAnyH_take (i := 25) (v := .bool false) rfl (by kernel_rfl) (by kernel_rfl) (by kernel_rfl) (fun _ _ _ h => h) (Or.inl ⟨by rfl, ?_⟩) (HS0.out _ G2.out) ?_
               · intro wq hSw
                 go_simp
               simp only [Act.put, List.getElem_toArray, List.getElem_cons_zero, List.getElem_cons_succ, List.setIfInBounds_toArray, List.set_cons_zero, List.set_cons_succ]
               refine wpAnyH_take (i := 26) (v := .bool gd) rfl (by kernel_rfl) (by kernel_rfl) (by kernel_rfl) (fun _ _ _ h => h) (Or.inl ⟨by rfl, ?_⟩) (HS0.out _ G2.out) ?_
               · intro wq hSw
                 go_simp
               simp only [Act.put, List.getElem_toArray, List.getElem_cons_zero, List.getElem_cons_succ, List.setIfInBounds_toArray, List.set_cons_zero, List.set_cons_succ]
               refine wpAnyH_take (i := 27) (v := .bool gd) rfl (by kernel_rfl) (by kernel_rfl) (by kernel_rfl) (fun _ _ _ h => h) (Or.inl ⟨by rfl, ?_⟩) (HS0.out _ G2.out) ?_
               · intro wq hSw
                 go_simp
               simp only [Act.put, List.getElem_toArray, List.getElem_cons_zero, List.getElem_cons_succ, List.setIfInBounds_toArray, List.set_cons_zero, List.set_cons_succ]
               refine wpAnyH_take (i := 28) (v := .bool false) rfl (by kernel_rfl) (by kernel_rfl) (by kernel_rfl) (fun _ _ _ h => h) (Or.inl ⟨by rfl, ?_⟩) (HS0.out _ G2.out) ?_
               · intro wq hSw
                 go_simp
               simp only [Act.put, List.getElem_toArray, List.getElem_cons_zero, List.getElem_cons_succ, List.setIfInBounds_toArray, List.set_cons_zero, List.set_cons_succ]
               refine wpAnyH_take (i := 29) (v := .bool false) rfl (by kernel_rfl) (by kernel_rfl) (by kernel_rfl) (fun _ _ _ h => h) (Or.inl ⟨by rfl, ?_⟩) (HS0.out _ G2.out) ?_
               · intro wq hSw
                 go_simp
               simp only [Act.put, List.getElem_toArray, List.getElem_cons_zero, List.getElem_cons_succ, List.setIfInBounds_toArray, List.set_cons_zero, List.set_cons_succ]
               refine wpAnyH_take (i := 30) (v := .bool false) rfl (by kernel_rfl) (by kernel_rfl) (by kernel_rfl) (fun _ _ _ h => h) (Or.inl ⟨by rfl, ?_⟩) (HS0.out _ G2.out) ?_
               · intro wq hSw
                 go_simp
               simp only [Act.put, List.getElem_toArray, List.getElem_cons_zero, List.getElem_cons_succ, List.setIfInBounds_toArray, List.set_cons_zero, List.set_cons_succ]
               refine wpAnyH_take (i := 31) (v := .agg (Lk.row qa (.slice oa22 qa.out.length oc22) (.slice sa22 qa.seen.length sc22))) rfl (by kernel_rfl) (by kernel_rfl) (by kernel_rfl) (fun _ _ _ h => h) (Or.inl ⟨by rfl, ?_⟩) (HS0.out _ G2.out) ?_
               · intro wq hSw
                 obtain ⟨c0, c1, c2, c3⟩ := hSw.2.2.2.2.1
                 go_simp
               simp only [Act.put, List.getElem_toArray, List.getElem_cons_zero, List.getElem_cons_succ, List.setIfInBounds_toArray, List.set_cons_zero, List.set_cons_succ]
               refine wpAnyH_take (i := 32) (v := .agg (Lk.row q (.slice oa19 q.out.length oc19) (.slice sa19 q.seen.length sc19))) rfl (by kernel_rfl) (by kernel_rfl) (by kernel_rfl) (fun _ _ _ h => h) (Or.inl ⟨by rfl, ?_⟩) (HS0.out _ G2.out) ?_
               · intro wq hSw
                 obtain ⟨c0, c1, c2, c3⟩ := hSw.2.2.2.2.2.1
                 go_simp
               simp only [Act.put, List.getElem_toArray, List.getElem_cons_zero, List.getElem_cons_succ, List.setIfInBounds_toArray, List.set_cons_zero, List.set_cons_succ]
               as_aux_lemma =>
                refine wpAnyH_take (i := 33) (v := .int .i64 fa) rfl (by kernel_rfl) (by kernel_rfl) (by kernel_rfl) (fun _ _ _ h => h) (Or.inl ⟨by rfl, ?_⟩) (HS0.out _ G2.out) ?_
                · intro wq hSw
                  go_simp
                simp only [Act.put, List.getElem_toArray, List.getElem_cons_zero, List.getElem_cons_succ, List.setIfInBounds_toArray, List.set_cons_zero, List.set_cons_succ]
                refine wpAnyH_take (i := 34) (v := .int .i64 sq) rfl (by kernel_rfl) (by kernel_rfl) (by kernel_rfl) (fun _ _ _ h => h) (Or.inl ⟨by rfl, ?_⟩) (HS0.out _ G2.out) ?_
                · intro wq hSw
                  go_simp
                simp only [Act.put, List.getElem_toArray, List.getElem_cons_zero, List.getElem_cons_succ, List.setIfInBounds_toArray, List.set_cons_zero, List.set_cons_succ]
                refine wpAnyH_ready (rs := [35]) (by kernel_rfl) (by simp) ?_
                refine AllReadyH.cons rfl (fun K hK => ?_) AllReadyH.nil
                refine step_callG3 (by rfl) 18 (.tmp 136) (.tmp 137) (.tmp 138) _ rfl ent_ackS (.agg (Lk.row q (.slice oa19 q.out.length oc19) (.slice sa19 q.seen.length sc19))) (.int .i64 fa) (.int .i64 sq) (by first | (simp [Act.eval]; done) | simp [Act.eval, Act.put]) (by first | (simp [Act.eval]; done) | simp [Act.eval, Act.put]) (by first | (simp [Act.eval]; done) | simp [Act.eval, Act.put]) (fun r w' => ∃ oa oc sa sc, r = .agg (qa.row (.slice oa qa.out.length oc) (.slice sa qa.seen.length sc)) ∧ LkAt w' (fun _ => True) (.agg (qa.row (.slice oa qa.out.length oc) (.slice sa qa.seen.length sc))) qa ∧ Below (x2).heap.size (x2) w') ((ackS _ q qa fa sq _ _ HQ.out ((H12.out.2.2.2.2.2.2.2.2.2.2.2.2.1).below G2.out).2 (Nat.le_trans HB19.out.1 (by decide))).mono (fun e w' h => by obtain ⟨oa, oc, sa, sc, h1, h2, h3⟩ := h; exact ⟨_, h1, oa, oc, sa, sc, rfl, h2, h3⟩)) ?_
                rintro r x3 ⟨oa35, oc35, sa35, sc35, rfl, hA35, nb⟩
                have HA35 := (show Hid _ from hA35)
                clear hA35
                have G3 := (show Hid (Below W12.heap.size W12 x3) from G2.out.trans (nb.mono G2.out.size))
                clear nb
                refine hK.out _ _ (HS0.out _ G3.out) (fun _ => ?_)
                clear hK K
                simp only [Act.put, List.getElem_toArray, List.getElem_cons_zero, List.getElem_cons_succ, List.setIfInBounds_toArray, List.set_cons_zero, List.set_cons_succ]
                refine wpAnyH_ready (rs := [36]) (by kernel_rfl) (by simp) ?_
                refine AllReadyH.cons rfl (fun K hK => ?_) AllReadyH.nil
                refine step_callG2 (by rfl) 17 (.tmp 135) (.tmp 139) _ rfl ent_sameLink (.agg (Lk.row qa (.slice oa22 qa.out.length oc22) (.slice sa22 qa.seen.length sc22))) (.agg (Lk.row qa (.slice oa35 qa.out.length oc35) (.slice sa35 qa.seen.length sc35))) (by first | (simp [Act.eval]; done) | simp [Act.eval, Act.put]) (by first | (simp [Act.eval]; done) | simp [Act.eval, Act.put]) (fun r w' => r = .bool true ∧ Below (x3).heap.size (x3) w') ((sameLink_same _ _ qa _ _ _ ((H12.out.2.2.2.2.2.2.2.2.2.2.2.2.2.1).below G3.out).2 HA35.out).mono (fun e w' h => ⟨_, h.1, rfl, h.2⟩)) ?_
                rintro r x4 ⟨rfl, nb⟩
                have G4 := (show Hid (Below W12.heap.size W12 x4) from G3.out.trans (nb.mono G3.out.size))
                clear nb
                refine hK.out _ _ (HS0.out _ G4.out) (fun _ => ?_)
                clear hK K
                simp only [Act.put, List.getElem_toArray, List.getElem_cons_zero, List.getElem_cons_succ, List.setIfInBounds_toArray, List.set_cons_zero, List.set_cons_succ]
                refine wpAnyH_take (i := 37) (v := .bool false) rfl (by kernel_rfl) (by kernel_rfl) (by kernel_rfl) (fun _ _ _ h => h) (Or.inl ⟨by rfl, ?_⟩) (HS0.out _ G4.out) ?_
                · intro wq hSw
                  go_simp
                simp only [Act.put, List.getElem_toArray, List.getElem_cons_zero, List.getElem_cons_succ, List.setIfInBounds_toArray, List.set_cons_zero, List.set_cons_succ]
                refine wpAnyH_take (i := 38) (v := .bool false) rfl (by kernel_rfl) (by kernel_rfl) (by kernel_rfl) (fun _ _ _ h => h) (Or.inl ⟨by rfl, ?_⟩) (HS0.out _ G4.out) ?_
                · intro wq hSw
                  go_simp
                simp only [Act.put, List.getElem_toArray, List.getElem_cons_zero, List.getElem_cons_succ, List.setIfInBounds_toArray, List.set_cons_zero, List.set_cons_succ]
                refine wpAnyH_take (i := 39) (v := .bool false) rfl (by kernel_rfl) (by kernel_rfl) (by kernel_rfl) (fun _ _ _ h => h) (Or.inl ⟨by rfl, ?_⟩) (HS0.out _ G4.out) ?_
                · intro wq hSw
                  go_simp
                simp only [Act.put, List.getElem_toArray, List.getElem_cons_zero, List.getElem_cons_succ, List.setIfInBounds_toArray, List.set_cons_zero, List.set_cons_succ]
                refine wpAnyH_take (i := 40) (v := .agg (Lk.row r (.slice oa23 r.out.length oc23) (.slice sa23 r.seen.length sc23))) rfl (by kernel_rfl) (by kernel_rfl) (by kernel_rfl) (fun _ _ _ h => h) (Or.inl ⟨by rfl, ?_⟩) (HS0.out _ G4.out) ?_
                · intro wq hSw
                  obtain ⟨c0, c1, c2, c3⟩ := hSw.2.2.2.2.2.2.1
                  go_simp
                simp only [Act.put, List.getElem_toArray, List.getElem_cons_zero, List.getElem_cons_succ, List.setIfInBounds_toArray, List.set_cons_zero, List.set_cons_succ]
                refine wpAnyH_take (i := 42) (v := .agg (Lk.row r (.slice oa23 r.out.length oc23) (.slice sa23 r.seen.length sc23))) rfl (by kernel_rfl) (by kernel_rfl) (by kernel_rfl) (fun _ _ _ h => h) (Or.inl ⟨by rfl, ?_⟩) (HS0.out _ G4.out) ?_
                · intro wq hSw
                  obtain ⟨c0, c1, c2, c3⟩ := hSw.2.2.2.2.2.2.1
                  go_simp
                simp only [Act.put, List.getElem_toArray, List.getElem_cons_zero, List.getElem_cons_succ, List.setIfInBounds_toArray, List.set_cons_zero, List.set_cons_succ]
                refine wpAnyH_ready (rs := [41]) (by kernel_rfl) (by simp) ?_
                refine AllReadyH.cons rfl (fun K hK => ?_) AllReadyH.nil
                refine step_callG1 (by rfl) 20 (.tmp 144) _ rfl ent_againP (.agg (Lk.row r (.slice oa23 r.out.length oc23) (.slice sa23 r.seen.length sc23))) (by first | (simp [Act.eval]; done) | simp [Act.eval, Act.put]) (fun r' w' => ∃ ta tc, r' = .slice ta r.again.length tc ∧ TxAt w' (fun _ => True) (.slice ta r.again.length tc) r.again ∧ Below (x4).heap.size (x4) w') ((implLinkAgain_any _ r _ _ ((H12.out.2.2.2.2.2.2.2.2.2.2.2.2.2.2.1).below G4.out).2 (Nat.le_trans HB23.out.1 (by decide)) ((H12.out.2.1).below G4.out)).mono (fun e w' h => by obtain ⟨gv, h1, h2, h3⟩ := h; obtain ⟨ta, tc, rfl⟩ := own_form h2; obtain ⟨a', c', e', f', g'⟩ := tx_of_own h2; exact ⟨_, h1, ta, tc, rfl, ⟨a', c', e', f', fun i t ht => by obtain ⟨b, off, q1, -, q2, q3⟩ := g' i t ht; exact ⟨b, off, q1, trivial, q2, q3⟩⟩, h3⟩)) ?_
                rintro r' x5 ⟨ta41, tc41, rfl, hT, nb⟩
                have HT41 := (show Hid _ from hT)
                clear hT
                have G5 := (show Hid (Below W12.heap.size W12 x5) from G4.out.trans (nb.mono G4.out.size))
                clear nb
                refine hK.out _ _ (HS0.out _ G5.out) (fun _ => ?_)
                clear hK K
                simp only [Act.put, List.getElem_toArray, List.getElem_cons_zero, List.getElem_cons_succ, List.setIfInBounds_toArray, List.set_cons_zero, List.set_cons_succ]
                refine wpAnyH_ready (rs := [43]) (by kernel_rfl) (by simp) ?_
                refine AllReadyH.cons rfl (fun K hK => ?_) AllReadyH.nil
                refine step_callG1 (by rfl) 21 (.tmp 146) _ rfl ent_againS (.agg (Lk.row r (.slice oa23 r.out.length oc23) (.slice sa23 r.seen.length sc23))) (by first | (simp [Act.eval]; done) | simp [Act.eval, Act.put]) (fun r' w' => ∃ ta tc, r' = .slice ta r.again.length tc ∧ TxAt w' (fun _ => True) (.slice ta r.again.length tc) r.again ∧ Below (x5).heap.size (x5) w') ((specLinkAgain_any _ r _ _ ((H12.out.2.2.2.2.2.2.2.2.2.2.2.2.2.2.1).below G5.out).2 (Nat.le_trans HB23.out.1 (by decide))).mono (fun e w' h => by obtain ⟨gv, h1, h2, h3⟩ := h; obtain ⟨ta, tc, rfl⟩ := own_form h2; obtain ⟨a', c', e', f', g'⟩ := tx_of_own h2; exact ⟨_, h1, ta, tc, rfl, ⟨a', c', e', f', fun i t ht => by obtain ⟨b, off, q1, -, q2, q3⟩ := g' i t ht; exact ⟨b, off, q1, trivial, q2, q3⟩⟩, h3⟩)) ?_
                rintro r' x6 ⟨ta43, tc43, rfl, hT, nb⟩
                have HT43 := (show Hid (_ ∧ _) from ⟨TxAt.below HT41.out nb, hT⟩)
                clear hT
                have G6 := (show Hid (Below W12.heap.size W12 x6) from G5.out.trans (nb.mono G5.out.size))
                clear nb
                refine hK.out _ _ (HS0.out _ G6.out) (fun _ => ?_)
                clear hK K
                simp only [Act.put, List.getElem_toArray, List.getElem_cons_zero, List.getElem_cons_succ, List.setIfInBounds_toArray, List.set_cons_zero, List.set_cons_succ]
                refine wpAnyH_ready (rs := [44]) (by kernel_rfl) (by simp) ?_
                refine AllReadyH.cons rfl (fun K hK => ?_) AllReadyH.nil
                refine step_callG2 (by rfl) 19 (.tmp 145) (.tmp 147) _ rfl ent_sameTexts (.slice ta41 r.again.length tc41) (.slice ta43 r.again.length tc43) (by first | (simp [Act.eval]; done) | simp [Act.eval, Act.put]) (by first | (simp [Act.eval]; done) | simp [Act.eval, Act.put]) (fun r' w' => r' = .bool true ∧ Below (x6).heap.size (x6) w') ((sameTexts_same _ _ r.again _ _ _ HT43.out.1 HT43.out.2).mono (fun e w' h => ⟨_, h.1, rfl, h.2⟩)) ?_
                rintro r' x7 ⟨rfl, nb⟩
                have G7 := (show Hid (Below W12.heap.size W12 x7) from G6.out.trans (nb.mono G6.out.size))
                clear nb
                refine hK.out _ _ (HS0.out _ G7.out) (fun _ => ?_)
                clear hK K
                simp only [Act.put, List.getElem_toArray, List.getElem_cons_zero, List.getElem_cons_succ, List.setIfInBounds_toArray, List.set_cons_zero, List.set_cons_succ]
                refine wpAnyH_take (i := 45) (v := .bool false) rfl (by kernel_rfl) (by kernel_rfl) (by kernel_rfl) (fun _ _ _ h => h) (Or.inl ⟨by rfl, ?_⟩) (HS0.out _ G7.out) ?_
                · intro wq hSw
                  go_simp
                simp only [Act.put, List.getElem_toArray, List.getElem_cons_zero, List.getElem_cons_succ, List.setIfInBounds_toArray, List.set_cons_zero, List.set_cons_succ]
                as_aux_lemma =>
                 refine wpAnyH_take (i := 46) (v := .bool false) rfl (by kernel_rfl) (by kernel_rfl) (by kernel_rfl) (fun _ _ _ h => h) (Or.inl ⟨by rfl, ?_⟩) (HS0.out _ G7.out) ?_
                 · intro wq hSw
                   go_simp
                 simp only [Act.put, List.getElem_toArray, List.getElem_cons_zero, List.getElem_cons_succ, List.setIfInBounds_toArray, List.set_cons_zero, List.set_cons_succ]
                 refine wpAnyH_take (i := 47) (v := .bool false) rfl (by kernel_rfl) (by kernel_rfl) (by kernel_rfl) (fun _ _ _ h => h) (Or.inl ⟨by rfl, ?_⟩) (HS0.out _ G7.out) ?_
                 · intro wq hSw
                   go_simp
                 simp only [Act.put, List.getElem_toArray, List.getElem_cons_zero, List.getElem_cons_succ, List.setIfInBounds_toArray, List.set_cons_zero, List.set_cons_succ]
                 refine wpAnyH_take (i := 48) (v := .agg (Lk.row c (.slice oa26 c.out.length oc26) (.slice sa26 c.seen.length sc26))) rfl (by kernel_rfl) (by kernel_rfl) (by kernel_rfl) (fun _ _ _ h => h) (Or.inl ⟨by rfl, ?_⟩) (HS0.out _ G7.out) ?_
                 · intro wq hSw
                   obtain ⟨c0, c1, c2, c3⟩ := hSw.2.2.2.2.2.2.2.1
                   go_simp
                 simp only [Act.put, List.getElem_toArray, List.getElem_cons_zero, List.getElem_cons_succ, List.setIfInBounds_toArray, List.set_cons_zero, List.set_cons_succ]
                 refine wpAnyH_take (i := 49) (v := .agg (Lk.row c (.slice oa28 c.out.length oc28) (.slice sa28 c.seen.length sc28))) rfl (by kernel_rfl) (by kernel_rfl) (by kernel_rfl) (fun _ _ _ h => h) (Or.inl ⟨by rfl, ?_⟩) (HS0.out _ G7.out) ?_
                 · intro wq hSw
                   obtain ⟨c0, c1, c2, c3⟩ := hSw.2.2.2.2.2.2.2.2.1
                   go_simp
                 simp only [Act.put, List.getElem_toArray, List.getElem_cons_zero, List.getElem_cons_succ, List.setIfInBounds_toArray, List.set_cons_zero, List.set_cons_succ]
                 refine wpAnyH_ready (rs := [50]) (by kernel_rfl) (by simp) ?_
                 refine AllReadyH.cons rfl (fun K hK => ?_) AllReadyH.nil
                 refine step_callG2 (by rfl) 17 (.tmp 152) (.tmp 153) _ rfl ent_sameLink (.agg (Lk.row c (.slice oa26 c.out.length oc26) (.slice sa26 c.seen.length sc26))) (.agg (Lk.row c (.slice oa28 c.out.length oc28) (.slice sa28 c.seen.length sc28))) (by first | (simp [Act.eval]; done) | simp [Act.eval, Act.put]) (by first | (simp [Act.eval]; done) | simp [Act.eval, Act.put]) (fun r w' => r = .bool true ∧ Below (x7).heap.size (x7) w') ((sameLink_same _ _ c _ _ _ ((H12.out.2.2.2.2.2.2.2.2.2.2.2.2.2.2.2.1).below G7.out).2 ((H12.out.2.2.2.2.2.2.2.2.2.2.2.2.2.2.2.2).below G7.out).2).mono (fun e w' h => ⟨_, h.1, rfl, h.2⟩)) ?_
                 rintro r x8 ⟨rfl, nb⟩
                 have G8 := (show Hid (Below W12.heap.size W12 x8) from G7.out.trans (nb.mono G7.out.size))
                 clear nb
                 refine hK.out _ _ (HS0.out _ G8.out) (fun _ => ?_)
                 clear hK K
                 simp only [Act.put, List.getElem_toArray, List.getElem_cons_zero, List.getElem_cons_succ, List.setIfInBounds_toArray, List.set_cons_zero, List.set_cons_succ]
                 refine wpAnyH_take (i := 51) (v := .bool false) rfl (by kernel_rfl) (by kernel_rfl) (by kernel_rfl) (fun _ _ _ h => h) (Or.inl ⟨by rfl, ?_⟩) (HS0.out _ G8.out) ?_
                 · intro wq hSw
                   go_simp
                 simp only [Act.put, List.getElem_toArray, List.getElem_cons_zero, List.getElem_cons_succ, List.setIfInBounds_toArray, List.set_cons_zero, List.set_cons_succ]
                 refine wpAnyH_take (i := 52) (v := .bool false) rfl (by kernel_rfl) (by kernel_rfl) (by kernel_rfl) (fun _ _ _ h => h) (Or.inl ⟨by rfl, ?_⟩) (HS0.out _ G8.out) ?_
                 · intro wq hSw
                   go_simp
                 simp only [Act.put, List.getElem_toArray, List.getElem_cons_zero, List.getElem_cons_succ, List.setIfInBounds_toArray, List.set_cons_zero, List.set_cons_succ]
                 refine wpAnyH_take (i := 53) (v := .bool false) rfl (by kernel_rfl) (by kernel_rfl) (by kernel_rfl) (fun _ _ _ h => h) (Or.inl ⟨by rfl, ?_⟩) (HS0.out _ G8.out) ?_
                 · intro wq hSw
                   go_simp
                 simp only [Act.put, List.getElem_toArray, List.getElem_cons_zero, List.getElem_cons_succ, List.setIfInBounds_toArray, List.set_cons_zero, List.set_cons_succ]
                 refine wpAnyH_take (i := 54) (v := .bool mk) rfl (by kernel_rfl) (by kernel_rfl) (by kernel_rfl) (fun _ _ _ h => h) (Or.inl ⟨by rfl, ?_⟩) (HS0.out _ G8.out) ?_
                 · intro wq hSw
                   go_simp
                 simp only [Act.put, List.getElem_toArray, List.getElem_cons_zero, List.getElem_cons_succ, List.setIfInBounds_toArray, List.set_cons_zero, List.set_cons_succ]
                 as_aux_lemma =>
                  refine wpAnyH_take (i := 55) (v := .bool mk) rfl (by kernel_rfl) (by kernel_rfl) (by kernel_rfl) (fun _ _ _ h => h) (Or.inl ⟨by rfl, ?_⟩) (HS0.out _ G8.out) ?_
                  · intro wq hSw
                    go_simp
                  simp only [Act.put, List.getElem_toArray, List.getElem_cons_zero, List.getElem_cons_succ, List.setIfInBounds_toArray, List.set_cons_zero, List.set_cons_succ]
                  refine wpAnyH_take (i := 56) (v := .bool false) rfl (by kernel_rfl) (by kernel_rfl) (by kernel_rfl) (fun _ _ _ h => h) (Or.inl ⟨by rfl, ?_⟩) (HS0.out _ G8.out) ?_
                  · intro wq hSw
                    go_simp
                  simp only [Act.put, List.getElem_toArray, List.getElem_cons_zero, List.getElem_cons_succ, List.setIfInBounds_toArray, List.set_cons_zero, List.set_cons_succ]
                  refine wpAnyH_take (i := 57) (v := .bool false) rfl (by kernel_rfl) (by kernel_rfl) (by kernel_rfl) (fun _ _ _ h => h) (Or.inl ⟨by rfl, ?_⟩) (HS0.out _ G8.out) ?_
                  · intro wq hSw
                    go_simp
                  simp only [Act.put, List.getElem_toArray, List.getElem_cons_zero, List.getElem_cons_succ, List.setIfInBounds_toArray, List.set_cons_zero, List.set_cons_succ]
                  refine wpAnyH_take (i := 58) (v := .bool false) rfl (by kernel_rfl) (by kernel_rfl) (by kernel_rfl) (fun _ _ _ h => h) (Or.inl ⟨by rfl, ?_⟩) (HS0.out _ G8.out) ?_
                  · intro wq hSw
                    go_simp
                  simp only [Act.put, List.getElem_toArray, List.getElem_cons_zero, List.getElem_cons_succ, List.setIfInBounds_toArray, List.set_cons_zero, List.set_cons_succ]
                  refine wpAnyH_take (i := 59) (v := .agg (Lk.row l (.slice oa3 l.out.length oc3) (.slice sa3 l.seen.length sc3))) rfl (by kernel_rfl) (by kernel_rfl) (by kernel_rfl) (fun _ _ _ h => h) (Or.inl ⟨by rfl, ?_⟩) (HS0.out _ G8.out) ?_
                  · intro wq hSw
                    obtain ⟨c0, c1, c2, c3⟩ := hSw.2.2.2.2.2.2.2.2.2
                    go_simp
                  simp only [Act.put, List.getElem_toArray, List.getElem_cons_zero, List.getElem_cons_succ, List.setIfInBounds_toArray, List.set_cons_zero, List.set_cons_succ]
                  refine wpAnyH_take (i := 61) (v := .agg (Lk.row l (.slice oa3 l.out.length oc3) (.slice sa3 l.seen.length sc3))) rfl (by kernel_rfl) (by kernel_rfl) (by kernel_rfl) (fun _ _ _ h => h) (Or.inl ⟨by rfl, ?_⟩) (HS0.out _ G8.out) ?_
                  · intro wq hSw
                    obtain ⟨c0, c1, c2, c3⟩ := hSw.2.2.2.2.2.2.2.2.2
                    go_simp
                  simp only [Act.put, List.getElem_toArray, List.getElem_cons_zero, List.getElem_cons_succ, List.setIfInBounds_toArray, List.set_cons_zero, List.set_cons_succ]
                  refine wpAnyH_ready (rs := [60]) (by kernel_rfl) (by simp) ?_
                  refine AllReadyH.cons rfl (fun K hK => ?_) AllReadyH.nil
                  refine step_callG1 (by rfl) 22 (.tmp 163) _ rfl ent_okP (.agg (Lk.row l (.slice oa3 l.out.length oc3) (.slice sa3 l.seen.length sc3))) (by first | (simp [Act.eval]; done) | simp [Act.eval, Act.put]) (fun r' w' => r' = .bool l.ok ∧ Below (x8).heap.size (x8) w') ((implLinkOk_any _ l _ _ ((H12.out.2.2.2.2.1).below G8.out).2 (Nat.le_trans HB3.out.1 (by decide)) ((H12.out.2.1).below G8.out)).mono (fun e w' h => ⟨_, h.1, rfl, h.2⟩)) ?_
                  rintro r' x9 ⟨rfl, nb⟩
                  have G9 := (show Hid (Below W12.heap.size W12 x9) from G8.out.trans (nb.mono G8.out.size))
                  clear nb
                  refine hK.out _ _ (HS0.out _ G9.out) (fun _ => ?_)
                  clear hK K
                  simp only [Act.put, List.getElem_toArray, List.getElem_cons_zero, List.getElem_cons_succ, List.setIfInBounds_toArray, List.set_cons_zero, List.set_cons_succ]
                  refine wpAnyH_ready (rs := [62]) (by kernel_rfl) (by simp) ?_
                  refine AllReadyH.cons rfl (fun K hK => ?_) AllReadyH.nil
                  refine step_callG1 (by rfl) 23 (.tmp 165) _ rfl ent_okS (.agg (Lk.row l (.slice oa3 l.out.length oc3) (.slice sa3 l.seen.length sc3))) (by first | (simp [Act.eval]; done) | simp [Act.eval, Act.put]) (fun r' w' => r' = .bool l.ok ∧ Below (x9).heap.size (x9) w') ((specLinkOk_any _ l _ _ ((H12.out.2.2.2.2.1).below G9.out).2 (Nat.le_trans HB3.out.1 (by decide))).mono (fun e w' h => ⟨_, h.1, rfl, h.2⟩)) ?_
                  rintro r' x10 ⟨rfl, nb⟩
                  have G10 := (show Hid (Below W12.heap.size W12 x10) from G9.out.trans (nb.mono G9.out.size))
                  clear nb
                  refine hK.out _ _ (HS0.out _ G10.out) (fun _ => ?_)
                  clear hK K
                  simp only [Act.put, List.getElem_toArray, List.getElem_cons_zero, List.getElem_cons_succ, List.setIfInBounds_toArray, List.set_cons_zero, List.set_cons_succ]
                  refine wpAnyH_take (i := 63) (v := .bool false) rfl (by kernel_rfl) (by kernel_rfl) (by kernel_rfl) (fun _ _ _ h => h) (Or.inl ⟨by rfl, ?_⟩) (HS0.out _ G10.out) ?_
                  · intro wq hSw
                    go_simp
                  simp only [Act.put, List.getElem_toArray, List.getElem_cons_zero, List.getElem_cons_succ, List.setIfInBounds_toArray, List.set_cons_zero, List.set_cons_succ]
                  refine wpAnyH_take (i := 64) (v := .bool false) rfl (by kernel_rfl) (by kernel_rfl) (by kernel_rfl) (fun _ _ _ h => h) (Or.inl ⟨by rfl, ?_⟩) (HS0.out _ G10.out) ?_
                  · intro wq hSw
                    go_simp
                  simp only [Act.put, List.getElem_toArray, List.getElem_cons_zero, List.getElem_cons_succ, List.setIfInBounds_toArray, List.set_cons_zero, List.set_cons_succ]
                  refine wpAnyH_done (by kernel_rfl) ?_ _
                  have H13 := (show Hid (Below w.heap.size w x10 ∧ ET x10 ∧ EG e0 e1 e2 x10 ∧ EGT e0 e2 e3 e4 x10 ∧ LB x10 b3 l (.slice oa3 l.out.length oc3) (.slice sa3 l.seen.length sc3) ∧ MgB x10 b4 m (.slice ka m.cell.kids.length kc) ∧ LB x10 b5 n (.slice oa5 n.out.length oc5) (.slice sa5 n.seen.length sc5) ∧ LB x10 b8 n (.slice oa8 n.out.length oc8) (.slice sa8 n.seen.length sc8) ∧ LB x10 b11 x (.slice oa11 x.out.length oc11) (.slice sa11 x.seen.length sc11) ∧ PB x10 b12 p ∧ LB x10 b13 y (.slice oa13 y.out.length oc13) (.slice sa13 y.seen.length sc13) ∧ LB x10 b16 y (.slice oa16 y.out.length oc16) (.slice sa16 y.seen.length sc16) ∧ LB x10 b19 q (.slice oa19 q.out.length oc19) (.slice sa19 q.seen.length sc19) ∧ LB x10 b22 qa (.slice oa22 qa.out.length oc22) (.slice sa22 qa.seen.length sc22) ∧ LB x10 b23 r (.slice oa23 r.out.length oc23) (.slice sa23 r.seen.length sc23) ∧ LB x10 b26 c (.slice oa26 c.out.length oc26) (.slice sa26 c.seen.length sc26) ∧ LB x10 b28 c (.slice oa28 c.out.length oc28) (.slice sa28 c.seen.length sc28)) from ⟨base_below (H12.out.1) G10.out, (H12.out.2.1).below G10.out, (H12.out.2.2.1).below G10.out, (H12.out.2.2.2.1).below G10.out, (H12.out.2.2.2.2.1).below G10.out, (H12.out.2.2.2.2.2.1).below G10.out, (H12.out.2.2.2.2.2.2.1).below G10.out, (H12.out.2.2.2.2.2.2.2.1).below G10.out, (H12.out.2.2.2.2.2.2.2.2.1).below G10.out, (H12.out.2.2.2.2.2.2.2.2.2.1).below G10.out, (H12.out.2.2.2.2.2.2.2.2.2.2.1).below G10.out, (H12.out.2.2.2.2.2.2.2.2.2.2.2.1).below G10.out, (H12.out.2.2.2.2.2.2.2.2.2.2.2.2.1).below G10.out, (H12.out.2.2.2.2.2.2.2.2.2.2.2.2.2.1).below G10.out, (H12.out.2.2.2.2.2.2.2.2.2.2.2.2.2.2.1).below G10.out, (H12.out.2.2.2.2.2.2.2.2.2.2.2.2.2.2.2.1).below G10.out, (H12.out.2.2.2.2.2.2.2.2.2.2.2.2.2.2.2.2).below G10.out⟩)
                  go_wp2_with fail
                  go_meet
                  exact ⟨rfl, H13⟩
         case rest =>
         obtain ⟨rfl, H13⟩ := hcut
         clear H12 HS0 hst hgs hgf hgd hmk hlo hgs' hgf' hgd' hmk' hlo' HQ HB19 HB23
         generalize wc = W13 at *
         as_aux_lemma =>
          have hfm : m.fits := ms_fitsS (H13.out.2.2.2.2.2.1).2
          have HBN : Hid (n.bulk ≤ 300000) := by show _ ≤ _; rw [← HE.out.1]; exact bulk_send hfm HB3.out.1
          have HBY : Hid (y.bulk ≤ 300000) := by show _ ≤ _; rw [← HT.out.1]; exact bulk_take HB11.out.1
          have HON : Hid (l.ok = true → n.ok = true) := fun h => by rw [← HE.out.1]; exact send_ok h hfm
          have HOY : Hid (x.ok = true → y.ok = true) := fun h => by rw [← HT.out.1]; exact take_ok h
          have HOC : Hid (mk = true → c.ok = true) := fun h => by rw [← HN.out.1]; exact new_ok (HN.out.2.trans h)
          have HFD : Hid (gf = true → gd = true) := fun h => HT.out.2.2.symm.trans (fresh_due (HT.out.2.1.trans h))
          have HFM : Hid m.fits := hfm
          clear hfm
          go_upto_region 17 with fail
          go_cut [199] from 169 (fun v wc => v = .bool false ∧ Hid (Below w.heap.size w wc ∧ ET wc ∧ EG e0 e1 e2 wc ∧ EGT e0 e2 e3 e4 wc ∧ LB wc b3 l (.slice oa3 l.out.length oc3) (.slice sa3 l.seen.length sc3) ∧ MgB wc b4 m (.slice ka m.cell.kids.length kc) ∧ LB wc b5 n (.slice oa5 n.out.length oc5) (.slice sa5 n.seen.length sc5) ∧ LB wc b8 n (.slice oa8 n.out.length oc8) (.slice sa8 n.seen.length sc8) ∧ LB wc b11 x (.slice oa11 x.out.length oc11) (.slice sa11 x.seen.length sc11) ∧ PB wc b12 p ∧ LB wc b13 y (.slice oa13 y.out.length oc13) (.slice sa13 y.seen.length sc13) ∧ LB wc b16 y (.slice oa16 y.out.length oc16) (.slice sa16 y.seen.length sc16) ∧ LB wc b19 q (.slice oa19 q.out.length oc19) (.slice sa19 q.seen.length sc19) ∧ LB wc b22 qa (.slice oa22 qa.out.length oc22) (.slice sa22 qa.seen.length sc22) ∧ LB wc b23 r (.slice oa23 r.out.length oc23) (.slice sa23 r.seen.length sc23) ∧ LB wc b26 c (.slice oa26 c.out.length oc26) (.slice sa26 c.seen.length sc26) ∧ LB wc b28 c (.slice oa28 c.out.length oc28) (.slice sa28 c.seen.length sc28)))
          case first =>
            cases hlo : l.ok with
            | false =>
              obtain ⟨q0, q1, q2, q3⟩ := lbox (H13.out.2.2.2.2.1).1
              go_wp2_with fail
              refine (okS l _ false _ _ hlo (H13.out.2.2.2.2.1).2 (Nat.le_trans HB3.out.1 (by decide))).mono ?_
              rintro e y1 ⟨rfl, nb⟩
              have K1 := (show Hid (Below w.heap.size w y1 ∧ ET y1 ∧ EG e0 e1 e2 y1 ∧ EGT e0 e2 e3 e4 y1 ∧ LB y1 b3 l (.slice oa3 l.out.length oc3) (.slice sa3 l.seen.length sc3) ∧ MgB y1 b4 m (.slice ka m.cell.kids.length kc) ∧ LB y1 b5 n (.slice oa5 n.out.length oc5) (.slice sa5 n.seen.length sc5) ∧ LB y1 b8 n (.slice oa8 n.out.length oc8) (.slice sa8 n.seen.length sc8) ∧ LB y1 b11 x (.slice oa11 x.out.length oc11) (.slice sa11 x.seen.length sc11) ∧ PB y1 b12 p ∧ LB y1 b13 y (.slice oa13 y.out.length oc13) (.slice sa13 y.seen.length sc13) ∧ LB y1 b16 y (.slice oa16 y.out.length oc16) (.slice sa16 y.seen.length sc16) ∧ LB y1 b19 q (.slice oa19 q.out.length oc19) (.slice sa19 q.seen.length sc19) ∧ LB y1 b22 qa (.slice oa22 qa.out.length oc22) (.slice sa22 qa.seen.length sc22) ∧ LB y1 b23 r (.slice oa23 r.out.length oc23) (.slice sa23 r.seen.length sc23) ∧ LB y1 b26 c (.slice oa26 c.out.length oc26) (.slice sa26 c.seen.length sc26) ∧ LB y1 b28 c (.slice oa28 c.out.length oc28) (.slice sa28 c.seen.length sc28)) from ⟨base_below (H13.out.1) nb, (H13.out.2.1).below nb, (H13.out.2.2.1).below nb, (H13.out.2.2.2.1).below nb, (H13.out.2.2.2.2.1).below nb, (H13.out.2.2.2.2.2.1).below nb, (H13.out.2.2.2.2.2.2.1).below nb, (H13.out.2.2.2.2.2.2.2.1).below nb, (H13.out.2.2.2.2.2.2.2.2.1).below nb, (H13.out.2.2.2.2.2.2.2.2.2.1).below nb, (H13.out.2.2.2.2.2.2.2.2.2.2.1).below nb, (H13.out.2.2.2.2.2.2.2.2.2.2.2.1).below nb, (H13.out.2.2.2.2.2.2.2.2.2.2.2.2.1).below nb, (H13.out.2.2.2.2.2.2.2.2.2.2.2.2.2.1).below nb, (H13.out.2.2.2.2.2.2.2.2.2.2.2.2.2.2.1).below nb, (H13.out.2.2.2.2.2.2.2.2.2.2.2.2.2.2.2.1).below nb, (H13.out.2.2.2.2.2.2.2.2.2.2.2.2.2.2.2.2).below nb⟩)
              clear nb q0 q1 q2 q3 
              as_aux_lemma =>
               cases hxo : x.ok with
               | false =>
                 obtain ⟨q0, q1, q2, q3⟩ := lbox (K1.out.2.2.2.2.2.2.2.2.1).1
                 go_wp2_with fail
                 refine (okS x _ false _ _ hxo (K1.out.2.2.2.2.2.2.2.2.1).2 (Nat.le_trans HB11.out.1 (by decide))).mono ?_
                 rintro e y3 ⟨rfl, nb⟩
                 have K3 := (show Hid (Below w.heap.size w y3 ∧ ET y3 ∧ EG e0 e1 e2 y3 ∧ EGT e0 e2 e3 e4 y3 ∧ LB y3 b3 l (.slice oa3 l.out.length oc3) (.slice sa3 l.seen.length sc3) ∧ MgB y3 b4 m (.slice ka m.cell.kids.length kc) ∧ LB y3 b5 n (.slice oa5 n.out.length oc5) (.slice sa5 n.seen.length sc5) ∧ LB y3 b8 n (.slice oa8 n.out.length oc8) (.slice sa8 n.seen.length sc8) ∧ LB y3 b11 x (.slice oa11 x.out.length oc11) (.slice sa11 x.seen.length sc11) ∧ PB y3 b12 p ∧ LB y3 b13 y (.slice oa13 y.out.length oc13) (.slice sa13 y.seen.length sc13) ∧ LB y3 b16 y (.slice oa16 y.out.length oc16) (.slice sa16 y.seen.length sc16) ∧ LB y3 b19 q (.slice oa19 q.out.length oc19) (.slice sa19 q.seen.length sc19) ∧ LB y3 b22 qa (.slice oa22 qa.out.length oc22) (.slice sa22 qa.seen.length sc22) ∧ LB y3 b23 r (.slice oa23 r.out.length oc23) (.slice sa23 r.seen.length sc23) ∧ LB y3 b26 c (.slice oa26 c.out.length oc26) (.slice sa26 c.seen.length sc26) ∧ LB y3 b28 c (.slice oa28 c.out.length oc28) (.slice sa28 c.seen.length sc28)) from ⟨base_below (K1.out.1) nb, (K1.out.2.1).below nb, (K1.out.2.2.1).below nb, (K1.out.2.2.2.1).below nb, (K1.out.2.2.2.2.1).below nb, (K1.out.2.2.2.2.2.1).below nb, (K1.out.2.2.2.2.2.2.1).below nb, (K1.out.2.2.2.2.2.2.2.1).below nb, (K1.out.2.2.2.2.2.2.2.2.1).below nb, (K1.out.2.2.2.2.2.2.2.2.2.1).below nb, (K1.out.2.2.2.2.2.2.2.2.2.2.1).below nb, (K1.out.2.2.2.2.2.2.2.2.2.2.2.1).below nb, (K1.out.2.2.2.2.2.2.2.2.2.2.2.2.1).below nb, (K1.out.2.2.2.2.2.2.2.2.2.2.2.2.2.1).below nb, (K1.out.2.2.2.2.2.2.2.2.2.2.2.2.2.2.1).below nb, (K1.out.2.2.2.2.2.2.2.2.2.2.2.2.2.2.2.1).below nb, (K1.out.2.2.2.2.2.2.2.2.2.2.2.2.2.2.2.2).below nb⟩)
                 clear nb q0 q1 q2 q3 K1
                 as_aux_lemma =>
                  have hgfd : gf = false ∨ (gf = true ∧ gd = true) := by cases hgf : gf with | false => exact .inl rfl | true => exact .inr ⟨rfl, HFD.out hgf⟩
                  rcases hgfd with rfl | ⟨rfl, rfl⟩
                  · have hmk : mk = false ∨ mk = true := by cases mk <;> simp
                    rcases hmk with rfl | rfl
                    · go_wp2_with fail
                      go_meet
                      exact ⟨rfl, K3⟩
                    · have hco := HOC.out rfl
                      obtain ⟨q0, q1, q2, q3⟩ := lbox (K3.out.2.2.2.2.2.2.2.2.2.2.2.2.2.2.2.1).1
                      go_wp2_with fail
                      refine (okP c _ true _ _ hco (K3.out.2.2.2.2.2.2.2.2.2.2.2.2.2.2.2.1).2 (Nat.le_trans (ok_bulk hco) (by decide)) (K3.out.2.1)).mono ?_
                      rintro e y5 ⟨rfl, nb⟩
                      have K5 := (show Hid (Below w.heap.size w y5 ∧ ET y5 ∧ EG e0 e1 e2 y5 ∧ EGT e0 e2 e3 e4 y5 ∧ LB y5 b3 l (.slice oa3 l.out.length oc3) (.slice sa3 l.seen.length sc3) ∧ MgB y5 b4 m (.slice ka m.cell.kids.length kc) ∧ LB y5 b5 n (.slice oa5 n.out.length oc5) (.slice sa5 n.seen.length sc5) ∧ LB y5 b8 n (.slice oa8 n.out.length oc8) (.slice sa8 n.seen.length sc8) ∧ LB y5 b11 x (.slice oa11 x.out.length oc11) (.slice sa11 x.seen.length sc11) ∧ PB y5 b12 p ∧ LB y5 b13 y (.slice oa13 y.out.length oc13) (.slice sa13 y.seen.length sc13) ∧ LB y5 b16 y (.slice oa16 y.out.length oc16) (.slice sa16 y.seen.length sc16) ∧ LB y5 b19 q (.slice oa19 q.out.length oc19) (.slice sa19 q.seen.length sc19) ∧ LB y5 b22 qa (.slice oa22 qa.out.length oc22) (.slice sa22 qa.seen.length sc22) ∧ LB y5 b23 r (.slice oa23 r.out.length oc23) (.slice sa23 r.seen.length sc23) ∧ LB y5 b26 c (.slice oa26 c.out.length oc26) (.slice sa26 c.seen.length sc26) ∧ LB y5 b28 c (.slice oa28 c.out.length oc28) (.slice sa28 c.seen.length sc28)) from ⟨base_below (K3.out.1) nb, (K3.out.2.1).below nb, (K3.out.2.2.1).below nb, (K3.out.2.2.2.1).below nb, (K3.out.2.2.2.2.1).below nb, (K3.out.2.2.2.2.2.1).below nb, (K3.out.2.2.2.2.2.2.1).below nb, (K3.out.2.2.2.2.2.2.2.1).below nb, (K3.out.2.2.2.2.2.2.2.2.1).below nb, (K3.out.2.2.2.2.2.2.2.2.2.1).below nb, (K3.out.2.2.2.2.2.2.2.2.2.2.1).below nb, (K3.out.2.2.2.2.2.2.2.2.2.2.2.1).below nb, (K3.out.2.2.2.2.2.2.2.2.2.2.2.2.1).below nb, (K3.out.2.2.2.2.2.2.2.2.2.2.2.2.2.1).below nb, (K3.out.2.2.2.2.2.2.2.2.2.2.2.2.2.2.1).below nb, (K3.out.2.2.2.2.2.2.2.2.2.2.2.2.2.2.2.1).below nb, (K3.out.2.2.2.2.2.2.2.2.2.2.2.2.2.2.2.2).below nb⟩)
                      clear nb q0 q1 q2 q3 K3
                      as_aux_lemma =>
                       go_wp2_with fail
                       go_meet
                       exact ⟨rfl, K5⟩
                  · have hmk : mk = false ∨ mk = true := by cases mk <;> simp
                    rcases hmk with rfl | rfl
                    · go_wp2_with fail
                      go_meet
                      exact ⟨rfl, K3⟩
                    · have hco := HOC.out rfl
                      obtain ⟨q0, q1, q2, q3⟩ := lbox (K3.out.2.2.2.2.2.2.2.2.2.2.2.2.2.2.2.1).1
                      go_wp2_with fail
                      refine (okP c _ true _ _ hco (K3.out.2.2.2.2.2.2.2.2.2.2.2.2.2.2.2.1).2 (Nat.le_trans (ok_bulk hco) (by decide)) (K3.out.2.1)).mono ?_
                      rintro e y5 ⟨rfl, nb⟩
                      have K5 := (show Hid (Below w.heap.size w y5 ∧ ET y5 ∧ EG e0 e1 e2 y5 ∧ EGT e0 e2 e3 e4 y5 ∧ LB y5 b3 l (.slice oa3 l.out.length oc3) (.slice sa3 l.seen.length sc3) ∧ MgB y5 b4 m (.slice ka m.cell.kids.length kc) ∧ LB y5 b5 n (.slice oa5 n.out.length oc5) (.slice sa5 n.seen.length sc5) ∧ LB y5 b8 n (.slice oa8 n.out.length oc8) (.slice sa8 n.seen.length sc8) ∧ LB y5 b11 x (.slice oa11 x.out.length oc11) (.slice sa11 x.seen.length sc11) ∧ PB y5 b12 p ∧ LB y5 b13 y (.slice oa13 y.out.length oc13) (.slice sa13 y.seen.length sc13) ∧ LB y5 b16 y (.slice oa16 y.out.length oc16) (.slice sa16 y.seen.length sc16) ∧ LB y5 b19 q (.slice oa19 q.out.length oc19) (.slice sa19 q.seen.length sc19) ∧ LB y5 b22 qa (.slice oa22 qa.out.length oc22) (.slice sa22 qa.seen.length sc22) ∧ LB y5 b23 r (.slice oa23 r.out.length oc23) (.slice sa23 r.seen.length sc23) ∧ LB y5 b26 c (.slice oa26 c.out.length oc26) (.slice sa26 c.seen.length sc26) ∧ LB y5 b28 c (.slice oa28 c.out.length oc28) (.slice sa28 c.seen.length sc28)) from ⟨base_below (K3.out.1) nb, (K3.out.2.1).below nb, (K3.out.2.2.1).below nb, (K3.out.2.2.2.1).below nb, (K3.out.2.2.2.2.1).below nb, (K3.out.2.2.2.2.2.1).below nb, (K3.out.2.2.2.2.2.2.1).below nb, (K3.out.2.2.2.2.2.2.2.1).below nb, (K3.out.2.2.2.2.2.2.2.2.1).below nb, (K3.out.2.2.2.2.2.2.2.2.2.1).below nb, (K3.out.2.2.2.2.2.2.2.2.2.2.1).below nb, (K3.out.2.2.2.2.2.2.2.2.2.2.2.1).below nb, (K3.out.2.2.2.2.2.2.2.2.2.2.2.2.1).below nb, (K3.out.2.2.2.2.2.2.2.2.2.2.2.2.2.1).below nb, (K3.out.2.2.2.2.2.2.2.2.2.2.2.2.2.2.1).below nb, (K3.out.2.2.2.2.2.2.2.2.2.2.2.2.2.2.2.1).below nb, (K3.out.2.2.2.2.2.2.2.2.2.2.2.2.2.2.2.2).below nb⟩)
                      clear nb q0 q1 q2 q3 K3
                      as_aux_lemma =>
                       go_wp2_with fail
                       go_meet
                       exact ⟨rfl, K5⟩
               | true =>
                 obtain ⟨q0, q1, q2, q3⟩ := lbox (K1.out.2.2.2.2.2.2.2.2.1).1
                 go_wp2_with fail
                 refine (okS x _ true _ _ hxo (K1.out.2.2.2.2.2.2.2.2.1).2 (Nat.le_trans HB11.out.1 (by decide))).mono ?_
                 rintro e y3 ⟨rfl, nb⟩
                 have K3 := (show Hid (Below w.heap.size w y3 ∧ ET y3 ∧ EG e0 e1 e2 y3 ∧ EGT e0 e2 e3 e4 y3 ∧ LB y3 b3 l (.slice oa3 l.out.length oc3) (.slice sa3 l.seen.length sc3) ∧ MgB y3 b4 m (.slice ka m.cell.kids.length kc) ∧ LB y3 b5 n (.slice oa5 n.out.length oc5) (.slice sa5 n.seen.length sc5) ∧ LB y3 b8 n (.slice oa8 n.out.length oc8) (.slice sa8 n.seen.length sc8) ∧ LB y3 b11 x (.slice oa11 x.out.length oc11) (.slice sa11 x.seen.length sc11) ∧ PB y3 b12 p ∧ LB y3 b13 y (.slice oa13 y.out.length oc13) (.slice sa13 y.seen.length sc13) ∧ LB y3 b16 y (.slice oa16 y.out.length oc16) (.slice sa16 y.seen.length sc16) ∧ LB y3 b19 q (.slice oa19 q.out.length oc19) (.slice sa19 q.seen.length sc19) ∧ LB y3 b22 qa (.slice oa22 qa.out.length oc22) (.slice sa22 qa.seen.length sc22) ∧ LB y3 b23 r (.slice oa23 r.out.length oc23) (.slice sa23 r.seen.length sc23) ∧ LB y3 b26 c (.slice oa26 c.out.length oc26) (.slice sa26 c.seen.length sc26) ∧ LB y3 b28 c (.slice oa28 c.out.length oc28) (.slice sa28 c.seen.length sc28)) from ⟨base_below (K1.out.1) nb, (K1.out.2.1).below nb, (K1.out.2.2.1).below nb, (K1.out.2.2.2.1).below nb, (K1.out.2.2.2.2.1).below nb, (K1.out.2.2.2.2.2.1).below nb, (K1.out.2.2.2.2.2.2.1).below nb, (K1.out.2.2.2.2.2.2.2.1).below nb, (K1.out.2.2.2.2.2.2.2.2.1).below nb, (K1.out.2.2.2.2.2.2.2.2.2.1).below nb, (K1.out.2.2.2.2.2.2.2.2.2.2.1).below nb, (K1.out.2.2.2.2.2.2.2.2.2.2.2.1).below nb, (K1.out.2.2.2.2.2.2.2.2.2.2.2.2.1).below nb, (K1.out.2.2.2.2.2.2.2.2.2.2.2.2.2.1).below nb, (K1.out.2.2.2.2.2.2.2.2.2.2.2.2.2.2.1).below nb, (K1.out.2.2.2.2.2.2.2.2.2.2.2.2.2.2.2.1).below nb, (K1.out.2.2.2.2.2.2.2.2.2.2.2.2.2.2.2.2).below nb⟩)
                 clear nb q0 q1 q2 q3 K1
                 as_aux_lemma =>
                  obtain ⟨q0, q1, q2, q3⟩ := lbox (K3.out.2.2.2.2.2.2.2.2.2.2.1).1
                  go_wp2_with fail
                  refine (okP y _ true _ _ (HOY.out hxo) (K3.out.2.2.2.2.2.2.2.2.2.2.1).2 (Nat.le_trans HBY.out (by decide)) (K3.out.2.1)).mono ?_
                  rintro e y4 ⟨rfl, nb⟩
                  have K4 := (show Hid (Below w.heap.size w y4 ∧ ET y4 ∧ EG e0 e1 e2 y4 ∧ EGT e0 e2 e3 e4 y4 ∧ LB y4 b3 l (.slice oa3 l.out.length oc3) (.slice sa3 l.seen.length sc3) ∧ MgB y4 b4 m (.slice ka m.cell.kids.length kc) ∧ LB y4 b5 n (.slice oa5 n.out.length oc5) (.slice sa5 n.seen.length sc5) ∧ LB y4 b8 n (.slice oa8 n.out.length oc8) (.slice sa8 n.seen.length sc8) ∧ LB y4 b11 x (.slice oa11 x.out.length oc11) (.slice sa11 x.seen.length sc11) ∧ PB y4 b12 p ∧ LB y4 b13 y (.slice oa13 y.out.length oc13) (.slice sa13 y.seen.length sc13) ∧ LB y4 b16 y (.slice oa16 y.out.length oc16) (.slice sa16 y.seen.length sc16) ∧ LB y4 b19 q (.slice oa19 q.out.length oc19) (.slice sa19 q.seen.length sc19) ∧ LB y4 b22 qa (.slice oa22 qa.out.length oc22) (.slice sa22 qa.seen.length sc22) ∧ LB y4 b23 r (.slice oa23 r.out.length oc23) (.slice sa23 r.seen.length sc23) ∧ LB y4 b26 c (.slice oa26 c.out.length oc26) (.slice sa26 c.seen.length sc26) ∧ LB y4 b28 c (.slice oa28 c.out.length oc28) (.slice sa28 c.seen.length sc28)) from ⟨base_below (K3.out.1) nb, (K3.out.2.1).below nb, (K3.out.2.2.1).below nb, (K3.out.2.2.2.1).below nb, (K3.out.2.2.2.2.1).below nb, (K3.out.2.2.2.2.2.1).below nb, (K3.out.2.2.2.2.2.2.1).below nb, (K3.out.2.2.2.2.2.2.2.1).below nb, (K3.out.2.2.2.2.2.2.2.2.1).below nb, (K3.out.2.2.2.2.2.2.2.2.2.1).below nb, (K3.out.2.2.2.2.2.2.2.2.2.2.1).below nb, (K3.out.2.2.2.2.2.2.2.2.2.2.2.1).below nb, (K3.out.2.2.2.2.2.2.2.2.2.2.2.2.1).below nb, (K3.out.2.2.2.2.2.2.2.2.2.2.2.2.2.1).below nb, (K3.out.2.2.2.2.2.2.2.2.2.2.2.2.2.2.1).below nb, (K3.out.2.2.2.2.2.2.2.2.2.2.2.2.2.2.2.1).below nb, (K3.out.2.2.2.2.2.2.2.2.2.2.2.2.2.2.2.2).below nb⟩)
                  clear nb q0 q1 q2 q3 K3
                  as_aux_lemma =>
                   have hgfd : gf = false ∨ (gf = true ∧ gd = true) := by cases hgf : gf with | false => exact .inl rfl | true => exact .inr ⟨rfl, HFD.out hgf⟩
                   rcases hgfd with rfl | ⟨rfl, rfl⟩
                   · have hmk : mk = false ∨ mk = true := by cases mk <;> simp
                     rcases hmk with rfl | rfl
                     · go_wp2_with fail
                       go_meet
                       exact ⟨rfl, K4⟩
                     · have hco := HOC.out rfl
                       obtain ⟨q0, q1, q2, q3⟩ := lbox (K4.out.2.2.2.2.2.2.2.2.2.2.2.2.2.2.2.1).1
                       go_wp2_with fail
                       refine (okP c _ true _ _ hco (K4.out.2.2.2.2.2.2.2.2.2.2.2.2.2.2.2.1).2 (Nat.le_trans (ok_bulk hco) (by decide)) (K4.out.2.1)).mono ?_
                       rintro e y5 ⟨rfl, nb⟩
                       have K5 := (show Hid (Below w.heap.size w y5 ∧ ET y5 ∧ EG e0 e1 e2 y5 ∧ EGT e0 e2 e3 e4 y5 ∧ LB y5 b3 l (.slice oa3 l.out.length oc3) (.slice sa3 l.seen.length sc3) ∧ MgB y5 b4 m (.slice ka m.cell.kids.length kc) ∧ LB y5 b5 n (.slice oa5 n.out.length oc5) (.slice sa5 n.seen.length sc5) ∧ LB y5 b8 n (.slice oa8 n.out.length oc8) (.slice sa8 n.seen.length sc8) ∧ LB y5 b11 x (.slice oa11 x.out.length oc11) (.slice sa11 x.seen.length sc11) ∧ PB y5 b12 p ∧ LB y5 b13 y (.slice oa13 y.out.length oc13) (.slice sa13 y.seen.length sc13) ∧ LB y5 b16 y (.slice oa16 y.out.length oc16) (.slice sa16 y.seen.length sc16) ∧ LB y5 b19 q (.slice oa19 q.out.length oc19) (.slice sa19 q.seen.length sc19) ∧ LB y5 b22 qa (.slice oa22 qa.out.length oc22) (.slice sa22 qa.seen.length sc22) ∧ LB y5 b23 r (.slice oa23 r.out.length oc23) (.slice sa23 r.seen.length sc23) ∧ LB y5 b26 c (.slice oa26 c.out.length oc26) (.slice sa26 c.seen.length sc26) ∧ LB y5 b28 c (.slice oa28 c.out.length oc28) (.slice sa28 c.seen.length sc28)) from ⟨base_below (K4.out.1) nb, (K4.out.2.1).below nb, (K4.out.2.2.1).below nb, (K4.out.2.2.2.1).below nb, (K4.out.2.2.2.2.1).below nb, (K4.out.2.2.2.2.2.1).below nb, (K4.out.2.2.2.2.2.2.1).below nb, (K4.out.2.2.2.2.2.2.2.1).below nb, (K4.out.2.2.2.2.2.2.2.2.1).below nb, (K4.out.2.2.2.2.2.2.2.2.2.1).below nb, (K4.out.2.2.2.2.2.2.2.2.2.2.1).below nb, (K4.out.2.2.2.2.2.2.2.2.2.2.2.1).below nb, (K4.out.2.2.2.2.2.2.2.2.2.2.2.2.1).below nb, (K4.out.2.2.2.2.2.2.2.2.2.2.2.2.2.1).below nb, (K4.out.2.2.2.2.2.2.2.2.2.2.2.2.2.2.1).below nb, (K4.out.2.2.2.2.2.2.2.2.2.2.2.2.2.2.2.1).below nb, (K4.out.2.2.2.2.2.2.2.2.2.2.2.2.2.2.2.2).below nb⟩)
                       clear nb q0 q1 q2 q3 K4
                       as_aux_lemma =>
                        go_wp2_with fail
                        go_meet
                        exact ⟨rfl, K5⟩
                   · have hmk : mk = false ∨ mk = true := by cases mk <;> simp
                     rcases hmk with rfl | rfl
                     · go_wp2_with fail
                       go_meet
                       exact ⟨rfl, K4⟩
                     · have hco := HOC.out rfl
                       obtain ⟨q0, q1, q2, q3⟩ := lbox (K4.out.2.2.2.2.2.2.2.2.2.2.2.2.2.2.2.1).1
                       go_wp2_with fail
                       refine (okP c _ true _ _ hco (K4.out.2.2.2.2.2.2.2.2.2.2.2.2.2.2.2.1).2 (Nat.le_trans (ok_bulk hco) (by decide)) (K4.out.2.1)).mono ?_
                       rintro e y5 ⟨rfl, nb⟩
                       have K5 := (show Hid (Below w.heap.size w y5 ∧ ET y5 ∧ EG e0 e1 e2 y5 ∧ EGT e0 e2 e3 e4 y5 ∧ LB y5 b3 l (.slice oa3 l.out.length oc3) (.slice sa3 l.seen.length sc3) ∧ MgB y5 b4 m (.slice ka m.cell.kids.length kc) ∧ LB y5 b5 n (.slice oa5 n.out.length oc5) (.slice sa5 n.seen.length sc5) ∧ LB y5 b8 n (.slice oa8 n.out.length oc8) (.slice sa8 n.seen.length sc8) ∧ LB y5 b11 x (.slice oa11 x.out.length oc11) (.slice sa11 x.seen.length sc11) ∧ PB y5 b12 p ∧ LB y5 b13 y (.slice oa13 y.out.length oc13) (.slice sa13 y.seen.length sc13) ∧ LB y5 b16 y (.slice oa16 y.out.length oc16) (.slice sa16 y.seen.length sc16) ∧ LB y5 b19 q (.slice oa19 q.out.length oc19) (.slice sa19 q.seen.length sc19) ∧ LB y5 b22 qa (.slice oa22 qa.out.length oc22) (.slice sa22 qa.seen.length sc22) ∧ LB y5 b23 r (.slice oa23 r.out.length oc23) (.slice sa23 r.seen.length sc23) ∧ LB y5 b26 c (.slice oa26 c.out.length oc26) (.slice sa26 c.seen.length sc26) ∧ LB y5 b28 c (.slice oa28 c.out.length oc28) (.slice sa28 c.seen.length sc28)) from ⟨base_below (K4.out.1) nb, (K4.out.2.1).below nb, (K4.out.2.2.1).below nb, (K4.out.2.2.2.1).below nb, (K4.out.2.2.2.2.1).below nb, (K4.out.2.2.2.2.2.1).below nb, (K4.out.2.2.2.2.2.2.1).below nb, (K4.out.2.2.2.2.2.2.2.1).below nb, (K4.out.2.2.2.2.2.2.2.2.1).below nb, (K4.out.2.2.2.2.2.2.2.2.2.1).below nb, (K4.out.2.2.2.2.2.2.2.2.2.2.1).below nb, (K4.out.2.2.2.2.2.2.2.2.2.2.2.1).below nb, (K4.out.2.2.2.2.2.2.2.2.2.2.2.2.1).below nb, (K4.out.2.2.2.2.2.2.2.2.2.2.2.2.2.1).below nb, (K4.out.2.2.2.2.2.2.2.2.2.2.2.2.2.2.1).below nb, (K4.out.2.2.2.2.2.2.2.2.2.2.2.2.2.2.2.1).below nb, (K4.out.2.2.2.2.2.2.2.2.2.2.2.2.2.2.2.2).below nb⟩)
                       clear nb q0 q1 q2 q3 K4
                       as_aux_lemma =>
                        go_wp2_with fail
                        go_meet
                        exact ⟨rfl, K5⟩
            | true =>
              obtain ⟨q0, q1, q2, q3⟩ := lbox (H13.out.2.2.2.2.1).1
              go_wp2_with fail
              refine (okS l _ true _ _ hlo (H13.out.2.2.2.2.1).2 (Nat.le_trans HB3.out.1 (by decide))).mono ?_
              rintro e y1 ⟨rfl, nb⟩
              have K1 := (show Hid (Below w.heap.size w y1 ∧ ET y1 ∧ EG e0 e1 e2 y1 ∧ EGT e0 e2 e3 e4 y1 ∧ LB y1 b3 l (.slice oa3 l.out.length oc3) (.slice sa3 l.seen.length sc3) ∧ MgB y1 b4 m (.slice ka m.cell.kids.length kc) ∧ LB y1 b5 n (.slice oa5 n.out.length oc5) (.slice sa5 n.seen.length sc5) ∧ LB y1 b8 n (.slice oa8 n.out.length oc8) (.slice sa8 n.seen.length sc8) ∧ LB y1 b11 x (.slice oa11 x.out.length oc11) (.slice sa11 x.seen.length sc11) ∧ PB y1 b12 p ∧ LB y1 b13 y (.slice oa13 y.out.length oc13) (.slice sa13 y.seen.length sc13) ∧ LB y1 b16 y (.slice oa16 y.out.length oc16) (.slice sa16 y.seen.length sc16) ∧ LB y1 b19 q (.slice oa19 q.out.length oc19) (.slice sa19 q.seen.length sc19) ∧ LB y1 b22 qa (.slice oa22 qa.out.length oc22) (.slice sa22 qa.seen.length sc22) ∧ LB y1 b23 r (.slice oa23 r.out.length oc23) (.slice sa23 r.seen.length sc23) ∧ LB y1 b26 c (.slice oa26 c.out.length oc26) (.slice sa26 c.seen.length sc26) ∧ LB y1 b28 c (.slice oa28 c.out.length oc28) (.slice sa28 c.seen.length sc28)) from ⟨base_below (H13.out.1) nb, (H13.out.2.1).below nb, (H13.out.2.2.1).below nb, (H13.out.2.2.2.1).below nb, (H13.out.2.2.2.2.1).below nb, (H13.out.2.2.2.2.2.1).below nb, (H13.out.2.2.2.2.2.2.1).below nb, (H13.out.2.2.2.2.2.2.2.1).below nb, (H13.out.2.2.2.2.2.2.2.2.1).below nb, (H13.out.2.2.2.2.2.2.2.2.2.1).below nb, (H13.out.2.2.2.2.2.2.2.2.2.2.1).below nb, (H13.out.2.2.2.2.2.2.2.2.2.2.2.1).below nb, (H13.out.2.2.2.2.2.2.2.2.2.2.2.2.1).below nb, (H13.out.2.2.2.2.2.2.2.2.2.2.2.2.2.1).below nb, (H13.out.2.2.2.2.2.2.2.2.2.2.2.2.2.2.1).below nb, (H13.out.2.2.2.2.2.2.2.2.2.2.2.2.2.2.2.1).below nb, (H13.out.2.2.2.2.2.2.2.2.2.2.2.2.2.2.2.2).below nb⟩)
              clear nb q0 q1 q2 q3 
              as_aux_lemma =>
               obtain ⟨q0, q1, q2, q3⟩ := lbox (K1.out.2.2.2.2.2.2.1).1
               go_wp2_with fail
               refine (okP n _ true _ _ (HON.out hlo) (K1.out.2.2.2.2.2.2.1).2 (Nat.le_trans HBN.out (by decide)) (K1.out.2.1)).mono ?_
               rintro e y2 ⟨rfl, nb⟩
               have K2 := (show Hid (Below w.heap.size w y2 ∧ ET y2 ∧ EG e0 e1 e2 y2 ∧ EGT e0 e2 e3 e4 y2 ∧ LB y2 b3 l (.slice oa3 l.out.length oc3) (.slice sa3 l.seen.length sc3) ∧ MgB y2 b4 m (.slice ka m.cell.kids.length kc) ∧ LB y2 b5 n (.slice oa5 n.out.length oc5) (.slice sa5 n.seen.length sc5) ∧ LB y2 b8 n (.slice oa8 n.out.length oc8) (.slice sa8 n.seen.length sc8) ∧ LB y2 b11 x (.slice oa11 x.out.length oc11) (.slice sa11 x.seen.length sc11) ∧ PB y2 b12 p ∧ LB y2 b13 y (.slice oa13 y.out.length oc13) (.slice sa13 y.seen.length sc13) ∧ LB y2 b16 y (.slice oa16 y.out.length oc16) (.slice sa16 y.seen.length sc16) ∧ LB y2 b19 q (.slice oa19 q.out.length oc19) (.slice sa19 q.seen.length sc19) ∧ LB y2 b22 qa (.slice oa22 qa.out.length oc22) (.slice sa22 qa.seen.length sc22) ∧ LB y2 b23 r (.slice oa23 r.out.length oc23) (.slice sa23 r.seen.length sc23) ∧ LB y2 b26 c (.slice oa26 c.out.length oc26) (.slice sa26 c.seen.length sc26) ∧ LB y2 b28 c (.slice oa28 c.out.length oc28) (.slice sa28 c.seen.length sc28)) from ⟨base_below (K1.out.1) nb, (K1.out.2.1).below nb, (K1.out.2.2.1).below nb, (K1.out.2.2.2.1).below nb, (K1.out.2.2.2.2.1).below nb, (K1.out.2.2.2.2.2.1).below nb, (K1.out.2.2.2.2.2.2.1).below nb, (K1.out.2.2.2.2.2.2.2.1).below nb, (K1.out.2.2.2.2.2.2.2.2.1).below nb, (K1.out.2.2.2.2.2.2.2.2.2.1).below nb, (K1.out.2.2.2.2.2.2.2.2.2.2.1).below nb, (K1.out.2.2.2.2.2.2.2.2.2.2.2.1).below nb, (K1.out.2.2.2.2.2.2.2.2.2.2.2.2.1).below nb, (K1.out.2.2.2.2.2.2.2.2.2.2.2.2.2.1).below nb, (K1.out.2.2.2.2.2.2.2.2.2.2.2.2.2.2.1).below nb, (K1.out.2.2.2.2.2.2.2.2.2.2.2.2.2.2.2.1).below nb, (K1.out.2.2.2.2.2.2.2.2.2.2.2.2.2.2.2.2).below nb⟩)
               clear nb q0 q1 q2 q3 K1
               as_aux_lemma =>
                cases hxo : x.ok with
                | false =>
                  obtain ⟨q0, q1, q2, q3⟩ := lbox (K2.out.2.2.2.2.2.2.2.2.1).1
                  go_wp2_with fail
                  refine (okS x _ false _ _ hxo (K2.out.2.2.2.2.2.2.2.2.1).2 (Nat.le_trans HB11.out.1 (by decide))).mono ?_
                  rintro e y3 ⟨rfl, nb⟩
                  have K3 := (show Hid (Below w.heap.size w y3 ∧ ET y3 ∧ EG e0 e1 e2 y3 ∧ EGT e0 e2 e3 e4 y3 ∧ LB y3 b3 l (.slice oa3 l.out.length oc3) (.slice sa3 l.seen.length sc3) ∧ MgB y3 b4 m (.slice ka m.cell.kids.length kc) ∧ LB y3 b5 n (.slice oa5 n.out.length oc5) (.slice sa5 n.seen.length sc5) ∧ LB y3 b8 n (.slice oa8 n.out.length oc8) (.slice sa8 n.seen.length sc8) ∧ LB y3 b11 x (.slice oa11 x.out.length oc11) (.slice sa11 x.seen.length sc11) ∧ PB y3 b12 p ∧ LB y3 b13 y (.slice oa13 y.out.length oc13) (.slice sa13 y.seen.length sc13) ∧ LB y3 b16 y (.slice oa16 y.out.length oc16) (.slice sa16 y.seen.length sc16) ∧ LB y3 b19 q (.slice oa19 q.out.length oc19) (.slice sa19 q.seen.length sc19) ∧ LB y3 b22 qa (.slice oa22 qa.out.length oc22) (.slice sa22 qa.seen.length sc22) ∧ LB y3 b23 r (.slice oa23 r.out.length oc23) (.slice sa23 r.seen.length sc23) ∧ LB y3 b26 c (.slice oa26 c.out.length oc26) (.slice sa26 c.seen.length sc26) ∧ LB y3 b28 c (.slice oa28 c.out.length oc28) (.slice sa28 c.seen.length sc28)) from ⟨base_below (K2.out.1) nb, (K2.out.2.1).below nb, (K2.out.2.2.1).below nb, (K2.out.2.2.2.1).below nb, (K2.out.2.2.2.2.1).below nb, (K2.out.2.2.2.2.2.1).below nb, (K2.out.2.2.2.2.2.2.1).below nb, (K2.out.2.2.2.2.2.2.2.1).below nb, (K2.out.2.2.2.2.2.2.2.2.1).below nb, (K2.out.2.2.2.2.2.2.2.2.2.1).below nb, (K2.out.2.2.2.2.2.2.2.2.2.2.1).below nb, (K2.out.2.2.2.2.2.2.2.2.2.2.2.1).below nb, (K2.out.2.2.2.2.2.2.2.2.2.2.2.2.1).below nb, (K2.out.2.2.2.2.2.2.2.2.2.2.2.2.2.1).below nb, (K2.out.2.2.2.2.2.2.2.2.2.2.2.2.2.2.1).below nb, (K2.out.2.2.2.2.2.2.2.2.2.2.2.2.2.2.2.1).below nb, (K2.out.2.2.2.2.2.2.2.2.2.2.2.2.2.2.2.2).below nb⟩)
                  clear nb q0 q1 q2 q3 K2
                  as_aux_lemma =>
                   have hgfd : gf = false ∨ (gf = true ∧ gd = true) := by cases hgf : gf with | false => exact .inl rfl | true => exact .inr ⟨rfl, HFD.out hgf⟩
                   rcases hgfd with rfl | ⟨rfl, rfl⟩
                   · have hmk : mk = false ∨ mk = true := by cases mk <;> simp
                     rcases hmk with rfl | rfl
                     · go_wp2_with fail
                       go_meet
                       exact ⟨rfl, K3⟩
                     · have hco := HOC.out rfl
                       obtain ⟨q0, q1, q2, q3⟩ := lbox (K3.out.2.2.2.2.2.2.2.2.2.2.2.2.2.2.2.1).1
                       go_wp2_with fail
                       refine (okP c _ true _ _ hco (K3.out.2.2.2.2.2.2.2.2.2.2.2.2.2.2.2.1).2 (Nat.le_trans (ok_bulk hco) (by decide)) (K3.out.2.1)).mono ?_
                       rintro e y5 ⟨rfl, nb⟩
                       have K5 := (show Hid (Below w.heap.size w y5 ∧ ET y5 ∧ EG e0 e1 e2 y5 ∧ EGT e0 e2 e3 e4 y5 ∧ LB y5 b3 l (.slice oa3 l.out.length oc3) (.slice sa3 l.seen.length sc3) ∧ MgB y5 b4 m (.slice ka m.cell.kids.length kc) ∧ LB y5 b5 n (.slice oa5 n.out.length oc5) (.slice sa5 n.seen.length sc5) ∧ LB y5 b8 n (.slice oa8 n.out.length oc8) (.slice sa8 n.seen.length sc8) ∧ LB y5 b11 x (.slice oa11 x.out.length oc11) (.slice sa11 x.seen.length sc11) ∧ PB y5 b12 p ∧ LB y5 b13 y (.slice oa13 y.out.length oc13) (.slice sa13 y.seen.length sc13) ∧ LB y5 b16 y (.slice oa16 y.out.length oc16) (.slice sa16 y.seen.length sc16) ∧ LB y5 b19 q (.slice oa19 q.out.length oc19) (.slice sa19 q.seen.length sc19) ∧ LB y5 b22 qa (.slice oa22 qa.out.length oc22) (.slice sa22 qa.seen.length sc22) ∧ LB y5 b23 r (.slice oa23 r.out.length oc23) (.slice sa23 r.seen.length sc23) ∧ LB y5 b26 c (.slice oa26 c.out.length oc26) (.slice sa26 c.seen.length sc26) ∧ LB y5 b28 c (.slice oa28 c.out.length oc28) (.slice sa28 c.seen.length sc28)) from ⟨base_below (K3.out.1) nb, (K3.out.2.1).below nb, (K3.out.2.2.1).below nb, (K3.out.2.2.2.1).below nb, (K3.out.2.2.2.2.1).below nb, (K3.out.2.2.2.2.2.1).below nb, (K3.out.2.2.2.2.2.2.1).below nb, (K3.out.2.2.2.2.2.2.2.1).below nb, (K3.out.2.2.2.2.2.2.2.2.1).below nb, (K3.out.2.2.2.2.2.2.2.2.2.1).below nb, (K3.out.2.2.2.2.2.2.2.2.2.2.1).below nb, (K3.out.2.2.2.2.2.2.2.2.2.2.2.1).below nb, (K3.out.2.2.2.2.2.2.2.2.2.2.2.2.1).below nb, (K3.out.2.2.2.2.2.2.2.2.2.2.2.2.2.1).below nb, (K3.out.2.2.2.2.2.2.2.2.2.2.2.2.2.2.1).below nb, (K3.out.2.2.2.2.2.2.2.2.2.2.2.2.2.2.2.1).below nb, (K3.out.2.2.2.2.2.2.2.2.2.2.2.2.2.2.2.2).below nb⟩)
                       clear nb q0 q1 q2 q3 K3
                       as_aux_lemma =>
                        go_wp2_with fail
                        go_meet
                        exact ⟨rfl, K5⟩
                   · have hmk : mk = false ∨ mk = true := by cases mk <;> simp
                     rcases hmk with rfl | rfl
                     · go_wp2_with fail
                       go_meet
                       exact ⟨rfl, K3⟩
                     · have hco := HOC.out rfl
                       obtain ⟨q0, q1, q2, q3⟩ := lbox (K3.out.2.2.2.2.2.2.2.2.2.2.2.2.2.2.2.1).1
                       go_wp2_with fail
                       refine (okP c _ true _ _ hco (K3.out.2.2.2.2.2.2.2.2.2.2.2.2.2.2.2.1).2 (Nat.le_trans (ok_bulk hco) (by decide)) (K3.out.2.1)).mono ?_
                       rintro e y5 ⟨rfl, nb⟩
                       have K5 := (show Hid (Below w.heap.size w y5 ∧ ET y5 ∧ EG e0 e1 e2 y5 ∧ EGT e0 e2 e3 e4 y5 ∧ LB y5 b3 l (.slice oa3 l.out.length oc3) (.slice sa3 l.seen.length sc3) ∧ MgB y5 b4 m (.slice ka m.cell.kids.length kc) ∧ LB y5 b5 n (.slice oa5 n.out.length oc5) (.slice sa5 n.seen.length sc5) ∧ LB y5 b8 n (.slice oa8 n.out.length oc8) (.slice sa8 n.seen.length sc8) ∧ LB y5 b11 x (.slice oa11 x.out.length oc11) (.slice sa11 x.seen.length sc11) ∧ PB y5 b12 p ∧ LB y5 b13 y (.slice oa13 y.out.length oc13) (.slice sa13 y.seen.length sc13) ∧ LB y5 b16 y (.slice oa16 y.out.length oc16) (.slice sa16 y.seen.length sc16) ∧ LB y5 b19 q (.slice oa19 q.out.length oc19) (.slice sa19 q.seen.length sc19) ∧ LB y5 b22 qa (.slice oa22 qa.out.length oc22) (.slice sa22 qa.seen.length sc22) ∧ LB y5 b23 r (.slice oa23 r.out.length oc23) (.slice sa23 r.seen.length sc23) ∧ LB y5 b26 c (.slice oa26 c.out.length oc26) (.slice sa26 c.seen.length sc26) ∧ LB y5 b28 c (.slice oa28 c.out.length oc28) (.slice sa28 c.seen.length sc28)) from ⟨base_below (K3.out.1) nb, (K3.out.2.1).below nb, (K3.out.2.2.1).below nb, (K3.out.2.2.2.1).below nb, (K3.out.2.2.2.2.1).below nb, (K3.out.2.2.2.2.2.1).below nb, (K3.out.2.2.2.2.2.2.1).below nb, (K3.out.2.2.2.2.2.2.2.1).below nb, (K3.out.2.2.2.2.2.2.2.2.1).below nb, (K3.out.2.2.2.2.2.2.2.2.2.1).below nb, (K3.out.2.2.2.2.2.2.2.2.2.2.1).below nb, (K3.out.2.2.2.2.2.2.2.2.2.2.2.1).below nb, (K3.out.2.2.2.2.2.2.2.2.2.2.2.2.1).below nb, (K3.out.2.2.2.2.2.2.2.2.2.2.2.2.2.1).below nb, (K3.out.2.2.2.2.2.2.2.2.2.2.2.2.2.2.1).below nb, (K3.out.2.2.2.2.2.2.2.2.2.2.2.2.2.2.2.1).below nb, (K3.out.2.2.2.2.2.2.2.2.2.2.2.2.2.2.2.2).below nb⟩)
                       clear nb q0 q1 q2 q3 K3
                       as_aux_lemma =>
                        go_wp2_with fail
                        go_meet
                        exact ⟨rfl, K5⟩
                | true =>
                  obtain ⟨q0, q1, q2, q3⟩ := lbox (K2.out.2.2.2.2.2.2.2.2.1).1
                  go_wp2_with fail
                  refine (okS x _ true _ _ hxo (K2.out.2.2.2.2.2.2.2.2.1).2 (Nat.le_trans HB11.out.1 (by decide))).mono ?_
                  rintro e y3 ⟨rfl, nb⟩
                  have K3 := (show Hid (Below w.heap.size w y3 ∧ ET y3 ∧ EG e0 e1 e2 y3 ∧ EGT e0 e2 e3 e4 y3 ∧ LB y3 b3 l (.slice oa3 l.out.length oc3) (.slice sa3 l.seen.length sc3) ∧ MgB y3 b4 m (.slice ka m.cell.kids.length kc) ∧ LB y3 b5 n (.slice oa5 n.out.length oc5) (.slice sa5 n.seen.length sc5) ∧ LB y3 b8 n (.slice oa8 n.out.length oc8) (.slice sa8 n.seen.length sc8) ∧ LB y3 b11 x (.slice oa11 x.out.length oc11) (.slice sa11 x.seen.length sc11) ∧ PB y3 b12 p ∧ LB y3 b13 y (.slice oa13 y.out.length oc13) (.slice sa13 y.seen.length sc13) ∧ LB y3 b16 y (.slice oa16 y.out.length oc16) (.slice sa16 y.seen.length sc16) ∧ LB y3 b19 q (.slice oa19 q.out.length oc19) (.slice sa19 q.seen.length sc19) ∧ LB y3 b22 qa (.slice oa22 qa.out.length oc22) (.slice sa22 qa.seen.length sc22) ∧ LB y3 b23 r (.slice oa23 r.out.length oc23) (.slice sa23 r.seen.length sc23) ∧ LB y3 b26 c (.slice oa26 c.out.length oc26) (.slice sa26 c.seen.length sc26) ∧ LB y3 b28 c (.slice oa28 c.out.length oc28) (.slice sa28 c.seen.length sc28)) from ⟨base_below (K2.out.1) nb, (K2.out.2.1).below nb, (K2.out.2.2.1).below nb, (K2.out.2.2.2.1).below nb, (K2.out.2.2.2.2.1).below nb, (K2.out.2.2.2.2.2.1).below nb, (K2.out.2.2.2.2.2.2.1).below nb, (K2.out.2.2.2.2.2.2.2.1).below nb, (K2.out.2.2.2.2.2.2.2.2.1).below nb, (K2.out.2.2.2.2.2.2.2.2.2.1).below nb, (K2.out.2.2.2.2.2.2.2.2.2.2.1).below nb, (K2.out.2.2.2.2.2.2.2.2.2.2.2.1).below nb, (K2.out.2.2.2.2.2.2.2.2.2.2.2.2.1).below nb, (K2.out.2.2.2.2.2.2.2.2.2.2.2.2.2.1).below nb, (K2.out.2.2.2.2.2.2.2.2.2.2.2.2.2.2.1).below nb, (K2.out.2.2.2.2.2.2.2.2.2.2.2.2.2.2.2.1).below nb, (K2.out.2.2.2.2.2.2.2.2.2.2.2.2.2.2.2.2).below nb⟩)
                  clear nb q0 q1 q2 q3 K2
                  as_aux_lemma =>
                   obtain ⟨q0, q1, q2, q3⟩ := lbox (K3.out.2.2.2.2.2.2.2.2.2.2.1).1
                   go_wp2_with fail
                   refine (okP y _ true _ _ (HOY.out hxo) (K3.out.2.2.2.2.2.2.2.2.2.2.1).2 (Nat.le_trans HBY.out (by decide)) (K3.out.2.1)).mono ?_
                   rintro e y4 ⟨rfl, nb⟩
                   have K4 := (show Hid (Below w.heap.size w y4 ∧ ET y4 ∧ EG e0 e1 e2 y4 ∧ EGT e0 e2 e3 e4 y4 ∧ LB y4 b3 l (.slice oa3 l.out.length oc3) (.slice sa3 l.seen.length sc3) ∧ MgB y4 b4 m (.slice ka m.cell.kids.length kc) ∧ LB y4 b5 n (.slice oa5 n.out.length oc5) (.slice sa5 n.seen.length sc5) ∧ LB y4 b8 n (.slice oa8 n.out.length oc8) (.slice sa8 n.seen.length sc8) ∧ LB y4 b11 x (.slice oa11 x.out.length oc11) (.slice sa11 x.seen.length sc11) ∧ PB y4 b12 p ∧ LB y4 b13 y (.slice oa13 y.out.length oc13) (.slice sa13 y.seen.length sc13) ∧ LB y4 b16 y (.slice oa16 y.out.length oc16) (.slice sa16 y.seen.length sc16) ∧ LB y4 b19 q (.slice oa19 q.out.length oc19) (.slice sa19 q.seen.length sc19) ∧ LB y4 b22 qa (.slice oa22 qa.out.length oc22) (.slice sa22 qa.seen.length sc22) ∧ LB y4 b23 r (.slice oa23 r.out.length oc23) (.slice sa23 r.seen.length sc23) ∧ LB y4 b26 c (.slice oa26 c.out.length oc26) (.slice sa26 c.seen.length sc26) ∧ LB y4 b28 c (.slice oa28 c.out.length oc28) (.slice sa28 c.seen.length sc28)) from ⟨base_below (K3.out.1) nb, (K3.out.2.1).below nb, (K3.out.2.2.1).below nb, (K3.out.2.2.2.1).below nb, (K3.out.2.2.2.2.1).below nb, (K3.out.2.2.2.2.2.1).below nb, (K3.out.2.2.2.2.2.2.1).below nb, (K3.out.2.2.2.2.2.2.2.1).below nb, (K3.out.2.2.2.2.2.2.2.2.1).below nb, (K3.out.2.2.2.2.2.2.2.2.2.1).below nb, (K3.out.2.2.2.2.2.2.2.2.2.2.1).below nb, (K3.out.2.2.2.2.2.2.2.2.2.2.2.1).below nb, (K3.out.2.2.2.2.2.2.2.2.2.2.2.2.1).below nb, (K3.out.2.2.2.2.2.2.2.2.2.2.2.2.2.1).below nb, (K3.out.2.2.2.2.2.2.2.2.2.2.2.2.2.2.1).below nb, (K3.out.2.2.2.2.2.2.2.2.2.2.2.2.2.2.2.1).below nb, (K3.out.2.2.2.2.2.2.2.2.2.2.2.2.2.2.2.2).below nb⟩)
                   clear nb q0 q1 q2 q3 K3
                   as_aux_lemma =>
                    have hgfd : gf = false ∨ (gf = true ∧ gd = true) := by cases hgf : gf with | false => exact .inl rfl | true => exact .inr ⟨rfl, HFD.out hgf⟩
                    rcases hgfd with rfl | ⟨rfl, rfl⟩
                    · have hmk : mk = false ∨ mk = true := by cases mk <;> simp
                      rcases hmk with rfl | rfl
                      · go_wp2_with fail
                        go_meet
                        exact ⟨rfl, K4⟩
                      · have hco := HOC.out rfl
                        obtain ⟨q0, q1, q2, q3⟩ := lbox (K4.out.2.2.2.2.2.2.2.2.2.2.2.2.2.2.2.1).1
                        go_wp2_with fail
                        refine (okP c _ true _ _ hco (K4.out.2.2.2.2.2.2.2.2.2.2.2.2.2.2.2.1).2 (Nat.le_trans (ok_bulk hco) (by decide)) (K4.out.2.1)).mono ?_
                        rintro e y5 ⟨rfl, nb⟩
                        have K5 := (show Hid (Below w.heap.size w y5 ∧ ET y5 ∧ EG e0 e1 e2 y5 ∧ EGT e0 e2 e3 e4 y5 ∧ LB y5 b3 l (.slice oa3 l.out.length oc3) (.slice sa3 l.seen.length sc3) ∧ MgB y5 b4 m (.slice ka m.cell.kids.length kc) ∧ LB y5 b5 n (.slice oa5 n.out.length oc5) (.slice sa5 n.seen.length sc5) ∧ LB y5 b8 n (.slice oa8 n.out.length oc8) (.slice sa8 n.seen.length sc8) ∧ LB y5 b11 x (.slice oa11 x.out.length oc11) (.slice sa11 x.seen.length sc11) ∧ PB y5 b12 p ∧ LB y5 b13 y (.slice oa13 y.out.length oc13) (.slice sa13 y.seen.length sc13) ∧ LB y5 b16 y (.slice oa16 y.out.length oc16) (.slice sa16 y.seen.length sc16) ∧ LB y5 b19 q (.slice oa19 q.out.length oc19) (.slice sa19 q.seen.length sc19) ∧ LB y5 b22 qa (.slice oa22 qa.out.length oc22) (.slice sa22 qa.seen.length sc22) ∧ LB y5 b23 r (.slice oa23 r.out.length oc23) (.slice sa23 r.seen.length sc23) ∧ LB y5 b26 c (.slice oa26 c.out.length oc26) (.slice sa26 c.seen.length sc26) ∧ LB y5 b28 c (.slice oa28 c.out.length oc28) (.slice sa28 c.seen.length sc28)) from ⟨base_below (K4.out.1) nb, (K4.out.2.1).below nb, (K4.out.2.2.1).below nb, (K4.out.2.2.2.1).below nb, (K4.out.2.2.2.2.1).below nb, (K4.out.2.2.2.2.2.1).below nb, (K4.out.2.2.2.2.2.2.1).below nb, (K4.out.2.2.2.2.2.2.2.1).below nb, (K4.out.2.2.2.2.2.2.2.2.1).below nb, (K4.out.2.2.2.2.2.2.2.2.2.1).below nb, (K4.out.2.2.2.2.2.2.2.2.2.2.1).below nb, (K4.out.2.2.2.2.2.2.2.2.2.2.2.1).below nb, (K4.out.2.2.2.2.2.2.2.2.2.2.2.2.1).below nb, (K4.out.2.2.2.2.2.2.2.2.2.2.2.2.2.1).below nb, (K4.out.2.2.2.2.2.2.2.2.2.2.2.2.2.2.1).below nb, (K4.out.2.2.2.2.2.2.2.2.2.2.2.2.2.2.2.1).below nb, (K4.out.2.2.2.2.2.2.2.2.2.2.2.2.2.2.2.2).below nb⟩)
                        clear nb q0 q1 q2 q3 K4
                        as_aux_lemma =>
                         go_wp2_with fail
                         go_meet
                         exact ⟨rfl, K5⟩
                    · have hmk : mk = false ∨ mk = true := by cases mk <;> simp
                      rcases hmk with rfl | rfl
                      · go_wp2_with fail
                        go_meet
                        exact ⟨rfl, K4⟩
                      · have hco := HOC.out rfl
                        obtain ⟨q0, q1, q2, q3⟩ := lbox (K4.out.2.2.2.2.2.2.2.2.2.2.2.2.2.2.2.1).1
                        go_wp2_with fail
                        refine (okP c _ true _ _ hco (K4.out.2.2.2.2.2.2.2.2.2.2.2.2.2.2.2.1).2 (Nat.le_trans (ok_bulk hco) (by decide)) (K4.out.2.1)).mono ?_
                        rintro e y5 ⟨rfl, nb⟩
                        have K5 := (show Hid (Below w.heap.size w y5 ∧ ET y5 ∧ EG e0 e1 e2 y5 ∧ EGT e0 e2 e3 e4 y5 ∧ LB y5 b3 l (.slice oa3 l.out.length oc3) (.slice sa3 l.seen.length sc3) ∧ MgB y5 b4 m (.slice ka m.cell.kids.length kc) ∧ LB y5 b5 n (.slice oa5 n.out.length oc5) (.slice sa5 n.seen.length sc5) ∧ LB y5 b8 n (.slice oa8 n.out.length oc8) (.slice sa8 n.seen.length sc8) ∧ LB y5 b11 x (.slice oa11 x.out.length oc11) (.slice sa11 x.seen.length sc11) ∧ PB y5 b12 p ∧ LB y5 b13 y (.slice oa13 y.out.length oc13) (.slice sa13 y.seen.length sc13) ∧ LB y5 b16 y (.slice oa16 y.out.length oc16) (.slice sa16 y.seen.length sc16) ∧ LB y5 b19 q (.slice oa19 q.out.length oc19) (.slice sa19 q.seen.length sc19) ∧ LB y5 b22 qa (.slice oa22 qa.out.length oc22) (.slice sa22 qa.seen.length sc22) ∧ LB y5 b23 r (.slice oa23 r.out.length oc23) (.slice sa23 r.seen.length sc23) ∧ LB y5 b26 c (.slice oa26 c.out.length oc26) (.slice sa26 c.seen.length sc26) ∧ LB y5 b28 c (.slice oa28 c.out.length oc28) (.slice sa28 c.seen.length sc28)) from ⟨base_below (K4.out.1) nb, (K4.out.2.1).below nb, (K4.out.2.2.1).below nb, (K4.out.2.2.2.1).below nb, (K4.out.2.2.2.2.1).below nb, (K4.out.2.2.2.2.2.1).below nb, (K4.out.2.2.2.2.2.2.1).below nb, (K4.out.2.2.2.2.2.2.2.1).below nb, (K4.out.2.2.2.2.2.2.2.2.1).below nb, (K4.out.2.2.2.2.2.2.2.2.2.1).below nb, (K4.out.2.2.2.2.2.2.2.2.2.2.1).below nb, (K4.out.2.2.2.2.2.2.2.2.2.2.2.1).below nb, (K4.out.2.2.2.2.2.2.2.2.2.2.2.2.1).below nb, (K4.out.2.2.2.2.2.2.2.2.2.2.2.2.2.1).below nb, (K4.out.2.2.2.2.2.2.2.2.2.2.2.2.2.2.1).below nb, (K4.out.2.2.2.2.2.2.2.2.2.2.2.2.2.2.2.1).below nb, (K4.out.2.2.2.2.2.2.2.2.2.2.2.2.2.2.2.2).below nb⟩)
                        clear nb q0 q1 q2 q3 K4
                        as_aux_lemma =>
                         go_wp2_with fail
                         go_meet
                         exact ⟨rfl, K5⟩
          case rest =>
          obtain ⟨rfl, H14⟩ := hcut
          clear H13 HON HOY HOC HFD HN
          generalize wc = W14 at *
          as_aux_lemma =>
           obtain ⟨y2, gf2, gd2, HT2⟩ : ∃ (y2 : Lk) (gf2 gd2 : Bool), Hid (y.take p = y2 ∧ y.fresh p = gf2 ∧ y.due p = gd2) := ⟨_, _, _, rfl, rfl, rfl⟩
           go_upto_region 19 with fail
           obtain ⟨q0, q1, q2, q3⟩ := lbox (H14.out.2.2.2.2.2.2.2.2.2.2.1).1
           have hpc : ∀ i u, (Pa.row p)[i]? = some u → W14.cell? ⟨b12, i, none⟩ = some u := fun i u hu => by rw [cell_of_block (H14.out.2.2.2.2.2.2.2.2.2.1)]; exact hu
           have pc0 := hpc 0 _ rfl
           have pc1 := hpc 1 _ rfl
           have pc2 := hpc 2 _ rfl
           have pc3 := hpc 3 _ rfl
           have pc4 := hpc 4 _ rfl
           have pc5 := hpc 5 _ rfl
           clear hpc
           go_wp2_with fail
           refine (takeP _ y y2 p gf2 gd2 _ e0 e2 e3 e4 W14 HT2.out.1 HT2.out.2.1 HT2.out.2.2 (H14.out.2.2.2.2.2.2.2.2.2.2.1).2 (Nat.le_trans HBY.out (by decide)) (Nat.le_trans HB11.out.2.2 (by decide)) HB11.out.2.1 (H14.out.2.1) (H14.out.2.2.2.1)).mono ?_
           rintro e u20 ⟨oa30, oc30, sa30, sc30, rfl, hA, bb⟩
           have B1 : Below u20.heap.size u20 (u20.alloc (.cells (Lk.row y2 (.slice oa30 y2.out.length oc30) (.slice sa30 y2.seen.length sc30)) 27)) := (Below.refl _ u20).alloc (Nat.le_refl _) _
           have H15 := (show Hid (Below w.heap.size w (u20.alloc (.cells (Lk.row y2 (.slice oa30 y2.out.length oc30) (.slice sa30 y2.seen.length sc30)) 27)) ∧ ET (u20.alloc (.cells (Lk.row y2 (.slice oa30 y2.out.length oc30) (.slice sa30 y2.seen.length sc30)) 27)) ∧ EG e0 e1 e2 (u20.alloc (.cells (Lk.row y2 (.slice oa30 y2.out.length oc30) (.slice sa30 y2.seen.length sc30)) 27)) ∧ EGT e0 e2 e3 e4 (u20.alloc (.cells (Lk.row y2 (.slice oa30 y2.out.length oc30) (.slice sa30 y2.seen.length sc30)) 27)) ∧ LB (u20.alloc (.cells (Lk.row y2 (.slice oa30 y2.out.length oc30) (.slice sa30 y2.seen.length sc30)) 27)) b3 l (.slice oa3 l.out.length oc3) (.slice sa3 l.seen.length sc3) ∧ MgB (u20.alloc (.cells (Lk.row y2 (.slice oa30 y2.out.length oc30) (.slice sa30 y2.seen.length sc30)) 27)) b4 m (.slice ka m.cell.kids.length kc) ∧ LB (u20.alloc (.cells (Lk.row y2 (.slice oa30 y2.out.length oc30) (.slice sa30 y2.seen.length sc30)) 27)) b5 n (.slice oa5 n.out.length oc5) (.slice sa5 n.seen.length sc5) ∧ LB (u20.alloc (.cells (Lk.row y2 (.slice oa30 y2.out.length oc30) (.slice sa30 y2.seen.length sc30)) 27)) b8 n (.slice oa8 n.out.length oc8) (.slice sa8 n.seen.length sc8) ∧ LB (u20.alloc (.cells (Lk.row y2 (.slice oa30 y2.out.length oc30) (.slice sa30 y2.seen.length sc30)) 27)) b11 x (.slice oa11 x.out.length oc11) (.slice sa11 x.seen.length sc11) ∧ PB (u20.alloc (.cells (Lk.row y2 (.slice oa30 y2.out.length oc30) (.slice sa30 y2.seen.length sc30)) 27)) b12 p ∧ LB (u20.alloc (.cells (Lk.row y2 (.slice oa30 y2.out.length oc30) (.slice sa30 y2.seen.length sc30)) 27)) b13 y (.slice oa13 y.out.length oc13) (.slice sa13 y.seen.length sc13) ∧ LB (u20.alloc (.cells (Lk.row y2 (.slice oa30 y2.out.length oc30) (.slice sa30 y2.seen.length sc30)) 27)) b16 y (.slice oa16 y.out.length oc16) (.slice sa16 y.seen.length sc16) ∧ LB (u20.alloc (.cells (Lk.row y2 (.slice oa30 y2.out.length oc30) (.slice sa30 y2.seen.length sc30)) 27)) b19 q (.slice oa19 q.out.length oc19) (.slice sa19 q.seen.length sc19) ∧ LB (u20.alloc (.cells (Lk.row y2 (.slice oa30 y2.out.length oc30) (.slice sa30 y2.seen.length sc30)) 27)) b22 qa (.slice oa22 qa.out.length oc22) (.slice sa22 qa.seen.length sc22) ∧ LB (u20.alloc (.cells (Lk.row y2 (.slice oa30 y2.out.length oc30) (.slice sa30 y2.seen.length sc30)) 27)) b23 r (.slice oa23 r.out.length oc23) (.slice sa23 r.seen.length sc23) ∧ LB (u20.alloc (.cells (Lk.row y2 (.slice oa30 y2.out.length oc30) (.slice sa30 y2.seen.length sc30)) 27)) b26 c (.slice oa26 c.out.length oc26) (.slice sa26 c.seen.length sc26) ∧ LB (u20.alloc (.cells (Lk.row y2 (.slice oa30 y2.out.length oc30) (.slice sa30 y2.seen.length sc30)) 27)) b28 c (.slice oa28 c.out.length oc28) (.slice sa28 c.seen.length sc28) ∧ LB (u20.alloc (.cells (Lk.row y2 (.slice oa30 y2.out.length oc30) (.slice sa30 y2.seen.length sc30)) 27)) u20.heap.size y2 (.slice oa30 y2.out.length oc30) (.slice sa30 y2.seen.length sc30)) from ⟨base_below (H14.out.1) (bb.trans (B1.mono bb.size)), (H14.out.2.1).below (bb.trans (B1.mono bb.size)), (H14.out.2.2.1).below (bb.trans (B1.mono bb.size)), (H14.out.2.2.2.1).below (bb.trans (B1.mono bb.size)), (H14.out.2.2.2.2.1).below (bb.trans (B1.mono bb.size)), (H14.out.2.2.2.2.2.1).below (bb.trans (B1.mono bb.size)), (H14.out.2.2.2.2.2.2.1).below (bb.trans (B1.mono bb.size)), (H14.out.2.2.2.2.2.2.2.1).below (bb.trans (B1.mono bb.size)), (H14.out.2.2.2.2.2.2.2.2.1).below (bb.trans (B1.mono bb.size)), (H14.out.2.2.2.2.2.2.2.2.2.1).below (bb.trans (B1.mono bb.size)), (H14.out.2.2.2.2.2.2.2.2.2.2.1).below (bb.trans (B1.mono bb.size)), (H14.out.2.2.2.2.2.2.2.2.2.2.2.1).below (bb.trans (B1.mono bb.size)), (H14.out.2.2.2.2.2.2.2.2.2.2.2.2.1).below (bb.trans (B1.mono bb.size)), (H14.out.2.2.2.2.2.2.2.2.2.2.2.2.2.1).below (bb.trans (B1.mono bb.size)), (H14.out.2.2.2.2.2.2.2.2.2.2.2.2.2.2.1).below (bb.trans (B1.mono bb.size)), (H14.out.2.2.2.2.2.2.2.2.2.2.2.2.2.2.2.1).below (bb.trans (B1.mono bb.size)), (H14.out.2.2.2.2.2.2.2.2.2.2.2.2.2.2.2.2).below (bb.trans (B1.mono bb.size)), LB.new hA⟩)
           clear hA bb B1 H14 q0 q1 q2 q3 pc0 pc1 pc2 pc3 pc4 pc5
           go_upto_region 20 with fail
           generalize u20.alloc (.cells (Lk.row y2 (.slice oa30 y2.out.length oc30) (.slice sa30 y2.seen.length sc30)) 27) = W15 at *
           generalize u20.heap.size = b30 at *
           as_aux_lemma =>
            go_cut [220] from 207 (fun v wc => v = .bool false ∧ Hid (Below w.heap.size w wc ∧ ET wc ∧ EG e0 e1 e2 wc ∧ EGT e0 e2 e3 e4 wc ∧ LB wc b3 l (.slice oa3 l.out.length oc3) (.slice sa3 l.seen.length sc3) ∧ MgB wc b4 m (.slice ka m.cell.kids.length kc) ∧ LB wc b5 n (.slice oa5 n.out.length oc5) (.slice sa5 n.seen.length sc5) ∧ LB wc b8 n (.slice oa8 n.out.length oc8) (.slice sa8 n.seen.length sc8) ∧ LB wc b11 x (.slice oa11 x.out.length oc11) (.slice sa11 x.seen.length sc11) ∧ PB wc b12 p ∧ LB wc b13 y (.slice oa13 y.out.length oc13) (.slice sa13 y.seen.length sc13) ∧ LB wc b16 y (.slice oa16 y.out.length oc16) (.slice sa16 y.seen.length sc16) ∧ LB wc b19 q (.slice oa19 q.out.length oc19) (.slice sa19 q.seen.length sc19) ∧ LB wc b22 qa (.slice oa22 qa.out.length oc22) (.slice sa22 qa.seen.length sc22) ∧ LB wc b23 r (.slice oa23 r.out.length oc23) (.slice sa23 r.seen.length sc23) ∧ LB wc b26 c (.slice oa26 c.out.length oc26) (.slice sa26 c.seen.length sc26) ∧ LB wc b28 c (.slice oa28 c.out.length oc28) (.slice sa28 c.seen.length sc28) ∧ LB wc b30 y2 (.slice oa30 y2.out.length oc30) (.slice sa30 y2.seen.length sc30)))
            case first =>
              have hgd : gd = false ∨ gd = true := by cases gd <;> simp
              rcases hgd with rfl | rfl
              · go_wp2_with fail
                go_meet
                exact ⟨rfl, H15⟩
              · have h3 := take_twice (l := x) (p := p) HT.out.2.2
                rw [HT.out.1] at h3
                obtain rfl : gf2 = false := HT2.out.2.1.symm.trans h3.1
                obtain rfl : gd2 = true := HT2.out.2.2.symm.trans h3.2.1
                obtain rfl : y = y2 := h3.2.2.symm.trans HT2.out.1
                clear h3
                obtain ⟨q0, q1, q2, q3⟩ := lbox (H15.out.2.2.2.2.2.2.2.2.2.2.2.2.2.2.2.2.2).1
                obtain ⟨p0, p1, p2, p3⟩ := lbox (H15.out.2.2.2.2.2.2.2.2.2.2.1).1
                go_wp2_with fail
                refine (sameLink_same _ _ _ _ _ _ (H15.out.2.2.2.2.2.2.2.2.2.2.2.2.2.2.2.2.2).2 (H15.out.2.2.2.2.2.2.2.2.2.2.1).2).mono ?_
                rintro e y6 ⟨rfl, nb⟩
                have K6 : Hid (Below w.heap.size w y6 ∧ ET y6 ∧ EG e0 e1 e2 y6 ∧ EGT e0 e2 e3 e4 y6 ∧ LB y6 b3 l (.slice oa3 l.out.length oc3) (.slice sa3 l.seen.length sc3) ∧ MgB y6 b4 m (.slice ka m.cell.kids.length kc) ∧ LB y6 b5 n (.slice oa5 n.out.length oc5) (.slice sa5 n.seen.length sc5) ∧ LB y6 b8 n (.slice oa8 n.out.length oc8) (.slice sa8 n.seen.length sc8) ∧ LB y6 b11 x (.slice oa11 x.out.length oc11) (.slice sa11 x.seen.length sc11) ∧ PB y6 b12 p ∧ LB y6 b13 y (.slice oa13 y.out.length oc13) (.slice sa13 y.seen.length sc13) ∧ LB y6 b16 y (.slice oa16 y.out.length oc16) (.slice sa16 y.seen.length sc16) ∧ LB y6 b19 q (.slice oa19 q.out.length oc19) (.slice sa19 q.seen.length sc19) ∧ LB y6 b22 qa (.slice oa22 qa.out.length oc22) (.slice sa22 qa.seen.length sc22) ∧ LB y6 b23 r (.slice oa23 r.out.length oc23) (.slice sa23 r.seen.length sc23) ∧ LB y6 b26 c (.slice oa26 c.out.length oc26) (.slice sa26 c.seen.length sc26) ∧ LB y6 b28 c (.slice oa28 c.out.length oc28) (.slice sa28 c.seen.length sc28) ∧ LB y6 b30 y (.slice oa30 y.out.length oc30) (.slice sa30 y.seen.length sc30)) := ⟨base_below (H15.out.1) nb, (H15.out.2.1).below nb, (H15.out.2.2.1).below nb, (H15.out.2.2.2.1).below nb, (H15.out.2.2.2.2.1).below nb, (H15.out.2.2.2.2.2.1).below nb, (H15.out.2.2.2.2.2.2.1).below nb, (H15.out.2.2.2.2.2.2.2.1).below nb, (H15.out.2.2.2.2.2.2.2.2.1).below nb, (H15.out.2.2.2.2.2.2.2.2.2.1).below nb, (H15.out.2.2.2.2.2.2.2.2.2.2.1).below nb, (H15.out.2.2.2.2.2.2.2.2.2.2.2.1).below nb, (H15.out.2.2.2.2.2.2.2.2.2.2.2.2.1).below nb, (H15.out.2.2.2.2.2.2.2.2.2.2.2.2.2.1).below nb, (H15.out.2.2.2.2.2.2.2.2.2.2.2.2.2.2.1).below nb, (H15.out.2.2.2.2.2.2.2.2.2.2.2.2.2.2.2.1).below nb, (H15.out.2.2.2.2.2.2.2.2.2.2.2.2.2.2.2.2.1).below nb, (H15.out.2.2.2.2.2.2.2.2.2.2.2.2.2.2.2.2.2).below nb⟩
                clear nb q0 q1 q2 q3 p0 p1 p2 p3
                go_wp2_with fail
                go_meet
                exact ⟨rfl, K6⟩
            case rest =>
            obtain ⟨rfl, H16⟩ := hcut
            clear H15 HT2 HBY HT HB11
            generalize wc = W16 at *
            as_aux_lemma =>
             have hgs : gs = false ∨ gs = true := by cases gs <;> simp
             rcases hgs with rfl | rfl
             · have h3 := send_no (l := l) (m := m) HE.out.2.2
               obtain rfl : tx = ⟨#[]⟩ := HE.out.2.1.symm.trans h3.1
               obtain rfl : n = l := HE.out.1.symm.trans h3.2.2
               clear h3
               obtain ⟨q0, q1, q2, q3⟩ := lbox (H16.out.2.2.2.2.2.2.1).1
               obtain ⟨p0, p1, p2, p3⟩ := lbox (H16.out.2.2.2.2.1).1
               have hte : ((⟨#[]⟩ : ByteArray).toList == (⟨#[]⟩ : ByteArray).toList) = true := by simp
               go_wp2_with fail
               refine (sameLink_same _ _ _ _ _ _ (H16.out.2.2.2.2.2.2.1).2 (H16.out.2.2.2.2.1).2).mono ?_
               rintro e y7 ⟨rfl, nb⟩
               have K7 : Hid (Below w.heap.size w y7) := base_below (H16.out.1) nb
               clear nb q0 q1 q2 q3 p0 p1 p2 p3 H16
               go_wp2_with fail
               go_ret
               exact ⟨rfl, K7.out⟩
             · have hgo : l.goes m = true := HE.out.2.2
               have hnp : n = l.push m := HE.out.1.symm.trans (send_yes hgo).2.2
               have hag := again_push hgo HFM.out
               have hak := ack_push hgo HFM.out
               rw [← hnp] at hag hak
               rw [HE.out.2.1] at hag
               obtain ⟨hal, hat⟩ := hag
               have HAG := (show Hid (n.again.length = l.out.length + 1 ∧ n.again[l.out.length]? = some tx) from ⟨hal, hat⟩)
               obtain ⟨k, hk⟩ : ∃ k : Lk, n.ack m.dst l.next = k := ⟨_, rfl⟩
               rw [hk] at hak
               have HAK := (show Hid (n.ack m.dst l.next = k ∧ k.out.length = l.out.length ∧ k.again.length = l.out.length ∧ k.ok = true) from ⟨hk, hak⟩)
               have hl60 : l.out.length ≤ 60 := by have := of_decide_eq_true (Lk.parts (goes_parts hgo).1).2.2.1; omega
               clear hgo hnp hak hal hat hk
               obtain ⟨q0, q1, q2, q3⟩ := lbox (H16.out.2.2.2.2.2.2.1).1
               go_wp2_with fail
               refine (implLinkAgain_any _ n _ W16 (H16.out.2.2.2.2.2.2.1).2 (Nat.le_trans HBN.out (by decide)) (H16.out.2.1)).mono ?_
               rintro e y7 ⟨gv, rfl, hown, nb⟩
               obtain ⟨la, lc, rfl⟩ := own_form hown
               obtain ⟨_, _, ea, -, htx⟩ := tx_of_own hown
               cases ea
               obtain ⟨tb, toff, rfl, -, htl, htc⟩ := htx l.out.length tx HAG.out.2
               have K7 : Hid (Below w.heap.size w y7 ∧ ET y7 ∧ EG e0 e1 e2 y7 ∧ EGT e0 e2 e3 e4 y7 ∧ LB y7 b3 l (.slice oa3 l.out.length oc3) (.slice sa3 l.seen.length sc3) ∧ MgB y7 b4 m (.slice ka m.cell.kids.length kc) ∧ LB y7 b5 n (.slice oa5 n.out.length oc5) (.slice sa5 n.seen.length sc5) ∧ LB y7 b8 n (.slice oa8 n.out.length oc8) (.slice sa8 n.seen.length sc8) ∧ LB y7 b11 x (.slice oa11 x.out.length oc11) (.slice sa11 x.seen.length sc11) ∧ PB y7 b12 p ∧ LB y7 b13 y (.slice oa13 y.out.length oc13) (.slice sa13 y.seen.length sc13) ∧ LB y7 b16 y (.slice oa16 y.out.length oc16) (.slice sa16 y.seen.length sc16) ∧ LB y7 b19 q (.slice oa19 q.out.length oc19) (.slice sa19 q.seen.length sc19) ∧ LB y7 b22 qa (.slice oa22 qa.out.length oc22) (.slice sa22 qa.seen.length sc22) ∧ LB y7 b23 r (.slice oa23 r.out.length oc23) (.slice sa23 r.seen.length sc23) ∧ LB y7 b26 c (.slice oa26 c.out.length oc26) (.slice sa26 c.seen.length sc26) ∧ LB y7 b28 c (.slice oa28 c.out.length oc28) (.slice sa28 c.seen.length sc28) ∧ LB y7 b30 y2 (.slice oa30 y2.out.length oc30) (.slice sa30 y2.seen.length sc30)) := ⟨base_below (H16.out.1) nb, (H16.out.2.1).below nb, (H16.out.2.2.1).below nb, (H16.out.2.2.2.1).below nb, (H16.out.2.2.2.2.1).below nb, (H16.out.2.2.2.2.2.1).below nb, (H16.out.2.2.2.2.2.2.1).below nb, (H16.out.2.2.2.2.2.2.2.1).below nb, (H16.out.2.2.2.2.2.2.2.2.1).below nb, (H16.out.2.2.2.2.2.2.2.2.2.1).below nb, (H16.out.2.2.2.2.2.2.2.2.2.2.1).below nb, (H16.out.2.2.2.2.2.2.2.2.2.2.2.1).below nb, (H16.out.2.2.2.2.2.2.2.2.2.2.2.2.1).below nb, (H16.out.2.2.2.2.2.2.2.2.2.2.2.2.2.1).below nb, (H16.out.2.2.2.2.2.2.2.2.2.2.2.2.2.2.1).below nb, (H16.out.2.2.2.2.2.2.2.2.2.2.2.2.2.2.2.1).below nb, (H16.out.2.2.2.2.2.2.2.2.2.2.2.2.2.2.2.2.1).below nb, (H16.out.2.2.2.2.2.2.2.2.2.2.2.2.2.2.2.2.2).below nb⟩
               clear nb q0 q1 q2 q3 H16 htx hown
               have hq1 := HAG.out.1
               have hqk := HAK.out.2.1
               have hqa := HAK.out.2.2.1
               rw [hq1]
               have HL := (show Hid (k.out.length = l.out.length ∧ k.again.length = l.out.length ∧ l.out.length ≤ 60) from ⟨hqk, hqa, hl60⟩)
               clear hq1 hqk hqa HAG
               generalize hj : l.out.length = j at *
               clear hj
               have hz1 : (((j : Int) + 1) == 0) = false := by simp; omega
               have hz1' : ((((j + 1 : Nat)) : Int) == 0) = false := by simp; omega
               have hz2 : IntKind.i64.wrap (((j + 1 : Nat) : Int) - 1) = (j : Int) := by rw [IntKind.wrap_i64]; omega
               have hz3 : ((j + 1 : Nat) : Int) - 1 = (j : Int) := by omega
               have hz4 : (j : Int) < ((j + 1 : Nat) : Int) := by omega
               have hst : (tx.toList == tx.toList) = true := by simp
               go_upto_region 25 with fail
               go_upto_region 27 with fail
               as_aux_lemma =>
                obtain ⟨q0, q1, q2, q3⟩ := lbox (K7.out.2.2.2.2.2.2.1).1
                obtain ⟨p0, p1, p2, p3⟩ := lbox (K7.out.2.2.2.2.1).1
                have mc2 : y7.cell? ⟨b4, 2, none⟩ = some (.int .i64 m.dst) := by rw [cell_of_block (K7.out.2.2.2.2.2.1).1]; rfl
                go_wp2_with fail
                refine (ackP _ n k m.dst l.next _ y7 HAK.out.1 (K7.out.2.2.2.2.2.2.1).2 (Nat.le_trans HBN.out (by decide)) (K7.out.2.1)).mono ?_
                rintro e y8 ⟨oa34, oc34, sa34, sc34, rfl, hA, nb⟩
                have B1 : Below y8.heap.size y8 (y8.alloc (.cells (Lk.row k (.slice oa34 k.out.length oc34) (.slice sa34 k.seen.length sc34)) 27)) := (Below.refl _ y8).alloc (Nat.le_refl _) _
                have K8 : Hid (Below w.heap.size w (y8.alloc (.cells (Lk.row k (.slice oa34 k.out.length oc34) (.slice sa34 k.seen.length sc34)) 27)) ∧ ET (y8.alloc (.cells (Lk.row k (.slice oa34 k.out.length oc34) (.slice sa34 k.seen.length sc34)) 27)) ∧ LB (y8.alloc (.cells (Lk.row k (.slice oa34 k.out.length oc34) (.slice sa34 k.seen.length sc34)) 27)) y8.heap.size k (.slice oa34 k.out.length oc34) (.slice sa34 k.seen.length sc34) ∧ LB (y8.alloc (.cells (Lk.row k (.slice oa34 k.out.length oc34) (.slice sa34 k.seen.length sc34)) 27)) b3 l (.slice oa3 j oc3) (.slice sa3 l.seen.length sc3)) := ⟨base_below (K7.out.1) (nb.trans (B1.mono nb.size)), (K7.out.2.1).below (nb.trans (B1.mono nb.size)), LB.new hA, (K7.out.2.2.2.2.1).below (nb.trans (B1.mono nb.size))⟩
                clear nb B1 hA K7 q0 q1 q2 q3 p0 p1 p2 p3 mc2
                go_upto_region 28 with fail
                generalize y8.alloc (.cells (Lk.row k (.slice oa34 k.out.length oc34) (.slice sa34 k.seen.length sc34)) 27) = W20 at *
                generalize y8.heap.size = b34 at *
                as_aux_lemma =>
                 obtain ⟨q0, q1, q2, q3⟩ := lbox K8.out.2.2.1.1
                 go_wp2_with fail
                 refine (implLinkAgain_any _ k _ W20 K8.out.2.2.1.2 (Nat.le_trans (ok_bulk HAK.out.2.2.2) (by decide)) K8.out.2.1).mono ?_
                 rintro e y9 ⟨gv, rfl, hown, nb⟩
                 obtain ⟨la9, lc9, rfl⟩ := own_form hown
                 have K9 : Hid (Below w.heap.size w y9 ∧ LB y9 b34 k (.slice oa34 k.out.length oc34) (.slice sa34 k.seen.length sc34) ∧ LB y9 b3 l (.slice oa3 j oc3) (.slice sa3 l.seen.length sc3)) := ⟨base_below K8.out.1 nb, K8.out.2.2.1.below nb, K8.out.2.2.2.below nb⟩
                 clear nb hown K8 q0 q1 q2 q3
                 obtain ⟨q0, q1, q2, q3⟩ := lbox K9.out.2.1.1
                 obtain ⟨p0, p1, p2, p3⟩ := lbox K9.out.2.2.1
                 rw [HL.out.1] at q2
                 rw [HL.out.2.1]
                 have hjj : ((j : Int) == (j : Int)) = true := by simp
                 go_wp2_with fail
                 go_ret
                 exact ⟨rfl, K9.out.1⟩
end Go.Proofs.YtlbinamlehapoaaGreatDoor
