/-
  Proofs.
  Proofs.
  Proofs.
-/
import Derived.Test.YtljdgmfcgkimoaaGreatDoorJ1
import Derived.Test.YtljdgmfcgkimoaaGreatDoorJ45
import Derived.Test.YtljdgmfcgkimoaaGreatDoorJ39
import Derived.Test.YtljdgmfcgkimoaaGreatDoorShelf
namespace Go.Proofs.YtljdgmfcgkimoaaGreatDoor
open Go.RowKit Go.Joins
set_option maxRecDepth 100000
def prV (P:List Ex) (Bv b f:Nat):Rs→Except Int (List UInt8)×Nat
 | .err k=>(.error k,f)
 | .ok (.num n)=>(.ok (Lib.itoa n),f)
 | .ok .nil=>(.ok [91,93],f)
 | .ok (.fn _ _ _)=>(.ok [102,117,110],f)
 | .ok (.pair h t) =>
  match pr P Bv b f h with
  | (.error k,f1)=>(.error k,f1)
  | (.ok s,f1) =>
   match pr P Bv b f1 t with
   | (.error k,f2)=>(.error k,f2)
   | (.ok s',f2)=>(.ok ([40] ++ s ++ [58] ++ s' ++ [41]),f2)
theorem pr_eq (P:List Ex) (Bv b f:Nat) (c:Clo):pr P Bv (b+1) f c=prV P Bv b (ev P Bv f c.ex c.scope).2 (ev P Bv f c.ex c.scope).1:=by
 rw [pr]
 generalize ev P Bv f c.ex c.scope=r
 obtain ⟨r,f'⟩:=r
 cases r with
 | err k=>rfl
 | ok v=>cases v <;> rfl
structure PrA (w0 w w':World) (S:Nat→Prop) (d rb tb B:Nat) (bv:Value) (P:List Ex) (l:List UInt8) (f:Nat) (R:Except Int (List UInt8)×Nat):Prop where
 bel:Below rb w0 w'
 oth:∀ k cs T fz,w.heap[k]? = some (.cells cs T fz)→T≠5→k≠rb→k≠tb→w'.heap[k]? = some (.cells cs T fz)
 err:∀ k,R.1 = .error k→k≠0
 ok:∀ t,R.1 = .ok t→∃ S',PI w0 w' S' d rb tb B bv P (l ++ t)∧(∀ fv c,Ready w S d rb fv c→Ready w' S' d rb fv c)∧RunI w' rb bv R.2∧t.length+30 * R.2≤30 * f+21
def PrI (w0:World) (d rb tb B Bv:Nat) (bv:Value) (P:List Ex) (b:Nat):Prop:=∀ (S:Nat→Prop) (w:World) (v:Value) (r:Rs) (f:Nat) (l:List UInt8),
 (r.code=0→f<b∧f≤Bv∧RunI w rb bv f∧l.length+30 * f≤10000000)→VRI w S d rb P v r→PI w0 w S d rb tb B bv P l →
 Calls Tryz.prog 30 #[.pointer (some ⟨rb,0,none⟩),.pointer (some ⟨tb,0,none⟩),v] w fun e w'=>e = .returned (.int .i64 (codeP (prV P Bv b f r).1))∧PrA w0 w w' S d rb tb B bv P l f (prV P Bv b f r)
def PrPair (w0:World) (d rb tb B Bv:Nat) (bv:Value) (P:List Ex) (b:Nat):Prop:=∀ (S:Nat→Prop) (w:World) (fh ft:Value) (h t:Clo) (f:Nat) (l:List UInt8),
 f<b→f≤Bv→RunI w rb bv f→Ready w S d rb fh h→Ready w S d rb ft t→h.good (P.length:Int)→t.good (P.length:Int)→PI w0 w S d rb tb B bv P l→l.length+30 * f≤10000000 →
 Calls Tryz.prog 51 #[.pointer (some ⟨rb,0,none⟩),.pointer (some ⟨tb,0,none⟩),.agg #[fh,ft]] w fun e w'=>e = .returned (.int .i64 (codeP (prV P Bv b f (.ok (.pair h t))).1))∧PrA w0 w w' S d rb tb B bv P l f (prV P Bv b f (.ok (.pair h t)))
theorem PI.below {w0 w w':World} {S:Nat→Prop} {d rb tb B:Nat} {bv:Value} {P:List Ex} {l:List UInt8} (h:PI w0 w S d rb tb B bv P l) (hb:Below w.heap.size w w'):PI w0 w' S d rb tb B bv P l:=h.kb (KB.of_below hb)
theorem Ready.below {w w':World} {S:Nat→Prop} {d rb:Nat} {fv:Value} {c:Clo} (h:Ready w S d rb fv c) (hb:Below w.heap.size w w'):Ready w' S d rb fv c:=h.move (Mv.kb (KB.of_below (X:=fun _=>False) hb) (fun _ h=>h.elim))
set_option maxHeartbeats 3200000 in
theorem print_of (w0:World) (d rb tb B Bv:Nat) (bv:Value) (P:List Ex) (b:Nat) (hp:PrPair w0 d rb tb B Bv bv P b):PrI w0 d rb tb B Bv bv P b:=by
 intro S w v r f l hf hv hi
 obtain ⟨RR,hRR⟩:∃ RR,prV P Bv b f r=RR:=⟨_,rfl⟩
 rw [hRR]
 have tNumNum:=asNumNum
 have tNumNil:=asNumNil
 have tNumFun:=asNumFun
 have tNumPair:=asNumPair
 have tNumEnd:=asNumEnd
 have tNilNum:=asNilNum
 have tNilNil:=asNilNil
 have tNilFun:=asNilFun
 have tNilPair:=asNilPair
 have tNilEnd:=asNilEnd
 have tFunNum:=asFunNum
 have tFunNil:=asFunNil
 have tFunFun:=asFunFun
 have tFunPair:=asFunPair
 have tFunEnd:=asFunEnd
 have tPairNum:=asPairNum
 have tPairNil:=asPairNil
 have tPairFun:=asPairFun
 have tPairPair:=asPairPair
 have tPairEnd:=asPairEnd
 have tEndNum:=asEndNum
 have tEndNil:=asEndNil
 have tEndFun:=asEndFun
 have tEndPair:=asEndPair
 have tEndEnd:=asEndEnd
 have hwr:=fun (hl:l.length≤10000000) (w1:World) (h:PI w0 w1 S d rb tb B bv P l) (s:List UInt8) (hs:s.length≤100)=>write_any B tb l s w1 h.bl (by omega) h.hB
 have fin:∀ (w1 w2:World) (t:List UInt8),Below w.heap.size w w1→RunI w rb bv f→BL B tb (l ++ t) w2→Below B w1 w2→Lib.OthersKept 5 (some tb) w1 w2→t.length≤21→PrA w0 w w2 S d rb tb B bv P l f (.ok t,f):=by
  intro w1 w2 t b1 hr k1 k2 k3 ht
  obtain ⟨S',h1,h2,h3⟩:=(hi.below b1).wrote k1 k2 k3
  exact ⟨h1.bel,fun k cs T fz hk hT _ hn=>k3 k _ ((b1.block k (lh hk)).trans hk) (fun e=>hn (by cases e; rfl)) (fun c fz' e=>hT (by simp only [Obj.cells.injEq] at e; exact e.2.1)),fun k hk=>(by cases hk),fun t' ht'=>by cases ht'; exact ⟨S',h1,fun fv c hrd=>h2 fv c (hrd.below b1),(hr.move (b1.block rb (lh hr))).move h3,by show t.length+30 * f≤_; omega⟩⟩
 cases r with
 | err k =>
  obtain ⟨rfl,hk⟩:=hv
  have HK:=(show Hid (_∧_∧_) from ⟨hi,hk,hRR⟩)
  clear hi hk hRR fin hwr hp hf
  unfold endV
  go_enter Tryz.func30,Tryz.ntmps30
  go_wp2_with fail
  go_ret
  rw [← HK.out.2.2]
  exact ⟨rfl,(HK.out.1.below ((Below.refl _ w).alloc (Nat.le_refl _) _)).bel,fun k cs T fz hk _ _ _=>(Below.heap_alloc _ _ _ (lh hk)).trans hk,fun k' hk'=>by cases hk'; exact HK.out.2.1,fun t ht=>by cases ht⟩
 | ok x =>
  obtain ⟨hf1,hf2,hrun,hl⟩:=hf rfl
  obtain ⟨hv,hg⟩:=hv
  cases x with
  | num n =>
   obtain rfl:v = .iface 103 (.int .i64 n):=hv
   have hgn:inI64 n:=hg
   have hdec:=DecText_any n w hgn.1 hgn.2 hi.tabW
   have HK:=(show Hid (_∧_∧_∧_∧_∧_∧_) from ⟨hdec,hi,hrun,fin,hRR,hgn,hwr (by omega)⟩)
   clear hdec hi hrun fin hRR hg hwr hp hf hl hf1 hf2 hgn
   go_enter Tryz.func30,Tryz.ntmps30
   go_wp2_with fail
   refine HK.out.1.mono ?_
   rintro e w1 ⟨rfl,b1⟩
   have hw:=HK.out.2.2.2.2.2.2 w1 (HK.out.2.1.below b1) (Lib.itoa n) (by have:=itoa_len21 n HK.out.2.2.2.2.2.1; omega)
   have HW:=(show Hid (_∧_) from ⟨hw,b1⟩)
   clear hw b1
   go_wp2_with fail
   refine HW.out.1.mono ?_
   rintro e w2 ⟨rfl,k1,k2,k3⟩
   have HX:=(show Hid (_∧_∧_) from ⟨k1,k2,k3⟩)
   clear k1 k2 k3
   go_wp2_with fail
   go_ret
   rw [← HK.out.2.2.2.2.1]
   exact ⟨rfl,HK.out.2.2.2.1 w1 w2 _ HW.out.2 HK.out.2.2.1 HX.out.1 HX.out.2.1 HX.out.2.2 (itoa_len21 n HK.out.2.2.2.2.2.1)⟩
  | nil =>
   obtain rfl:v = .iface 109 (.agg #[]):=hv
   have HK:=(show Hid (_∧_∧_∧_∧_) from ⟨hi,hrun,fin,hRR,hwr (by omega)⟩)
   clear hi hrun fin hRR hg hwr hp hf hl hf1 hf2
   go_enter Tryz.func30,Tryz.ntmps30
   go_wp2_with fail
   refine (HK.out.2.2.2.2 _ (HK.out.1.below ((Below.refl _ w).alloc (Nat.le_refl _) _)) [91,93] (by decide)).mono ?_
   rintro e w2 ⟨rfl,k1,k2,k3⟩
   have HX:=(show Hid (_∧_∧_) from ⟨k1,k2,k3⟩)
   clear k1 k2 k3
   go_wp2_with fail
   go_ret
   rw [← HK.out.2.2.2.1]
   exact ⟨rfl,HK.out.2.2.1 _ w2 _ ((Below.refl _ w).alloc (Nat.le_refl _) _) HK.out.2.1 HX.out.1 HX.out.2.1 HX.out.2.2 (by decide)⟩
  | fn lk xx en =>
   obtain ⟨kb,ko,sv,m,rfl,-,hsc⟩:=hv
   have hsv:∃ a,sv = .pointer a:=by rcases hsc.form with ⟨-,rfl⟩ | ⟨_,_,_,_,_,-,rfl,-⟩ <;> exact ⟨_,rfl⟩
   obtain ⟨sa,rfl⟩:=hsv
   clear hsc
   have HK:=(show Hid (_∧_∧_∧_∧_) from ⟨hi,hrun,fin,hRR,hwr (by omega)⟩)
   clear hi hrun fin hRR hg hwr hp hf hl hf1 hf2
   go_enter Tryz.func30,Tryz.ntmps30
   go_wp2_with fail
   refine (HK.out.2.2.2.2 _ (HK.out.1.below ((Below.refl _ w).alloc (Nat.le_refl _) _)) [102,117,110] (by decide)).mono ?_
   rintro e w2 ⟨rfl,k1,k2,k3⟩
   have HX:=(show Hid (_∧_∧_) from ⟨k1,k2,k3⟩)
   clear k1 k2 k3
   go_wp2_with fail
   go_ret
   rw [← HK.out.2.2.2.1]
   exact ⟨rfl,HK.out.2.2.1 _ w2 _ ((Below.refl _ w).alloc (Nat.le_refl _) _) HK.out.2.1 HX.out.1 HX.out.2.1 HX.out.2.2 (by decide)⟩
  | pair h t =>
   obtain ⟨fh,ft,rfl,r1,r2,-,-⟩:=hv
   have hff:(∃ fn a c,fh = .func fn a c)∧∃ fn a c,ft = .func fn a c:=by obtain ⟨_,_,⟨_,_,_,_,_,h,-⟩,-⟩:=r1; obtain ⟨_,_,⟨_,_,_,_,_,h',-⟩,-⟩:=r2; exact ⟨⟨_,_,_,h⟩,⟨_,_,_,h'⟩⟩
   obtain ⟨⟨fn1,a1,c1,rfl⟩,⟨fn2,a2,c2,rfl⟩⟩:=hff
   obtain ⟨W1,hW1⟩:∃ W1,W1=w.alloc (.cells #[.func fn1 a1 c1,.func fn2 a2 c2] 116):=⟨_,rfl⟩
   have b1:Below w.heap.size w W1:=by rw [hW1]; exact (Below.refl _ w).alloc (Nat.le_refl _) _
   have n1:W1.heap[w.heap.size]? = some (.cells #[.func fn1 a1 c1,.func fn2 a2 c2] 116):=by rw [hW1]; exact block_alloc
   have hcall:=hp S W1 (.func fn1 a1 c1) (.func fn2 a2 c2) h t f l hf1 hf2 (hrun.move (b1.block rb (lh hrun))) (r1.below b1) (r2.below b1) hg.1 hg.2 (hi.below b1) hl
   rw [hRR] at hcall
   have x0:=cbk n1 0 (.func fn1 a1 c1) rfl
   have x1:=cbk n1 1 (.func fn2 a2 c2) rfl
   have HK:=(show Hid (_∧_) from ⟨hcall,b1⟩)
   have tS:=fun (fn:Fn) (x y:Array Value) (a:Addr) (w:World)=>run_store Tryz.prog w a (.func fn x y) .plain rfl
   clear hcall b1 n1 hi hrun fin hRR hg hwr hp hf hl hf1 hf2 r1 r2
   go_enter Tryz.func30,Tryz.ntmps30
   go_upto_region 13 with fail
   rw [← hW1]
   clear hW1
   go_wp2_with fail
   refine HK.out.1.mono ?_
   rintro e w2 ⟨rfl,hA⟩
   have HA:=(show Hid _ from hA)
   clear hA
   go_wp2_with fail
   go_ret
   exact ⟨rfl,HA.out.bel,fun k cs T fz hk hT h1 h2=>HA.out.oth k cs T fz ((HK.out.2.block k (lh hk)).trans hk) hT h1 h2,HA.out.err,fun t' ht'=>by
    obtain ⟨S',h1,h2,h3⟩:=HA.out.ok t' ht'
    exact ⟨S',h1,fun fv c hrd=>h2 fv c (hrd.below HK.out.2),h3⟩⟩
end Go.Proofs.YtljdgmfcgkimoaaGreatDoor

namespace Go.Proofs.YtljdgmfcgkimoaaGreatDoor
open Go.RowKit Go.Joins
set_option maxRecDepth 100000
abbrev delW (p0 p1 p2:Nat):Value:=.func (.func 83) #[] #[.pointer (some ⟨p0,0,none⟩),.pointer (some ⟨p1,0,none⟩),.pointer (some ⟨p2,0,none⟩)]
theorem ready_callW (P:List Ex) (bv:Value) (rb d b:Nat) (hE:EvI P bv rb d b) (S:Nat→Prop) (f p0 p1 p2:Nat) (c:Clo) (w:World) (hf:f≤b) (hr:RunI w rb bv f) (hs:SvI w S d rb bv P) (h:Ready w S d rb (delW p0 p1 p2) c) (hg:c.good (P.length:Int)) :
  Calls Tryz.prog 83 #[.pointer (some ⟨p0,0,none⟩),.pointer (some ⟨p1,0,none⟩),.pointer (some ⟨p2,0,none⟩)] w fun r w'=>∃ v,r = .returned v∧AftI P S d rb bv w w' v (ev P b f c.ex c.scope):=by
 obtain ⟨b0,b1,b2,he,hc⟩:=ready_call P bv rb d b hE S f c _ w hf hr hs h hg
 simp only [delW,Value.func.injEq,true_and,Array.mk.injEq,List.cons.injEq,Value.pointer.injEq,Option.some.injEq,Addr.mk.injEq,and_true] at he
 obtain ⟨rfl,rfl,rfl⟩:=he
 exact hc
theorem Ready.kb {w w':World} {S:Nat→Prop} {d rb:Nat} {fv:Value} {c:Clo} (h:Ready w S d rb fv c) (hk:KB (· = rb) w w') (hS:¬ S rb):Ready w' S d rb fv c:=h.move (Mv.kb hk (fun _ hx h=>hS (hx ▸ h)))
theorem half {w0 w:World} {S:Nat→Prop} {d rb tb B Bv b f:Nat} {bv:Value} {P:List Ex} {l s:List UInt8} (hp:PrI w0 d rb tb B Bv bv P b) (hE:EvI P bv rb d Bv) (hi:PI w0 w S d rb tb B bv P l) (hr:RunI w rb bv f) (hfb:f<b+1) (hfB:f≤Bv) (hl:l.length+30 * f≤10000000) (hs:s.length≤1)
  {w2:World} (k1:BL B tb (l ++ s) w2) (k2:Below B w w2) (k3:Lib.OthersKept 5 (some tb) w w2) {p0 p1 p2:Nat} {c:Clo} (hc:Ready w S d rb (delW p0 p1 p2) c) (hg:c.good (P.length:Int)) :
  Calls Tryz.prog 83 #[.pointer (some ⟨p0,0,none⟩),.pointer (some ⟨p1,0,none⟩),.pointer (some ⟨p2,0,none⟩)] w2 fun r w3=>∃ v,r = .returned v∧(∀ k cs T fz,w.heap[k]? = some (.cells cs T fz)→T≠5→k≠rb→k≠tb→w3.heap[k]? = some (.cells cs T fz)) ∧
   Calls Tryz.prog 30 #[.pointer (some ⟨rb,0,none⟩),.pointer (some ⟨tb,0,none⟩),v] w3 fun e w'=>e = .returned (.int .i64 (codeP (pr P Bv (b+1) f c).1))∧PrA w0 w w' S d rb tb B bv P (l ++ s) (f - 1) (pr P Bv (b+1) f c):=by
 obtain ⟨S2,q1,q2,q3⟩:=hi.wrote k1 k2 k3
 have o2:∀ k cs T fz,w.heap[k]? = some (.cells cs T fz)→T≠5→k≠rb→k≠tb→w2.heap[k]? = some (.cells cs T fz):=fun k cs T fz hk hT _ hn=>k3 k _ hk (fun e=>hn (by cases e; rfl)) (fun c fz' e=>hT (by simp only [Obj.cells.injEq] at e; exact e.2.1))
 refine (ready_callW P bv rb d Bv hE S2 f p0 p1 p2 c w2 hfB (hr.move q3) q1.sv (q2 _ _ hc) hg).mono ?_
 rintro r w3 ⟨v,rfl,haf⟩
 have o3:∀ k cs T fz,w.heap[k]? = some (.cells cs T fz)→T≠5→k≠rb→k≠tb→w3.heap[k]? = some (.cells cs T fz):=fun k cs T fz hk hT h1 h2=>by
  have:=o2 k cs T fz hk hT h1 h2
  exact (haf.kb.block k (lh this) h1).trans this
 refine ⟨v,rfl,o3,?_⟩
 rw [pr_eq]
 have hfu:(ev P Bv f c.ex c.scope).1.code=0→(ev P Bv f c.ex c.scope).2+1≤f:=fun h0=>by
  generalize hR:ev P Bv f c.ex c.scope=R at h0 ⊢
  obtain ⟨R,rf⟩:=R
  cases R with
  | ok x=>exact ev_lt P Bv f c.ex c.scope hR
  | err q=>have:=haf.vr; rw [hR] at this; exact absurd h0 this.2
 refine (hp S2 w3 v _ (ev P Bv f c.ex c.scope).2 (l ++ s) (fun h0=>⟨by have:=hfu h0; omega,by have:=hfu h0; omega,haf.runI h0,by have:=hfu h0; rw [List.length_append]; omega⟩) haf.vr (q1.kb haf.kb)).mono ?_
 rintro e w4 ⟨he,hA⟩
 refine ⟨he,hA.bel,fun k cs T fz hk hT h1 h2=>hA.oth k cs T fz (o3 k cs T fz hk hT h1 h2) hT h1 h2,hA.err,fun t ht => ?_⟩
 obtain ⟨S',z1,z2,z3,z4⟩:=hA.ok t ht
 refine ⟨S',z1,fun fv cc hrd=>z2 fv cc ((q2 fv cc hrd).kb haf.kb q1.sv.rb),z3,?_⟩
 have h0:(ev P Bv f c.ex c.scope).1.code=0:=by
  generalize ev P Bv f c.ex c.scope=R at ht ⊢
  obtain ⟨R,rf⟩:=R
  cases R with
  | ok x=>rfl
  | err q=>cases ht
 have:=hfu h0
 omega
theorem pair_pr (P:List Ex) (Bv b f:Nat) (h t:Clo):prV P Bv b f (.ok (.pair h t))=(match pr P Bv b f h with | (.error k,f1)=>(.error k,f1) | (.ok s,f1)=>match pr P Bv b f1 t with | (.error k,f2)=>(.error k,f2) | (.ok s',f2)=>(.ok ([40] ++ s ++ [58] ++ s' ++ [41]),f2)):=rfl
set_option maxHeartbeats 3200000 in
theorem printPair_of (w0:World) (d rb tb B Bv:Nat) (bv:Value) (P:List Ex) (b:Nat) (hE:EvI P bv rb d Bv) (hp:PrI w0 d rb tb B Bv bv P b):PrPair w0 d rb tb B Bv bv P (b+1):=by
 intro S w fh ft h t f l hfb hfB hr rh rt gh gt hi hl
 have hff:(∃ p0 p1 p2,fh=delW p0 p1 p2)∧∃ q0 q1 q2,ft=delW q0 q1 q2:=by
  obtain ⟨_,_,⟨b0,b1,b2,_,_,h,-⟩,-⟩:=rh
  obtain ⟨_,_,⟨c0,c1,c2,_,_,h',-⟩,-⟩:=rt
  exact ⟨⟨b0,b1,b2,h⟩,⟨c0,c1,c2,h'⟩⟩
 obtain ⟨⟨p0,p1,p2,rfl⟩,⟨q0,q1,q2,rfl⟩⟩:=hff
 obtain ⟨W1,hW1⟩:∃ W1,W1=w.alloc (.cells #[delW p0 p1 p2,delW q0 q1 q2] 116):=⟨_,rfl⟩
 have b1:Below w.heap.size w W1:=by rw [hW1]; exact (Below.refl _ w).alloc (Nat.le_refl _) _
 have n1:W1.heap[w.heap.size]? = some (.cells #[delW p0 p1 p2,delW q0 q1 q2] 116):=by rw [hW1]; exact block_alloc
 have hrl:=lh hr
 have htl:tb<w.heap.size:=hi.bl.lt
 have hw1:=write_any B tb l [40] W1 (hi.below b1).bl (by simp; omega) (hi.below b1).hB
 have hhalf:=fun (w2:World) (k1:BL B tb (l ++ [40]) w2) (k2:Below B W1 w2) (k3:Lib.OthersKept 5 (some tb) W1 w2)=>half hp hE (hi.below b1) (hr.move (b1.block rb hrl)) hfb hfB hl (s:=[40]) (by simp) k1 k2 k3 (rh.below b1) gh
 have hbox:∀ w2:World,Lib.OthersKept 5 (some tb) W1 w2→w2.heap[w.heap.size]? = some (.cells #[delW p0 p1 p2,delW q0 q1 q2] 116):=fun w2 k3=>k3 _ _ n1 (fun e=>by cases e; omega) (fun c fz e=>by simp only [Obj.cells.injEq] at e; exact absurd e.2.1 (by decide))
 obtain ⟨RR,hRR⟩:∃ RR,prV P Bv (b+1) f (.ok (.pair h t))=RR:=⟨_,rfl⟩
 rw [hRR]
 rw [pair_pr] at hRR
 have HK:=(show Hid (_∧_∧_∧_∧_∧_) from ⟨hw1,hhalf,hbox,hRR,b1,n1⟩)
 have HI:=(show Hid (_∧_∧_∧_∧_∧_∧_) from ⟨hi,rt,gt,hp,hE,(⟨hfb,hfB,hl⟩:_∧_∧_),(⟨hrl,htl⟩:_∧_)⟩)
 clear hw1 hhalf hbox hRR b1 n1 hi rh rt gh gt hp hE hl hfb hfB hr
 unfold delW
 go_enter Tryz.func51,Tryz.ntmps51
 go_upto_region 1 with fail
 rw [← (show W1=_ from hW1)]
 clear hW1
 go_wp2_with fail
 refine HK.out.1.mono ?_
 rintro e w2 ⟨rfl,k1,k2,k3⟩
 have x0:=cbk (HK.out.2.2.1 w2 k3) 0 (delW p0 p1 p2) rfl
 have HH:=(show Hid (_∧True) from ⟨HK.out.2.1 w2 k1 k2 k3,trivial⟩)
 clear k1 k2 k3
 unfold delW at x0
 go_wp2_with fail
 refine HH.out.1.mono ?_
 rintro e w3 ⟨v1,rfl,o3,hpr⟩
 have HP:=(show Hid (_∧True) from ⟨hpr,trivial⟩)
 clear hpr o3 x0
 go_wp2_with fail
 refine HP.out.1.mono ?_
 rintro e w4 ⟨rfl,hA⟩
 obtain ⟨R1,hR1⟩:∃ R1,pr P Bv (b+1) f h=R1:=⟨_,rfl⟩
 rw [hR1] at hA ⊢
 have hRR:=HK.out.2.2.2.1
 rw [hR1] at hRR
 obtain ⟨R1,f1⟩:=R1
 have oth4:=hA.oth
 cases R1 with
 | error k =>
  have hk:=hA.err k rfl
  have hk1:decide (k=0)=false:=by simpa using hk
  have hk2:(k != 0)=true:=by simpa using hk
  have HF:=(show Hid (_∧_∧_) from ⟨hA,hRR,hk⟩)
  clear hA hRR hk hR1 oth4
  unfold codeP
  go_wp2_with fail
  go_ret
  rw [← HF.out.2.1]
  exact ⟨rfl,HF.out.1.bel,fun k cs T fz hk hT h1 h2=>HF.out.1.oth k cs T fz ((HK.out.2.2.2.2.1.block k (lh hk)).trans hk) hT h1 h2,fun k' hk'=>by cases hk'; exact HF.out.2.2,fun t ht=>by cases ht⟩
 | ok s =>
  obtain ⟨S4,z1,z2,z3,z4⟩:=hA.ok s rfl
  have n4:=hA.oth _ _ _ _ HK.out.2.2.2.2.2 (by decide) (by have:=HI.out.2.2.2.2.2.2.1; omega) (by have:=HI.out.2.2.2.2.2.2.2; omega)
  have hfp:f≠0:=by
   intro hf0
   subst hf0
   have:=hR1
   rw [pr_eq] at this
   have he:ev P Bv 0 h.ex h.scope=(.err 1,0):=by cases Bv with | zero=>rw [ev] | succ n=>rw [ev,if_pos rfl]
   rw [he] at this
   cases this
  have hlen:(l ++ [40] ++ s).length+30 * f1≤10000000:=by
   have h1:=HI.out.2.2.2.2.2.1.2.2
   rw [List.length_append,List.length_append]
   simp only [List.length_cons,List.length_nil]
   have z4':s.length+30 * f1≤30 * (f - 1)+21:=z4
   omega
  have hf1:f1<b+1∧f1≤Bv:=by
   have h1:=HI.out.2.2.2.2.2.1
   have z4':s.length+30 * f1≤30 * (f - 1)+21:=z4
   omega
  have hw2:=write_any B tb (l ++ [40] ++ s) [58] w4 z1.bl (by simp only [List.length_cons,List.length_nil]; omega) z1.hB
  have hhalf2:=fun (w2:World) (k1:BL B tb (l ++ [40] ++ s ++ [58]) w2) (k2:Below B w4 w2) (k3:Lib.OthersKept 5 (some tb) w4 w2)=>half HI.out.2.2.2.1 HI.out.2.2.2.2.1 z1 z3 hf1.1 hf1.2 hlen (s:=[58]) (by simp) k1 k2 k3 (z2 _ _ (HI.out.2.1.below HK.out.2.2.2.2.1)) HI.out.2.2.1
  have hbox2:∀ w2:World,Lib.OthersKept 5 (some tb) w4 w2→w2.heap[w.heap.size]? = some (.cells #[delW p0 p1 p2,delW q0 q1 q2] 116):=fun w2 k3=>k3 _ _ n4 (fun e=>by have:=HI.out.2.2.2.2.2.2.2; cases e; omega) (fun c fz e=>by simp only [Obj.cells.injEq] at e; exact absurd e.2.1 (by decide))
  have H4:=(show Hid (_∧_∧_∧_∧_∧_) from ⟨hw2,hhalf2,hbox2,hA,z2,(⟨z4,hlen,hfp⟩:_∧_∧_)⟩)
  have HRR:=(show Hid _ from hRR)
  clear hw2 hhalf2 hbox2 z1 z2 z3 z4 n4 hA hlen hf1 hfp hRR hR1 oth4
  unfold codeP
  go_wp2_with fail
  refine H4.out.1.mono ?_
  rintro e w5 ⟨rfl,k1,k2,k3⟩
  have x1:=cbk (H4.out.2.2.1 w5 k3) 1 (delW q0 q1 q2) rfl
  have HH2:=(show Hid (_∧True) from ⟨H4.out.2.1 w5 k1 k2 k3,trivial⟩)
  clear k1 k2 k3
  unfold delW at x1
  go_wp2_with fail
  refine HH2.out.1.mono ?_
  rintro e w6 ⟨v2,rfl,o6,hpr⟩
  have HP2:=(show Hid (_∧True) from ⟨hpr,trivial⟩)
  clear hpr o6 x1
  go_wp2_with fail
  refine HP2.out.1.mono ?_
  rintro e w7 ⟨rfl,hA2⟩
  obtain ⟨R2,hR2⟩:∃ R2,pr P Bv (b+1) f1 t=R2:=⟨_,rfl⟩
  rw [hR2] at hA2 ⊢
  have hRR2:=HRR.out
  simp only [hR2] at hRR2
  obtain ⟨R2,f2⟩:=R2
  have oth7:∀ k cs T fz,w.heap[k]? = some (.cells cs T fz)→T≠5→k≠rb→k≠tb→w7.heap[k]? = some (.cells cs T fz):=fun k cs T fz hk hT h1 h2=>hA2.oth k cs T fz (H4.out.2.2.2.1.oth k cs T fz ((HK.out.2.2.2.2.1.block k (lh hk)).trans hk) hT h1 h2) hT h1 h2
  cases R2 with
  | error k =>
   have hk:=hA2.err k rfl
   have hk1:decide (k=0)=false:=by simpa using hk
   have hk2:(k != 0)=true:=by simpa using hk
   have HF:=(show Hid (_∧_∧_∧_) from ⟨hA2,hRR2,hk,oth7⟩)
   clear hA2 hRR2 hk hR2 oth7
   unfold codeP
   go_wp2_with fail
   go_ret
   rw [← HF.out.2.1]
   exact ⟨rfl,HF.out.1.bel,HF.out.2.2.2,fun k' hk'=>by cases hk'; exact HF.out.2.2.1,fun t ht=>by cases ht⟩
  | ok s' =>
   obtain ⟨S7,y1,y2,y3,y4⟩:=hA2.ok s' rfl
   have hw3:=write_any B tb (l ++ [40] ++ s ++ [58] ++ s') [41] w7 y1.bl (by have h1:=H4.out.2.2.2.2.2.2.1; have y4':s'.length+30 * f2≤30 * (f1 - 1)+21:=y4; simp only [List.length_append,List.length_cons,List.length_nil] at h1 ⊢; omega) y1.hB
   have H7:=(show Hid (_∧_∧_∧_∧_∧_∧_∧_) from ⟨hw3,hA2,hRR2,oth7,y1,y2,y3,y4⟩)
   clear hw3 hA2 hRR2 oth7 y1 y2 y3 y4 hR2
   unfold codeP
   go_wp2_with fail
   refine H7.out.1.mono ?_
   rintro e w8 ⟨rfl,k1,k2,k3⟩
   have H8:=(show Hid (_∧_∧_) from ⟨k1,k2,k3⟩)
   clear k1 k2 k3
   go_wp2_with fail
   go_ret
   obtain ⟨S8,u1,u2,u3⟩:=H7.out.2.2.2.2.1.wrote H8.out.1 H8.out.2.1 H8.out.2.2
   rw [← H7.out.2.2.1]
   refine ⟨rfl,u1.bel,fun k cs T fz hk hT h1 h2=>H8.out.2.2 k _ (H7.out.2.2.2.1 k cs T fz hk hT h1 h2) (fun e=>h2 (by cases e; rfl)) (fun c fz' e=>hT (by simp only [Obj.cells.injEq] at e; exact e.2.1)),fun k hk=>(by cases hk),fun t' ht' => ?_⟩
   cases ht'
   refine ⟨S8,by have:=u1; simpa only [List.append_assoc] using this,fun fv c hrd=>u2 fv c (H7.out.2.2.2.2.2.1 fv c (H4.out.2.2.2.2.1 fv c (hrd.below HK.out.2.2.2.2.1))),H7.out.2.2.2.2.2.2.1.move u3,?_⟩
   have z4':s.length+30 * f1≤30 * (f - 1)+21:=H4.out.2.2.2.2.2.1
   have y4':s'.length+30 * f2≤30 * (f1 - 1)+21:=H7.out.2.2.2.2.2.2.2
   have hfp:=H4.out.2.2.2.2.2.2.2
   simp only [List.length_append,List.length_cons,List.length_nil]
   omega
theorem prI_all (w0:World) (d rb tb B Bv:Nat) (bv:Value) (P:List Ex) (hE:EvI P bv rb d Bv):∀ b,PrI w0 d rb tb B Bv bv P b
 | 0=>print_of w0 d rb tb B Bv bv P 0 (fun _ _ _ _ _ _ _ _ hf=>by omega)
 | b+1=>print_of w0 d rb tb B Bv bv P (b+1) (printPair_of w0 d rb tb B Bv bv P b hE (prI_all w0 d rb tb B Bv bv P hE b))
end Go.Proofs.YtljdgmfcgkimoaaGreatDoor

namespace Go.Proofs.YtljdgmfcgkimoaaGreatDoor
open Go.RowKit Go.Joins
set_option maxRecDepth 100000
def outB:Except Int (List UInt8)→ByteArray
 | .ok s=>bsOf s
 | .error _=>⟨#[]⟩
set_option maxHeartbeats 3200000 in
theorem meanOf_any (P : List Ex) (i F d : Nat) (T : Nat → Prop) (n1 : Option Addr) (m1 o1 : Nat) (bv : Value) (w : World) (hP : ∀ X ∈ P, Ok P X []) (hi : i < P.length) (hF : F ≤ 100000) (hb : KidsAt w T d bv P) (htab : Lib.TabIs Tryz.prog w "internal/strconv.uint64pow10" .u64 Lib.pow10Tab) :
  Calls Tryz.prog 18 #[.agg #[.slice n1 m1 o1,bv],.int .i64 (i:Int),.int .i64 (F:Int)] w fun r w'=>r = .returned (.tuple #[.string (ofB P i F),.int .i64 (ofC P i F)])∧Below w.heap.size w w':=by
 obtain ⟨a0,pc,rfl⟩:=hb.form
 obtain ⟨X,hX⟩:∃ X,P[i]? = some X:=⟨_,List.getElem?_eq_getElem hi⟩
 obtain ⟨pb,po,rfl⟩:=kid_row hb (by intro h; rw [h] at hi; simp at hi)
 have hgd:P.getD i exZ=X:=by rw [List.getD_eq_getElem?_getD,hX]; rfl
 have hT:KidsAt w (fun b=>b<w.heap.size) d (.slice (some ⟨pb,po,none⟩) P.length pc) P:=hb.kept (fun _ _ _=>rfl) (Nat.le_refl _) (fun _ _ hl=>hl)
 obtain ⟨w0,hw0⟩:∃ w0,w0=w.alloc (.cells #[.slice n1 m1 o1,.slice (some ⟨pb,po,none⟩) P.length pc] 27):=⟨_,rfl⟩
 obtain ⟨W1,hW1⟩:∃ W1,W1=w0.alloc (.cells #[.slice (some ⟨pb,po,none⟩) P.length pc,.int .i64 0] 59):=⟨_,rfl⟩
 obtain ⟨W2,hW2⟩:∃ W2,W2=W1.setCell ⟨w.heap.size+1,1,none⟩ (.int .i64 (F:Int)):=⟨_,rfl⟩
 obtain ⟨W3,hW3⟩:∃ W3,W3=W2.alloc (.cells #[.pointer none,.slice none 0 0] 63):=⟨_,rfl⟩
 have s0:w0.heap.size=w.heap.size+1:=by rw [hw0]; simp
 have s1:W1.heap.size=w.heap.size+2:=by rw [hW1]; simp [s0]
 have s2:W2.heap.size=w.heap.size+2:=by rw [hW2]; simpa using s1
 have s3:W3.heap.size=w.heap.size+3:=by rw [hW3]; simp [s2]
 have b0:Below w.heap.size w w0:=by rw [hw0]; exact (Below.refl _ w).alloc (Nat.le_refl _) _
 have c1:Below (w.heap.size+1) w0 W1:=by rw [hW1]; exact Below.alloc (Below.refl _ w0) (by omega) _
 have c2:Below (w.heap.size+1) w0 W2:=by rw [hW2]; exact c1.setCell (p:=⟨w.heap.size+1,1,none⟩) (Nat.le_refl _) _
 have b03:Below (w.heap.size+1) w0 W3:=by rw [hW3]; exact c2.alloc (by omega) _
 have q0:w0.heap[w.heap.size]? = some (.cells #[.slice n1 m1 o1,.slice (some ⟨pb,po,none⟩) P.length pc] 27):=by rw [hw0]; exact block_alloc
 have r1:W1.heap[w.heap.size+1]? = some (.cells #[.slice (some ⟨pb,po,none⟩) P.length pc,.int .i64 0] 59):=by rw [hW1,← s0]; exact block_alloc
 have r2:W2.heap[w.heap.size+1]? = some (.cells #[.slice (some ⟨pb,po,none⟩) P.length pc,.int .i64 (F:Int)] 59):=by
  have:=block_setCell (i:=1) r1 (.int .i64 (F:Int))
  rw [hW2]; exact this
 have r3:W3.heap[w.heap.size+1]? = some (.cells #[.slice (some ⟨pb,po,none⟩) P.length pc,.int .i64 (F:Int)] 59):=by rw [hW3,Below.heap_alloc _ _ _ (by omega)]; exact r2
 have q3:W3.heap[w.heap.size]? = some (.cells #[.slice n1 m1 o1,.slice (some ⟨pb,po,none⟩) P.length pc] 27):=(b03.block _ (by omega)).trans q0
 have t3:W3.heap[w.heap.size+2]? = some (.cells #[.pointer none,.slice none 0 0] 63):=by rw [hW3,← s2]; exact block_alloc
 have hT3:KidsAt W3 (fun b=>(b≠w.heap.size+1∧b≠w.heap.size+2)∧b<w.heap.size+1) d (.slice (some ⟨pb,po,none⟩) P.length pc) P:=hT.kept (fun b hl _=>(b03.block b (by omega)).trans (b0.block b hl)) (by omega) (fun b hl _=>⟨⟨by omega,by omega⟩,by omega⟩)
 have hsv:SvI W3 (fun b=>b≠w.heap.size+1∧b≠w.heap.size+2) d (w.heap.size+1) (.slice (some ⟨pb,po,none⟩) P.length pc) P:=⟨fun x hx=>⟨by omega,by omega⟩,hT3,fun h=>h.1 rfl⟩
 have hbl:BL (w.heap.size+2) (w.heap.size+2) [] W3:=by
  exact .inl ⟨by omega,.slice none 0 0,t3,World.ownsRowF_nil _ _ _ _,by simp [Value.ownBlock]⟩
 have hpi:PI w0 W3 (fun b=>b≠w.heap.size+1∧b≠w.heap.size+2) d (w.heap.size+1) (w.heap.size+2) (w.heap.size+2) (.slice (some ⟨pb,po,none⟩) P.length pc) P []:=⟨hsv,hbl,fun h=>h.2 rfl,b03,by omega,by omega,s0,Lib.tabBelow_of_tabIs htab w0 b0⟩
 obtain ⟨a,c,g1,g2,g3,g4⟩:=kid_at hT3 hX
 obtain ⟨j1,j2,j3,j4⟩:=g4.parts
 have hx:ExP W3 (fun b=>b≠w.heap.size+1∧b≠w.heap.size+2) d (w.heap.size+1) pb (po+i * 4) X:=⟨a,c,g2.1,g3,g1,j1,j2,j3,j4,g2.2⟩
 have hE:=evI_all P (.slice (some ⟨pb,po,none⟩) P.length pc) (w.heap.size+1) d hP F (by omega)
 have hcall:=hE _ F X [] pb (po+i * 4) 1 (.pointer none) W3 (Nat.le_refl _) r3 hsv hx (ScAt.nil _ _ _ _ _) (hP X (List.mem_of_getElem? hX))
 have hpr:=prI_all w0 d (w.heap.size+1) (w.heap.size+2) (w.heap.size+2) F (.slice (some ⟨pb,po,none⟩) P.length pc) P hE F
 have hRe:pr P F (F+1) F (.mk (P.getD i exZ) [] false)=prV P F F (ev P F F X []).2 (ev P F F X []).1:=by rw [hgd,pr_eq]; rfl
 have hst:=store64_any (w.heap.size+1) 0 (F:Int) W1 (by rw [cell_of_block r1]; rfl) (unfrozen_of_block r1 1)
 rw [← hW2] at hst
 have x1:W1.cell? ⟨w.heap.size,1,none⟩=some (.slice (some ⟨pb,po,none⟩) P.length pc):=by rw [hW1,cell_of_block (w:=w0.alloc _) ((Below.heap_alloc _ _ _ (by omega)).trans q0)]; rfl
 have y1:=cbk q3 1 (.slice (some ⟨pb,po,none⟩) P.length pc) rfl
 have y0:=cbk q0 1 (.slice (some ⟨pb,po,none⟩) P.length pc) rfl
 have hil:(i:Int)<(P.length:Int):=by omega
 have hfin:∀ w9,Below (w.heap.size+1) w0 w9→Below w.heap.size w w9:=fun w9 h=>b0.trans (h.mono (by omega))
 have hfuel:∀ w4 v,AftI P (fun b=>b≠w.heap.size+1∧b≠w.heap.size+2) d (w.heap.size+1) (.slice (some ⟨pb,po,none⟩) P.length pc) W3 w4 v (ev P F F X [])→Calls Tryz.prog 30 #[.pointer (some ⟨w.heap.size+1,0,none⟩),.pointer (some ⟨w.heap.size+2,0,none⟩),v] w4 fun e w'=>e = .returned (.int .i64 (codeP (pr P F (F+1) F (.mk (P.getD i exZ) [] false)).1))∧PrA w0 w4 w' (fun b=>b≠w.heap.size+1∧b≠w.heap.size+2) d (w.heap.size+1) (w.heap.size+2) (w.heap.size+2) (.slice (some ⟨pb,po,none⟩) P.length pc) P [] (ev P F F X []).2 (pr P F (F+1) F (.mk (P.getD i exZ) [] false)):=by
  intro w4 v haf
  rw [hRe]
  refine hpr _ w4 v _ _ [] (fun h0 => ?_) haf.vr (hpi.kb haf.kb)
  have hlt:(ev P F F X []).2+1≤F:=by
   generalize hR:ev P F F X []=R at h0 haf ⊢
   obtain ⟨R,rf⟩:=R
   cases R with
   | ok x=>exact ev_lt P F F X [] hR
   | err q=>exact absurd h0 haf.vr.2
  exact ⟨by omega,by omega,haf.runI h0,by simp only [List.length_nil]; omega⟩
 obtain ⟨R,hR⟩:∃ R,pr P F (F+1) F (.mk (P.getD i exZ) [] false)=R:=⟨_,rfl⟩
 have hBe:ofB P i F=outB R.1:=by
  rw [← hR]
  unfold ofB
  generalize pr P F (F+1) F (.mk (P.getD i exZ) [] false)=q
  obtain ⟨q,_⟩:=q
  cases q <;> rfl
 have hCe:ofC P i F=codeP R.1:=by unfold ofC; rw [hR]
 rw [hR] at hfuel
 rw [hBe,hCe]
 have HK:=(show Hid (_∧_∧_∧_) from ⟨hcall,hfuel,hfin,hst⟩)
 have HS:=(show Hid (_∧_∧_) from ⟨s0,s1,s2⟩)
 clear hcall hfuel hfin hst hR hBe hCe hpr hE hx hpi hbl hsv hT3 t3 q3 r3 r2 r1 q0 b03 b0 s3 s0 c1 c2 hT hb hgd hP hF htab hRe g1 g2 g3 g4 j1 j2 j3 j4 hX hi
 go_enter Tryz.func18,Tryz.ntmps18
 go_upto_region 2 with fail
 rw [← hw0,← hW1]
 clear hw0 hW1
 go_wp2_with fail
 clear hW2
 refine HK.out.2.2.2.mono ?_
 rintro r W2 ⟨rfl,rfl⟩
 go_upto_region 4 with fail
 rw [← hW3]
 clear hW3
 go_wp2_with fail
 refine HK.out.1.mono ?_
 rintro r w4 ⟨v,rfl,haf⟩
 have HP:=(show Hid (_∧True) from ⟨HK.out.2.1 w4 v haf,trivial⟩)
 clear haf
 go_wp2_with fail
 refine HP.out.1.mono ?_
 rintro r w5 ⟨rfl,hA⟩
 obtain ⟨R,rf⟩:=R
 cases R with
 | error k =>
  have hk:=hA.err k rfl
  have hk1:decide (k=0)=false:=by simpa using hk
  have hk2:(k != 0)=true:=by simpa using hk
  have HF:=(show Hid _ from hA.bel)
  clear hA hk
  unfold codeP
  go_wp2_with fail
  refine bodyPost_ret (v:=.tuple #[.string ⟨#[]⟩,.int .i64 k]) (by simp [results,Tryz.results18,go_sem]) rfl ?_
  exact ⟨rfl,HK.out.2.2.1 _ HF.out⟩
 | ok s =>
  obtain ⟨S',z1,-⟩:=hA.ok s rfl
  have hstr:=Tryz.Builder_String_any_k (w.heap.size+2) (w.heap.size+2) s w5 (by have:=z1.bl; simpa [BL] using this) z1.hB
  have HF:=(show Hid (_∧_) from ⟨hstr,hA.bel⟩)
  clear hA hstr z1
  unfold codeP
  go_wp2_with fail
  refine HF.out.1.mono ?_
  rintro r w6 ⟨rfl,-,b6,-⟩
  have H6:=(show Hid _ from b6)
  clear b6
  go_wp2_with fail
  refine bodyPost_ret (v:=.tuple #[.string ⟨s.toArray⟩,.int .i64 0]) (by simp [results,Tryz.results18,go_sem]) rfl ?_
  exact ⟨rfl,HK.out.2.2.1 _ (HF.out.2.trans (H6.out.mono (by omega)))⟩
end Go.Proofs.YtljdgmfcgkimoaaGreatDoor
