/-
  Proofs.
  Proofs.
  Proofs.
  Proofs.
  Proofs.
-/
import Derived.Test.YtljdgmfcgkimoaaGreatDoorJ1
import Derived.Test.YtljdgmfcgkimoaaGreatDoorJ40
namespace Go.Proofs.YtljdgmfcgkimoaaGreatDoor
open Go.RowKit Go.Joins
set_option maxRecDepth 100000
set_option maxHeartbeats 1600000 in
theorem add_any (rb:Nat) (x y:Int) (w:World) (hc:w.cell? ⟨rb,1,none⟩=some (.int .i64 x)) (hz:w.frozen? ⟨rb,1,none⟩=false) (hy:IntKind.i64.wrap (x + -1)=y) :
  Calls Tryz.prog 52 #[.pointer (some ⟨rb,1,none⟩),.int .i64 (-1)] w fun r w'=>r = .returned (.int .i64 y)∧w'=w.setCell ⟨rb,1,none⟩ (.int .i64 y):=by
 have hadd:=run_call_add (P:=Tryz.prog) Tryz.func82 (by kernel_rfl) (by kernel_rfl) (by kernel_rfl) .i64 (by kernel_rfl) (y:=-1) (s:=y) hc hz (by simp [go_sem,hy])
 clear hy
 go_enter Tryz.func52,Tryz.ntmps52
 go_wp2_with fail
 go_ret
 exact ⟨rfl,rfl⟩
set_option maxHeartbeats 1600000 in
theorem store64_any (rb:Nat) (x y:Int) (w:World) (hc:w.cell? ⟨rb,1,none⟩=some (.int .i64 x)) (hz:w.frozen? ⟨rb,1,none⟩=false) :
  Calls Tryz.prog 29 #[.pointer (some ⟨rb,1,none⟩),.int .i64 y] w fun r w'=>r = .returned (.tuple #[])∧w'=w.setCell ⟨rb,1,none⟩ (.int .i64 y):=by
 have hst:=run_call_store (P:=Tryz.prog) Tryz.func48 (by kernel_rfl) (by kernel_rfl) (by kernel_rfl) (by kernel_rfl) (k:=.i64) (y:=y) hc hz
 go_enter Tryz.func29,Tryz.ntmps29
 go_wp2_with fail
 refine bodyPost_end (results_none rfl _ _ _) rfl ?_
 exact ⟨rfl,rfl⟩
set_option maxHeartbeats 1600000 in
theorem unfit_end (c:Int) (w:World):Calls Tryz.prog 85 #[endV c] w fun r w'=>r = .returned (endV c)∧Below w.heap.size w w':=by
 unfold endV
 have t0:=asEndEnd
 go_enter Tryz.func85,Tryz.ntmps85
 go_wp2_with fail
 go_ret
 exact ⟨rfl,(Below.refl _ w).alloc (Nat.le_refl _) _⟩
set_option maxHeartbeats 1600000 in
theorem unfit_val {w0:World} {S:Nat→Prop} {d rb:Nat} {v:Value} {x:Vl} (w:World) (h:VI w0 S d rb v x):Calls Tryz.prog 85 #[v] w fun r w'=>r = .returned (endV 2)∧Below w.heap.size w w':=by
 unfold endV
 have t0:=asNumEnd
 have t1:=asNilEnd
 have t2:=asPairEnd
 have t3:=asFunEnd
 cases x with
 | num n =>
  obtain rfl:v = .iface 103 (.int .i64 n):=h
  go_enter Tryz.func85,Tryz.ntmps85
  go_wp2_with fail
  go_ret
  exact ⟨rfl,Below.refl _ w⟩
 | nil =>
  obtain rfl:v = .iface 109 (.agg #[]):=h
  go_enter Tryz.func85,Tryz.ntmps85
  go_wp2_with fail
  go_ret
  exact ⟨rfl,Below.refl _ w⟩
 | pair p q =>
  obtain ⟨fh,ft,rfl,-⟩:=h
  go_enter Tryz.func85,Tryz.ntmps85
  go_wp2_with fail
  go_ret
  exact ⟨rfl,Below.refl _ w⟩
 | fn l y en =>
  obtain ⟨kb,ko,sv,m,rfl,-⟩:=h
  go_enter Tryz.func85,Tryz.ntmps85
  go_wp2_with fail
  go_ret
  exact ⟨rfl,Below.refl _ w⟩
theorem VRI.two {w':World} {S:Nat→Prop} {d rb:Nat} {P:List Ex}:VRI w' S d rb P (endV 2) (.err 2):=⟨rfl,by decide⟩
set_option maxHeartbeats 1600000 in
theorem ready_call (P:List Ex) (bv:Value) (rb d b:Nat) (hE:EvI P bv rb d b) (S:Nat→Prop) (f:Nat) (c:Clo) (fv:Value) (w:World) (hf:f≤b) (hr:RunI w rb bv f) (hs:SvI w S d rb bv P) (h:Ready w S d rb fv c) (hg:c.good (P.length:Int)) :
  ∃ b0 b1 b2,fv = .func (.func 83) #[] #[.pointer (some ⟨b0,0,none⟩),.pointer (some ⟨b1,0,none⟩),.pointer (some ⟨b2,0,none⟩)] ∧
   Calls Tryz.prog 83 #[.pointer (some ⟨b0,0,none⟩),.pointer (some ⟨b1,0,none⟩),.pointer (some ⟨b2,0,none⟩)] w fun r w'=>∃ v,r = .returned v∧AftI P S d rb bv w w' v (ev P b f c.ex c.scope):=by
 obtain ⟨sv,m,⟨b0,b1,b2,kb,ko,rfl,-,-,c0,c1,c2,hx⟩,hsc⟩:=h
 obtain ⟨sg,deep,sr⟩:=Clo.scope_good hg
 have hcall:=hE S f c.ex c.scope kb ko m sv w hf hr hs hx hsc ⟨⟨deep,sr⟩,sg⟩
 have d0:=cbk c0 0 (.pointer (some ⟨rb,0,none⟩)) rfl
 have d1:=cbk c1 0 (.pointer (some ⟨kb,ko,none⟩)) rfl
 have d2:=cbk c2 0 sv rfl
 clear c0 c1 c2
 have hsv:∃ a,sv = .pointer a:=by rcases hsc.form with ⟨-,rfl⟩ | ⟨_,_,_,_,_,-,rfl,-⟩ <;> exact ⟨_,rfl⟩
 obtain ⟨a,rfl⟩:=hsv
 have HK:=(show Hid (_∧True) from ⟨hcall,trivial⟩)
 clear hcall hE hf hr hs hx hsc sg sr hg
 refine ⟨b0,b1,b2,rfl,?_⟩
 go_enter Tryz.func83,Tryz.ntmps83
 go_wp2_with fail
 refine HK.out.1.mono ?_
 rintro r w3 ⟨v,rfl,haf⟩
 have HA:=(show Hid _ from haf)
 clear haf
 go_wp2_with fail
 go_ret
 exact ⟨_,rfl,HA.out⟩
set_option maxHeartbeats 3200000 in
theorem call_any (P:List Ex) (bv:Value) (rb d b:Nat) (hE:EvI P bv rb d b) (S:Nat→Prop) (f xb xo m m':Nat) (l:Int) (x:Ex) (en:List Clo) (c:Clo) (sv fv ev':Value) (w:World) (hf:f≤b) (hr:RunI w rb bv f) (hs:SvI w S d rb bv P)
  (hx:ExP w S d rb xb xo x) (hsc:ScAt w S d rb m sv en) (hc:Cap w S d rb fv c.ex ev') (ho:c.own=false) (hev:ScAt w S d rb m' ev' c.env) (hg:(Vl.fn l x en).good (P.length:Int)) (hgc:c.good (P.length:Int)) :
  Calls Tryz.prog 84 #[.pointer (some ⟨rb,0,none⟩),.agg #[.pointer (some ⟨xb,xo,none⟩),sv,.int .i64 l],fv] w fun r w'=>∃ v,r = .returned v∧AftI P S d rb bv w w' v (if 1<l then (.ok (.fn (l - 1) x (en ++ [c])),f) else ev P b f x (en ++ [c])):=by
 have hrl:=lh hr
 obtain ⟨g1,g2,g3,deep,g4⟩:=hg
 have hlen:en.length≤1000:=by have:=((right_iff _ _ _ _).1 g4).2.1; omega
 have hsv:∃ a,sv = .pointer a:=by rcases hsc.form with ⟨-,rfl⟩ | ⟨_,_,_,_,_,-,rfl,-⟩ <;> exact ⟨_,rfl⟩
 obtain ⟨a,rfl⟩:=hsv
 have hfv:∃ fn a c,fv = .func fn a c:=by obtain ⟨b0,b1,b2,kb,ko,h,-⟩:=hc; exact ⟨_,_,_,h⟩
 obtain ⟨W1,hW1⟩:∃ W1,W1=w.alloc (.cells #[.pointer (some ⟨xb,xo,none⟩),.pointer a,.int .i64 l] 112):=⟨_,rfl⟩
 have s1:W1.heap.size=w.heap.size+1:=by rw [hW1]; simp
 have m1:Mv w W1 S (but S w.heap.size):=by rw [hW1]; exact Mv.alloc _ _ _
 have q1:W1.heap[w.heap.size]? = some (.cells #[.pointer (some ⟨xb,xo,none⟩),.pointer a,.int .i64 l] 112):=by rw [hW1]; exact block_alloc
 have hwith:=with_any (but S w.heap.size) d rb m (.pointer a) fv en W1 (hsc.move m1) hlen (Or.inl hfv)
 obtain ⟨W2,hW2⟩:∃ W2,W2=W1.alloc (.cells #[.pointer a,.int .i64 (en.length:Int),fv] 159):=⟨_,rfl⟩
 rw [← hW2] at hwith
 obtain ⟨M,hM⟩:=ScAt.put hW2 (hsc.move m1) ⟨hs.new _ (by omega),by omega⟩ (hc.move m1) ho (hev.move m1)
 have s2:W2.heap.size=w.heap.size+2:=by rw [hW2]; simp [s1]
 have q2:W2.heap[w.heap.size]? = some (.cells #[.pointer (some ⟨xb,xo,none⟩),.pointer a,.int .i64 l] 112):=by rw [hW2,Below.heap_alloc _ _ _ (by omega)]; exact q1
 have m2:Mv W1 W2 (but S w.heap.size) (but S w.heap.size):=by rw [hW2]; exact Mv.kb ((KB.refl (fun _=>False) _).alloc _) (fun _ h=>h.elim)
 obtain ⟨W4,hW4⟩:∃ W4,W4=(W2.setCell ⟨w.heap.size,1,none⟩ (.pointer (some ⟨W1.heap.size,0,none⟩))).setCell ⟨w.heap.size,2,none⟩ (.int .i64 (l - 1)):=⟨_,rfl⟩
 have q4:W4.heap[w.heap.size]? = some (.cells #[.pointer (some ⟨xb,xo,none⟩),.pointer (some ⟨W1.heap.size,0,none⟩),.int .i64 (l - 1)] 112):=by
  have h1:=block_setCell (i:=1) q2 (.pointer (some ⟨W1.heap.size,0,none⟩))
  have h2:=block_setCell (i:=2) h1 (.int .i64 (l - 1))
  rw [hW4]; exact h2
 have k24:KB (· = w.heap.size) W2 W4:=by rw [hW4]; exact (kb_set W2 w.heap.size 1 _).trans (kb_set _ w.heap.size 2 _)
 have m4:Mv W2 W4 (but S w.heap.size) (but S w.heap.size):=Mv.kb k24 (fun x hx h=>h.2 hx)
 have m14:=m1.trans (m2.trans m4)
 have k4:KB (· = rb) w W4:=by
  have h1:KB (fun _=>False) w W2:=by rw [hW2,hW1]; exact ((KB.refl _ _).alloc _).alloc _
  refine ⟨k24.os.trans h1.os,k24.tape.trans h1.tape,k24.output.trans h1.output,Nat.le_trans h1.size k24.size,fun k hk hn=>(k24.block k (Nat.lt_of_lt_of_le hk h1.size) (by omega)).trans (h1.block k hk (fun h=>h))⟩
 have hr4:RunI W4 rb bv f:=hr.move ((k24.block rb (by omega) (by omega)).trans (by rw [hW2,Below.heap_alloc _ _ _ (by omega),hW1,Below.heap_alloc _ _ _ hrl]))
 have gin:Clo.goodL (P.length:Int) (en ++ [c]):=goodL_append g3 (goodL_one hgc)
 have hs4:SvI W4 (but S w.heap.size) d rb bv P:=hs.move m14 (fun x hx=>⟨hs.new x (by have:=k4.size; omega),by have:=k24.size; omega⟩) (but_not hs.rb)
 have hcall:¬ 1<l→Calls Tryz.prog 31 #[.pointer (some ⟨rb,0,none⟩),.pointer (some ⟨xb,xo,none⟩),.pointer (some ⟨W1.heap.size,0,none⟩)] W4 fun r w'=>∃ v,r = .returned v∧AftI P (but S w.heap.size) d rb bv W4 w' v (ev P b f x (en ++ [c])):=fun hl =>
  hE _ f x (en ++ [c]) xb xo M _ W4 hf hr4 hs4 (hx.move m14) (hM.move m4) ⟨⟨deep,by have hl1:l=1:=(by omega); rw [List.length_append,show ((en.length+[c].length:Nat):Int)=(en.length:Int)+l by simp [hl1]]; exact g4⟩,gin⟩
 have hokr:1<l→VRI W4 (but S w.heap.size) d rb P (.iface 112 (.agg #[.pointer (some ⟨xb,xo,none⟩),.pointer (some ⟨W1.heap.size,0,none⟩),.int .i64 (l - 1)])) (.ok (.fn (l - 1) x (en ++ [c]))):=fun hl =>
  ⟨⟨xb,xo,_,M,rfl,hx.move m14,hM.move m4⟩,by omega,by omega,gin,deep,by rw [List.length_append]; simp only [List.length_cons,List.length_nil]; rw [show ((en.length+(0+1):Nat):Int)+(l - 1)=(en.length:Int)+l by omega]; exact g4⟩
 have hw:IntKind.i64.wrap (l - 1)=l - 1:=in_sub1 g1 g2
 have y0:W2.cell? ⟨w.heap.size,0,none⟩=some (.pointer (some ⟨xb,xo,none⟩)):=(by rw [cell_of_block q2]; rfl)
 have yf0:=ubk q2 0
 have y1:W2.cell? ⟨w.heap.size,1,none⟩=some (.pointer a):=(by rw [cell_of_block q2]; rfl)
 have yf1:=ubk q2 1
 have y2:W2.cell? ⟨w.heap.size,2,none⟩=some (.int .i64 l):=(by rw [cell_of_block q2]; rfl)
 have yf2:=ubk q2 2
 have z0:W4.cell? ⟨w.heap.size,0,none⟩=some (.pointer (some ⟨xb,xo,none⟩)):=(by rw [cell_of_block q4]; rfl)
 have z1:W4.cell? ⟨w.heap.size,1,none⟩=some (.pointer (some ⟨W1.heap.size,0,none⟩)):=(by rw [cell_of_block q4]; rfl)
 have z2:W4.cell? ⟨w.heap.size,2,none⟩=some (.int .i64 (l - 1)):=(by rw [cell_of_block q4]; rfl)
 have HK:=(show Hid (_∧_∧_∧_∧_) from ⟨hwith,hcall,hokr,k4,hr4⟩)
 have HS:=(show Hid _ from s1)
 have hL0:0<l - 1↔1<l:=by omega
 have HL:=(show Hid (_∧True) from ⟨hL0,trivial⟩)
 obtain ⟨RR,hRR⟩:∃ RR,(if 1<l then (Rs.ok (.fn (l - 1) x (en ++ [c])),f) else ev P b f x (en ++ [c]))=RR:=⟨_,rfl⟩
 rw [hRR]
 have HRR:=(show Hid _ from hRR)
 clear hL0 hRR
 clear hE hf hr hs hx hsc hc ho hev hgc g1 g2 g3 g4 hlen hfv s1 m1 q1 hwith hM s2 q2 m2 q4 k24 m4 m14 k4 hr4 gin hs4 hcall hokr hW2
 go_enter Tryz.func84,Tryz.ntmps84
 go_upto_region 1 with fail
 rw [← hW1]
 have x1:W1.cell? ⟨w.heap.size,1,none⟩=some (.pointer a):=by rw [hW1,cell_of_block block_alloc]; rfl
 clear hW1
 go_wp2_with fail
 refine HK.out.1.mono ?_
 rintro r w3 ⟨rfl,rfl⟩
 go_upto_region 3 with fail
 rw [← hW4]
 clear hW4 x1
 by_cases hl:1<l
 ·have hl2:decide (1<l)=true:=by simpa using hl
  have HH:=(show Hid _ from hl)
  clear hl
  go_wp2_with fail
  go_ret
  refine ⟨_,rfl,?_⟩
  rw [← HRR.out,if_pos HH.out]
  exact ⟨HK.out.2.2.2.1,(HK.out.2.2.1 HH.out).move (Mv.wide _ but_sub),⟨_,HK.out.2.2.2.2,fun _=>rfl⟩⟩
 ·have hl2:decide (1<l)=false:=by simpa using hl
  have HH:=(show Hid (¬ 1<l∧True) from ⟨hl,trivial⟩)
  clear hl
  go_wp2_with fail
  refine (HK.out.2.1 HH.out.1).mono ?_
  rintro r w5 ⟨v5,rfl,haf⟩
  have HA:=(show Hid _ from haf)
  clear haf
  go_wp2_with fail
  go_ret
  refine ⟨_,rfl,?_⟩
  rw [← HRR.out,if_neg (by have:=HH.out.1; omega)]
  exact HA.out.sub HK.out.2.2.2.1 but_sub
end Go.Proofs.YtljdgmfcgkimoaaGreatDoor

namespace Go.Proofs.YtljdgmfcgkimoaaGreatDoor
open Go.RowKit Go.Joins
set_option maxRecDepth 100000
set_option maxHeartbeats 3200000 in
theorem reckon0 (P:List Ex) (bv:Value) (rb d b:Nat) (hB:b<1000000) (S:Nat→Prop) (f:Nat) (e:Ex) (env:List Clo) (kb ko m:Nat) (sv:Value) (w:World)
  (hf:f≤b) (hr:RunI w rb bv (f+1)) (hs:SvI w S d rb bv P) (hx:ExP w S d rb kb ko e) (hv:ScAt w S d rb m sv env) (hg:Ok P e env) (hk:e.kind=0) :
  Calls Tryz.prog 31 #[.pointer (some ⟨rb,0,none⟩),.pointer (some ⟨kb,ko,none⟩),sv] w fun r w'=>∃ v,r = .returned v∧AftI P S d rb bv w w' v ((.ok (.num e.n),f)):=by
 have hrl:rb<w.heap.size:=lh hr
 have hsv:∃ a,sv = .pointer a:=by rcases hv.form with ⟨-,rfl⟩ | ⟨_,_,_,_,_,-,rfl,-⟩ <;> exact ⟨_,rfl⟩
 obtain ⟨sa,rfl⟩:=hsv
 have hln:env.length≤90:=hg.len
 obtain ⟨ka,kc,hSb,hlb,hcell,i1,i2,i3,hkd,hkr⟩:=hx
 obtain ⟨z,hz⟩:∃ z:Int,z=((f+1:Nat):Int):=⟨_,rfl⟩
 obtain ⟨z1,hz1⟩:∃ z1:Int,z1=(f:Int):=⟨_,rfl⟩
 have hw:IntKind.i64.wrap (z + -1)=z1:=by rw [IntKind.wrap_i64]; omega
 have hq0:decide (z1<0)=false:=by simp; omega
 obtain ⟨W1,hW1⟩:∃ W1,W1=w.setCell ⟨rb,1,none⟩ (.int .i64 z1):=⟨_,rfl⟩
 have hadd:=add_any rb z z1 w (by rw [hz,cell_of_block hr]; rfl) (unfrozen_of_block hr 1) hw
 rw [← hW1] at hadd
 have m1:Mv w W1 S S:=by rw [hW1]; exact Mv.set w _ hs.rb
 have kb1:KB (· = rb) w W1:=by rw [hW1]; exact kb_set w rb 1 _
 have run1:RunI W1 rb bv f:=by
  rw [hW1,hz1]
  have:=block_setCell (i:=1) hr (.int .i64 (f:Int))
  exact this
 have s1:W1.heap.size=w.heap.size:=by rw [hW1]; simp
 have hs1:SvI W1 S d rb _ P:=hs.move m1 (by rw [s1]; exact hs.new) hs.rb
 have hv1:=hv.move m1
 have cc:=hcell.move (m1.block kb hSb hlb)
 obtain ⟨p0,p1,p2,p3⟩:=cc
 rw [hk] at p0
 have HADD:=(show Hid (_∧True) from ⟨hadd,trivial⟩)
 have HK:=(show Hid (_∧_∧_) from ⟨kb1,run1,i2⟩)
 clear hB hf hr hs hv hg hk hcell i1 i2 i3 hkd hkr hln kb1 run1 s1 hs1 hv1 m1 hSb hlb hz hz1 hw hW1 hadd
 go_enter Tryz.func31,Tryz.ntmps31
 go_wp2_with fail
 refine HADD.out.1.mono ?_
 rintro r W1 ⟨rfl,rfl⟩
 go_wp2_with fail
 go_ret
 exact ⟨_,rfl,HK.out.1,⟨rfl,HK.out.2.2⟩,⟨_,HK.out.2.1,fun _=>rfl⟩⟩
end Go.Proofs.YtljdgmfcgkimoaaGreatDoor

namespace Go.Proofs.YtljdgmfcgkimoaaGreatDoor
open Go.RowKit Go.Joins
set_option maxRecDepth 100000
set_option maxHeartbeats 3200000 in
theorem reckon1 (P:List Ex) (bv:Value) (rb d b:Nat) (hE:EvI P bv rb d b) (hB:b<1000000) (S:Nat→Prop) (f:Nat) (e:Ex) (env:List Clo) (kb ko m:Nat) (sv:Value) (w:World)
  (hf:f≤b) (hr:RunI w rb bv (f+1)) (hs:SvI w S d rb bv P) (hx:ExP w S d rb kb ko e) (hv:ScAt w S d rb m sv env) (hg:Ok P e env) (hk:e.kind=1) (i:Nat) (hi:e.n=(i:Int)) (c:Clo) (hc:env[i]? = some c) :
  Calls Tryz.prog 31 #[.pointer (some ⟨rb,0,none⟩),.pointer (some ⟨kb,ko,none⟩),sv] w fun r w'=>∃ v,r = .returned v∧AftI P S d rb bv w w' v (ev P b f c.ex c.scope):=by
 have hrl:rb<w.heap.size:=lh hr
 have hsv:∃ a,sv = .pointer a:=by rcases hv.form with ⟨-,rfl⟩ | ⟨_,_,_,_,_,-,rfl,-⟩ <;> exact ⟨_,rfl⟩
 obtain ⟨sa,rfl⟩:=hsv
 have hln:env.length≤90:=hg.len
 obtain ⟨ka,kc,hSb,hlb,hcell,i1,i2,i3,hkd,hkr⟩:=hx
 obtain ⟨z,hz⟩:∃ z:Int,z=((f+1:Nat):Int):=⟨_,rfl⟩
 obtain ⟨z1,hz1⟩:∃ z1:Int,z1=(f:Int):=⟨_,rfl⟩
 have hw:IntKind.i64.wrap (z + -1)=z1:=by rw [IntKind.wrap_i64]; omega
 have hq0:decide (z1<0)=false:=by simp; omega
 obtain ⟨W1,hW1⟩:∃ W1,W1=w.setCell ⟨rb,1,none⟩ (.int .i64 z1):=⟨_,rfl⟩
 have hadd:=add_any rb z z1 w (by rw [hz,cell_of_block hr]; rfl) (unfrozen_of_block hr 1) hw
 rw [← hW1] at hadd
 have m1:Mv w W1 S S:=by rw [hW1]; exact Mv.set w _ hs.rb
 have kb1:KB (· = rb) w W1:=by rw [hW1]; exact kb_set w rb 1 _
 have run1:RunI W1 rb bv f:=by
  rw [hW1,hz1]
  have:=block_setCell (i:=1) hr (.int .i64 (f:Int))
  exact this
 have s1:W1.heap.size=w.heap.size:=by rw [hW1]; simp
 have hs1:SvI W1 S d rb _ P:=hs.move m1 (by rw [s1]; exact hs.new) hs.rb
 have hv1:=hv.move m1
 have cc:=hcell.move (m1.block kb hSb hlb)
 obtain ⟨p0,p1,p2,p3⟩:=cc
 rw [hk] at p0
 have HADD:=(show Hid (_∧True) from ⟨hadd,trivial⟩)
 have hat:=at_any S d rb i m c _ env W1 hv1 hc
 have hgc:c.good (P.length:Int):=(goodL_iff _ _).1 hg.2 c (List.mem_of_getElem? hc)
 have hrd:=fun fv (h:Ready W1 S d rb fv c)=>ready_call P bv rb d b hE S f c fv W1 hf run1 hs1 h hgc
 rw [hi] at p1
 have HK:=(show Hid (_∧_∧_) from ⟨hat,hrd,kb1⟩)
 clear hE hB hf hr hs hv hg hk hcell i1 i2 i3 hkd hkr hln kb1 run1 s1 hs1 hv1 m1 hSb hlb hz hz1 hw hW1 hadd hat hgc hrd hi hc
 go_enter Tryz.func31,Tryz.ntmps31
 go_wp2_with fail
 refine HADD.out.1.mono ?_
 rintro r W1 ⟨rfl,rfl⟩
 go_wp2_with fail
 refine HK.out.1.mono ?_
 rintro r w3 ⟨fv,rfl,rfl,hready⟩
 obtain ⟨b0,b1,b2,rfl,hcall⟩:=HK.out.2.1 fv hready
 have HC:=(show Hid (_∧True) from ⟨hcall,trivial⟩)
 clear hcall hready
 go_wp2_with fail
 refine HC.out.1.mono ?_
 rintro r w9 ⟨v9,rfl,haf⟩
 have HA:=(show Hid _ from haf)
 clear haf
 go_wp2_with fail
 go_ret
 exact ⟨_,rfl,HA.out.sub HK.out.2.2 (fun _ h=>h)⟩
end Go.Proofs.YtljdgmfcgkimoaaGreatDoor

namespace Go.Proofs.YtljdgmfcgkimoaaGreatDoor
open Go.RowKit Go.Joins
set_option maxRecDepth 100000
set_option maxHeartbeats 3200000 in
theorem reckon2 (P:List Ex) (bv:Value) (rb d b:Nat) (hE:EvI P bv rb d b) (hB:b<1000000) (S:Nat→Prop) (f:Nat) (e:Ex) (env:List Clo) (kb ko m:Nat) (sv:Value) (w:World)
  (hf:f≤b) (hr:RunI w rb bv (f+1)) (hs:SvI w S d rb bv P) (hx:ExP w S d rb kb ko e) (hv:ScAt w S d rb m sv env) (hg:Ok P e env) (hk:e.kind=2) (i:Nat) (hi:e.n=(i:Int)) (B:Ex) (hb:P[i]? = some B) (hok:Ok P B []) :
  Calls Tryz.prog 31 #[.pointer (some ⟨rb,0,none⟩),.pointer (some ⟨kb,ko,none⟩),sv] w fun r w'=>∃ v,r = .returned v∧AftI P S d rb bv w w' v (ev P b f B []):=by
 have hrl:rb<w.heap.size:=lh hr
 have hsv:∃ a,sv = .pointer a:=by rcases hv.form with ⟨-,rfl⟩ | ⟨_,_,_,_,_,-,rfl,-⟩ <;> exact ⟨_,rfl⟩
 obtain ⟨sa,rfl⟩:=hsv
 have hln:env.length≤90:=hg.len
 obtain ⟨ka,kc,hSb,hlb,hcell,i1,i2,i3,hkd,hkr⟩:=hx
 have hbo:=hs.bodies
 obtain ⟨pa',pc,rfl⟩:=hbo.form
 obtain ⟨pb,po,rfl⟩:=kid_row hbo (by intro h; rw [h] at hb; simp at hb)
 have xpb:ExP w S d rb pb (po+i * 4) B:=by obtain ⟨a,c,h1,h2,h3,h4⟩:=kid_at hbo hb; obtain ⟨j1,j2,j3,j4⟩:=h4.parts; exact ⟨a,c,h2.1,h3,h1,j1,j2,j3,j4,h2.2⟩
 obtain ⟨z,hz⟩:∃ z:Int,z=((f+1:Nat):Int):=⟨_,rfl⟩
 obtain ⟨z1,hz1⟩:∃ z1:Int,z1=(f:Int):=⟨_,rfl⟩
 have hw:IntKind.i64.wrap (z + -1)=z1:=by rw [IntKind.wrap_i64]; omega
 have hq0:decide (z1<0)=false:=by simp; omega
 obtain ⟨W1,hW1⟩:∃ W1,W1=w.setCell ⟨rb,1,none⟩ (.int .i64 z1):=⟨_,rfl⟩
 have hadd:=add_any rb z z1 w (by rw [hz,cell_of_block hr]; rfl) (unfrozen_of_block hr 1) hw
 rw [← hW1] at hadd
 have m1:Mv w W1 S S:=by rw [hW1]; exact Mv.set w _ hs.rb
 have kb1:KB (· = rb) w W1:=by rw [hW1]; exact kb_set w rb 1 _
 have run1:RunI W1 rb (.slice (some ⟨pb,po,none⟩) P.length pc) f:=by
  rw [hW1,hz1]
  have:=block_setCell (i:=1) hr (.int .i64 (f:Int))
  exact this
 have s1:W1.heap.size=w.heap.size:=by rw [hW1]; simp
 have hs1:SvI W1 S d rb _ P:=hs.move m1 (by rw [s1]; exact hs.new) hs.rb
 have hv1:=hv.move m1
 have cc:=hcell.move (m1.block kb hSb hlb)
 obtain ⟨p0,p1,p2,p3⟩:=cc
 rw [hk] at p0
 have HADD:=(show Hid (_∧True) from ⟨hadd,trivial⟩)
 have hil:i<P.length:=(List.getElem?_eq_some_iff.1 hb).1
 have hil2:(i:Int)<(P.length:Int):=by omega
 have mD:Mv W1 W1.drew S S:=Mv.drew _ _
 have hcall:=hE S f B [] pb (po+i * 4) 1 (.pointer none) W1.drew hf (run1.move (by rw [drew_heap])) (hs1.move mD (by rw [drew_heap]; exact hs1.new) hs1.rb) ((xpb.move m1).move mD) (ScAt.nil _ _ _ _ _) hok
 rw [hi] at p1
 have r0:=cbk run1 0 (.slice (some ⟨pb,po,none⟩) P.length pc) rfl
 have keep:∀ (w9:World) (v9:Value),AftI P S d rb (.slice (some ⟨pb,po,none⟩) P.length pc) W1.drew w9 v9 (ev P b f B [])→w9.cell? ⟨rb,0,none⟩=some (.slice (some ⟨pb,po,none⟩) P.length pc)∧w9.cell? ⟨kb,ko+1,none⟩=some (.int .i64 (i:Int)):=fun w9 v9 h=>by
  obtain ⟨x,hx,-⟩:=h.run
  exact ⟨by rw [cell_of_block hx]; rfl,(World.cell?_of_block (h.kb.block kb (by rw [drew_heap,s1]; exact hlb) (fun e=>hs1.rb (e ▸ hSb)))).trans (by rw [World.cell?_of_block (w:=W1) (by rw [drew_heap])]; exact p1)⟩
 have HK:=(show Hid (_∧_∧_∧_∧_∧_) from ⟨hcall,kb1.drew,(⟨r0,p1⟩:W1.drew.cell? ⟨rb,0,none⟩=some (.slice (some ⟨pb,po,none⟩) P.length pc)∧W1.drew.cell? ⟨kb,ko+1,none⟩=some (.int .i64 (i:Int))),hs1.rb,trivial,keep⟩)
 clear keep
 clear hE hB hf hr hs hv hg hk hcell i1 i2 i3 hkd hkr hln kb1 run1 s1 hs1 hv1 m1 hSb hlb hz hz1 hw hW1 hadd hcall mD hi hb hok hbo xpb hil
 go_enter Tryz.func31,Tryz.ntmps31
 go_wp2_with fail
 refine HADD.out.1.mono ?_
 rintro r W1 ⟨rfl,rfl⟩
 go_upto_region 15 with fail
 go_region_held3 (fun W=>W.cell? ⟨rb,0,none⟩=some (.slice (some ⟨pb,po,none⟩) P.length pc)∧W.cell? ⟨kb,ko+1,none⟩=some (.int .i64 (i:Int))) (first | with_reducible exact HK.out.2.2.1 | with_reducible exact HF.out.1) (first
  | (go_at_call 31; refine HK.out.1.mono ?_; rintro r w9 ⟨v9,rfl,haf⟩; have HF:=(show Hid ((w9.cell? ⟨rb,0,none⟩=some (.slice (some ⟨pb,po,none⟩) P.length pc)∧w9.cell? ⟨kb,ko+1,none⟩=some (.int .i64 (i:Int)))∧_) from ⟨HK.out.2.2.2.2.2 w9 v9 haf,haf⟩); clear haf))
 all_goals
  go_wp2_with fail
  go_ret
  exact ⟨_,rfl,HF.out.2.sub HK.out.2.1 (fun _ h=>h)⟩
end Go.Proofs.YtljdgmfcgkimoaaGreatDoor

namespace Go.Proofs.YtljdgmfcgkimoaaGreatDoor
open Go.RowKit Go.Joins
set_option maxRecDepth 100000
set_option maxHeartbeats 3200000 in
theorem reckon3 (P:List Ex) (bv:Value) (rb d b:Nat) (hB:b<1000000) (S:Nat→Prop) (f:Nat) (e:Ex) (env:List Clo) (kb ko m:Nat) (sv:Value) (w:World)
  (hf:f≤b) (hr:RunI w rb bv (f+1)) (hs:SvI w S d rb bv P) (hx:ExP w S d rb kb ko e) (hv:ScAt w S d rb m sv env) (hg:Ok P e env) (hk:e.kind=3) :
  Calls Tryz.prog 31 #[.pointer (some ⟨rb,0,none⟩),.pointer (some ⟨kb,ko,none⟩),sv] w fun r w'=>∃ v,r = .returned v∧AftI P S d rb bv w w' v ((.ok (.fn e.n (kidN e 0) env),f)):=by
 have hrl:rb<w.heap.size:=lh hr
 have hsv:∃ a,sv = .pointer a:=by rcases hv.form with ⟨-,rfl⟩ | ⟨_,_,_,_,_,-,rfl,-⟩ <;> exact ⟨_,rfl⟩
 obtain ⟨sa,rfl⟩:=hsv
 have hln:env.length≤90:=hg.len
 obtain ⟨ka,kc,hSb,hlb,hcell,i1,i2,i3,hkd,hkr⟩:=hx
 obtain ⟨k0,hks⟩:∃ k0,e.kids=[k0]:=by obtain ⟨⟨deep,h⟩,-⟩:=hg; exact kids1 (by rw [kids_of h,hk]; rfl)
 have e0:kidN e 0=k0:=by unfold kidN; rw [hks]; rfl
 try rw [e0]
 have hkl:e.kids.length=1:=by rw [hks]; rfl
 rw [hks] at hkd
 obtain ⟨kb2,ko2,rfl⟩:=kid_row hkd (by simp)
 have xp0:ExP w S d rb kb2 (ko2+0 * 4) k0:=by obtain ⟨a,c,h1,h2,h3,h4⟩:=kid_at hkd (i:=0) (k:=k0) rfl; obtain ⟨j1,j2,j3,j4⟩:=h4.parts; exact ⟨a,c,h2.1,h3,h1,j1,j2,j3,j4,h2.2⟩
 simp only [Nat.zero_mul,Nat.add_zero] at xp0
 obtain ⟨z,hz⟩:∃ z:Int,z=((f+1:Nat):Int):=⟨_,rfl⟩
 obtain ⟨z1,hz1⟩:∃ z1:Int,z1=(f:Int):=⟨_,rfl⟩
 have hw:IntKind.i64.wrap (z + -1)=z1:=by rw [IntKind.wrap_i64]; omega
 have hq0:decide (z1<0)=false:=by simp; omega
 obtain ⟨W1,hW1⟩:∃ W1,W1=w.setCell ⟨rb,1,none⟩ (.int .i64 z1):=⟨_,rfl⟩
 have hadd:=add_any rb z z1 w (by rw [hz,cell_of_block hr]; rfl) (unfrozen_of_block hr 1) hw
 rw [← hW1] at hadd
 have m1:Mv w W1 S S:=by rw [hW1]; exact Mv.set w _ hs.rb
 have kb1:KB (· = rb) w W1:=by rw [hW1]; exact kb_set w rb 1 _
 have run1:RunI W1 rb bv f:=by
  rw [hW1,hz1]
  have:=block_setCell (i:=1) hr (.int .i64 (f:Int))
  exact this
 have s1:W1.heap.size=w.heap.size:=by rw [hW1]; simp
 have hs1:SvI W1 S d rb _ P:=hs.move m1 (by rw [s1]; exact hs.new) hs.rb
 have hv1:=hv.move m1
 have cc:=hcell.move (m1.block kb hSb hlb)
 obtain ⟨p0,p1,p2,p3⟩:=cc
 rw [hk] at p0
 rw [hkl] at p3
 have xq0:=xp0.move m1
 have HADD:=(show Hid (_∧True) from ⟨hadd,trivial⟩)
 have hvr:VRI W1.drew S d rb P (.iface 112 (.agg #[.pointer (some ⟨kb2,ko2,none⟩),.pointer sa,.int .i64 e.n])) (.ok (.fn e.n k0 env)):=by
  obtain ⟨⟨deep,hr0⟩,hr1⟩:=hg
  have hk0:=kid_right hr0 (i:=0) (k:=k0) (by rw [hks]; rfl)
  have hfb:=((right_iff _ _ _ _).1 hr0).2.2.2.1
  have hnn:1≤e.n∧e.n≤6:=by
   unfold fieldsB at hfb
   by_cases ht:e.text.toList≠[]
   ·rw [if_neg (by omega),if_pos ht] at hfb; cases hfb
   ·rw [if_neg (by omega),if_neg ht,if_neg (by omega),if_neg (by omega),if_neg (by omega),if_pos hk] at hfb
    unfold inR at hfb
    simpa using hfb
  rw [hk,show moreN 3 e.n 0=e.n from rfl] at hk0
  exact ⟨⟨kb2,ko2,_,m,rfl,xq0.move (Mv.drew _ _),hv1.move (Mv.drew _ _)⟩,hnn.1,hnn.2,hr1,_,hk0⟩
 have HK:=(show Hid (_∧_∧_∧_) from ⟨kb1.drew,run1.move (by rw [drew_heap]),hvr,(⟨p1,p3⟩:W1.drew.cell? ⟨kb,ko+1,none⟩=some (.int .i64 e.n)∧W1.drew.cell? ⟨kb,ko+3,none⟩=some (.slice (some ⟨kb2,ko2,none⟩) 1 kc))⟩)
 clear hB hf hr hs hv hg hk hcell i1 i2 i3 hkd hkr hln kb1 run1 s1 hs1 hv1 m1 hSb hlb hks hkl e0 xp0 xq0 hz hz1 hw hW1 hadd hvr
 go_enter Tryz.func31,Tryz.ntmps31
 go_wp2_with fail
 refine HADD.out.1.mono ?_
 rintro r W1 ⟨rfl,rfl⟩
 go_upto_region 9 with fail
 go_region_held3 (fun W=>W.cell? ⟨kb,ko+1,none⟩=some (.int .i64 e.n)∧W.cell? ⟨kb,ko+3,none⟩=some (.slice (some ⟨kb2,ko2,none⟩) 1 kc)) (with_reducible exact HK.out.2.2.2) (fail)
 all_goals
  go_wp2_with fail
  go_ret
  exact ⟨_,rfl,HK.out.1,HK.out.2.2.1,⟨_,HK.out.2.1,fun _=>rfl⟩⟩
end Go.Proofs.YtljdgmfcgkimoaaGreatDoor
