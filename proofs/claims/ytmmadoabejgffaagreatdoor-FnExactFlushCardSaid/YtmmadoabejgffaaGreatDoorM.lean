/-
  Proofs.
-/
import Derived.Test.YtmmadoabejgffaaGreatDoorLB
import Derived.Deep.RegionHeld3
namespace Go.Proofs.YtmmadoabejgffaaGreatDoor
open Go.RowKit Go.Joins
set_option maxRecDepth 100000
set_option maxHeartbeats 51200000
theorem own_nums {w:World} {B n:Nat} {v:Value} {f:Nat→Int} (h:w.ownsRow B 3 1 v n (((List.range n).map f).map (fun z=>Value.int .i64 z))) (hn:0<n):∃ g cap,v = .slice (some ⟨g,0,none⟩) n cap∧∀ j,j<n→w.cell? ⟨g,j,none⟩=some (.int .i64 (f j)):=by
 obtain ⟨g,cap,rfl,-⟩:=ow_some h hn
 refine ⟨g,cap,rfl,fun j hj => ?_⟩
 have:=h.cells (g:=g) rfl j (.int .i64 (f j)) (by simp [hj])
 have e:(⟨g,0,none⟩:Addr).add j=⟨g,j,none⟩:=by rw [addr_add,Nat.zero_add]
 have h2:w.cell? ((⟨g,0,none⟩:Addr).add j)=some (.int .i64 (f j)):=by simpa using this
 rwa [e] at h2
theorem lt_cell {w:World} {g j:Nat} {v:Value} (h:w.cell? ⟨g,j,none⟩=some v):g<w.heap.size:=by
 rcases Nat.lt_or_ge g w.heap.size with h' | h'
 ·exact h'
 ·simp [World.cell?,Array.getElem?_eq_none h'] at h
theorem fit_off {l:List UInt8} {n k:Nat} (e:numL l 64=(n:Int)) (h:¬ (n=0∨72+8 * numL l 64≤(k:Int))) (hk:l.length=k):msgFit l=false:=by
 rw [e] at h
 have e2:(numL l 64).toNat=n:=by rw [e]; exact Int.toNat_natCast n
 refine fit_short (fun hh=>h (.inr ?_))
 have:=hh.2.1.2.2
 rw [e2] at this
 clear e e2 hh
 omega
theorem str_eq {s:ByteArray} {b:List UInt8} (h:b=s.data.toList):(⟨b.toArray⟩:ByteArray)=s:=by
 subst h
 apply ByteArray.ext
 simp
theorem str_ne {s:ByteArray} {b:List UInt8} (h:b≠s.data.toList):((⟨b.toArray⟩:ByteArray).toList == s.toList)=false:=by
 rw [beq_eq_false_iff_ne]
 intro he
 apply h
 rw [ByteArray.toList_eq,ByteArray.toList_eq] at he
 simpa using he
theorem specGetMsg_any (s:ByteArray) (w:World) (hs:s.size≤1048576) :
  Calls Tryz.prog 85 #[.string s] w fun e w'=>∃ mv,e = .returned (.tuple #[mv,.bool (msgFit s.data.toList)])∧OwnMs w' w.heap.size mv (msgRes s.data.toList)∧Below w.heap.size w w':=by
 have hnot:=ex_not
 obtain ⟨W0,hW0⟩:∃ W0,W0=w.alloc (.cells zero9 67):=⟨_,rfl⟩
 have B0:Below w.heap.size w W0:=by rw [hW0]; exact (Below.refl _ w).alloc (Nat.le_refl _) _
 have R0:W0.heap[w.heap.size]? = some (.cells zero9 67):=by rw [hW0]; exact (MapKept.heap_alloc w _).1
 have hG:=l07Get_any s 0 9 W0 hs (by decide) (by decide) (by decide)
 have hs0:w.heap.size+1≤W0.heap.size:=lh R0
 have hlen:s.data.toList.length=s.size:=by simp
 have H0:=(show Hid (_∧_∧_∧_∧_) from ⟨hG,B0,R0,hlen,hW0⟩)
 clear hG B0 R0 hlen hW0
 go_enter Tryz.func85,Tryz.ntmps85
 go_wp2_with fail
 rw [← (show W0=_ from H0.out.2.2.2.2)]
 refine H0.out.1.mono ?_
 rintro e w1 ⟨v1,zs,b,rfl,(⟨hfit,rfl,rfl⟩ | ⟨hfit,rfl,rfl⟩),O1,b1⟩
 case inr =>
  have R1:=(b1.block _ (lh H0.out.2.2.1)).trans H0.out.2.2.1
  obtain ⟨d0,d1,d2,d3,d4,d5,d6,d7,d8⟩:=zbox R1
  obtain ⟨f0,f1,f2,f3,f4,f5,f6,f7,f8⟩:=fbox R1
  obtain ⟨oa,oc,rfl⟩:=own_form O1
  have HE:=(show Hid (_∧_) from ⟨H0.out.2.1.trans (b1.mono (by omega)),fit_short (l:=s.data.toList) (fun h=>hfit (.inr (by have:=h.2.1.1; have:=H0.out.2.2.2.1; omega)))⟩)
  clear R1 b1 O1 H0 hfit
  go_wp2
  refine bodyPost_ret (v:=.tuple #[.agg zero9,.bool false]) (by simp [results,Tryz.results85,go_sem,d0,d1,d2,d3,d4,d5,d6,d7,d8]) rfl ?_
  rw [HE.out.2]
  refine ⟨_,rfl,by rw [res_no HE.out.2]; exact ownZero _ _,?_⟩
  iterate 9 refine Below.setCell ?_ (by simp) _
  exact HE.out.1
 have h72:72≤s.data.toList.length:=by have:=H0.out.2.2.2.1; omega
 have hnums:numsAt s 0 9=numsL s.data.toList 0 9:=numsAt_is (i:=0) (n:=9) (by omega)
 rw [hnums,numsL_len] at O1
 obtain ⟨g,cap,rfl,hc⟩:=own_nums O1 (by decide)
 have hc8:w1.cell? ⟨g,8,none⟩=some (.int .i64 (numL s.data.toList 64)):=hc 8 (by decide)
 have R1:=(b1.block _ (lh H0.out.2.2.1)).trans H0.out.2.2.1
 have B1:=H0.out.2.1.trans (b1.mono (by omega))
 have hs1:W0.heap.size≤w1.heap.size:=b1.size
 have H1:=(show Hid (_∧_∧_∧_∧_∧_) from ⟨R1,B1,hc,h72,H0.out.2.2.2.1,lt_cell hc8⟩)
 clear R1 B1 hc h72 b1 H0 O1 hnums hfit
 have hfit64:=numL_fit s.data.toList 64
 unfold inI64 at hfit64
 cases hin:inB (numL s.data.toList 64) 0 100 with
 | false =>
  obtain ⟨d0,d1,d2,d3,d4,d5,d6,d7,d8⟩:=zbox H1.out.1
  obtain ⟨f0,f1,f2,f3,f4,f5,f6,f7,f8⟩:=fbox H1.out.1
  have HE:=(show Hid (_∧_) from ⟨H1.out.2.1,fit_short (l:=s.data.toList) (fun h=>by have:=h.2.1.2.1; rw [hin] at this; exact absurd this (by decide))⟩)
  clear H1
  go_wp2_with (go_at_call 84; refine (specIn_any _ _ _ _).mono ?_; rw [hin]; rintro e w2 ⟨rfl,rfl⟩)
  all_goals (refine bodyPost_ret (v:=.tuple #[.agg zero9,.bool false]) (by simp [results,Tryz.results85,go_sem,d0,d1,d2,d3,d4,d5,d6,d7,d8]) rfl ?_)
  all_goals (rw [HE.out.2])
  all_goals (refine ⟨_,rfl,by rw [res_no HE.out.2]; exact ownZero _ _,?_⟩)
  all_goals (iterate 9 refine Below.setCell ?_ (by simp) _)
  all_goals (exact HE.out.1)
 | true =>
  have hcc:0≤numL s.data.toList 64∧numL s.data.toList 64≤100:=by unfold inB at hin; simpa using hin
  have HIN:=(show Hid (_∧True) from ⟨hin,trivial⟩)
  go_wp2_with (go_at_call 84; refine (specIn_any _ _ _ _).mono ?_; rw [HIN.out.1]; rintro e w2 ⟨rfl,rfl⟩)
  obtain ⟨n,hn⟩:∃ n:Nat,numL s.data.toList 64=(n:Int):=Int.eq_ofNat_of_zero_le hcc.1
  have hG2:=l07Get_any s 72 n w2 hs (by decide) (by decide) (by omega)
  rw [← hn] at hG2
  have HG2:=(show Hid (_∧_) from ⟨hG2,hn⟩)
  have hn100:n≤100:=by omega
  clear hG2 hn hin
  refine HG2.out.1.mono ?_
  rintro e w3 ⟨v3,zs,b,rfl,hcase,O3,b3⟩
  obtain ⟨ka,kc,rfl⟩:=own_form O3
  have c0:w3.cell? ⟨g,0,none⟩=some (.int .i64 (numL s.data.toList 0)):=(b3.cell (p:=⟨g,0,none⟩) H1.out.2.2.2.2.2).trans (H1.out.2.2.1 0 (by decide))
  have c1:w3.cell? ⟨g,1,none⟩=some (.int .i64 (numL s.data.toList 8)):=(b3.cell (p:=⟨g,1,none⟩) H1.out.2.2.2.2.2).trans (H1.out.2.2.1 1 (by decide))
  have c2:w3.cell? ⟨g,2,none⟩=some (.int .i64 (numL s.data.toList 16)):=(b3.cell (p:=⟨g,2,none⟩) H1.out.2.2.2.2.2).trans (H1.out.2.2.1 2 (by decide))
  have c3:w3.cell? ⟨g,3,none⟩=some (.int .i64 (numL s.data.toList 24)):=(b3.cell (p:=⟨g,3,none⟩) H1.out.2.2.2.2.2).trans (H1.out.2.2.1 3 (by decide))
  have c4:w3.cell? ⟨g,4,none⟩=some (.int .i64 (numL s.data.toList 32)):=(b3.cell (p:=⟨g,4,none⟩) H1.out.2.2.2.2.2).trans (H1.out.2.2.1 4 (by decide))
  have c5:w3.cell? ⟨g,5,none⟩=some (.int .i64 (numL s.data.toList 40)):=(b3.cell (p:=⟨g,5,none⟩) H1.out.2.2.2.2.2).trans (H1.out.2.2.1 5 (by decide))
  have c6:w3.cell? ⟨g,6,none⟩=some (.int .i64 (numL s.data.toList 48)):=(b3.cell (p:=⟨g,6,none⟩) H1.out.2.2.2.2.2).trans (H1.out.2.2.1 6 (by decide))
  have c7:w3.cell? ⟨g,7,none⟩=some (.int .i64 (numL s.data.toList 56)):=(b3.cell (p:=⟨g,7,none⟩) H1.out.2.2.2.2.2).trans (H1.out.2.2.1 7 (by decide))
  have R3:=(b3.block _ (lh H1.out.1)).trans H1.out.1
  have B3:=H1.out.2.1.trans (b3.mono (by omega))
  have hs3:w2.heap.size≤w3.heap.size:=b3.size
  have H3:=(show Hid (_∧_∧_∧_∧_∧_) from ⟨R3,B3,O3,hcase,H1.out.2.2.2.1,H1.out.2.2.2.2.1⟩)
  have hgl:g<w3.heap.size:=by have:=H1.out.2.2.2.2.2; omega
  clear R3 B3 O3 hcase b3 H1 hc8
  generalize hx0:numL s.data.toList 0=x0 at *
  generalize hx1:numL s.data.toList 8=x1 at *
  generalize hx2:numL s.data.toList 16=x2 at *
  generalize hx3:numL s.data.toList 24=x3 at *
  generalize hx4:numL s.data.toList 32=x4 at *
  generalize hx5:numL s.data.toList 40=x5 at *
  generalize hx6:numL s.data.toList 48=x6 at *
  generalize hx7:numL s.data.toList 56=x7 at *
  have HX:=(show Hid (_∧_∧_∧_∧_∧_∧_∧_) from ⟨hx0,hx1,hx2,hx3,hx4,hx5,hx6,hx7⟩)
  clear hx0 hx1 hx2 hx3 hx4 hx5 hx6 hx7
  go_wp2_with fail
  have hgn:¬ g=w3.heap.size:=by omega
  go_region_held3 (fun w'=>w'.cell? ⟨g,0,none⟩=some (.int .i64 x0)∧w'.cell? ⟨g,1,none⟩=some (.int .i64 x1)∧w'.cell? ⟨g,2,none⟩=some (.int .i64 x2)∧w'.cell? ⟨g,3,none⟩=some (.int .i64 x3)∧w'.cell? ⟨g,4,none⟩=some (.int .i64 x4)∧w'.cell? ⟨g,5,none⟩=some (.int .i64 x5)∧w'.cell? ⟨g,6,none⟩=some (.int .i64 x6)∧w'.cell? ⟨g,7,none⟩=some (.int .i64 x7)) (go_keep) (fail)
  obtain ⟨W4,hW4⟩:∃ W4,W4=(w3.alloc (.cells #[.int .i64 x0,.int .i64 x1,.int .i64 x2,.int .i64 x3,.int .i64 x4,.int .i64 x5,.int .i64 x6,.int .i64 x7,.slice ka zs.length kc] 67)).drew:=⟨_,rfl⟩
  rw [← hW4]
  have b4:Below w3.heap.size w3 W4:=by rw [hW4]; exact ((Below.refl _ w3).alloc (Nat.le_refl _) _).drew
  have M4:W4.heap[w3.heap.size]? = some (.cells #[.int .i64 x0,.int .i64 x1,.int .i64 x2,.int .i64 x3,.int .i64 x4,.int .i64 x5,.int .i64 x6,.int .i64 x7,.slice ka zs.length kc] 67):=by rw [hW4]; exact (MapKept.heap_alloc w3 _).1
  have R4:=(b4.block _ (lh H3.out.1)).trans H3.out.1
  have B4:=H3.out.2.1.trans (b4.mono (by omega))
  have O4:=own_moved H3.out.2.2.1 (fun j hj=>b4.block j (own_lt H3.out.2.2.1 j hj))
  have hs4:w3.heap.size+1≤W4.heap.size:=lh M4
  have H4:=(show Hid (_∧_∧_∧_∧_∧_∧_) from ⟨R4,B4,O4,M4,H3.out.2.2.2.1,H3.out.2.2.2.2.1,H3.out.2.2.2.2.2⟩)
  clear R4 B4 O4 M4 H3 b4 hW4
  rcases H4.out.2.2.2.2.1 with ⟨hfn,rfl,hzs⟩ | ⟨hfn,rfl,hzs⟩
  ·have hms:(⟨x0,x1,x2,x3,x4,⟨x5,x6,x7,zs⟩⟩:Ms)=msgL s.data.toList:=by
    unfold msgL
    rw [HX.out.1,HX.out.2.1,HX.out.2.2.1,HX.out.2.2.2.1,HX.out.2.2.2.2.1,HX.out.2.2.2.2.2.1,HX.out.2.2.2.2.2.2.1,HX.out.2.2.2.2.2.2.2,HG2.out.2,Int.toNat_natCast,hzs]
    congr 2
    exact numsAt_is (s:=s) (i:=72) (n:=n) (by have:=HG2.out.2; omega)
   have hzl:zs.length=n:=by rw [hzs,numsAt_len]
   have A4:OwnMs W4 w2.heap.size (.agg ((msgL s.data.toList).row (.slice ka zs.length kc))) (msgL s.data.toList):=by
    obtain ⟨i0,i5,i6,i7,i8⟩:=msgL_fits s.data.toList
    refine ⟨_,rfl,?_,i0,i5,i6,i7,i8⟩
    rw [← hms]
    exact H4.out.2.2.1
   have hrow:(#[.int .i64 x0,.int .i64 x1,.int .i64 x2,.int .i64 x3,.int .i64 x4,.int .i64 x5,.int .i64 x6,.int .i64 x7,.slice ka zs.length kc]:Array Value)=(msgL s.data.toList).row (.slice ka zs.length kc):=by rw [← hms]
   have hP:=specPutMsg_any (.agg #[.int .i64 x0,.int .i64 x1,.int .i64 x2,.int .i64 x3,.int .i64 x4,.int .i64 x5,.int .i64 x6,.int .i64 x7,.slice ka zs.length kc]) (msgL s.data.toList) _ W4 (by rw [hrow]; exact A4.at_.choose_spec) (by rw [← hms]; show zs.length≤_; omega)
   obtain ⟨⟨y0,y1,y2,y3,y4,y5,y6,y7,y8⟩,-,-⟩:=hold27 (m:=⟨x0,x1,x2,x3,x4,⟨x5,x6,x7,zs⟩⟩) (kv:=.slice ka zs.length kc) H4.out.2.2.2.1 H4.out.1
   simp only [] at y0 y1 y2 y3 y4 y5 y6 y7 y8
   have HP:=(show Hid (_∧_∧_∧_) from ⟨hP,A4,hrow,hms⟩)
   clear hP A4 hrow hms hzs hzl hfn
   cases hfit:msgFit s.data.toList with
   | true =>
    have hse:=str_eq (msgFit_yes hfit)
    have hne:(s.toList != s.toList)=false:=by simp
    have HSE:=(show Hid (_∧_) from ⟨hse,hfit⟩)
    clear hse hfit
    go_wp2_with (go_at_call 40; refine HP.out.1.mono ?_; rw [HSE.out.1]; rintro e w5 ⟨rfl,b5⟩; have M5:=(b5.block _ (lh H4.out.2.2.2.1)).trans H4.out.2.2.2.1; have R5:=(b5.block _ (lh H4.out.1)).trans H4.out.1; obtain ⟨⟨y0',y1',y2',y3',y4',y5',y6',y7',y8'⟩,⟨z0',z1',z2',z3',z4',z5',z6',z7',z8'⟩,⟨u0',u1',u2',u3',u4',u5',u6',u7',u8'⟩⟩:=hold27 (m:=⟨x0,x1,x2,x3,x4,⟨x5,x6,x7,zs⟩⟩) (kv:=.slice ka zs.length kc) M5 R5; simp only [] at y0' y1' y2' y3' y4' y5' y6' y7' y8')
    refine bodyPost_ret (v:=.tuple #[.agg #[.int .i64 x0,.int .i64 x1,.int .i64 x2,.int .i64 x3,.int .i64 x4,.int .i64 x5,.int .i64 x6,.int .i64 x7,.slice ka zs.length kc],.bool true]) (by simp [results,Tryz.results85,go_sem,z0',z1',z2',z3',z4',z5',z6',z7',z8']) rfl ?_
    have hend:=set9_end (w:=w) ((HP.out.2.1.below b5).base (B':=w.heap.size+1) (by omega)) (H4.out.2.1.trans (b5.mono (by omega))) (.int .i64 x0) (.int .i64 x1) (.int .i64 x2) (.int .i64 x3) (.int .i64 x4) (.int .i64 x5) (.int .i64 x6) (.int .i64 x7) (.slice ka zs.length kc)
    rw [HP.out.2.2.1,res_yes HSE.out.2,HSE.out.2]
    exact ⟨_,rfl,hend.1,hend.2⟩
   | false =>
    have hne:=str_ne (msgFit_no hfit H4.out.2.2.2.2.2.1 HIN.out.1)
    have HSE:=(show Hid (_∧True) from ⟨hfit,trivial⟩)
    clear hfit
    generalize (⟨(msgL s.data.toList).bytes.toArray⟩:ByteArray)=t at *
    go_wp2_with (go_at_call 40; refine HP.out.1.mono ?_; rintro e w5 ⟨rfl,b5⟩; have R5:=(b5.block _ (lh H4.out.1)).trans H4.out.1; obtain ⟨z0',z1',z2',z3',z4',z5',z6',z7',z8'⟩:=zbox R5; obtain ⟨u0',u1',u2',u3',u4',u5',u6',u7',u8'⟩:=fbox R5)
    all_goals (refine bodyPost_ret (v:=.tuple #[.agg zero9,.bool false]) (by simp [results,Tryz.results85,go_sem,z0',z1',z2',z3',z4',z5',z6',z7',z8']) rfl ?_)
    all_goals (rw [HSE.out.1])
    all_goals (refine ⟨_,rfl,by rw [res_no HSE.out.1]; exact ownZero _ _,?_⟩)
    all_goals (iterate 9 refine Below.setCell ?_ (by simp) _)
    all_goals (exact H4.out.2.1.trans (b5.mono (by omega)))
  ·obtain ⟨d0,d1,d2,d3,d4,d5,d6,d7,d8⟩:=zbox H4.out.1
   obtain ⟨f0,f1,f2,f3,f4,f5,f6,f7,f8⟩:=fbox H4.out.1
   have HE:=(show Hid (_∧_) from ⟨H4.out.2.1,fit_off HG2.out.2 hfn H4.out.2.2.2.2.2.2⟩)
   clear H4 hfn hzs
   go_wp2
   all_goals (refine bodyPost_ret (v:=.tuple #[.agg zero9,.bool false]) (by simp [results,Tryz.results85,go_sem,d0,d1,d2,d3,d4,d5,d6,d7,d8]) rfl ?_)
   all_goals (rw [HE.out.2])
   all_goals (refine ⟨_,rfl,by rw [res_no HE.out.2]; exact ownZero _ _,?_⟩)
   all_goals (iterate 9 refine Below.setCell ?_ (by simp) _)
   all_goals (exact HE.out.1)
structure Pa where
 kind:Int
 frm:Int
 dst:Int
 seq:Int
 low:Int
 body:ByteArray
abbrev Pa.row (p:Pa):Array Value:=#[.int .i64 p.kind,.int .i64 p.frm,.int .i64 p.dst,.int .i64 p.seq,.int .i64 p.low,.string p.body]
def Pa.msg (p:Pa):Ms:=msgRes p.body.data.toList
def Pa.data (p:Pa):Bool:=((msgFit p.body.data.toList && (p.msg.frm == p.frm)) && (p.msg.dst == p.dst)) && inB p.low 1 p.seq
def Pa.ok (p:Pa):Bool:=(apartB p.frm p.dst && inB p.seq 1 999999) && (if p.kind=0 then p.data else if p.kind=1 then (p.low == 0) && p.body.toList.isEmpty else false)
theorem pbox {W:World} {b:Nat} {p:Pa} {t:TypeId} (h:W.heap[b]? = some (.cells p.row t)):W.cell? ⟨b,1,none⟩=some (.int .i64 p.frm)∧W.cell? ⟨b,2,none⟩=some (.int .i64 p.dst)∧W.cell? ⟨b,3,none⟩=some (.int .i64 p.seq)∧W.cell? ⟨b,4,none⟩=some (.int .i64 p.low) :=
 ⟨(cell_of_block h 1).trans rfl,(cell_of_block h 2).trans rfl,(cell_of_block h 3).trans rfl,(cell_of_block h 4).trans rfl⟩
theorem implPackOk_any (p:Pa) (w:World) (hs:p.body.size≤1048576) (hg:ET w) :
  Calls Tryz.prog 189 #[.agg p.row] w fun e w'=>e = .returned (.bool p.ok)∧Below w.heap.size w w':=by
 have hnot:=ex_not
 obtain ⟨W0,hW0⟩:∃ W0,W0=w.alloc (.cells p.row 157):=⟨_,rfl⟩
 have B0:Below w.heap.size w W0:=by rw [hW0]; exact (Below.refl _ w).alloc (Nat.le_refl _) _
 have H0:=(show Hid (_∧_) from ⟨hg.below B0,B0⟩)
 subst hW0
 clear hg B0
 unfold Pa.ok
 cases h0:apartB p.frm p.dst with
 | false =>
  go_enter Tryz.func189,Tryz.ntmps189
  go_wp2_with (go_at_call 179; refine (areApart_r _ _ _ h0 _).mono ?_; rintro e w1 ⟨rfl,rfl⟩)
  all_goals (go_ret; exact ⟨rfl,H0.out.2⟩)
 | true =>
  cases h1:inB p.seq 1 999999 with
  | false =>
   go_enter Tryz.func189,Tryz.ntmps189
   go_wp2_with (first
    | (go_at_call 179; refine (areApart_r _ _ _ h0 _).mono ?_; rintro e w1 ⟨rfl,rfl⟩)
    | (go_at_call 175; refine (within_r _ _ _ _ h1 _).mono ?_; rintro e w1 ⟨rfl,rfl⟩))
   all_goals (go_ret; exact ⟨rfl,H0.out.2⟩)
  | true =>
   by_cases k0:p.kind=0
   ·rw [if_pos k0]
    have hI:=implGetMsg_any p.body _ hs H0.out.1
    have HI:=(show Hid (_∧True) from ⟨hI,trivial⟩)
    clear hI
    unfold Pa.data Pa.msg
    generalize msgRes p.body.data.toList=m at *
    generalize msgFit p.body.data.toList=f at *
    cases f with
    | false =>
     go_enter Tryz.func189,Tryz.ntmps189
     go_wp2_with (first
      | (go_at_call 179; refine (areApart_r _ _ _ h0 _).mono ?_; rintro e w1 ⟨rfl,rfl⟩)
      | (go_at_call 175; refine (within_r _ _ _ _ h1 _).mono ?_; rintro e w1 ⟨rfl,rfl⟩)
      | (go_at_call 198; refine HI.out.1.mono ?_; rintro e w2 ⟨mv,rfl,A2,b2⟩; obtain ⟨kv,rfl,h2,-⟩:=A2; obtain ⟨oa,oc,rfl⟩:=own_form h2; clear h2))
     all_goals (go_ret; exact ⟨rfl,H0.out.2.trans ((b2.alloc b2.size _).mono H0.out.2.size)⟩)
    | true =>
     cases h3:(m.frm == p.frm) with
     | false =>
      go_enter Tryz.func189,Tryz.ntmps189
      go_wp2_with (first
       | (go_at_call 179; refine (areApart_r _ _ _ h0 _).mono ?_; rintro e w1 ⟨rfl,rfl⟩)
       | (go_at_call 175; refine (within_r _ _ _ _ h1 _).mono ?_; rintro e w1 ⟨rfl,rfl⟩)
       | (go_at_call 198; refine HI.out.1.mono ?_; rintro e w2 ⟨mv,rfl,A2,b2⟩; obtain ⟨kv,rfl,h2,-⟩:=A2; obtain ⟨oa,oc,rfl⟩:=own_form h2; clear h2; have P2:=(b2.block w.heap.size (lh (MapKept.heap_alloc w (.cells p.row 157)).1)).trans (MapKept.heap_alloc w (.cells p.row 157)).1; obtain ⟨q1,q2,q3,q4⟩:=pbox P2; have hlt2:w.heap.size<w2.heap.size:=lh P2; clear P2))
      all_goals (go_ret; exact ⟨rfl,H0.out.2.trans ((b2.alloc b2.size _).mono H0.out.2.size)⟩)
     | true =>
      cases h4:(m.dst == p.dst) with
      | false =>
       go_enter Tryz.func189,Tryz.ntmps189
       go_wp2_with (first
        | (go_at_call 179; refine (areApart_r _ _ _ h0 _).mono ?_; rintro e w1 ⟨rfl,rfl⟩)
        | (go_at_call 175; refine (within_r _ _ _ _ h1 _).mono ?_; rintro e w1 ⟨rfl,rfl⟩)
        | (go_at_call 198; refine HI.out.1.mono ?_; rintro e w2 ⟨mv,rfl,A2,b2⟩; obtain ⟨kv,rfl,h2,-⟩:=A2; obtain ⟨oa,oc,rfl⟩:=own_form h2; clear h2; have P2:=(b2.block w.heap.size (lh (MapKept.heap_alloc w (.cells p.row 157)).1)).trans (MapKept.heap_alloc w (.cells p.row 157)).1; obtain ⟨q1,q2,q3,q4⟩:=pbox P2; have hlt2:w.heap.size<w2.heap.size:=lh P2; clear P2))
       all_goals (go_ret; exact ⟨rfl,H0.out.2.trans ((b2.alloc b2.size _).mono H0.out.2.size)⟩)
      | true =>
       obtain ⟨f2,hf2⟩:∃ f2,inB p.low 1 p.seq=f2:=⟨_,rfl⟩
       rw [hf2]
       go_enter Tryz.func189,Tryz.ntmps189
       go_wp2_with (first
        | (go_at_call 179; refine (areApart_r _ _ _ h0 _).mono ?_; rintro e w1 ⟨rfl,rfl⟩)
        | (go_at_call 175; refine (within_any _ _ _ _).mono ?_; simp only [h1,hf2]; rintro e w1 ⟨rfl,rfl⟩)
        | (go_at_call 198; refine HI.out.1.mono ?_; rintro e w2 ⟨mv,rfl,A2,b2⟩; obtain ⟨kv,rfl,h2,-⟩:=A2; obtain ⟨oa,oc,rfl⟩:=own_form h2; clear h2; have P2:=(b2.block w.heap.size (lh (MapKept.heap_alloc w (.cells p.row 157)).1)).trans (MapKept.heap_alloc w (.cells p.row 157)).1; obtain ⟨q1,q2,q3,q4⟩:=pbox P2; have hlt2:w.heap.size<w2.heap.size:=lh P2; clear P2))
       all_goals (go_ret; exact ⟨by simp,H0.out.2.trans ((b2.alloc b2.size _).mono H0.out.2.size)⟩)
   ·rw [if_neg k0]
    have g0:(p.kind == 0)=false:=by simpa using k0
    by_cases k1:p.kind=1
    ·rw [if_pos k1]
     cases h2:(p.low == 0) with
     | false =>
      go_enter Tryz.func189,Tryz.ntmps189
      go_wp2_with (first
       | (go_at_call 179; refine (areApart_r _ _ _ h0 _).mono ?_; rintro e w1 ⟨rfl,rfl⟩)
       | (go_at_call 175; refine (within_r _ _ _ _ h1 _).mono ?_; rintro e w1 ⟨rfl,rfl⟩))
      go_ret
      exact ⟨rfl,H0.out.2⟩
     | true =>
      go_enter Tryz.func189,Tryz.ntmps189
      go_wp2_with (first
       | (go_at_call 179; refine (areApart_r _ _ _ h0 _).mono ?_; rintro e w1 ⟨rfl,rfl⟩)
       | (go_at_call 175; refine (within_r _ _ _ _ h1 _).mono ?_; rintro e w1 ⟨rfl,rfl⟩))
      go_ret
      exact ⟨by simp,H0.out.2⟩
    ·rw [if_neg k1]
     have g1:(p.kind == 1)=false:=by simpa using k1
     go_enter Tryz.func189,Tryz.ntmps189
     go_wp2_with (first
      | (go_at_call 179; refine (areApart_r _ _ _ h0 _).mono ?_; rintro e w1 ⟨rfl,rfl⟩)
      | (go_at_call 175; refine (within_r _ _ _ _ h1 _).mono ?_; rintro e w1 ⟨rfl,rfl⟩))
     go_ret
     exact ⟨rfl,H0.out.2⟩
theorem Pa.ok_no {p:Pa} (h:¬ (nodeOk p.frm=true∧nodeOk p.dst=true∧p.frm≠p.dst∧inB p.seq 1 999999=true)):p.ok=false:=by
 unfold Pa.ok apartB
 cases h1:nodeOk p.frm <;> cases h2:nodeOk p.dst <;> cases h3:inB p.seq 1 999999 <;> simp_all
theorem Pa.ok_yes {p:Pa} (h1:nodeOk p.frm=true) (h2:nodeOk p.dst=true) (h3:p.frm≠p.dst) (h4:inB p.seq 1 999999=true):p.ok=(if p.kind=0 then p.data else if p.kind=1 then (p.low == 0) && p.body.toList.isEmpty else false):=by
 unfold Pa.ok apartB
 rw [h1,h2,h4]
 simp [h3]
theorem pbox6 {W:World} {b:Nat} {p:Pa} {t:TypeId} (h:W.heap[b]? = some (.cells p.row t)):W.cell? ⟨b,0,none⟩=some (.int .i64 p.kind)∧W.cell? ⟨b,1,none⟩=some (.int .i64 p.frm)∧W.cell? ⟨b,2,none⟩=some (.int .i64 p.dst)∧W.cell? ⟨b,3,none⟩=some (.int .i64 p.seq)∧W.cell? ⟨b,4,none⟩=some (.int .i64 p.low)∧W.cell? ⟨b,5,none⟩=some (.string p.body) :=
 ⟨(cell_of_block h 0).trans rfl,(cell_of_block h 1).trans rfl,(cell_of_block h 2).trans rfl,(cell_of_block h 3).trans rfl,(cell_of_block h 4).trans rfl,(cell_of_block h 5).trans rfl⟩
theorem specPackOk_any (p:Pa) (w:World) (hs:p.body.size≤1048576) :
  Calls Tryz.prog 119 #[.agg p.row] w fun e w'=>e = .returned (.bool p.ok)∧Below w.heap.size w w':=by
 have hnot:=ex_not
 have B0:Below w.heap.size w (w.alloc (.cells p.row 157)):=(Below.refl _ w).alloc (Nat.le_refl _) _
 have H0:=(show Hid (_∧True) from ⟨B0,trivial⟩)
 clear B0
 by_cases hall:nodeOk p.frm=true∧nodeOk p.dst=true∧p.frm≠p.dst∧inB p.seq 1 999999=true
 case neg =>
  rw [Pa.ok_no hall]
  cases h1:nodeOk p.frm with
  | false =>
   go_enter Tryz.func119,Tryz.ntmps119
   go_wp2_with (go_at_call 86; refine (l07Node_any _ _ h1 _).mono ?_; rintro e w1 ⟨rfl,rfl⟩)
   all_goals (go_ret; exact ⟨rfl,H0.out.1⟩)
  | true =>
   cases h2:nodeOk p.dst with
   | false =>
    go_enter Tryz.func119,Tryz.ntmps119
    go_wp2_with (first
     | (go_at_call 86; refine (l07Node_any _ _ h1 _).mono ?_; rintro e w1 ⟨rfl,rfl⟩)
     | (go_at_call 86; refine (l07Node_any _ _ h2 _).mono ?_; rintro e w1 ⟨rfl,rfl⟩))
    all_goals (go_ret; exact ⟨rfl,H0.out.1⟩)
   | true =>
    by_cases h3:p.frm=p.dst
    ·have h3':(p.frm == p.dst)=true:=by simpa using h3
     go_enter Tryz.func119,Tryz.ntmps119
     go_wp2_with (first
      | (go_at_call 86; refine (l07Node_any _ _ h1 _).mono ?_; rintro e w1 ⟨rfl,rfl⟩)
      | (go_at_call 86; refine (l07Node_any _ _ h2 _).mono ?_; rintro e w1 ⟨rfl,rfl⟩))
     all_goals (go_ret; exact ⟨rfl,H0.out.1⟩)
    ·have h3':(p.frm == p.dst)=false:=by simpa using h3
     have h4:inB p.seq 1 999999=false:=by
      cases h:inB p.seq 1 999999 with
      | false=>rfl
      | true=>exact absurd ⟨h1,h2,h3,h⟩ hall
     clear hall
     go_enter Tryz.func119,Tryz.ntmps119
     go_wp2_with (first
      | (go_at_call 86; refine (l07Node_any _ _ h1 _).mono ?_; rintro e w1 ⟨rfl,rfl⟩)
      | (go_at_call 86; refine (l07Node_any _ _ h2 _).mono ?_; rintro e w1 ⟨rfl,rfl⟩)
      | (go_at_call 84; refine (specIn_any _ _ _ _).mono ?_; rw [h4]; rintro e w1 ⟨rfl,rfl⟩))
     all_goals (go_ret; exact ⟨rfl,H0.out.1⟩)
 obtain ⟨h1,h2,h3,h4⟩:=hall
 have h3':(p.frm == p.dst)=false:=by simpa using h3
 have HOK:=(show Hid (_∧True) from ⟨Pa.ok_yes h1 h2 h3 h4,trivial⟩)
 clear h3
 by_cases k1:p.kind=1
 ·have HV:Hid (p.ok=((p.low == 0) && p.body.toList.isEmpty)):=by
   show _=_
   rw [HOK.out.1,k1]
   rfl
  cases h5:(p.low == 0) with
  | false =>
   go_enter Tryz.func119,Tryz.ntmps119
   go_wp2_with (first
    | (go_at_call 86; refine (l07Node_any _ _ h1 _).mono ?_; rintro e w1 ⟨rfl,rfl⟩)
    | (go_at_call 86; refine (l07Node_any _ _ h2 _).mono ?_; rintro e w1 ⟨rfl,rfl⟩)
    | (go_at_call 84; refine (specIn_any _ _ _ _).mono ?_; rw [h4]; rintro e w1 ⟨rfl,rfl⟩))
   go_ret
   exact ⟨by rw [HV.out,h5]; rfl,H0.out.1⟩
  | true =>
   go_enter Tryz.func119,Tryz.ntmps119
   go_wp2_with (first
    | (go_at_call 86; refine (l07Node_any _ _ h1 _).mono ?_; rintro e w1 ⟨rfl,rfl⟩)
    | (go_at_call 86; refine (l07Node_any _ _ h2 _).mono ?_; rintro e w1 ⟨rfl,rfl⟩)
    | (go_at_call 84; refine (specIn_any _ _ _ _).mono ?_; rw [h4]; rintro e w1 ⟨rfl,rfl⟩))
   go_ret
   exact ⟨by rw [HV.out,h5]; simp,H0.out.1⟩
 have g1:(p.kind == 1)=false:=by simpa using k1
 have HI:=(show Hid (_∧True) from ⟨specGetMsg_any p.body (w.alloc (.cells p.row 157)) hs,trivial⟩)
 by_cases k0:p.kind=0
 case neg =>
  have g0:(p.kind == 0)=false:=by simpa using k0
  have HV:Hid (p.ok=false):=by
   show _=_
   rw [HOK.out.1,if_neg k0,if_neg k1]
  go_enter Tryz.func119,Tryz.ntmps119
  go_wp2_with (first
   | (go_at_call 86; refine (l07Node_any _ _ h1 _).mono ?_; rintro e w1 ⟨rfl,rfl⟩)
   | (go_at_call 86; refine (l07Node_any _ _ h2 _).mono ?_; rintro e w1 ⟨rfl,rfl⟩)
   | (go_at_call 84; refine (specIn_any _ _ _ _).mono ?_; rw [h4]; rintro e w1 ⟨rfl,rfl⟩)
   | (go_at_call 85; refine HI.out.1.mono ?_; rintro e w2 ⟨mv,rfl,A2,b2⟩; obtain ⟨kv,rfl,h2',-⟩:=A2; obtain ⟨oa,oc,rfl⟩:=own_form h2'; clear h2'; have P2:=(b2.block w.heap.size (lh (MapKept.heap_alloc w (.cells p.row 157)).1)).trans (MapKept.heap_alloc w (.cells p.row 157)).1; obtain ⟨q0,q1,q2,q3,q4,q5⟩:=pbox6 P2; have hlt2:w.heap.size<w2.heap.size:=lh P2; clear P2))
  go_ret
  exact ⟨by rw [HV.out]; rfl,H0.out.1.trans ((b2.alloc b2.size _).mono H0.out.1.size)⟩
 have HV:Hid (p.ok=p.data):=by
  show _=_
  rw [HOK.out.1,if_pos k0]
 clear HOK
 unfold Pa.data Pa.msg at HV
 generalize msgRes p.body.data.toList=m at *
 generalize msgFit p.body.data.toList=f at *
 obtain ⟨f2,hf2⟩:∃ f2,inB p.low 1 p.seq=f2:=⟨_,rfl⟩
 rw [hf2] at HV
 cases f2 with
 | false =>
  go_enter Tryz.func119,Tryz.ntmps119
  go_wp2_with (first
   | (go_at_call 86; refine (l07Node_any _ _ h1 _).mono ?_; rintro e w1 ⟨rfl,rfl⟩)
   | (go_at_call 86; refine (l07Node_any _ _ h2 _).mono ?_; rintro e w1 ⟨rfl,rfl⟩)
   | (go_at_call 84; refine (specIn_any _ _ _ _).mono ?_; simp only [h4,hf2]; rintro e w1 ⟨rfl,rfl⟩)
   | (go_at_call 85; refine HI.out.1.mono ?_; rintro e w2 ⟨mv,rfl,A2,b2⟩; obtain ⟨kv,rfl,h2',-⟩:=A2; obtain ⟨oa,oc,rfl⟩:=own_form h2'; clear h2'; have P2:=(b2.block w.heap.size (lh (MapKept.heap_alloc w (.cells p.row 157)).1)).trans (MapKept.heap_alloc w (.cells p.row 157)).1; obtain ⟨q0,q1,q2,q3,q4,q5⟩:=pbox6 P2; have hlt2:w.heap.size<w2.heap.size:=lh P2; clear P2))
  all_goals (go_ret; exact ⟨by rw [HV.out]; simp,H0.out.1.trans ((b2.alloc b2.size _).mono H0.out.1.size)⟩)
 | true =>
  cases f with
  | false =>
   go_enter Tryz.func119,Tryz.ntmps119
   go_wp2_with (first
    | (go_at_call 86; refine (l07Node_any _ _ h1 _).mono ?_; rintro e w1 ⟨rfl,rfl⟩)
    | (go_at_call 86; refine (l07Node_any _ _ h2 _).mono ?_; rintro e w1 ⟨rfl,rfl⟩)
    | (go_at_call 84; refine (specIn_any _ _ _ _).mono ?_; simp only [h4,hf2]; rintro e w1 ⟨rfl,rfl⟩)
    | (go_at_call 85; refine HI.out.1.mono ?_; rintro e w2 ⟨mv,rfl,A2,b2⟩; obtain ⟨kv,rfl,h2',-⟩:=A2; obtain ⟨oa,oc,rfl⟩:=own_form h2'; clear h2'; have P2:=(b2.block w.heap.size (lh (MapKept.heap_alloc w (.cells p.row 157)).1)).trans (MapKept.heap_alloc w (.cells p.row 157)).1; obtain ⟨q0,q1,q2,q3,q4,q5⟩:=pbox6 P2; have hlt2:w.heap.size<w2.heap.size:=lh P2; clear P2))
   all_goals (go_ret; exact ⟨by rw [HV.out]; simp,H0.out.1.trans ((b2.alloc b2.size _).mono H0.out.1.size)⟩)
  | true =>
   cases h5:(m.frm == p.frm) with
   | false =>
    go_enter Tryz.func119,Tryz.ntmps119
    go_wp2_with (first
     | (go_at_call 86; refine (l07Node_any _ _ h1 _).mono ?_; rintro e w1 ⟨rfl,rfl⟩)
     | (go_at_call 86; refine (l07Node_any _ _ h2 _).mono ?_; rintro e w1 ⟨rfl,rfl⟩)
     | (go_at_call 84; refine (specIn_any _ _ _ _).mono ?_; simp only [h4,hf2]; rintro e w1 ⟨rfl,rfl⟩)
     | (go_at_call 85; refine HI.out.1.mono ?_; rintro e w2 ⟨mv,rfl,A2,b2⟩; obtain ⟨kv,rfl,h2',-⟩:=A2; obtain ⟨oa,oc,rfl⟩:=own_form h2'; clear h2'; have P2:=(b2.block w.heap.size (lh (MapKept.heap_alloc w (.cells p.row 157)).1)).trans (MapKept.heap_alloc w (.cells p.row 157)).1; obtain ⟨q0,q1,q2,q3,q4,q5⟩:=pbox6 P2; have hlt2:w.heap.size<w2.heap.size:=lh P2; clear P2))
    all_goals (go_ret; exact ⟨by rw [HV.out,h5]; simp,H0.out.1.trans ((b2.alloc b2.size _).mono H0.out.1.size)⟩)
   | true =>
    go_enter Tryz.func119,Tryz.ntmps119
    go_wp2_with (first
     | (go_at_call 86; refine (l07Node_any _ _ h1 _).mono ?_; rintro e w1 ⟨rfl,rfl⟩)
     | (go_at_call 86; refine (l07Node_any _ _ h2 _).mono ?_; rintro e w1 ⟨rfl,rfl⟩)
     | (go_at_call 84; refine (specIn_any _ _ _ _).mono ?_; simp only [h4,hf2]; rintro e w1 ⟨rfl,rfl⟩)
     | (go_at_call 85; refine HI.out.1.mono ?_; rintro e w2 ⟨mv,rfl,A2,b2⟩; obtain ⟨kv,rfl,h2',-⟩:=A2; obtain ⟨oa,oc,rfl⟩:=own_form h2'; clear h2'; have P2:=(b2.block w.heap.size (lh (MapKept.heap_alloc w (.cells p.row 157)).1)).trans (MapKept.heap_alloc w (.cells p.row 157)).1; obtain ⟨q0,q1,q2,q3,q4,q5⟩:=pbox6 P2; have hlt2:w.heap.size<w2.heap.size:=lh P2; clear P2))
    all_goals (go_ret; exact ⟨by rw [HV.out,h5]; simp,H0.out.1.trans ((b2.alloc b2.size _).mono H0.out.1.size)⟩)
end Go.Proofs.YtmmadoabejgffaaGreatDoor
