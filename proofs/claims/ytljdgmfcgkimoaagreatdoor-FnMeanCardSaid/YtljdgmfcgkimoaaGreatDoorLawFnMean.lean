/-
  Proofs.
-/
import Derived.Test.YtljdgmfcgkimoaaGreatDoorJ1
import Derived.Test.YtljdgmfcgkimoaaGreatDoorJ27
import Derived.Test.YtljdgmfcgkimoaaGreatDoorJ49
import Derived.Test.YtljdgmfcgkimoaaGreatDoorJ50
namespace Go.Proofs.YtljdgmfcgkimoaaGreatDoor
open Go.RowKit Go.Joins Go.Shelf
set_option maxRecDepth 100000
theorem ent_at:∀ args w,(callFunc 12 args).run Tryz.prog w = .ok (.enter 12 args) w:=enters_of Tryz.func12 (by kernel_rfl) rfl
theorem ent_mean:∀ args w,(callFunc 6 args).run Tryz.prog w = .ok (.enter 6 args) w:=enters_of Tryz.func6 (by kernel_rfl) rfl
theorem bigM_any (a:Option Addr) (len cap:Nat) (w:World) :
  Calls Tryz.prog 4 #[.slice a len cap] w fun e w'=>e = .returned (.bool (decide ((1048576:Int)<(len:Int))))∧w'=w:=by
 go_enter Tryz.func4,Tryz.ntmps4
 go_wp2
 go_ret
 exact ⟨rfl,rfl⟩
theorem at3_fun (V:Value) (len:Nat) (w:World) (hcode:CodeIs w.heap.size w V len) :
  ∃ x:Int,0≤x∧x≤255∧∀ w',Below w.heap.size w w'→Calls Tryz.prog 12 #[V,.int .i64 3] w' fun e w''=>e = .returned (.int .i64 x)∧w''=w':=by
 obtain ⟨a,cap,rfl,hl,hc⟩:=hcode
 by_cases h:3<len
 ·obtain ⟨b,off,rfl,hb,hcell⟩:=hc (by omega)
  obtain ⟨z,z0,z1,hz⟩:=hcell 3 h
  refine ⟨z,z0,z1,fun w' hw => ?_⟩
  replace hz:=(hw.cell (by exact hb)).trans hz
  clear hc hcell hw
  have h':(3:Int)<((len:Nat):Int):=by omega
  go_enter Tryz.func12,Tryz.ntmps12
  go_wp2
  go_ret
  exact ⟨rfl,rfl⟩
 ·refine ⟨(21+len) % 256,by omega,by omega,fun w' hw => ?_⟩
  clear hc hw
  have h':¬ (3:Int)<((len:Nat):Int):=by omega
  go_enter Tryz.func12,Tryz.ntmps12
  go_wp2
  go_ret
  exact ⟨rfl,rfl⟩
theorem pr_forms {w:World} {S:Nat→Prop} {d:Nat} {nv bv:Value} {p:Pr} (h:PrAt w S d (.agg #[nv,bv]) p):∃ an cn ab cb,nv = .slice an p.names.length cn∧bv = .slice ab p.bodies.length cb:=by
 obtain ⟨nv',bv',hv,hn,hk⟩:=h
 simp only [Value.agg.injEq,Array.mk.injEq,List.cons.injEq,and_true] at hv
 obtain ⟨rfl,rfl⟩:=hv
 obtain ⟨an,cn,e1⟩:=hn.form
 obtain ⟨ab,cb,e2⟩:=hk.form
 exact ⟨an,cn,ab,cb,e1,e2⟩
theorem name_at {w:World} {S:Nat→Prop} {d cn:Nat} {an:Option Addr} {bv:Value} {p:Pr} (h:PrAt w S d (.agg #[.slice an p.names.length cn,bv]) p) {i:Nat} {t:ByteArray} (ht:p.names[i]? = some t):∃ b off,an=some ⟨b,off,none⟩∧w.cell? ⟨b,off+i,none⟩=some (.string t):=by
 obtain ⟨nv',bv',hv,hn,hk⟩:=h
 simp only [Value.agg.injEq,Array.mk.injEq,List.cons.injEq,and_true] at hv
 obtain ⟨rfl,rfl⟩:=hv
 obtain ⟨a,c,e,-,hc⟩:=hn
 obtain ⟨b,off,ha,-,-,h1,-⟩:=hc i t ht
 simp only [Value.slice.injEq] at e
 exact ⟨b,off,e.1.trans ha,h1⟩
theorem addr_addJ (b off k:Nat):(⟨b,off,none⟩:Addr).add k=⟨b,off+k,none⟩:=by
 unfold Addr.add
 split
 ·rename_i h; subst h; rfl
 ·rfl
theorem ints_row {w:World} {B:Nat} {v:Value} {zs:List Int} (h:w.ownsRow B 3 1 v zs.length (zs.map (fun z=>Value.int .i64 z))) (hz:∀ z ∈ zs,inI64 z) (hm:zs.length≤maxLen):IntsAt w (fun _=>True) v zs:=by
 obtain ⟨a,cap,rfl⟩:=own_form h
 refine ⟨a,cap,rfl,hm,fun i z hi => ?_⟩
 obtain ⟨g,cap',hv⟩:=own_some h (by have:=(List.getElem?_eq_some_iff.1 hi).1; omega)
 cases hv
 refine ⟨g,0,rfl,trivial,own_lt h g rfl,?_,hz z (List.mem_of_getElem? hi)⟩
 have:=h.cells (g:=g) rfl i (.int .i64 z) (by rw [List.getElem?_map,hi]; rfl)
 rw [addr_addJ] at this
 exact this
theorem allC_in (p:Pr) (F:Int) (n:Nat):∀ z ∈ allC p F n,inI64 z:=by
 intro z hz
 unfold allC at hz
 obtain ⟨i,-,rfl⟩:=List.mem_map.1 hz
 by_cases h:aOk p F
 ·rw [aC_ok h]; have:=ofC_small p.bodies i F.toNat; unfold inI64; omega
 ·rw [aC_no h]; unfold inI64; decide
theorem all_ints {w:World} {B:Nat} {v:Value} {p:Pr} {F:Int} {n:Nat} (h:w.ownsRow B 3 1 v n ((allC p F n).map (fun z=>Value.int .i64 z))) (hn:n≤1048576):IntsAt w (fun _=>True) v (allC p F n) :=
 ints_row (by rw [allC_len]; exact h) (allC_in p F n) (by rw [allC_len]; unfold maxLen; omega)
theorem all_at {w:World} {B n i lc:Nat} {la:Option Addr} {p:Pr} {F:Int} (h:w.ownsRow B 3 1 (.slice la n lc) n ((allC p F n).map (fun z=>Value.int .i64 z))) (hi:i<n):∃ g,la=some ⟨g,0,none⟩∧w.cell? ⟨g,i,none⟩=some (.int .i64 (aC p F i)):=by
 obtain ⟨g,cap,hv⟩:=own_some h (by omega)
 simp only [Value.slice.injEq] at hv
 obtain ⟨rfl,-,-⟩:=hv
 refine ⟨g,rfl,?_⟩
 have:=h.cells (g:=g) rfl i (.int .i64 (aC p F i)) (by unfold allC; rw [List.map_map,List.getElem?_map,List.getElem?_range hi]; rfl)
 rw [addr_addJ,Nat.zero_add] at this
 exact this
theorem rowB {w w':World} {B n:Nat} {e:TypeId} {v:Value} {xs:List Value} (h:w.ownsRow B e 1 v n xs) (hb:Below w.heap.size w w'):w'.ownsRow B e 1 v n xs:=own_moved h (fun g hg=>hb.block g (own_lt h g hg))
theorem PrAt.low {w:World} {B B' d:Nat} {v:Value} {p:Pr} (h:PrAt w (fun b=>B≤b∧Pl w b) d v p) (hB:B'≤B):PrAt w (fun b=>B'≤b∧Pl w b) d v p:=h.keptP (fun _ _ _=>rfl) (Nat.le_refl _) hB
structure MSt (w W:World) (b:Nat) (nv bv:Value) (p:Pr) (d:Nat):Prop where
 bw:Below w.heap.size w W
 pr:PrAt W (fun b=>w.heap.size≤b∧Pl W b) d (.agg #[nv,bv]) p
 box:W.heap[b]? = some (.cells #[nv,bv] 27)
theorem MSt.below {w W W':World} {b:Nat} {nv bv:Value} {p:Pr} {d:Nat} (h:MSt w W b nv bv p d) (hb:Below W.heap.size W W'):MSt w W' b nv bv p d :=
 ⟨h.bw.trans (hb.mono h.bw.size),h.pr.belowP hb,(hb.block _ (lh h.box)).trans h.box⟩
set_option maxHeartbeats 12800000 in
theorem mean_small (V : Value) (len : Nat) (w : World) (hl : len ≤ 1048576) (hcode : CodeIs w.heap.size w V len) (htab : Lib.TabIs Tryz.prog w "internal/strconv.uint64pow10" .u64 Lib.pow10Tab) :
  Calls Tryz.prog 3 #[V] w fun e w'=>e = .returned (.bool true)∧Below w.heap.size w w':=by
 have HC:=(show Hid (CodeIs w.heap.size w V len∧True) from ⟨hcode,trivial⟩)
 have HT : Hid (Lib.TabIs Tryz.prog w "internal/strconv.uint64pow10" .u64 Lib.pow10Tab) := htab
 clear htab
 obtain ⟨x3,hx0,hx1,hat⟩:=at3_fun V len w hcode
 have HA:=(show Hid (∀ w',Below w.heap.size w w'→Calls Tryz.prog 12 #[V,.int .i64 3] w' fun e w''=>e = .returned (.int .i64 x3)∧w''=w') from hat)
 clear hat
 obtain ⟨a,cap,rfl,-,-⟩:=hcode
 have hbig:decide ((1048576:Int)<(len:Int))=false:=by simp; omega
 go_enter Tryz.func3,Tryz.ntmps3
 go_wp2_with fail
 refine (bigM_any a len cap _).mono ?_
 rintro e w' ⟨rfl,hw'⟩
 rw [hbig,hw']
 clear hw' w' hbig
 go_wp2_with fail
 refine (drawMean_any _ len w HC.out.1).mono ?_
 rintro e w1 ⟨nv,bv,F,rfl,hF0,hF1,⟨d,p,hp,hpl⟩,b1⟩
 obtain ⟨an,cn,ab,cb,rfl,rfl⟩:=pr_forms hp
 obtain ⟨W2,e2⟩:∃ W2,W2=w1.alloc (.cells #[.slice an p.names.length cn,.slice ab p.bodies.length cb] 27):=⟨_,rfl⟩
 have x2:W2.heap[w1.heap.size]? = some (.cells #[.slice an p.names.length cn,.slice ab p.bodies.length cb] 27):=by rw [e2]; exact block_new _ _
 have b2:Below w1.heap.size w1 W2:=by rw [e2]; exact (Below.refl _ _).alloc (Nat.le_refl _) _
 have HP:=(show Hid (MSt w W2 w1.heap.size (.slice an p.names.length cn) (.slice ab p.bodies.length cb) p d) from ⟨b1.trans (b2.mono b1.size),hp.belowP b2,x2⟩)
 clear hp hpl b1 b2 x2
 go_upto_region 4 with fail
 rw [← e2]
 clear e2
 generalize w1.heap.size=b3 at HP ⊢
 have y0:=cbk HP.out.box 0 (.slice an p.names.length cn) rfl
 have y1:=cbk HP.out.box 1 (.slice ab p.bodies.length cb) rfl
 go_wp2_with fail
 refine (implMean_any d _ p F W2 HP.out.pr.plain (Lib.tabBelow_of_tabIs HT.out _ (HP.out.bw))).mono ?_
 rintro e w3 ⟨rfl,c3⟩
 have HP3:=(show Hid (MSt w w3 b3 (.slice an p.names.length cn) (.slice ab p.bodies.length cb) p d) from HP.out.below c3)
 clear c3 HP y0 y1
 have y0:=cbk HP3.out.box 0 (.slice an p.names.length cn) rfl
 have y1:=cbk HP3.out.box 1 (.slice ab p.bodies.length cb) rfl
 go_wp2_with fail
 refine (specMean_any d _ p _ F w3 HP3.out.pr).mono ?_
 rintro e w4 ⟨rfl,c4⟩
 have HP4:=(show Hid (MSt w w4 b3 (.slice an p.names.length cn) (.slice ab p.bodies.length cb) p d) from HP3.out.below c4)
 clear c4 HP3 y0 y1
 have HM:=(show Hid ((mC p F≠0→mB p F=⟨#[]⟩)∧∀ k:Nat,(mC p F=0∨mC p F=2)→F+k≤100000→mB p (F+k)=mB p F∧mC p (F+k)=mC p F) from ⟨mean_none p F,fun k h hk=>mean_more p F k h hk⟩)
 obtain ⟨sB,hsB⟩:∃ s,s=mB p F:=⟨_,rfl⟩
 obtain ⟨sC,hsC⟩:∃ s,s=mC p F:=⟨_,rfl⟩
 rw [← hsB,← hsC] at HM ⊢
 clear hsB hsC
 go_wp2_with fail
 refine (drawMeanAll_any _ len w4 (HC.out.1.up HP4.out.bw)).mono ?_
 rintro e w5 ⟨nq,bq,G,rfl,hG0,hG1,⟨dq,q,hq,hql⟩,c5⟩
 obtain ⟨aq,cq,ar,cr,rfl,rfl⟩:=pr_forms hq
 have HP5:=(show Hid (MSt w w5 b3 (.slice an p.names.length cn) (.slice ab p.bodies.length cb) p d) from HP4.out.below c5)
 obtain ⟨W6,e6⟩:∃ W6,W6=w5.alloc (.cells #[.slice aq q.names.length cq,.slice ar q.bodies.length cr] 27):=⟨_,rfl⟩
 have x6:W6.heap[w5.heap.size]? = some (.cells #[.slice aq q.names.length cq,.slice ar q.bodies.length cr] 27):=by rw [e6]; exact block_new _ _
 have c6:Below w5.heap.size w5 W6:=by rw [e6]; exact (Below.refl _ _).alloc (Nat.le_refl _) _
 have HP6:=(show Hid (MSt w W6 b3 (.slice an p.names.length cn) (.slice ab p.bodies.length cb) p d) from HP5.out.below c6)
 have HQ6:=(show Hid (MSt w W6 w5.heap.size (.slice aq q.names.length cq) (.slice ar q.bodies.length cr) q dq) from ⟨HP6.out.bw,(hq.belowP c6).low HP4.out.bw.size,x6⟩)
 have HL:=(show Hid (q.names.length≤2001) from hql)
 clear hq hql c5 c6 x6 HP4 HP5
 go_upto_region 7 with fail
 rw [← e6]
 clear e6
 generalize w5.heap.size=b9 at HQ6 ⊢
 have y0:=cbk HQ6.out.box 0 (.slice aq q.names.length cq) rfl
 have y1:=cbk HQ6.out.box 1 (.slice ar q.bodies.length cr) rfl
 go_wp2_with fail
 refine (implMeanAll_any dq _ q G W6 HQ6.out.pr.plain (Nat.le_trans HL.out (by decide)) (Lib.tabBelow_of_tabIs HT.out _ (HQ6.out.bw))).mono ?_
 rintro e w7 ⟨lv,rfl,own7,c7⟩
 have HP7:=(show Hid (MSt w w7 b3 (.slice an p.names.length cn) (.slice ab p.bodies.length cb) p d) from HP6.out.below c7)
 have HQ7:=(show Hid (MSt w w7 b9 (.slice aq q.names.length cq) (.slice ar q.bodies.length cr) q dq) from HQ6.out.below c7)
 obtain ⟨la,lc,rfl⟩:=own_form own7
 have HO7:=(show Hid (w7.ownsRow W6.heap.size 3 1 (.slice la q.names.length lc) q.names.length ((allC q G q.names.length).map (fun z=>Value.int .i64 z))) from own7)
 clear own7 c7 HP6 HQ6 y0 y1
 have y0:=cbk HQ7.out.box 0 (.slice aq q.names.length cq) rfl
 have y1:=cbk HQ7.out.box 1 (.slice ar q.bodies.length cr) rfl
 have hss:(sB.toList != sB.toList)=false:=by simp
 have hst:(sC != sC)=false:=by simp
 have hnot:=ex_not
 go_wp2_with fail
 refine (specMeanAll_any dq _ q _ G w7 HQ7.out.pr (Nat.le_trans HL.out (by decide))).mono ?_
 rintro e w8 ⟨lv2,rfl,own8,c8⟩
 have HP8:=(show Hid (MSt w w8 b3 (.slice an p.names.length cn) (.slice ab p.bodies.length cb) p d) from HP7.out.below c8)
 have HQ8:=(show Hid (MSt w w8 b9 (.slice aq q.names.length cq) (.slice ar q.bodies.length cr) q dq) from HQ7.out.below c8)
 have HO8:=(show Hid (w8.ownsRow W6.heap.size 3 1 (.slice la q.names.length lc) q.names.length ((allC q G q.names.length).map (fun z=>Value.int .i64 z))∧w8.ownsRow w7.heap.size 3 1 lv2 q.names.length ((allC q G q.names.length).map (fun z=>Value.int .i64 z))) from ⟨rowB HO7.out c8,own8⟩)
 clear own8 c8 HP7 HQ7 HO7 y0 y1
 go_wp2_with fail
 refine (sameInts_same _ _ (allC q G q.names.length) _ _ w8 (all_ints HO8.out.1 (Nat.le_trans HL.out (by decide))) (all_ints HO8.out.2 (Nat.le_trans HL.out (by decide)))).mono ?_
 rintro e w9 ⟨rfl,c9⟩
 have HS:=(show Hid (MSt w w9 b3 (.slice an p.names.length cn) (.slice ab p.bodies.length cb) p d∧MSt w w9 b9 (.slice aq q.names.length cq) (.slice ar q.bodies.length cr) q dq∧w9.ownsRow W6.heap.size 3 1 (.slice la q.names.length lc) q.names.length ((allC q G q.names.length).map (fun z=>Value.int .i64 z))) from ⟨HP8.out.below c9,HQ8.out.below c9,rowB HO8.out.1 c9⟩)
 clear c9 HP8 HQ8 HO8
 have hc:sC=0∨sC=2∨((sC != 0)=true∧(sC != 2)=true∧(!sB.toList.isEmpty)=false):=by
  by_cases h0:sC=0
  ·exact .inl h0
  ·by_cases h2:sC=2
   ·exact .inr (.inl h2)
   ·exact .inr (.inr ⟨by simpa using h0,by simpa using h2,by rw [HM.out.1 h0,ByteArray.toList_eq]; rfl⟩)
 rcases hc with rfl | rfl | ⟨hs0,hs2,hse⟩
 ·go_wp2_with fail
  go_loopw [12,13,14] (fun i _ _ wr=>∃ k:Nat,k≤q.names.length∧i = .int .i64 k∧Hid (MSt w wr b3 (.slice an p.names.length cn) (.slice ab p.bodies.length cb) p d∧MSt w wr b9 (.slice aq q.names.length cq) (.slice ar q.bodies.length cr) q dq∧wr.ownsRow W6.heap.size 3 1 (.slice la q.names.length lc) q.names.length ((allC q G q.names.length).map (fun z=>Value.int .i64 z)))) (fun i _ _ _=>q.names.length - (intOf i).toNat)
  case atStart=>exact ⟨0,Nat.zero_le _,rfl,HS⟩
  case round =>
   clear HS
   obtain ⟨k,hk,rfl,HS⟩:=hrel
   have hn:=(show Hid (q.names.length≤2001) from HL.out)
   by_cases hlt:k<q.names.length
   ·have hlt':((k:Nat):Int)<(q.names.length:Int):=by omega
    obtain ⟨t,ht⟩:∃ t,q.names[k]? = some t:=⟨_,List.getElem?_eq_getElem hlt⟩
    obtain ⟨b,off,hab,hnc⟩:=name_at HS.out.2.1.pr ht
    subst hab
    have y0:=cbk HS.out.2.1.box 0 (.slice (some ⟨b,off,none⟩) q.names.length cq) rfl
    have y1:=cbk HS.out.2.1.box 1 (.slice ar q.bodies.length cr) rfl
    have hmL:mainB.toList=[109,97,105,110]:=by rw [ByteArray.toList_eq]; rfl
    have HK:=(show Hid (k<q.names.length) from hlt)
    have hkb:((k:Nat):Int)≤2001:=by have:=HL.out; omega
    by_cases hm:t.toList=mainB.toList
    ·have hmb:(t.toList == [109,97,105,110])=true:=by rw [hm,hmL]; rfl
     have HMC:=(show Hid (aC q G k=mC q G) from main_code q G k hlt (by rw [List.getD,ht]; exact hm))
     clear hm ht hmL
     go_wp2_with fail
     refine (implMean_any dq _ q G wr HS.out.2.1.pr.plain (Lib.tabBelow_of_tabIs HT.out _ (HS.out.2.1.bw))).mono ?_
     rintro e w10 ⟨rfl,c10⟩
     have HS2:=(show Hid (MSt w w10 b3 (.slice an p.names.length cn) (.slice ab p.bodies.length cb) p d∧MSt w w10 b9 (.slice (some ⟨b,off,none⟩) q.names.length cq) (.slice ar q.bodies.length cr) q dq∧w10.ownsRow W6.heap.size 3 1 (.slice la q.names.length lc) q.names.length ((allC q G q.names.length).map (fun z=>Value.int .i64 z))) from ⟨HS.out.1.below c10,HS.out.2.1.below c10,rowB HS.out.2.2 c10⟩)
     clear c10 HS y0 y1 hnc
     obtain ⟨lb,rfl,hlc⟩:=all_at HS2.out.2.2 hlt
     rw [HMC.out] at hlc
     have hne:(mC q G != mC q G)=false:=by simp
     clear HMC
     generalize mC q G=cq2 at hlc hne ⊢
     generalize mB q G=sq2
     go_wp2
     go_roundw
     case rel=>exact ⟨k+1,by have:=HK.out; omega,by go_num,HS2⟩
     case measure=>simp [intOf]; have:=HK.out; omega
    ·have hmb:(t.toList == [109,97,105,110])=false:=by rw [beq_eq_false_iff_ne,← hmL]; exact hm
     clear hm ht hmL
     go_wp2
     go_roundw
     case rel=>exact ⟨k+1,by have:=HK.out; omega,by go_num,HS⟩
     case measure=>simp [intOf]; have:=HK.out; omega
   ·have hlt':¬ ((k:Nat):Int)<(q.names.length:Int):=by omega
    clear hlt
    have HB:=(show Hid (MSt w wr b3 (.slice an p.names.length cn) (.slice ab p.bodies.length cb) p d) from HS.out.1)
    clear HS hk
    have y0:=cbk HB.out.box 0 (.slice an p.names.length cn) rfl
    have y1:=cbk HB.out.box 1 (.slice ab p.bodies.length cb) rfl
    go_upto_region 19 with fail
    rename_i KA hKA
    refine wp_region_held_drew (S:=fun Wq=>Wq.cell? ⟨b3,0,none⟩=some (.slice an p.names.length cn)∧Wq.cell? ⟨b3,1,none⟩=some (.slice ab p.bodies.length cb)) (by kernel_rfl) ⟨y0,y1⟩ (fun hS => ?_)
    have bd0:Below wr.heap.size wr wr.drew:=⟨rfl,rfl,rfl,Nat.le_refl _,fun _ _=>rfl⟩
    clear y0 y1
    generalize wr.drew=W11 at bd0 hS ⊢
    have HB1:=(show Hid (MSt w W11 b3 (.slice an p.names.length cn) (.slice ab p.bodies.length cb) p d) from HB.out.below bd0)
    have hw1:IntKind.i64.wrap (F+1)=F+1:=by rw [IntKind.wrap_i64]; omega
    have hw2:IntKind.i64.wrap (F+1+x3)=F+1+x3:=by rw [IntKind.wrap_i64]; omega
    clear bd0 HB
    refine wpAnyH_take (i:=0) (v:=.agg #[.slice an p.names.length cn,.slice ab p.bodies.length cb]) rfl (by kernel_rfl) (by kernel_rfl) (by kernel_rfl) (fun _ _ _ h=>h) (Or.inl ⟨by rfl,fun wq hSw => ?_⟩) hS ?_
    ·simp [execOp,Act.eval,go_sem,hSw.1,hSw.2]
    simp only [Act.put,lsk]
    refine wpAnyH_take (i:=1) (v:=.int .i64 F) rfl (by kernel_rfl) (by kernel_rfl) (by kernel_rfl) (fun _ _ _ h=>h) (Or.inl ⟨by rfl,fun wq hSw => ?_⟩) hS ?_
    ·exact ex_move _ _ _ _ rfl (by rfl) _
    simp only [Act.put,lsk]
    refine wpAnyH_take (i:=2) (v:=.int .i64 (F+1)) rfl (by kernel_rfl) (by kernel_rfl) (by kernel_rfl) (fun _ _ _ h=>h) (Or.inl ⟨by rfl,fun wq hSw => ?_⟩) hS ?_
    ·simp [execOp,Act.eval,go_sem,hw1]
    simp only [Act.put,lsk]
    refine wpAnyH_take (i:=3) (v:=.slice a len cap) rfl (by kernel_rfl) (by kernel_rfl) (by kernel_rfl) (fun _ _ _ h=>h) (Or.inl ⟨by rfl,fun wq hSw => ?_⟩) hS ?_
    ·exact ex_move _ _ _ _ rfl (by rfl) _
    simp only [Act.put,lsk]
    refine wpAnyH_ready (rs:=[4]) (by kernel_rfl) (by simp) ?_
    refine AllReadyH.cons rfl (fun K hK => ?_) (AllReadyH.nil)
    refine step_callTwo rfl 12 (.tmp 102) (.const (.int .i64 3)) _ rfl ent_at (.slice a len cap) (.int .i64 3) (by rfl) rfl (fun r w'=>r = .int .i64 x3∧w'=W11) ((HA.out W11 HB1.out.bw).mono (fun e w' ⟨he,hw⟩=>⟨_,he,rfl,hw⟩)) ?_
    rintro r w12 ⟨rfl,rfl⟩
    have hS:(fun Wq:World=>Wq.cell? ⟨b3,0,none⟩=some (.slice an p.names.length cn)∧Wq.cell? ⟨b3,1,none⟩=some (.slice ab p.bodies.length cb)) w12:=hS
    refine hK _ _ hS (fun _ => ?_)
    clear hK K
    simp only [Act.put,lsk]
    refine wpAnyH_take (i:=5) (v:=.int .i64 (F+1+x3)) rfl (by kernel_rfl) (by kernel_rfl) (by kernel_rfl) (fun _ _ _ h=>h) (Or.inl ⟨by rfl,fun wq hSw => ?_⟩) hS ?_
    ·simp [execOp,Act.eval,go_sem,hw2]
    simp only [Act.put,lsk]
    refine wpAnyH_ready (rs:=[6]) (by kernel_rfl) (by simp) ?_
    refine AllReadyH.cons rfl (fun K hK => ?_) (AllReadyH.nil)
    refine step_callTwo rfl 6 (.tmp 99) (.tmp 104) _ rfl ent_mean (.agg #[.slice an p.names.length cn,.slice ab p.bodies.length cb]) (.int .i64 (F+1+x3)) (by rfl) (by rfl) (fun r w'=>r = .tuple #[.string (mB p (F+1+x3)),.int .i64 (mC p (F+1+x3))]∧Below w12.heap.size w12 w') ((implMean_any d _ p (F+1+x3) w12 HB1.out.pr.plain (Lib.tabBelow_of_tabIs HT.out _ (HB1.out.bw))).mono (fun e w' ⟨he,hw⟩=>⟨_,he,rfl,hw⟩)) ?_
    rintro r W13 ⟨rfl,c13⟩
    have HB2:=(show Hid (MSt w W13 b3 (.slice an p.names.length cn) (.slice ab p.bodies.length cb) p d) from HB1.out.below c13)
    clear c13 HB1
    have y0:=cbk HB2.out.box 0 (.slice an p.names.length cn) rfl
    have y1:=cbk HB2.out.box 1 (.slice ab p.bodies.length cb) rfl
    have hS:(fun Wq:World=>Wq.cell? ⟨b3,0,none⟩=some (.slice an p.names.length cn)∧Wq.cell? ⟨b3,1,none⟩=some (.slice ab p.bodies.length cb)) W13:=⟨y0,y1⟩
    refine hK _ _ hS (fun _ => ?_)
    clear hK K
    simp only [Act.put,lsk]
    refine wpAnyH_take (i:=7) (v:=.tuple #[.string (mB p (F+1+x3)),.int .i64 (mC p (F+1+x3))]) rfl (by kernel_rfl) (by kernel_rfl) (by kernel_rfl) (fun _ _ _ h=>h) (Or.inl ⟨by rfl,fun wq hSw => ?_⟩) hS ?_
    ·exact ex_move _ _ _ _ rfl (by rfl) _
    simp only [Act.put,lsk]
    refine wpAnyH_take (i:=8) (v:=.string (mB p (F+1+x3))) rfl (by kernel_rfl) (by kernel_rfl) (by kernel_rfl) (fun _ _ _ h=>h) (Or.inl ⟨by rfl,fun wq hSw => ?_⟩) hS ?_
    ·simp [execOp,Act.eval,go_sem]
    simp only [Act.put,lsk]
    refine wpAnyH_take (i:=9) (v:=.int .i64 (mC p (F+1+x3))) rfl (by kernel_rfl) (by kernel_rfl) (by kernel_rfl) (fun _ _ _ h=>h) (Or.inl ⟨by rfl,fun wq hSw => ?_⟩) hS ?_
    ·simp [execOp,Act.eval,go_sem]
    simp only [Act.put,lsk]
    refine wpAnyH_ready (rs:=[10]) (by kernel_rfl) (by simp) ?_
    refine AllReadyH.cons rfl (fun K hK => ?_) (AllReadyH.nil)
    refine step_run rfl (.string (mB p (F+1+x3))) W13 (ex_assign _ _ _ _ rfl (by rfl) _) ?_
    have hS:(fun Wq:World=>Wq.cell? ⟨b3,0,none⟩=some (.slice an p.names.length cn)∧Wq.cell? ⟨b3,1,none⟩=some (.slice ab p.bodies.length cb)) W13:=⟨y0,y1⟩
    refine hK _ _ hS (fun _ => ?_)
    clear hK K
    simp only [Act.put,lsk]
    refine wpAnyH_ready (rs:=[11]) (by kernel_rfl) (by simp) ?_
    refine AllReadyH.cons rfl (fun K hK => ?_) (AllReadyH.nil)
    refine step_run rfl (.int .i64 (mC p (F+1+x3))) W13 (ex_assign _ _ _ _ rfl (by rfl) _) ?_
    have hS:(fun Wq:World=>Wq.cell? ⟨b3,0,none⟩=some (.slice an p.names.length cn)∧Wq.cell? ⟨b3,1,none⟩=some (.slice ab p.bodies.length cb)) W13:=⟨y0,y1⟩
    refine hK _ _ hS (fun _ => ?_)
    clear hK K
    simp only [Act.put,lsk]
    refine wpAnyH_done (by kernel_rfl) ?_ _
    refine hKA _ _ ?_
    clear hKA KA
    clear hS y0 y1 hw1 hw2
    have hmo:¬ (100000:Int)<F+1+x3→mB p (F+1+x3)=sB∧mC p (F+1+x3)=0:=fun h=>by
     have h1:=HM.out.2 (1+x3).toNat (by decide) (by omega)
     rw [show F+1+x3=F+((1+x3).toNat:Int) by omega]
     exact h1
    generalize mB p (F+1+x3)=s2 at hmo ⊢
    generalize mC p (F+1+x3)=c2 at hmo ⊢
    have HMO:=(show Hid (¬ (100000:Int)<F+1+x3→s2=sB∧c2=0) from hmo)
    clear hmo
    go_wp2_with fail
    refine (HA.out W13 HB2.out.bw).mono ?_
    rintro e w14 ⟨rfl,rfl⟩
    by_cases hbg:(100000:Int)<F+1+x3
    ·go_wp2
     go_ret
     exact ⟨rfl,HB2.out.bw⟩
    ·obtain ⟨rfl,rfl⟩:=HMO.out (by omega)
     have hq1:(s2.toList == s2.toList)=true:=by simp
     clear HMO
     go_wp2
     go_ret
     exact ⟨rfl,HB2.out.bw⟩
 ·have hse:(!sB.toList.isEmpty)=false:=by rw [HM.out.1 (by decide),ByteArray.toList_eq]; rfl
  go_wp2_with fail
  go_loopw [12,13,14] (fun i _ _ wr=>∃ k:Nat,k≤q.names.length∧i = .int .i64 k∧Hid (MSt w wr b3 (.slice an p.names.length cn) (.slice ab p.bodies.length cb) p d∧MSt w wr b9 (.slice aq q.names.length cq) (.slice ar q.bodies.length cr) q dq∧wr.ownsRow W6.heap.size 3 1 (.slice la q.names.length lc) q.names.length ((allC q G q.names.length).map (fun z=>Value.int .i64 z)))) (fun i _ _ _=>q.names.length - (intOf i).toNat)
  case atStart=>exact ⟨0,Nat.zero_le _,rfl,HS⟩
  case round =>
   clear HS
   obtain ⟨k,hk,rfl,HS⟩:=hrel
   have hn:=(show Hid (q.names.length≤2001) from HL.out)
   by_cases hlt:k<q.names.length
   ·have hlt':((k:Nat):Int)<(q.names.length:Int):=by omega
    obtain ⟨t,ht⟩:∃ t,q.names[k]? = some t:=⟨_,List.getElem?_eq_getElem hlt⟩
    obtain ⟨b,off,hab,hnc⟩:=name_at HS.out.2.1.pr ht
    subst hab
    have y0:=cbk HS.out.2.1.box 0 (.slice (some ⟨b,off,none⟩) q.names.length cq) rfl
    have y1:=cbk HS.out.2.1.box 1 (.slice ar q.bodies.length cr) rfl
    have hmL:mainB.toList=[109,97,105,110]:=by rw [ByteArray.toList_eq]; rfl
    have HK:=(show Hid (k<q.names.length) from hlt)
    have hkb:((k:Nat):Int)≤2001:=by have:=HL.out; omega
    by_cases hm:t.toList=mainB.toList
    ·have hmb:(t.toList == [109,97,105,110])=true:=by rw [hm,hmL]; rfl
     have HMC:=(show Hid (aC q G k=mC q G) from main_code q G k hlt (by rw [List.getD,ht]; exact hm))
     clear hm ht hmL
     go_wp2_with fail
     refine (implMean_any dq _ q G wr HS.out.2.1.pr.plain (Lib.tabBelow_of_tabIs HT.out _ (HS.out.2.1.bw))).mono ?_
     rintro e w10 ⟨rfl,c10⟩
     have HS2:=(show Hid (MSt w w10 b3 (.slice an p.names.length cn) (.slice ab p.bodies.length cb) p d∧MSt w w10 b9 (.slice (some ⟨b,off,none⟩) q.names.length cq) (.slice ar q.bodies.length cr) q dq∧w10.ownsRow W6.heap.size 3 1 (.slice la q.names.length lc) q.names.length ((allC q G q.names.length).map (fun z=>Value.int .i64 z))) from ⟨HS.out.1.below c10,HS.out.2.1.below c10,rowB HS.out.2.2 c10⟩)
     clear c10 HS y0 y1 hnc
     obtain ⟨lb,rfl,hlc⟩:=all_at HS2.out.2.2 hlt
     rw [HMC.out] at hlc
     have hne:(mC q G != mC q G)=false:=by simp
     clear HMC
     generalize mC q G=cq2 at hlc hne ⊢
     generalize mB q G=sq2
     go_wp2
     go_roundw
     case rel=>exact ⟨k+1,by have:=HK.out; omega,by go_num,HS2⟩
     case measure=>simp [intOf]; have:=HK.out; omega
    ·have hmb:(t.toList == [109,97,105,110])=false:=by rw [beq_eq_false_iff_ne,← hmL]; exact hm
     clear hm ht hmL
     go_wp2
     go_roundw
     case rel=>exact ⟨k+1,by have:=HK.out; omega,by go_num,HS⟩
     case measure=>simp [intOf]; have:=HK.out; omega
   ·have hlt':¬ ((k:Nat):Int)<(q.names.length:Int):=by omega
    clear hlt
    have HB:=(show Hid (MSt w wr b3 (.slice an p.names.length cn) (.slice ab p.bodies.length cb) p d) from HS.out.1)
    clear HS hk
    have y0:=cbk HB.out.box 0 (.slice an p.names.length cn) rfl
    have y1:=cbk HB.out.box 1 (.slice ab p.bodies.length cb) rfl
    go_upto_region 19 with fail
    rename_i KA hKA
    refine wp_region_held_drew (S:=fun Wq=>Wq.cell? ⟨b3,0,none⟩=some (.slice an p.names.length cn)∧Wq.cell? ⟨b3,1,none⟩=some (.slice ab p.bodies.length cb)) (by kernel_rfl) ⟨y0,y1⟩ (fun hS => ?_)
    have bd0:Below wr.heap.size wr wr.drew:=⟨rfl,rfl,rfl,Nat.le_refl _,fun _ _=>rfl⟩
    clear y0 y1
    generalize wr.drew=W11 at bd0 hS ⊢
    have HB1:=(show Hid (MSt w W11 b3 (.slice an p.names.length cn) (.slice ab p.bodies.length cb) p d) from HB.out.below bd0)
    have hw1:IntKind.i64.wrap (F+1)=F+1:=by rw [IntKind.wrap_i64]; omega
    have hw2:IntKind.i64.wrap (F+1+x3)=F+1+x3:=by rw [IntKind.wrap_i64]; omega
    clear bd0 HB
    refine wpAnyH_take (i:=0) (v:=.agg #[.slice an p.names.length cn,.slice ab p.bodies.length cb]) rfl (by kernel_rfl) (by kernel_rfl) (by kernel_rfl) (fun _ _ _ h=>h) (Or.inl ⟨by rfl,fun wq hSw => ?_⟩) hS ?_
    ·simp [execOp,Act.eval,go_sem,hSw.1,hSw.2]
    simp only [Act.put,lsk]
    refine wpAnyH_take (i:=1) (v:=.int .i64 F) rfl (by kernel_rfl) (by kernel_rfl) (by kernel_rfl) (fun _ _ _ h=>h) (Or.inl ⟨by rfl,fun wq hSw => ?_⟩) hS ?_
    ·exact ex_move _ _ _ _ rfl (by rfl) _
    simp only [Act.put,lsk]
    refine wpAnyH_take (i:=2) (v:=.int .i64 (F+1)) rfl (by kernel_rfl) (by kernel_rfl) (by kernel_rfl) (fun _ _ _ h=>h) (Or.inl ⟨by rfl,fun wq hSw => ?_⟩) hS ?_
    ·simp [execOp,Act.eval,go_sem,hw1]
    simp only [Act.put,lsk]
    refine wpAnyH_take (i:=3) (v:=.slice a len cap) rfl (by kernel_rfl) (by kernel_rfl) (by kernel_rfl) (fun _ _ _ h=>h) (Or.inl ⟨by rfl,fun wq hSw => ?_⟩) hS ?_
    ·exact ex_move _ _ _ _ rfl (by rfl) _
    simp only [Act.put,lsk]
    refine wpAnyH_ready (rs:=[4]) (by kernel_rfl) (by simp) ?_
    refine AllReadyH.cons rfl (fun K hK => ?_) (AllReadyH.nil)
    refine step_callTwo rfl 12 (.tmp 102) (.const (.int .i64 3)) _ rfl ent_at (.slice a len cap) (.int .i64 3) (by rfl) rfl (fun r w'=>r = .int .i64 x3∧w'=W11) ((HA.out W11 HB1.out.bw).mono (fun e w' ⟨he,hw⟩=>⟨_,he,rfl,hw⟩)) ?_
    rintro r w12 ⟨rfl,rfl⟩
    have hS:(fun Wq:World=>Wq.cell? ⟨b3,0,none⟩=some (.slice an p.names.length cn)∧Wq.cell? ⟨b3,1,none⟩=some (.slice ab p.bodies.length cb)) w12:=hS
    refine hK _ _ hS (fun _ => ?_)
    clear hK K
    simp only [Act.put,lsk]
    refine wpAnyH_take (i:=5) (v:=.int .i64 (F+1+x3)) rfl (by kernel_rfl) (by kernel_rfl) (by kernel_rfl) (fun _ _ _ h=>h) (Or.inl ⟨by rfl,fun wq hSw => ?_⟩) hS ?_
    ·simp [execOp,Act.eval,go_sem,hw2]
    simp only [Act.put,lsk]
    refine wpAnyH_ready (rs:=[6]) (by kernel_rfl) (by simp) ?_
    refine AllReadyH.cons rfl (fun K hK => ?_) (AllReadyH.nil)
    refine step_callTwo rfl 6 (.tmp 99) (.tmp 104) _ rfl ent_mean (.agg #[.slice an p.names.length cn,.slice ab p.bodies.length cb]) (.int .i64 (F+1+x3)) (by rfl) (by rfl) (fun r w'=>r = .tuple #[.string (mB p (F+1+x3)),.int .i64 (mC p (F+1+x3))]∧Below w12.heap.size w12 w') ((implMean_any d _ p (F+1+x3) w12 HB1.out.pr.plain (Lib.tabBelow_of_tabIs HT.out _ (HB1.out.bw))).mono (fun e w' ⟨he,hw⟩=>⟨_,he,rfl,hw⟩)) ?_
    rintro r W13 ⟨rfl,c13⟩
    have HB2:=(show Hid (MSt w W13 b3 (.slice an p.names.length cn) (.slice ab p.bodies.length cb) p d) from HB1.out.below c13)
    clear c13 HB1
    have y0:=cbk HB2.out.box 0 (.slice an p.names.length cn) rfl
    have y1:=cbk HB2.out.box 1 (.slice ab p.bodies.length cb) rfl
    have hS:(fun Wq:World=>Wq.cell? ⟨b3,0,none⟩=some (.slice an p.names.length cn)∧Wq.cell? ⟨b3,1,none⟩=some (.slice ab p.bodies.length cb)) W13:=⟨y0,y1⟩
    refine hK _ _ hS (fun _ => ?_)
    clear hK K
    simp only [Act.put,lsk]
    refine wpAnyH_take (i:=7) (v:=.tuple #[.string (mB p (F+1+x3)),.int .i64 (mC p (F+1+x3))]) rfl (by kernel_rfl) (by kernel_rfl) (by kernel_rfl) (fun _ _ _ h=>h) (Or.inl ⟨by rfl,fun wq hSw => ?_⟩) hS ?_
    ·exact ex_move _ _ _ _ rfl (by rfl) _
    simp only [Act.put,lsk]
    refine wpAnyH_take (i:=8) (v:=.string (mB p (F+1+x3))) rfl (by kernel_rfl) (by kernel_rfl) (by kernel_rfl) (fun _ _ _ h=>h) (Or.inl ⟨by rfl,fun wq hSw => ?_⟩) hS ?_
    ·simp [execOp,Act.eval,go_sem]
    simp only [Act.put,lsk]
    refine wpAnyH_take (i:=9) (v:=.int .i64 (mC p (F+1+x3))) rfl (by kernel_rfl) (by kernel_rfl) (by kernel_rfl) (fun _ _ _ h=>h) (Or.inl ⟨by rfl,fun wq hSw => ?_⟩) hS ?_
    ·simp [execOp,Act.eval,go_sem]
    simp only [Act.put,lsk]
    refine wpAnyH_ready (rs:=[10]) (by kernel_rfl) (by simp) ?_
    refine AllReadyH.cons rfl (fun K hK => ?_) (AllReadyH.nil)
    refine step_run rfl (.string (mB p (F+1+x3))) W13 (ex_assign _ _ _ _ rfl (by rfl) _) ?_
    have hS:(fun Wq:World=>Wq.cell? ⟨b3,0,none⟩=some (.slice an p.names.length cn)∧Wq.cell? ⟨b3,1,none⟩=some (.slice ab p.bodies.length cb)) W13:=⟨y0,y1⟩
    refine hK _ _ hS (fun _ => ?_)
    clear hK K
    simp only [Act.put,lsk]
    refine wpAnyH_ready (rs:=[11]) (by kernel_rfl) (by simp) ?_
    refine AllReadyH.cons rfl (fun K hK => ?_) (AllReadyH.nil)
    refine step_run rfl (.int .i64 (mC p (F+1+x3))) W13 (ex_assign _ _ _ _ rfl (by rfl) _) ?_
    have hS:(fun Wq:World=>Wq.cell? ⟨b3,0,none⟩=some (.slice an p.names.length cn)∧Wq.cell? ⟨b3,1,none⟩=some (.slice ab p.bodies.length cb)) W13:=⟨y0,y1⟩
    refine hK _ _ hS (fun _ => ?_)
    clear hK K
    simp only [Act.put,lsk]
    refine wpAnyH_done (by kernel_rfl) ?_ _
    refine hKA _ _ ?_
    clear hKA KA
    clear hS y0 y1 hw1 hw2
    have hmo:¬ (100000:Int)<F+1+x3→mB p (F+1+x3)=sB∧mC p (F+1+x3)=2:=fun h=>by
     have h1:=HM.out.2 (1+x3).toNat (by decide) (by omega)
     rw [show F+1+x3=F+((1+x3).toNat:Int) by omega]
     exact h1
    generalize mB p (F+1+x3)=s2 at hmo ⊢
    generalize mC p (F+1+x3)=c2 at hmo ⊢
    have HMO:=(show Hid (¬ (100000:Int)<F+1+x3→s2=sB∧c2=2) from hmo)
    clear hmo
    go_wp2_with fail
    refine (HA.out W13 HB2.out.bw).mono ?_
    rintro e w14 ⟨rfl,rfl⟩
    by_cases hbg:(100000:Int)<F+1+x3
    ·go_wp2
     go_ret
     exact ⟨rfl,HB2.out.bw⟩
    ·obtain ⟨rfl,rfl⟩:=HMO.out (by omega)
     have hq1:(s2.toList == s2.toList)=true:=by simp
     clear HMO
     go_wp2
     go_ret
     exact ⟨rfl,HB2.out.bw⟩
 ·go_wp2_with fail
  go_loopw [12,13,14] (fun i _ _ wr=>∃ k:Nat,k≤q.names.length∧i = .int .i64 k∧Hid (MSt w wr b3 (.slice an p.names.length cn) (.slice ab p.bodies.length cb) p d∧MSt w wr b9 (.slice aq q.names.length cq) (.slice ar q.bodies.length cr) q dq∧wr.ownsRow W6.heap.size 3 1 (.slice la q.names.length lc) q.names.length ((allC q G q.names.length).map (fun z=>Value.int .i64 z)))) (fun i _ _ _=>q.names.length - (intOf i).toNat)
  case atStart=>exact ⟨0,Nat.zero_le _,rfl,HS⟩
  case round =>
   clear HS
   obtain ⟨k,hk,rfl,HS⟩:=hrel
   have hn:=(show Hid (q.names.length≤2001) from HL.out)
   by_cases hlt:k<q.names.length
   ·have hlt':((k:Nat):Int)<(q.names.length:Int):=by omega
    obtain ⟨t,ht⟩:∃ t,q.names[k]? = some t:=⟨_,List.getElem?_eq_getElem hlt⟩
    obtain ⟨b,off,hab,hnc⟩:=name_at HS.out.2.1.pr ht
    subst hab
    have y0:=cbk HS.out.2.1.box 0 (.slice (some ⟨b,off,none⟩) q.names.length cq) rfl
    have y1:=cbk HS.out.2.1.box 1 (.slice ar q.bodies.length cr) rfl
    have hmL:mainB.toList=[109,97,105,110]:=by rw [ByteArray.toList_eq]; rfl
    have HK:=(show Hid (k<q.names.length) from hlt)
    have hkb:((k:Nat):Int)≤2001:=by have:=HL.out; omega
    by_cases hm:t.toList=mainB.toList
    ·have hmb:(t.toList == [109,97,105,110])=true:=by rw [hm,hmL]; rfl
     have HMC:=(show Hid (aC q G k=mC q G) from main_code q G k hlt (by rw [List.getD,ht]; exact hm))
     clear hm ht hmL
     go_wp2_with fail
     refine (implMean_any dq _ q G wr HS.out.2.1.pr.plain (Lib.tabBelow_of_tabIs HT.out _ (HS.out.2.1.bw))).mono ?_
     rintro e w10 ⟨rfl,c10⟩
     have HS2:=(show Hid (MSt w w10 b3 (.slice an p.names.length cn) (.slice ab p.bodies.length cb) p d∧MSt w w10 b9 (.slice (some ⟨b,off,none⟩) q.names.length cq) (.slice ar q.bodies.length cr) q dq∧w10.ownsRow W6.heap.size 3 1 (.slice la q.names.length lc) q.names.length ((allC q G q.names.length).map (fun z=>Value.int .i64 z))) from ⟨HS.out.1.below c10,HS.out.2.1.below c10,rowB HS.out.2.2 c10⟩)
     clear c10 HS y0 y1 hnc
     obtain ⟨lb,rfl,hlc⟩:=all_at HS2.out.2.2 hlt
     rw [HMC.out] at hlc
     have hne:(mC q G != mC q G)=false:=by simp
     clear HMC
     generalize mC q G=cq2 at hlc hne ⊢
     generalize mB q G=sq2
     go_wp2
     go_roundw
     case rel=>exact ⟨k+1,by have:=HK.out; omega,by go_num,HS2⟩
     case measure=>simp [intOf]; have:=HK.out; omega
    ·have hmb:(t.toList == [109,97,105,110])=false:=by rw [beq_eq_false_iff_ne,← hmL]; exact hm
     clear hm ht hmL
     go_wp2
     go_roundw
     case rel=>exact ⟨k+1,by have:=HK.out; omega,by go_num,HS⟩
     case measure=>simp [intOf]; have:=HK.out; omega
   ·have hlt':¬ ((k:Nat):Int)<(q.names.length:Int):=by omega
    clear hlt
    go_wp2
    go_ret
    exact ⟨rfl,HS.out.1.bw⟩
end Go.Proofs.YtljdgmfcgkimoaaGreatDoor
