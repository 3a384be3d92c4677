/-
  Proofs.
-/
import Derived.Test.YtmmadoabejgffaaGreatDoorO
import Derived.Test.YtmmadoabejgffaaGreatDoorU
import Derived.Deep.RegionHeld3
import Derived.Test.YtmmadoabejgffaaGreatDoorA
import Derived.Test.YtmmadoabejgffaaGreatDoorSendP
import Derived.Test.YtmmadoabejgffaaGreatDoorLinkCopyP
namespace Go.Proofs.YtmmadoabejgffaaGreatDoor
open Go.RowKit Go.Joins
set_option maxRecDepth 100000
set_option maxHeartbeats 51200000
theorem lsbox {W:World} {b b':Nat} {l:Lk} {o:Sn} {ov sv:Value} {t t':TypeId} {fz fz':Nat×Nat} (h:W.heap[b]? = some (.cells (l.row ov sv) t fz)) (h':W.heap[b']? = some (.cells #[.int .i64 o.seq,.int .i64 o.dst,.string o.body] t' fz')):W.cell? ⟨b,0,none⟩=some (.int .i64 l.id)∧W.cell? ⟨b,1,none⟩=some (.int .i64 l.next)∧W.cell? ⟨b,2,none⟩=some ov∧W.cell? ⟨b,3,none⟩=some sv∧W.cell? ⟨b',0,none⟩=some (.int .i64 o.seq)∧W.cell? ⟨b',1,none⟩=some (.int .i64 o.dst)∧W.cell? ⟨b',2,none⟩=some (.string o.body) :=
 ⟨(lbox h).1,(lbox h).2.1,(lbox h).2.2.1,(lbox h).2.2.2,(cell_of_block h' 0).trans rfl,(cell_of_block h' 1).trans rfl,(cell_of_block h' 2).trans rfl⟩
theorem packOf_any (v:Value) (l:Lk) (o:Sn) (S:Nat→Prop) (w:World) (h:LkAt w S v l) (ho:o ∈ l.out) (hs:o.body.size≤1048576) (hg:ET w) :
  Calls Tryz.prog 104 #[v,.agg #[.int .i64 o.seq,.int .i64 o.dst,.string o.body]] w fun e w'=>e = .returned (.string ⟨(l.pack o).bytes.toArray⟩)∧Below w.heap.size w w':=by
 have hfit:inI64 l.id∧inI64 l.next:=by obtain ⟨_,_,_,a,b,_⟩:=h; exact ⟨a,b⟩
 obtain ⟨oa,oc,sa,sc,rfl,h3,h4⟩:=h.form
 have hfs:=h3.fits o ho
 obtain ⟨W0,hW0⟩:∃ W0,W0=(w.alloc (.cells (l.row (.slice oa l.out.length oc) (.slice sa l.seen.length sc)) 49)).alloc (.cells #[.int .i64 o.seq,.int .i64 o.dst,.string o.body] 93):=⟨_,rfl⟩
 have B0:Below w.heap.size w W0:=by rw [hW0]; exact ((Below.refl _ w).alloc (Nat.le_refl _) _).alloc (by simp) _
 have O0:W0.heap[w.heap.size]? = some (.cells (l.row (.slice oa l.out.length oc) (.slice sa l.seen.length sc)) 49):=by
  rw [hW0,Below.heap_alloc _ _ _ (by simp)]; exact (MapKept.heap_alloc w _).1
 have O1:W0.heap[w.heap.size+1]? = some (.cells #[.int .i64 o.seq,.int .i64 o.dst,.string o.body] 93):=by
  have:=(MapKept.heap_alloc (w.alloc (.cells (l.row (.slice oa l.out.length oc) (.slice sa l.seen.length sc)) 49)) (.cells #[.int .i64 o.seq,.int .i64 o.dst,.string o.body] 93)).1
  rw [hW0]
  simpa using this
 have hs0:w.heap.size+2≤W0.heap.size:=lh O1
 have hL:=fun (wx:World) (hx:Below w.heap.size w wx)=>lowTo_any _ l o.dst o.seq S wx (h.below hx) ⟨o,ho,rfl⟩
 have hp:(l.pack o).fits:=⟨(inI64_small (k:=0) (by decide) (by decide):inI64 0),hfit.1,hfs.2.1,hfs.1,lowL_in _ _ _ (fun s hs=>(h3.fits s hs).1) hfs.1⟩
 have hP:=fun (wx:World) (hx:ET wx)=>implPutPack_any (l.pack o) wx hs hp hx
 obtain ⟨lw,hlw⟩:∃ lw,lw=lowL l.out o.dst o.seq:=⟨_,rfl⟩
 have HEQ:Hid (l.pack o=⟨0,l.id,o.dst,o.seq,lw,o.body⟩):=by show _=_; rw [hlw]; rfl
 rw [HEQ.out] at hP
 rw [← hlw] at hL
 have H0:=(show Hid (_∧_∧_∧_∧_∧_∧_) from ⟨hL,hP,B0,O0,O1,hg,hW0⟩)
 clear h hL hP B0 O0 O1 hg hW0 h3 h4 hp hlw hfs
 go_enter Tryz.func104,Tryz.ntmps104
 go_wp2_with fail
 rw [← (show W0=_ from H0.out.2.2.2.2.2.2)]
 have hd:Below W0.heap.size W0 W0.drew:=(Below.refl _ _).drew
 have hs1:w.heap.size≤W0.drew.heap.size:=by have:=hd.size; omega
 have H1:=(show Hid (_∧_∧_∧_) from ⟨H0.out.2.2.1.trans (hd.mono (by omega)),(show W0.drew.heap[w.heap.size]? = _ from H0.out.2.2.2.1),(show W0.drew.heap[w.heap.size+1]? = _ from H0.out.2.2.2.2.1),(H0.out.2.2.2.2.2.1.below H0.out.2.2.1).below hd⟩)
 have HC:=(show Hid (_∧_) from ⟨H0.out.1,H0.out.2.1⟩)
 clear hd H0
 go_region_held3 (fun w'=>w'.cell? ⟨w.heap.size,0,none⟩=some (.int .i64 l.id)∧w'.cell? ⟨w.heap.size,1,none⟩=some (.int .i64 l.next)∧w'.cell? ⟨w.heap.size,2,none⟩=some (.slice oa l.out.length oc)∧w'.cell? ⟨w.heap.size,3,none⟩=some (.slice sa l.seen.length sc)∧w'.cell? ⟨w.heap.size+1,0,none⟩=some (.int .i64 o.seq)∧w'.cell? ⟨w.heap.size+1,1,none⟩=some (.int .i64 o.dst)∧w'.cell? ⟨w.heap.size+1,2,none⟩=some (.string o.body)) (first | exact lsbox H3.out.2.1 H3.out.2.2 | exact lsbox H2.out.2.1 H2.out.2.2.1 | exact lsbox H1.out.2.1 H1.out.2.2.1) (first
  | (go_at_call 150; refine (HC.out.1 _ H1.out.1).mono ?_; rintro e w2 ⟨rfl,b2⟩; have H2:=(show Hid (_∧_∧_∧_) from ⟨H1.out.1.trans (b2.mono hs1),(b2.block _ (lh H1.out.2.1)).trans H1.out.2.1,(b2.block _ (lh H1.out.2.2.1)).trans H1.out.2.2.1,H1.out.2.2.2.below b2⟩); clear b2 H1)
  | (go_at_call 149; refine (HC.out.2 _ H2.out.2.2.2).mono ?_; rintro e w3 ⟨rfl,b3⟩; have H3:=(show Hid (_∧_∧_) from ⟨H2.out.1.trans (b3.mono H2.out.1.size),(b3.block _ (lh H2.out.2.1)).trans H2.out.2.1,(b3.block _ (lh H2.out.2.2.1)).trans H2.out.2.2.1⟩); clear b3 H2))
 go_wp2
 go_ret
 exact ⟨by rw [HEQ.out]; rfl,H3.out.1⟩
theorem implLinkSend_any (v vm:Value) (l:Lk) (m:Ms) (S T:Nat→Prop) (a0 a1 a2:Addr) (w:World) (h:LkAt w S v l) (hm:MsAt w T vm m) (hb:l.bulk≤1048576) (hg:ET w) (he:EG a0 a1 a2 w) :
  Calls Tryz.prog 52 #[v,vm] w fun e w'=>∃ v' ov sv rs,e = .returned (.tuple #[v',.string (l.sendText m),.bool (l.goes m)])∧LkOwn w' w.heap.size v' (l.send m) ov sv rs∧Below w.heap.size w w':=by
 have hnot:=ex_not
 obtain ⟨oa,oc,sa,sc,rfl,-,-⟩:=h.form
 obtain ⟨ka,kc,rfl⟩:=hm.form
 obtain ⟨W0,hW0⟩:∃ W0,W0=((w.alloc (.cells (l.row (.slice oa l.out.length oc) (.slice sa l.seen.length sc)) 49)).alloc (.cells (m.row (.slice ka m.cell.kids.length kc)) 67)).alloc (.cells #[.int .i64 0,.int .i64 0,.slice none 0 0,.slice none 0 0] 49):=⟨_,rfl⟩
 have B0:Below w.heap.size w W0:=by rw [hW0]; exact (((Below.refl _ w).alloc (Nat.le_refl _) _).alloc (by simp) _).alloc (by simp; omega) _
 have O0:W0.heap[w.heap.size]? = some (.cells (l.row (.slice oa l.out.length oc) (.slice sa l.seen.length sc)) 49):=by
  rw [hW0,Below.heap_alloc _ _ _ (by simp; omega),Below.heap_alloc _ _ _ (by simp)]; exact (MapKept.heap_alloc w _).1
 have O1:W0.heap[w.heap.size+1]? = some (.cells (m.row (.slice ka m.cell.kids.length kc)) 67):=by
  have:=(MapKept.heap_alloc (w.alloc (.cells (l.row (.slice oa l.out.length oc) (.slice sa l.seen.length sc)) 49)) (.cells (m.row (.slice ka m.cell.kids.length kc)) 67)).1
  rw [hW0,Below.heap_alloc _ _ _ (by simp)]
  simpa using this
 have O2:W0.heap[w.heap.size+1+1]? = some (.cells (Lk.row ⟨0,0,[],[]⟩ (.slice none 0 0) (.slice none 0 0)) 49):=by
  have:=(MapKept.heap_alloc ((w.alloc (.cells (l.row (.slice oa l.out.length oc) (.slice sa l.seen.length sc)) 49)).alloc (.cells (m.row (.slice ka m.cell.kids.length kc)) 67)) (.cells #[.int .i64 0,.int .i64 0,.slice none 0 0,.slice none 0 0] 49)).1
  rw [hW0]
  simpa using this
 have hs0:w.heap.size+3≤W0.heap.size:=lh O2
 have H0:=(show Hid (_∧_∧_∧_∧_) from ⟨B0,O0,O1,O2,hW0⟩)
 have HL:=(show Hid (_∧_∧_∧_) from ⟨h,hm,hg,he⟩)
 clear B0 O0 O1 O2 hW0 h hm hg he
 go_enter Tryz.func52,Tryz.ntmps52
 go_wp2_with fail
 rw [← (show W0=_ from H0.out.2.2.2.2)]
 refine (copyLink_any _ l S _ (HL.out.1.below H0.out.1) hb).mono ?_
 rintro e w1 ⟨v1,ov1,sv1,rs1,rfl,A1,b1⟩
 have hv1:=A1.val
 obtain ⟨oa1,oc1,hov1⟩:=own_form A1.out.1
 have hrl1:rs1.length=l.seen.length:=by rw [← A1.is]; simp
 obtain ⟨n1,sa1,sc1,hn1,hsv1⟩:=own_formN A1.seen.cells
 obtain rfl:n1=l.seen.length:=by omega
 subst hov1 hsv1 hv1
 have hs1:W0.heap.size≤w1.heap.size:=b1.size
 obtain ⟨W1,hW1⟩:∃ W1,W1=w1.alloc (.cells (l.row (.slice oa1 l.out.length oc1) (.slice sa1 l.seen.length sc1)) 49):=⟨_,rfl⟩
 have bW1:Below w1.heap.size w1 W1:=by rw [hW1]; exact (Below.refl _ w1).alloc (Nat.le_refl _) _
 have M1:W1.heap[w1.heap.size]? = some (.cells (l.row (.slice oa1 l.out.length oc1) (.slice sa1 l.seen.length sc1)) 49):=by rw [hW1]; exact (MapKept.heap_alloc w1 _).1
 have b1':Below W0.heap.size W0 W1:=b1.trans (bW1.mono hs1)
 have st1:SdSt w W1 l m (.slice oa l.out.length oc) (.slice sa l.seen.length sc) (.slice ka m.cell.kids.length kc) w1.heap.size W0.heap.size l (.slice oa1 l.out.length oc1) (.slice sa1 l.seen.length sc1) rs1 :=
  ⟨H0.out.1.trans (b1'.mono (by omega)),(b1'.block _ (lh H0.out.2.1)).trans H0.out.2.1,(b1'.block _ (lh H0.out.2.2.1)).trans H0.out.2.2.1,(b1'.block _ (lh H0.out.2.2.2.1)).trans H0.out.2.2.2.1,A1.below bW1,fun b hb=>Nat.ne_of_lt (A1.own hb).2,M1,⟨hs0,hs1⟩⟩
 have Q0:=(b1.block _ (lh H0.out.2.1)).trans H0.out.2.1
 have QM:=(b1.block _ (lh H0.out.2.2.1)).trans H0.out.2.2.1
 have H1:=(show Hid (_∧_) from ⟨st1,hW1⟩)
 clear st1 b1 b1' bW1 M1 hW1 A1 H0 hn1 hrl1
 obtain ⟨q0,q1,q2,q3⟩:=lbox Q0
 have hlt:w.heap.size<w1.heap.size:=by omega
 have hlt1:w.heap.size+1<w1.heap.size:=by omega
 have hlt2:w.heap.size+1+1<w1.heap.size:=by omega
 obtain ⟨y0,y1,y2,y3,y4,y5,y6,y7,y8⟩:=boxM QM
 go_wp2_with fail
 clear q0 q1 q2 q3 Q0 y0 y1 y2 y3 y4 y5 y6 y7 y8 QM
 rw [← (show W1=w1.alloc (.cells #[.int .i64 l.id,.int .i64 l.next,.slice oa1 l.out.length oc1,.slice sa1 l.seen.length sc1] 49) from H1.out.2)]
 refine (send_any H1.out.1 (HL.out.2.1.below H1.out.1.base) hb (HL.out.2.2.2.below H1.out.1.base) (HL.out.2.2.1.below H1.out.1.base)).mono ?_
 rintro e w2 (⟨hgo,⟨a,ha,rfl⟩,b2⟩ | ⟨hgo,rfl,a6,c6,st2⟩)
 ·have HN:Hid (l.sendText m=⟨#[]⟩∧l.goes m=false∧l.send m=l):=send_no hgo
  have st2:=H1.out.1.below b2
  have eg2:=HL.out.2.2.2.below st2.base
  have H2:=(show Hid (_∧_) from ⟨st2,eg2⟩)
  obtain ⟨c10,c11,c12,c13⟩:=lbox st2.res
  have f10:=ub st2.res 0
  have f11:=ub st2.res 1
  have f12:=ub st2.res 2
  have f13:=ub st2.res 3
  obtain ⟨p0,p1,p2,p3⟩:=lbox st2.obx
  have g0:=eg2.g0
  have g1:=eg2.g1
  have g2:=eg2.g2
  obtain ⟨ca0,ta0,eb0⟩:=eg2.b0
  obtain ⟨ca1,ta1,eb1⟩:=eg2.b1
  obtain ⟨ca2,ta2,eb2⟩:=eg2.b2
  have HX:=(show Hid (_∧_∧_) from ⟨is_other a1 a0 ca1 ca0 ta1 ta0 w2 (Ne.symm eg2.ne.1) eb1 eb0,is_other a2 a0 ca2 ca0 ta2 ta0 w2 (Ne.symm eg2.ne.2.1) eb2 eb0,is_other a2 a1 ca2 ca1 ta2 ta1 w2 (Ne.symm eg2.ne.2.2) eb2 eb1⟩)
  clear hgo b2 H1 st2 eg2 eb0 eb1 eb2
  rcases ha with rfl | rfl | rfl
  ·go_wp2_with fail
   refine (is_same a w2).mono ?_
   rintro e w3 ⟨rfl,hw⟩
   rw [hw]
   clear hw
   go_wp2
   refine bodyPost_ret (v:=.tuple #[.agg (l.row (.slice oa1 l.out.length oc1) (.slice sa1 l.seen.length sc1)),.string ⟨#[]⟩,.bool false]) (by simp [results,Tryz.results52,go_sem,c10,c11,c12,c13]) rfl ?_
   obtain ⟨z1,z2⟩:=H2.out.1.fin (.int .i64 l.id) (.int .i64 l.next) (.slice oa1 l.out.length oc1) (.slice sa1 l.seen.length sc1)
   rw [HN.out.1,HN.out.2.1,HN.out.2.2]
   exact ⟨_,_,_,rs1,rfl,z1,z2⟩
  ·go_wp2_with fail
   refine HX.out.1.mono ?_
   rintro e w3 ⟨rfl,hw⟩
   rw [hw]
   clear hw
   go_wp2_with fail
   refine (is_same a w2).mono ?_
   rintro e w4 ⟨rfl,hw⟩
   rw [hw]
   clear hw
   go_wp2
   refine bodyPost_ret (v:=.tuple #[.agg (l.row (.slice oa1 l.out.length oc1) (.slice sa1 l.seen.length sc1)),.string ⟨#[]⟩,.bool false]) (by simp [results,Tryz.results52,go_sem,c10,c11,c12,c13]) rfl ?_
   obtain ⟨z1,z2⟩:=H2.out.1.fin (.int .i64 l.id) (.int .i64 l.next) (.slice oa1 l.out.length oc1) (.slice sa1 l.seen.length sc1)
   rw [HN.out.1,HN.out.2.1,HN.out.2.2]
   exact ⟨_,_,_,rs1,rfl,z1,z2⟩
  ·go_wp2_with fail
   refine HX.out.2.1.mono ?_
   rintro e w3 ⟨rfl,hw⟩
   rw [hw]
   clear hw
   go_wp2_with fail
   refine HX.out.2.2.mono ?_
   rintro e w4 ⟨rfl,hw⟩
   rw [hw]
   clear hw
   go_wp2_with fail
   refine (is_same a w2).mono ?_
   rintro e w5 ⟨rfl,hw⟩
   rw [hw]
   clear hw
   go_wp2
   refine bodyPost_ret (v:=.tuple #[.agg (l.row (.slice oa1 l.out.length oc1) (.slice sa1 l.seen.length sc1)),.string ⟨#[]⟩,.bool false]) (by simp [results,Tryz.results52,go_sem,c10,c11,c12,c13]) rfl ?_
   obtain ⟨z1,z2⟩:=H2.out.1.fin (.int .i64 l.id) (.int .i64 l.next) (.slice oa1 l.out.length oc1) (.slice sa1 l.seen.length sc1)
   rw [HN.out.1,HN.out.2.1,HN.out.2.2]
   exact ⟨_,_,_,rs1,rfl,z1,z2⟩
 ·have HY:Hid (l.sendText m=⟨((l.push m).pack (l.sentOf m)).bytes.toArray⟩∧l.goes m=true∧l.send m=l.push m):=send_yes hgo
  have hgo':=hgo
  unfold Lk.goes at hgo'
  simp only [Bool.and_eq_true] at hgo'
  have h60:l.out.length≤60:=by have:=(Lk.parts hgo'.1.1.1).2.2.1; simp at this; omega
  have hmf:=ms_fitsS HL.out.2.1
  have hbs:(l.sentOf m).body.size≤1048576:=by show m.bytes.toArray.size≤_; have:=fit_len (msg_back_fit hgo'.1.1.2 hmf); rw [List.size_toArray]; omega
  have eg2:=HL.out.2.2.2.below st2.base
  have g0:=eg2.g0
  have g1:=eg2.g1
  have g2:=eg2.g2
  obtain ⟨p0,p1,p2,p3⟩:=lbox st2.obx
  have hob2:w1.heap.size<w2.heap.size:=lh st2.obx
  have H2:=(show Hid (_∧_) from ⟨st2,HL.out.2.2.1.below st2.base⟩)
  clear hgo hgo' H1 eg2 st2
  go_wp2_with fail
  refine (is_nil a0 w2).mono ?_
  rintro e w3 ⟨rfl,hw⟩
  rw [hw]
  clear hw
  go_wp2_with fail
  refine (is_nil a1 w2).mono ?_
  rintro e w4 ⟨rfl,hw⟩
  rw [hw]
  clear hw
  go_wp2_with fail
  refine (is_nil a2 w2).mono ?_
  rintro e w5 ⟨rfl,hw⟩
  rw [hw]
  clear hw
  obtain ⟨a',cap',hv',-,hc'⟩:=H2.out.1.own.out.at
  have hlen:(l.push m).out.length=l.out.length+1:=by show (l.out ++ [l.sentOf m]).length=_; simp
  rw [hlen] at hv'
  cases hv'
  obtain ⟨b,off,hoa,hSb,hlt2,c0,c1,c2,r1,r2,r3⟩:=hc' l.out.length (l.sentOf m) (by show (l.out ++ [l.sentOf m])[l.out.length]? = _; simp)
  subst hoa
  clear hc' hSb hlen r1 r2 r3 g0 g1 g2
  obtain ⟨W3,hW3⟩:∃ W3,W3=w2.alloc (.cells #[.int .i64 (l.sentOf m).seq,.int .i64 (l.sentOf m).dst,.string (l.sentOf m).body] 93):=⟨_,rfl⟩
  have b3:Below w2.heap.size w2 W3:=by rw [hW3]; exact (Below.refl _ w2).alloc (Nat.le_refl _) _
  have O3:W3.heap[w2.heap.size]? = some (.cells #[.int .i64 (l.sentOf m).seq,.int .i64 (l.sentOf m).dst,.string (l.sentOf m).body] 93):=by rw [hW3]; exact (MapKept.heap_alloc w2 _).1
  have H3:=(show Hid (_∧_∧_∧_) from ⟨H2.out.1.below b3,O3,H2.out.2.below b3,hW3⟩)
  have hs3:w2.heap.size≤W3.heap.size:=b3.size
  clear b3 O3 hW3
  have hord:=H3.out.1.ord
  have hne1:w1.heap.size≠w.heap.size+1+1:=by omega
  have hne2:w2.heap.size≠w.heap.size+1+1:=by omega
  go_wp2_with fail
  clear p0 p1 p2 p3 c0 c1 c2 hlt2
  rw [← (show W3=_ from H3.out.2.2.2)]
  have hkeep:Hid (∀ w':World,Below W3.heap.size W3 w'→w'.cell? ⟨w1.heap.size,0,none⟩=some (.int .i64 (l.push m).id)∧w'.cell? ⟨w1.heap.size,1,none⟩=some (.int .i64 (l.push m).next)∧w'.cell? ⟨w1.heap.size,2,none⟩=some (.slice (some ⟨b,off,none⟩) (l.out.length+1) c6)∧w'.cell? ⟨w1.heap.size,3,none⟩=some (.slice sa1 l.seen.length sc1)∧w'.cell? ⟨w2.heap.size,0,none⟩=some (.int .i64 (l.sentOf m).seq)∧w'.cell? ⟨w2.heap.size,1,none⟩=some (.int .i64 (l.sentOf m).dst)∧w'.cell? ⟨w2.heap.size,2,none⟩=some (.string (l.sentOf m).body)):=fun wx hx=>sd_seven (H3.out.1.below hx) ((hx.block _ (lh H3.out.2.1)).trans H3.out.2.1)
  have B3:=(show Hid (Below W3.heap.size W3 W3.drew) from (Below.refl _ W3).drew)
  go_region_held3 (fun w'=>w'.cell? ⟨w1.heap.size,0,none⟩=some (.int .i64 (l.push m).id)∧w'.cell? ⟨w1.heap.size,1,none⟩=some (.int .i64 (l.push m).next)∧w'.cell? ⟨w1.heap.size,2,none⟩=some (.slice (some ⟨b,off,none⟩) (l.out.length+1) c6)∧w'.cell? ⟨w1.heap.size,3,none⟩=some (.slice sa1 l.seen.length sc1)∧w'.cell? ⟨w2.heap.size,0,none⟩=some (.int .i64 (l.sentOf m).seq)∧w'.cell? ⟨w2.heap.size,1,none⟩=some (.int .i64 (l.sentOf m).dst)∧w'.cell? ⟨w2.heap.size,2,none⟩=some (.string (l.sentOf m).body)) (first | exact hkeep.out _ B9.out | exact hkeep.out _ (Below.refl _ _) | exact hkeep.out _ B3.out | (have X:=hkeep.out _ B9.out; exact ⟨far4 X.1 hne1 _ _ _ _,far4 X.2.1 hne1 _ _ _ _,far4 X.2.2.1 hne1 _ _ _ _,far4 X.2.2.2.1 hne1 _ _ _ _,far4 X.2.2.2.2.1 hne2 _ _ _ _,far4 X.2.2.2.2.2.1 hne2 _ _ _ _,far4 X.2.2.2.2.2.2 hne2 _ _ _ _⟩) | go_keep) (first
   | (go_at_call 104; refine (packOf_any _ (l.push m) (l.sentOf m) _ _ (H3.out.1.below B3.out).own.at (by show l.sentOf m ∈ l.out ++ [l.sentOf m]; simp) hbs (H3.out.2.2.1.below B3.out)).mono ?_; rintro e w9 ⟨rfl,b9⟩; have B9:=(show Hid (Below W3.heap.size W3 w9) from B3.out.trans (b9.mono B3.out.size)); have H9:=(show Hid (_∧True) from ⟨H3.out.1.below B9.out,trivial⟩); obtain ⟨c10,c11,c12,c13⟩:=lbox H9.out.1.res; have f10:w9.frozen? ⟨w.heap.size+1+1,0,none⟩=false:=unfrozen_of_block H9.out.1.res 0; have f11:w9.frozen? ⟨w.heap.size+1+1,1,none⟩=false:=unfrozen_of_block H9.out.1.res 1; have f12:w9.frozen? ⟨w.heap.size+1+1,2,none⟩=false:=unfrozen_of_block H9.out.1.res 2; have f13:w9.frozen? ⟨w.heap.size+1+1,3,none⟩=false:=unfrozen_of_block H9.out.1.res 3; clear b9))
  all_goals
   go_wp2_with fail
   refine bodyPost_ret (v:=.tuple #[.agg #[.int .i64 (l.push m).id,.int .i64 (l.push m).next,.slice (some ⟨b,off,none⟩) (l.out.length+1) c6,.slice sa1 l.seen.length sc1],.string ⟨((l.push m).pack (l.sentOf m)).bytes.toArray⟩,.bool true]) (by simp [results,Tryz.results52,go_sem,c10,c11,c12,c13]) rfl ?_
   rw [HY.out.1,HY.out.2.1,HY.out.2.2]
   obtain ⟨z1,z2⟩:=H9.out.1.fin (.int .i64 (l.push m).id) (.int .i64 (l.push m).next) (.slice (some ⟨b,off,none⟩) (l.out.length+1) c6) (.slice sa1 l.seen.length sc1)
   exact ⟨_,_,_,rs1,rfl,z1,z2⟩
end Go.Proofs.YtmmadoabejgffaaGreatDoor
