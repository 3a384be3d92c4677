/-
  Proofs.
-/
import Derived.Test.YtmmadoabejgffaaGreatDoorH
import Derived.Test.YtmmadoabejgffaaGreatDoorF
import Derived.Test.YtmmadoabejgffaaGreatDoorCB
import Derived.Test.YtmmadoabejgffaaGreatDoorLB
import Derived.Test.YtmmadoabejgffaaGreatDoorN
import Derived.Test.YtmmadoabejgffaaGreatDoorK
import Derived.Test.YtmmadoabejgffaaGreatDoorG
import Derived.Test.YtmmadoabejgffaaGreatDoorShelf
namespace Go.Proofs.YtmmadoabejgffaaGreatDoor
open Go.RowKit Go.Joins
set_option maxRecDepth 100000
set_option maxHeartbeats 51200000
theorem isAmong_r (a b:Int) (r:Bool) (h:amongB a b=r) (w:World):Calls Tryz.prog 174 #[.int .i64 a,.int .i64 b] w fun e w'=>e = .returned (.bool r)∧w'=w:=by
 subst h
 unfold amongB
 cases h0:decide (b≤31) with
 | false =>
  go_enter Tryz.func174,Tryz.ntmps174
  go_wp2
  go_ret
  exact ⟨rfl,rfl⟩
 | true =>
  cases h1:decide (0≤a) with
  | false =>
   go_enter Tryz.func174,Tryz.ntmps174
   go_wp2
   go_ret
   exact ⟨rfl,rfl⟩
  | true =>
   go_enter Tryz.func174,Tryz.ntmps174
   go_wp2
   go_ret
   exact ⟨by simp,rfl⟩
theorem ascend_any (kv:Value) (zs:List Int) (a b:Int) (S:Nat→Prop) (w:World) (h:IntsAt w S kv zs) (hb:b≤1000000) :
  Calls Tryz.prog 199 #[kv,.int .i64 a,.int .i64 b] w fun e w'=>e = .returned (.bool (ascB zs a b))∧w'=w:=by
 obtain ⟨ka,kcap,rfl,hkm,hkc⟩:=h
 unfold maxLen at hkm
 have hnot:=ex_not
 have HC:=(show Hid (_∧True) from ⟨hkc,trivial⟩)
 clear hkc
 go_enter Tryz.func199,Tryz.ntmps199
 go_wp2
 go_loopw [1,11] (fun lv i wr=>∃ k:Nat,k≤zs.length∧i = .int .i64 k∧lv = .int .i64 (lastI a (zs.take k))∧ascB (zs.take k) a b=true∧wr=w) (fun _ i _=>zs.length - (intOf i).toNat)
 case atStart=>exact ⟨0,Nat.zero_le _,rfl,rfl,by simp [ascB],rfl⟩
 case round =>
  obtain ⟨k,hk,rfl,rfl,hasc,rfl⟩:=hrel
  have HA:=(show Hid (_∧True) from ⟨hasc,trivial⟩)
  clear hasc
  by_cases hkl:k<zs.length
  ·have he:=List.getElem?_eq_getElem hkl
   generalize zs[k]=x at *
   obtain ⟨b0,off,rfl,hSb,hlt2,c0,r0⟩:=HC.out.1 k x he
   have hlt':((k:Nat):Int)<((zs.length:Nat):Int):=by omega
   cases hin:inB x (lastI a (zs.take k)) b with
   | true =>
    have HN:=(show Hid (_∧_) from ⟨(asc_next HA.out.1 he).trans hin,(by
     have hz:=(List.getElem?_eq_some_iff.1 he).1
     rw [List.take_succ_eq_append_getElem hz,lastI_app,(List.getElem?_eq_some_iff.1 he).2]:lastI a (zs.take (k+1))=x+1)⟩)
    have hxb:x≤1000000:=by
     have:=hin
     unfold inB at this
     simp only [Bool.and_eq_true,decide_eq_true_eq] at this
     omega
    have hx0:=r0.1
    clear he HC HA
    generalize lastI a (zs.take k)=la at *
    go_wp2_with (go_at_call 175; refine (within_r _ _ _ true hin _).mono ?_; rintro e w1 ⟨rfl,rfl⟩)
    refine ⟨⟨k+1,by omega,by go_num,by rw [HN.out.2],HN.out.1,trivial⟩,by simp [intOf]; omega⟩
   | false =>
    have HN:=(show Hid (_∧True) from ⟨asc_not he hin,trivial⟩)
    clear he HC HA
    generalize lastI a (zs.take k)=la at *
    go_wp2_with (go_at_call 175; refine (within_r _ _ _ false hin _).mono ?_; rintro e w1 ⟨rfl,rfl⟩)
    go_ret
    exact ⟨by rw [HN.out.1]; rfl,rfl⟩
  ·obtain rfl:k=zs.length:=by omega
   have HALL:=(show Hid (_∧True) from ⟨(by rw [← HA.out.1,List.take_length]:ascB zs a b=true),trivial⟩)
   clear HC HA
   generalize lastI a (zs.take zs.length)=la at *
   go_wp2
   go_ret
   exact ⟨by rw [HALL.out.1]; rfl,rfl⟩
theorem seenFits_any (kv:Value) (x:Se) (S:Nat→Prop) (w:World) (hk:IntsAt w S kv x.ids) :
  Calls Tryz.prog 178 #[.agg #[.int .i64 x.low,kv]] w fun e w'=>e = .returned (.bool x.ok)∧Below w.heap.size w w':=by
 have hkl:=hk.len
 obtain ⟨a,cap,rfl⟩:=hk.form
 have B0:Below w.heap.size w (w.alloc (.cells #[.int .i64 x.low,.slice a x.ids.length cap] 147)):=(Below.refl _ w).alloc (Nat.le_refl _) _
 have hA:=ascend_any _ x.ids x.low 999999 S _ (hk.below B0) (by decide)
 have H0:=(show Hid (_∧_) from ⟨hA,B0⟩)
 clear hk B0 hA
 unfold Se.ok
 cases h0:inB x.low 1 1000000 with
 | false =>
  go_enter Tryz.func178,Tryz.ntmps178
  go_wp2_with (go_at_call 175; refine (within_r _ _ _ _ h0 _).mono ?_; rintro e w1 ⟨rfl,rfl⟩)
  go_ret
  exact ⟨rfl,H0.out.2⟩
 | true =>
  cases h1:decide ((x.ids.length:Int)≤60) with
  | false =>
   go_enter Tryz.func178,Tryz.ntmps178
   go_wp2_with (go_at_call 175; refine (within_r _ _ _ _ h0 _).mono ?_; rintro e w1 ⟨rfl,rfl⟩)
   go_ret
   exact ⟨rfl,H0.out.2⟩
  | true =>
   go_enter Tryz.func178,Tryz.ntmps178
   go_wp2_with (first
    | (go_at_call 175; refine (within_r _ _ _ _ h0 _).mono ?_; rintro e w1 ⟨rfl,rfl⟩)
    | (go_at_call 199; refine H0.out.1.mono ?_; rintro e w1 ⟨rfl,rfl⟩))
   go_ret
   exact ⟨by simp,H0.out.2⟩
theorem allSeen_any (kv:Value) (es:List Se) (S:Nat→Prop) (w:World) (h:SeensAt w S kv es) :
  Calls Tryz.prog 177 #[kv,.func (.func 178) #[] #[]] w fun e w'=>e = .returned (.bool (es.all Se.ok))∧Below w.heap.size w w':=by
 obtain ⟨ka,kcap,rfl,hkm,hkc⟩:=h
 unfold maxLen at hkm
 have hnot:=ex_not
 have HC:=(show Hid (_∧True) from ⟨hkc,trivial⟩)
 clear hkc
 go_enter Tryz.func177,Tryz.ntmps177
 go_wp2
 go_loopw [9] (fun i wr=>∃ k:Nat,k≤es.length∧i = .int .i64 k∧(es.take k).all Se.ok=true∧Below w.heap.size w wr) (fun i _=>es.length - (intOf i).toNat)
 case atStart=>exact ⟨0,Nat.zero_le _,rfl,by simp,Below.refl _ _⟩
 case round =>
  obtain ⟨k,hk,rfl,hall,hbw⟩:=hrel
  have hsz:=hbw.size
  have HA:=(show Hid (_∧_) from ⟨hall,hbw⟩)
  clear hall
  by_cases hkl:k<es.length
  ·have he:=List.getElem?_eq_getElem hkl
   generalize es[k]=x at *
   obtain ⟨b,off,kv,rfl,hSb,hlt2,c0,c1,r0,hkk⟩:=HC.out.1 k x he
   rw [← hbw.cell (by exact hlt2)] at c0 c1
   obtain ⟨xa,xc,rfl⟩:=hkk.form
   have hlt3:b<wr.heap.size:=Nat.lt_of_lt_of_le hlt2 hsz
   have HX:=(show Hid (_∧_) from ⟨he,fun (wx:World) (hx:Below w.heap.size w wx)=>seenFits_any (.slice xa x.ids.length xc) x S wx (hkk.below hx)⟩)
   have hlt':((k:Nat):Int)<((es.length:Nat):Int):=by omega
   clear he HC hkk hbw
   cases hin:x.ok with
   | true =>
    have HN:=(show Hid (_∧True) from ⟨allT Se.ok es k HX.out.1 HA.out.1 hin,trivial⟩)
    go_wp2_with (go_at_call 178; refine (HX.out.2 _ (HA.out.2.alloc hsz _)).mono ?_; rw [hin]; rintro e w1 ⟨rfl,b1⟩; have hb1:Below w.heap.size w w1:=(HA.out.2.alloc hsz _).trans (b1.mono (by simp; omega)))
    refine ⟨⟨k+1,by omega,by go_num,HN.out.1,hb1⟩,by simp [intOf]; omega⟩
   | false =>
    have HN:=(show Hid (_∧True) from ⟨allF Se.ok es HX.out.1 hin,trivial⟩)
    go_wp2_with (go_at_call 178; refine (HX.out.2 _ (HA.out.2.alloc hsz _)).mono ?_; rw [hin]; rintro e w1 ⟨rfl,b1⟩; have hb1:Below w.heap.size w w1:=(HA.out.2.alloc hsz _).trans (b1.mono (by simp; omega)))
    go_ret
    exact ⟨by rw [HN.out.1]; rfl,hb1⟩
  ·obtain rfl:k=es.length:=by omega
   have HALL:=(show Hid (_∧_) from ⟨(by rw [← HA.out.1,List.take_length]:es.all Se.ok=true),hbw⟩)
   clear HC HA hbw
   go_wp2
   go_ret
   exact ⟨by rw [HALL.out.1]; rfl,HALL.out.2⟩
theorem isOwn_any (l:Lk) (m:Ms) (ov kv:Value) (sa:Option Addr) (sc:Nat) (w:World) (hl:l.seen.length≤maxLen) :
  Calls Tryz.prog 145 #[.agg (l.row ov (.slice sa l.seen.length sc)),.agg (m.row kv)] w fun e w'=>e = .returned (.bool (ownB l.id l.seen.length m))∧Below w.heap.size w w':=by
 unfold maxLen at hl
 have hl':((l.seen.length:Nat):Int)≤9223372036854775807:=by omega
 have B0:Hid (∀ o o':Obj,Below w.heap.size w ((w.alloc o).alloc o')):=fun o o'=>((Below.refl _ w).alloc (Nat.le_refl _) o).alloc (by simp) o'
 unfold ownB
 cases h0:(m.frm == l.id) with
 | false =>
  go_enter Tryz.func145,Tryz.ntmps145
  go_wp2
  go_ret
  exact ⟨rfl,B0.out _ _⟩
 | true =>
  go_enter Tryz.func145,Tryz.ntmps145
  go_wp2_with (go_at_call 174; refine (isAmong_r _ _ _ rfl _).mono ?_; rintro e w1 ⟨rfl,rfl⟩)
  go_ret
  exact ⟨by simp,B0.out _ _⟩
theorem outFits_any (v:Value) (l:Lk) (S:Nat→Prop) (w:World) (h:LkAt w S v l) (hn:inB l.next 1 999999=true) (hb:l.bulk≤1048576) (hg:ET w) :
  Calls Tryz.prog 176 #[v] w fun e w'=>e = .returned (.bool l.outOk)∧Below w.heap.size w w':=by
 obtain ⟨oa,oc,sa,sc,rfl,h3,h4⟩:=h.form
 have hsl:=h4.len
 have hol:=h3.len
 unfold maxLen at hol
 have hnot:=ex_not
 have hnx:1≤l.next∧l.next≤999999:=by
  unfold inB at hn
  simp only [Bool.and_eq_true,decide_eq_true_eq] at hn
  exact hn
 clear h hn
 obtain ⟨i0,hi,hz0,hz1,hz2⟩:=info_parts infoCdI
 obtain ⟨W0,hW0⟩:∃ W0,W0=w.alloc (.cells (l.row (.slice oa l.out.length oc) (.slice sa l.seen.length sc)) 49):=⟨_,rfl⟩
 have B0:Below w.heap.size w W0:=by rw [hW0]; exact (Below.refl _ w).alloc (Nat.le_refl _) _
 have O0:W0.heap[w.heap.size]? = some (.cells (l.row (.slice oa l.out.length oc) (.slice sa l.seen.length sc)) 49):=by rw [hW0]; exact (MapKept.heap_alloc w _).1
 have hbe:=(show l.bulk=bulkO l.out+bulkN l.seen from rfl)
 have H0:=(show Hid (_∧_∧_∧_∧_) from ⟨h3,B0,O0,hg,hW0⟩)
 by_cases h60:(60:Int)<(l.out.length:Int)
 ·have HR:Hid (l.outOk=false):=by
   show _=_
   unfold Lk.outOk
   rw [decide_eq_false (by omega)]
   rfl
  subst hW0
  clear h3 h4 B0 O0 hg
  go_enter Tryz.func176,Tryz.ntmps176
  go_wp2
  go_ret
  exact ⟨by rw [HR.out]; rfl,H0.out.2.1⟩
 have HR:Hid (l.outOk=(l.out.all (Sn.fits l.id l.seen.length) && ascB (l.out.map Sn.seq) 1 (l.next - 1))):=by
  show _=_
  unfold Lk.outOk
  rw [decide_eq_true (by omega)]
  rfl
 clear h3 h4 B0 O0 hg hW0
 go_enter Tryz.func176,Tryz.ntmps176
 go_wp2
 have hsl':l.seen.length≤9223372036854775807:=by unfold maxLen at hsl; omega
 go_loopw [3,15] (fun qv i wr=>∃ k:Nat,k≤l.out.length∧i = .int .i64 k∧(l.out.take k).all (Sn.fits l.id l.seen.length)=true∧wr.ownsRow (w.heap.size+1) 3 1 qv k (intVs ((l.out.take k).map Sn.seq))∧(∀ s ∈ l.out.take k,inI64 s.seq)∧wr.heap[w.heap.size]? = some (.cells (l.row (.slice oa l.out.length oc) (.slice sa l.seen.length sc)) 49)∧Below w.heap.size w wr) (fun _ i _=>l.out.length - (intOf i).toNat)
 case atStart =>
  have hO:=H0.out.2.2.1
  have hB:=H0.out.2.1
  rw [H0.out.2.2.2.2] at hO hB
  exact ⟨0,Nat.zero_le _,rfl,by simp,⟨rfl,.inl ⟨rfl,rfl⟩⟩,fun s hs=>by simp at hs,hO,hB⟩
 case round =>
  obtain ⟨k,hk,rfl,hall,hrow,hin,hbox,hbw⟩:=hrel
  obtain ⟨qa,qc,rfl⟩:=own_form hrow
  have hsz:=hbw.size
  have hsz1:w.heap.size<wr.heap.size:=lh hbox
  by_cases hkl:k<l.out.length
  ·have he:=List.getElem?_eq_getElem hkl
   have htk:l.out.take (k+1)=l.out.take k ++ [l.out[k]]:=List.take_succ_eq_append_getElem hkl
   have hbk:=bulkO_at he
   generalize l.out[k]=x at *
   obtain ⟨b,off,hoa,hSb,hlt2,c0,c1,c2,r1,r2,r3⟩:=(by obtain ⟨a',cap',hv',_,hc'⟩:=H0.out.1; cases hv'; exact hc' k x he:∃ b off,oa=some ⟨b,off,none⟩∧S b∧b<w.heap.size∧w.cell? ⟨b,off+k * 3,none⟩=some (.int .i64 x.seq)∧w.cell? ⟨b,off+k * 3+1,none⟩=some (.int .i64 x.dst)∧w.cell? ⟨b,off+k * 3+2,none⟩=some (.string x.body)∧inI64 x.seq∧inI64 x.dst∧x.body.size≤maxLen)
   subst hoa
   rw [← hbw.cell (by exact hlt2)] at c0 c1 c2
   have hlt3:b<wr.heap.size:=Nat.lt_of_lt_of_le hlt2 hsz
   have hlt':((k:Nat):Int)<((l.out.length:Nat):Int):=by omega
   obtain ⟨W1,hW1⟩:∃ W1,W1=wr.alloc (.cells x.row 93):=⟨_,rfl⟩
   have bW1:Below wr.heap.size wr W1:=by rw [hW1]; exact (Below.refl _ wr).alloc (Nat.le_refl _) _
   have M1:W1.heap[wr.heap.size]? = some (.cells x.row 93):=by rw [hW1]; exact (MapKept.heap_alloc wr _).1
   have hbs:x.body.size≤1048576:=by have:=(show x.bulk=x.body.size from rfl); omega
   have hG:=implGetMsg_any x.body W1 hbs ((H0.out.2.2.2.1.below hbw).below bW1)
   have hfs:x.fits l.id l.seen.length=((msgFit x.body.data.toList && ownB l.id l.seen.length (msgRes x.body.data.toList)) && ((msgRes x.body.data.toList).dst == x.dst)):=rfl
   generalize msgRes x.body.data.toList=m at *
   generalize msgFit x.body.data.toList=ff at *
   have H1:=(show Hid (_∧_∧_∧_∧_∧_) from ⟨hG,hfs,own_moved hrow (fun g hg=>bW1.block g (own_lt hrow g hg)),(bW1.block _ hsz1).trans hbox,hbw.trans (bW1.mono hsz),M1⟩)
   have HK:=(show Hid (_∧_∧_∧_∧_∧_) from ⟨hall,hin,he,htk,r1,hW1⟩)
   have hs1:wr.heap.size+1≤W1.heap.size:=lh M1
   clear hG hfs hrow hbox hbw M1 bW1 hall hin he htk r1 r2 r3 hSb hlt2 hW1
   go_wp2_with fail
   rw [← (show W1=_ from HK.out.2.2.2.2.2)]
   refine H1.out.1.mono ?_
   rintro e w2 ⟨mv,rfl,A2,b2⟩
   obtain ⟨kv,rfl,h2,-⟩:=A2
   obtain ⟨ma,mc,rfl⟩:=own_form h2
   clear h2 c0 c1 c2
   have hs2:W1.heap.size≤w2.heap.size:=b2.size
   have H2:=(show Hid (_∧_∧_∧_) from ⟨own_moved H1.out.2.2.1 (fun g hg=>b2.block g (own_lt H1.out.2.2.1 g hg)),(b2.block _ (lh H1.out.2.2.2.1)).trans H1.out.2.2.2.1,H1.out.2.2.2.2.1.trans (b2.mono (by omega)),(b2.block _ (lh H1.out.2.2.2.2.2)).trans H1.out.2.2.2.2.2⟩)
   have HP:=(show Hid (_∧True) from ⟨H1.out.2.1,trivial⟩)
   clear b2 H1
   obtain ⟨q0,q1,q2,q3⟩:=lbox H2.out.2.1
   have s0:w2.cell? ⟨wr.heap.size,0,none⟩=some (.int .i64 x.seq):=(cell_of_block H2.out.2.2.2 0).trans rfl
   have s1:w2.cell? ⟨wr.heap.size,1,none⟩=some (.int .i64 x.dst):=(cell_of_block H2.out.2.2.2 1).trans rfl
   have hl1:w.heap.size<w2.heap.size:=by omega
   have hl2:wr.heap.size<w2.heap.size:=by omega
   cases ff with
   | false =>
    have HF:=(show Hid (_∧_) from ⟨(by rw [allF _ _ HK.out.2.2.1 (by rw [HP.out.1]; rfl)]; rfl:(l.out.all (Sn.fits l.id l.seen.length) && ascB (l.out.map Sn.seq) 1 (l.next - 1))=false),H2.out.2.2.1.alloc (by omega) (.cells (m.row (.slice ma m.cell.kids.length mc)) 67)⟩)
    go_wp2
    go_ret
    exact ⟨by rw [HR.out,HF.out.1]; rfl,HF.out.2⟩
   | true =>
    obtain ⟨W3,hW3⟩:∃ W3,W3=w2.alloc (.cells (m.row (.slice ma m.cell.kids.length mc)) 67):=⟨_,rfl⟩
    have bW3:Below w2.heap.size w2 W3:=by rw [hW3]; exact (Below.refl _ w2).alloc (Nat.le_refl _) _
    have M3:W3.heap[w2.heap.size]? = some (.cells (m.row (.slice ma m.cell.kids.length mc)) 67):=by rw [hW3]; exact (MapKept.heap_alloc w2 _).1
    have hO:=isOwn_any l m (.slice (some ⟨b,off,none⟩) l.out.length oc) (.slice ma m.cell.kids.length mc) sa sc W3 hsl
    have H3:=(show Hid (_∧_∧_∧_∧_∧_) from ⟨hO,own_moved H2.out.1 (fun g hg=>bW3.block g (own_lt H2.out.1 g hg)),(bW3.block _ (lh H2.out.2.1)).trans H2.out.2.1,H2.out.2.2.1.trans (bW3.mono (by omega)),(bW3.block _ (lh H2.out.2.2.2)).trans H2.out.2.2.2,M3⟩)
    have hs3:w2.heap.size+1≤W3.heap.size:=lh M3
    have HW3:=(show Hid (_∧True) from ⟨hW3,trivial⟩)
    clear hO bW3 M3 H2 hW3
    go_wp2_with fail
    rw [← (show W3=_ from HW3.out.1)]
    refine H3.out.1.mono ?_
    rintro e w4 ⟨rfl,b4⟩
    clear q0 q1 q2 q3 s0 s1
    have hs4:W3.heap.size≤w4.heap.size:=b4.size
    have H4:=(show Hid (_∧_∧_∧_∧_) from ⟨own_moved H3.out.2.1 (fun g hg=>b4.block g (own_lt H3.out.2.1 g hg)),(b4.block _ (lh H3.out.2.2.1)).trans H3.out.2.2.1,H3.out.2.2.2.1.trans (b4.mono (by omega)),(b4.block _ (lh H3.out.2.2.2.2.1)).trans H3.out.2.2.2.2.1,(b4.block _ (lh H3.out.2.2.2.2.2)).trans H3.out.2.2.2.2.2⟩)
    clear b4 H3 HW3
    have s0:w4.cell? ⟨wr.heap.size,0,none⟩=some (.int .i64 x.seq):=(cell_of_block H4.out.2.2.2.1 0).trans rfl
    have s1:w4.cell? ⟨wr.heap.size,1,none⟩=some (.int .i64 x.dst):=(cell_of_block H4.out.2.2.2.1 1).trans rfl
    have m2:w4.cell? ⟨w2.heap.size,2,none⟩=some (.int .i64 m.dst):=(cell_of_block H4.out.2.2.2.2 2).trans rfl
    have hl3:wr.heap.size<w4.heap.size:=by omega
    cases ho:ownB l.id l.seen.length m with
    | false =>
     have HF:=(show Hid (_∧_) from ⟨(by rw [allF _ _ HK.out.2.2.1 (by rw [HP.out.1,ho]; rfl)]; rfl:(l.out.all (Sn.fits l.id l.seen.length) && ascB (l.out.map Sn.seq) 1 (l.next - 1))=false),H4.out.2.2.1⟩)
     go_wp2
     go_ret
     exact ⟨by rw [HR.out,HF.out.1]; rfl,HF.out.2⟩
    | true =>
     cases hd:(m.dst == x.dst) with
     | false =>
      have HF:=(show Hid (_∧_) from ⟨(by rw [allF _ _ HK.out.2.2.1 (by rw [HP.out.1,ho,hd]; rfl)]; rfl:(l.out.all (Sn.fits l.id l.seen.length) && ascB (l.out.map Sn.seq) 1 (l.next - 1))=false),H4.out.2.2.1⟩)
      go_wp2
      go_ret
      exact ⟨by rw [HR.out,HF.out.1]; rfl,HF.out.2⟩
     | true =>
      have HF:=(show Hid (_∧_) from ⟨allT _ _ k HK.out.2.2.1 HK.out.1 (by rw [HP.out.1,ho,hd]; rfl),H4.out.2.2.1⟩)
      have hO4:=H4.out.1.alloc (.cells #[.int .i64 x.seq] 3)
      have b5:Below w4.heap.size w4 (w4.alloc (.cells #[.int .i64 x.seq] 3)):=(Below.refl _ w4).alloc (Nat.le_refl _) _
      have H5:=(show Hid (_∧_∧_∧_) from ⟨hO4,(b5.block _ (lh H4.out.2.1)).trans H4.out.2.1,H4.out.2.2.1.trans (b5.mono (by omega)),trivial⟩)
      clear hO4 b5 H4
      go_wp2_with (at_builtin; refine wpList_append_own_at _ rfl _ _ 23 rfl (w.heap.size+1) 3 i0 (.int .i64 0) 1 8 Tryz.underlying23 hi hz0 hz1 hz2 rfl (by decide) _ k _ rfl H5.out.1 ⟨w4.heap.size,0,none⟩ 1 1 [.int .i64 x.seq] rfl rfl (cell_one_new _ _ _) (int_one _) (by unfold maxLen; omega) (by omega) (by simp; omega) ?_; intro v5 w5 hown5 hgrow5 hnil5 hat5)
      have hg5:∀ b,(Value.slice qa k qc).ownBlock=some b→w.heap.size+1≤b:=fun b hb=>(own_type H5.out.1 b hb).1
      refine ⟨⟨k+1,by omega,by go_num,HF.out.1,?_,?_,?_,?_⟩,by simp [intOf]; omega⟩
      ·rw [HK.out.2.2.2.1,List.map_append]
       unfold intVs
       rw [List.map_append]
       exact hown5
      ·rw [HK.out.2.2.2.1]
       intro s hs
       rcases List.mem_append.1 hs with hs | hs
       ·exact HK.out.2.1 s hs
       ·rw [List.mem_singleton.1 hs]; exact HK.out.2.2.2.2.1
      ·rw [hgrow5.block _ (lh H5.out.2.1) (fun e=>by have:=hg5 _ e.symm; omega)]
       exact H5.out.2.1
      ·exact Below.grown H5.out.2.2.1 hgrow5 (hB:=H5.out.2.2.1.size) (hr:=fun b hb=>by have:=hg5 b hb; omega)
  ·obtain rfl:k=l.out.length:=by omega
   rw [List.take_length] at hall hrow hin
   have hI:IntsAt wr (fun b=>w.heap.size+1≤b∧Pl wr b) (.slice qa l.out.length qc) (l.out.map Sn.seq):=own_ints (by rw [List.length_map]; exact hrow) (fun z hz=>by obtain ⟨s,hs,rfl⟩:=List.mem_map.1 hz; exact hin s hs)
   have hA:=ascend_any _ _ 1 (l.next - 1) _ wr hI (by omega)
   have HF:=(show Hid (_∧_∧_) from ⟨hA,hall,hbw⟩)
   obtain ⟨q0,q1,q2,q3⟩:=lbox hbox
   clear hA hI hall hrow hin hbw hbox
   go_wp2_with (go_at_call 199; refine HF.out.1.mono ?_; rintro e w1 ⟨rfl,rfl⟩)
   go_ret
   exact ⟨by rw [HR.out,HF.out.2.1]; simp,HF.out.2.2⟩
theorem implLinkOk_any (v:Value) (l:Lk) (S:Nat→Prop) (w:World) (h:LkAt w S v l) (hb:l.bulk≤1048576) (hg:ET w) :
  Calls Tryz.prog 143 #[v] w fun e w'=>e = .returned (.bool l.ok)∧Below w.heap.size w w':=by
 obtain ⟨oa,oc,sa,sc,rfl,h3,h4⟩:=h.form
 have hsl:=h4.len
 unfold maxLen at hsl
 have hsl':((l.seen.length:Nat):Int)≤9223372036854775807:=by omega
 obtain ⟨W0,hW0⟩:∃ W0,W0=w.alloc (.cells (l.row (.slice oa l.out.length oc) (.slice sa l.seen.length sc)) 49):=⟨_,rfl⟩
 have B0:Below w.heap.size w W0:=by rw [hW0]; exact (Below.refl _ w).alloc (Nat.le_refl _) _
 have O0:W0.heap[w.heap.size]? = some (.cells (l.row (.slice oa l.out.length oc) (.slice sa l.seen.length sc)) 49):=by rw [hW0]; exact (MapKept.heap_alloc w _).1
 have hs0:w.heap.size+1≤W0.heap.size:=lh O0
 unfold Lk.ok
 cases h0:amongB l.id l.seen.length with
 | false =>
  have H0:=(show Hid (_∧True) from ⟨B0,trivial⟩)
  subst hW0
  clear h3 h4 B0 O0 hg h
  go_enter Tryz.func143,Tryz.ntmps143
  go_wp2_with (go_at_call 174; refine (isAmong_r _ _ _ h0 _).mono ?_; rintro e w1 ⟨rfl,rfl⟩)
  go_ret
  exact ⟨rfl,H0.out.1⟩
 | true =>
  cases h1:inB l.next 1 999999 with
  | false =>
   have H0:=(show Hid (_∧True) from ⟨B0,trivial⟩)
   subst hW0
   clear h3 h4 B0 O0 hg h
   go_enter Tryz.func143,Tryz.ntmps143
   go_wp2_with (first
    | (go_at_call 174; refine (isAmong_r _ _ _ h0 _).mono ?_; rintro e w1 ⟨rfl,rfl⟩)
    | (go_at_call 175; refine (within_r _ _ _ _ h1 _).mono ?_; rintro e w1 ⟨rfl,rfl⟩))
   go_ret
   exact ⟨rfl,H0.out.1⟩
  | true =>
   have hF:=outFits_any _ l S W0 (h.below B0) h1 hb (hg.below B0)
   have H0:=(show Hid (_∧_∧_∧_∧_) from ⟨hF,h4.below B0,B0,O0,hW0⟩)
   clear h3 h4 B0 O0 hg h hF hW0
   go_enter Tryz.func143,Tryz.ntmps143
   cases h2:l.outOk with
   | false =>
    go_wp2_with (first
     | (go_at_call 174; refine (isAmong_r _ _ _ h0 _).mono ?_; rintro e w1 ⟨rfl,rfl⟩)
     | (go_at_call 175; refine (within_r _ _ _ _ h1 _).mono ?_; rintro e w1 ⟨rfl,rfl⟩)
     | (go_at_call 176; rw [← (show W0=_ from H0.out.2.2.2.2)]; refine H0.out.1.mono ?_; rw [h2]; rintro e w1 ⟨rfl,b1⟩))
    go_ret
    exact ⟨by simp,H0.out.2.2.1.trans (b1.mono (by omega))⟩
   | true =>
    go_wp2_with (first
     | (go_at_call 174; refine (isAmong_r _ _ _ h0 _).mono ?_; rintro e w1 ⟨rfl,rfl⟩)
     | (go_at_call 175; refine (within_r _ _ _ _ h1 _).mono ?_; rintro e w1 ⟨rfl,rfl⟩)
     | (go_at_call 176; rw [← (show W0=_ from H0.out.2.2.2.2)]; refine H0.out.1.mono ?_; rw [h2]; rintro e w1 ⟨rfl,b1⟩; have hs1:W0.heap.size≤w1.heap.size:=b1.size; have H1:=(show Hid (_∧_) from ⟨allSeen_any _ l.seen S w1 (H0.out.2.1.below b1),H0.out.2.2.1.trans (b1.mono (by omega))⟩); obtain ⟨q0,q1,q2,q3⟩:=lbox ((b1.block _ (lh H0.out.2.2.2.1)).trans H0.out.2.2.2.1); clear b1)
     | (go_at_call 177; refine H1.out.1.mono ?_; rintro e w2 ⟨rfl,b2⟩))
    go_ret
    exact ⟨by simp,H1.out.2.trans (b2.mono (by omega))⟩
theorem msg_flds {w:World} {b g fb:Nat} {m:Ms} {kv:Value} (h1:g≠b) (h2:fb≠b) (hg:w.heap[g]? = some (.cells (ptr8 fb) 269)) (hf:w.heap[fb]? = some (.cells (m.row kv) 67))
  (i0:inI64 m.kind∧inI64 m.frm∧inI64 m.dst∧inI64 m.id∧inI64 m.want) (i5:inI64 m.cell.kind) (i6:inI64 m.cell.n) (i7:inI64 m.cell.pos) :
  Flds w b g fb [0,1,2,3,4,5,6,7] [m.kind,m.frm,m.dst,m.id,m.want,m.cell.kind,m.cell.n,m.cell.pos]:=by
 refine ⟨h1,h2,hg,⟨_,_,hf,by decide,?_⟩,rfl,?_⟩
 ·intro j o z ho hz
  have hj:j<8:=(List.getElem?_eq_some_iff.1 hz).1
  have:j=0∨j=1∨j=2∨j=3∨j=4∨j=5∨j=6∨j=7:=by omega
  rcases this with rfl | rfl | rfl | rfl | rfl | rfl | rfl | rfl <;> (cases ho; cases hz; rfl)
 ·intro z hz
  simp only [List.mem_cons,List.not_mem_nil,or_false] at hz
  rcases hz with rfl | rfl | rfl | rfl | rfl | rfl | rfl | rfl
  ·exact i0.1
  ·exact i0.2.1
  ·exact i0.2.2.1
  ·exact i0.2.2.2.1
  ·exact i0.2.2.2.2
  ·exact i5
  ·exact i6
  ·exact i7
theorem implPutMsg_any (v:Value) (m:Ms) (S:Nat→Prop) (w:World) (h:MsAt w S v m) :
  Calls Tryz.prog 146 #[v] w fun e w'=>e = .returned (.string ⟨m.bytes.toArray⟩)∧Below w.heap.size w w':=by
 obtain ⟨a,c,rfl⟩:=h.form
 obtain ⟨W0,hW0⟩:∃ W0,W0=w.alloc (.cells (m.row (.slice a m.cell.kids.length c)) 67):=⟨_,rfl⟩
 have B0:Below w.heap.size w W0:=by rw [hW0]; exact (Below.refl _ w).alloc (Nat.le_refl _) _
 have O0:W0.heap[w.heap.size]? = some (.cells (m.row (.slice a m.cell.kids.length c)) 67):=by rw [hW0]; exact (MapKept.heap_alloc w _).1
 have H0:=(show Hid (_∧_∧_∧_) from ⟨h.below B0,B0,O0,hW0⟩)
 clear h B0 O0 hW0
 have hnot:=ex_not
 go_enter Tryz.func146,Tryz.ntmps146
 go_wp2_with fail
 rw [← H0.out.2.2.2]
 refine (implMsgOk_any _ m _ W0 H0.out.1).mono ?_
 rintro e w1 ⟨rfl,b1⟩
 have o1:=(b1.block _ (Array.getElem?_eq_some_iff.1 H0.out.2.2.1).1).trans H0.out.2.2.1
 have hs1:w.heap.size+1≤w1.heap.size:=by have:=(Array.getElem?_eq_some_iff.1 o1).1; omega
 have H1:=(show Hid (_∧_∧_) from ⟨H0.out.1.below b1,H0.out.2.1.trans (b1.mono H0.out.2.1.size),o1⟩)
 clear b1 o1 H0
 cases hok:m.ok with
 | false =>
  have HB:Hid (m.bytes=[]):=by unfold Ms.bytes; rw [hok]; exact rfl
  clear hok
  go_wp2
  all_goals (go_ret; exact ⟨by rw [HB.out]; exact rfl,H1.out.2.1⟩)
 | true =>
  have HB:Hid (m.bytes=numsB m.nums ++ numsB m.cell.kids):=by unfold Ms.bytes; rw [hok]; exact rfl
  have h100:=ok_len hok
  clear hok
  obtain ⟨W2,hW2⟩:∃ W2,W2=w1.alloc (.cells #[.pointer none,.slice none 0 0] 240):=⟨_,rfl⟩
  have B2:Below w1.heap.size w1 W2:=by rw [hW2]; exact (Below.refl _ w1).alloc (Nat.le_refl _) _
  have O2:W2.heap[w1.heap.size]? = some (.cells #[.pointer none,.slice none 0 0] 240):=by rw [hW2]; exact (MapKept.heap_alloc w1 _).1
  have hBL:BL w1.heap.size w1.heap.size [] W2:=.inl ⟨Nat.le_refl _,.slice none 0 0,O2,World.ownsRowF_nil _ _ _ _,by simp [Value.ownBlock]⟩
  have M2:=(B2.block _ (Array.getElem?_eq_some_iff.1 H1.out.2.2).1).trans H1.out.2.2
  have hs2:w1.heap.size+1≤W2.heap.size:=by have:=(Array.getElem?_eq_some_iff.1 O2).1; omega
  have H2:=(show Hid (_∧_∧_∧_) from ⟨hBL,B2,M2,hW2⟩)
  clear hBL B2 O2 M2 hW2
  go_wp2_with fail
  rw [← H2.out.2.2.2]
  refine (msgFields_any w.heap.size W2).mono ?_
  rintro e w3 ⟨rfl,o3,b3⟩
  obtain ⟨kv,hkv,i0,i5,i6,i7,hk⟩:=H1.out.1
  have:kv = .slice a m.cell.kids.length c:=by simp [Ms.row] at hkv; exact hkv.symm
  subst this
  have M3:=(b3.block _ (Array.getElem?_eq_some_iff.1 H2.out.2.2.1).1).trans H2.out.2.2.1
  have F3:=msg_flds (b:=w1.heap.size) (by omega) (by omega) o3 M3 i0 i5 i6 i7
  have hP:=putFields_any w1.heap.size w1.heap.size W2.heap.size w.heap.size [] _ _ 8 w3 F3 (H2.out.1.below b3) (by have:=b3.size; omega) (by simp) (by simp)
  have HP:=(show Hid (_∧_∧_∧_) from ⟨hP,M3,H2.out.2.1.trans (b3.mono (by omega)),hk⟩)
  clear hP M3 F3 o3 b3 hkv i0 i5 i6 i7 hk
  go_wp2_with fail
  refine HP.out.1.mono ?_
  rintro e w4 ⟨rfl,hL4,hB4,hO4⟩
  have M4:=hO4 _ _ HP.out.2.1 (by simp; omega) (fun c fz e=>by simp at e)
  have H4:=(show Hid (_∧_∧_) from ⟨hL4,HP.out.2.2.1.trans hB4,M4⟩)
  have hK4:=HP.out.2.2.2
  clear hL4 hB4 hO4
  have y8:w4.cell? ⟨w.heap.size,8,none⟩=some (.slice a m.cell.kids.length c):=(cell_of_block M4 8).trans rfl
  clear M4
  have hs4:=H4.out.2.1.size
  go_wp2_with fail
  refine (implPutNum_any ((m.cell.kids.length:Nat):Int) _ (by omega) (by omega)).mono ?_
  rintro e w5 ⟨rfl,b5⟩
  have hW5:=write_any w1.heap.size w1.heap.size _ (numB ((m.cell.kids.length:Nat):Int)) w5 (H4.out.1.below b5) (by rw [List.nil_append,numsB_len,numB_len]; simp) (by have:=b5.size; omega)
  have HW5:=(show Hid (_∧_∧_) from ⟨hW5,H4.out.2.1.trans (b5.mono hs4),(b5.block _ (Array.getElem?_eq_some_iff.1 H4.out.2.2).1).trans H4.out.2.2⟩)
  clear hW5 b5 y8
  rw [bs_is]
  go_wp2_with fail
  refine HW5.out.1.mono ?_
  rintro e w6 ⟨rfl,hL6,hB6,hO6⟩
  have M6:=hO6 _ _ HW5.out.2.2 (by simp; omega) (fun c fz e=>by simp at e)
  have hnu:([] ++ numsB [m.kind,m.frm,m.dst,m.id,m.want,m.cell.kind,m.cell.n,m.cell.pos]) ++ numB ((m.cell.kids.length:Nat):Int)=numsB m.nums:=by
   rw [List.nil_append]
   have:m.nums=[m.kind,m.frm,m.dst,m.id,m.want,m.cell.kind,m.cell.n,m.cell.pos] ++ [((m.cell.kids.length:Nat):Int)]:=rfl
   rw [this,numsB_app]
   simp [numsB]
  rw [hnu] at hL6
  have y8:w6.cell? ⟨w.heap.size,8,none⟩=some (.slice a m.cell.kids.length c):=(cell_of_block M6 8).trans rfl
  have H6:=(show Hid (_∧_∧_) from ⟨hL6,HW5.out.2.1.trans hB6,hK4⟩)
  have hn9:Hid ((numsB m.nums).length=72):=by show _=_; rw [numsB_len]; rfl
  clear hL6 hB6 hO6 M6 hnu HW5 HP H4 hK4
  go_wp2_with fail
  go_loopw [21] (fun iv wr=>∃ k:Nat,k≤m.cell.kids.length∧iv = .int .i64 k∧BL w1.heap.size w1.heap.size (numsB m.nums ++ numsB (m.cell.kids.take k)) wr∧Below w1.heap.size w1 wr) (fun iv _=>m.cell.kids.length - (intOf iv).toNat)
  case atStart=>exact ⟨0,Nat.zero_le _,rfl,by rw [List.take_zero,show numsB []=[] from rfl,List.append_nil]; exact H6.out.1,H6.out.2.1⟩
  case round =>
   clear y8
   obtain ⟨k,hk,rfl,hLr,hBr⟩:=hrel
   have HR:=(show Hid (_∧_) from ⟨hLr,hBr⟩)
   have hsr:=hBr.size
   clear hLr
   by_cases hkl:k<m.cell.kids.length
   ·have he:=List.getElem?_eq_getElem hkl
    generalize m.cell.kids[k]=z at *
    obtain ⟨a',cap',hv,-,hc⟩:=H6.out.2.2
    obtain ⟨bb,off,ha,-,hlt2,c0,hz⟩:=hc k z he
    have:a=some ⟨bb,off,none⟩:=by simp at hv; exact hv.1.trans ha
    subst this
    rw [← hBr.cell (by exact hlt2)] at c0
    have hlt':((k:Nat):Int)<((m.cell.kids.length:Nat):Int):=by omega
    have hn1:=numsB_len (m.cell.kids.take k)
    rw [List.length_take,Nat.min_eq_left (by omega)] at hn1
    have HN:=(show Hid (_∧_∧_) from ⟨numsB_snoc m.cell.kids k he,hz,hn1⟩)
    clear he hz hn1 hBr hc hv ha
    go_wp2_with fail
    refine (implPutNum_any z _ HN.out.2.1.1 HN.out.2.1.2).mono ?_
    rintro e w7 ⟨rfl,b7⟩
    have hW:=write_any w1.heap.size w1.heap.size _ (numB z) w7 (HR.out.1.below b7) (by rw [List.length_append,hn9.out,HN.out.2.2,numB_len]; omega) (by have:=b7.size; omega)
    have HW:=(show Hid (_∧_) from ⟨hW,b7⟩)
    clear hW b7
    rw [bs_is]
    go_wp2_with fail
    refine HW.out.1.mono ?_
    rintro e w8 ⟨rfl,hL8,hB8,-⟩
    have H8:=(show Hid (_∧_) from ⟨hL8,hB8⟩)
    clear hL8 hB8
    go_wp2
    refine ⟨⟨k+1,by omega,by go_num,?_,(HR.out.2.trans (HW.out.2.mono (by omega))).trans H8.out.2⟩,by simp [intOf]; omega⟩
    rw [HN.out.1,← List.append_assoc]
    exact H8.out.1
   ·obtain rfl:k=m.cell.kids.length:=by omega
    have hLL:=HR.out.1
    rw [List.take_length] at hLL
    have hSt:=Tryz.Builder_String_any_k w1.heap.size w1.heap.size _ wr hLL (by omega)
    have HSt:=(show Hid (_∧_) from ⟨hSt,H1.out.2.1.trans (HR.out.2.mono (by omega))⟩)
    clear hSt hLL hBr
    go_wp2_with fail
    refine HSt.out.1.mono ?_
    rintro e w9 ⟨rfl,-,hB9,-⟩
    go_wp2
    go_ret
    exact ⟨by rw [HB.out]; rfl,HSt.out.2.trans (hB9.mono (by omega))⟩
end Go.Proofs.YtmmadoabejgffaaGreatDoor
