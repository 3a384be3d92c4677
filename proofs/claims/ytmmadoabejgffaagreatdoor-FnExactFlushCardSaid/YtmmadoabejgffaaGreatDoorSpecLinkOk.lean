/-
  Proofs.
-/
import Derived.Test.YtmmadoabejgffaaGreatDoorH
import Derived.Test.YtmmadoabejgffaaGreatDoorCB
import Derived.Test.YtmmadoabejgffaaGreatDoorM
import Derived.BigQuiet
import Derived.Deep.QuietTactic
namespace Go.Proofs.YtmmadoabejgffaaGreatDoor
open Go.RowKit Go.Joins
set_option maxRecDepth 100000
theorem ok_first {l:Lk} (h:(((inB l.id 0 ((l.seen.length:Int) - 1) && !decide ((31:Int)<(l.seen.length:Int))) && inB l.next 1 999999) && !decide ((60:Int)<(l.out.length:Int)))=false):l.ok=false:=by
 have e1:amongB l.id l.seen.length=(inB l.id 0 ((l.seen.length:Int) - 1) && !decide ((31:Int)<(l.seen.length:Int))):=by
  unfold amongB inB
  by_cases h1:(l.seen.length:Int)≤31 <;> by_cases h2:0≤l.id <;> by_cases h3:l.id<(l.seen.length:Int)
  all_goals simp [h1,h2,h3]
  all_goals omega
 have e2:decide ((l.out.length:Int)≤60) = !decide ((60:Int)<(l.out.length:Int)):=by
  by_cases h1:(l.out.length:Int)≤60
  ·have:¬ (60:Int)<(l.out.length:Int):=by omega
   simp [h1]
  ·have:(60:Int)<(l.out.length:Int):=by omega
   simp [h1]
   omega
 unfold Lk.ok Lk.outOk
 rw [e1,e2]
 revert h
 cases inB l.id 0 ((l.seen.length:Int) - 1) <;> cases decide ((31:Int)<(l.seen.length:Int)) <;> cases inB l.next 1 999999 <;> cases decide ((60:Int)<(l.out.length:Int)) <;> simp
theorem ok_rest {l:Lk} (h1:inB l.id 0 ((l.seen.length:Int) - 1)=true) (h2:¬ (31:Int)<(l.seen.length:Int)) (h3:inB l.next 1 999999=true) (h4:¬ (60:Int)<(l.out.length:Int)) :
  l.ok=((l.out.all (Sn.fits l.id l.seen.length) && ascB (l.out.map Sn.seq) 1 (l.next - 1)) && l.seen.all Se.ok):=by
 have e1:amongB l.id l.seen.length=true:=by
  unfold inB at h1
  simp only [Bool.and_eq_true,decide_eq_true_eq] at h1
  unfold amongB
  simp
  omega
 have e2:decide ((l.out.length:Int)≤60)=true:=decide_eq_true (by omega)
 unfold Lk.ok Lk.outOk
 rw [e1,e2,h3]
 simp
set_option maxHeartbeats 1600000 in
theorem specLinkOk_any (v:Value) (l:Lk) (S:Nat→Prop) (w:World) (h:LkAt w S v l) (hb:l.bulk≤1048576) :
  Calls Tryz.prog 38 #[v] w fun e w'=>e = .returned (.bool l.ok)∧Below w.heap.size w w':=by
 obtain ⟨oa,oc,sa,sc,rfl,h3,h4⟩:=h.form
 have hsl:=h4.len
 unfold maxLen at hsl
 have hol:=h3.len
 unfold maxLen at hol
 have hnot:=ex_not
 have hbe:=(show l.bulk=bulkO l.out+bulkN l.seen from rfl)
 obtain ⟨W0,hW0⟩:∃ W0,W0=w.alloc (.cells (l.row (.slice oa l.out.length oc) (.slice sa l.seen.length sc)) 49):=⟨_,rfl⟩
 have B0:Below w.heap.size w W0:=by rw [hW0]; exact (Below.refl _ w).alloc (Nat.le_refl _) _
 have O0:W0.heap[w.heap.size]? = some (.cells (l.row (.slice oa l.out.length oc) (.slice sa l.seen.length sc)) 49):=by rw [hW0]; exact (MapKept.heap_alloc w _).1
 have H0:=(show Hid (_∧_∧_∧_∧_) from ⟨h3,h4,B0,O0,hW0⟩)
 clear h3 h4 B0 O0 h
 have hsl':((l.seen.length:Nat):Int)≤9223372036854775807:=by omega
 cases g1:inB l.id 0 ((l.seen.length:Int) - 1) with
 | false =>
  have HR:=(show Hid (_∧True) from ⟨ok_first (l:=l) (by rw [g1]; rfl),trivial⟩)
  subst hW0
  go_enter Tryz.func38,Tryz.ntmps38
  go_wp2_with (go_at_call 84; refine (specIn_is _ _ _ _ g1 _).mono ?_; rintro e w1 ⟨rfl,rfl⟩)
  go_ret
  exact ⟨by rw [HR.out.1]; rfl,H0.out.2.2.1⟩
 | true =>
 by_cases g2:(31:Int)<(l.seen.length:Int)
 ·have HR:=(show Hid (_∧True) from ⟨ok_first (l:=l) (by rw [decide_eq_true g2,g1]; rfl),trivial⟩)
  subst hW0
  go_enter Tryz.func38,Tryz.ntmps38
  go_wp2_with (go_at_call 84; refine (specIn_is _ _ _ _ g1 _).mono ?_; rintro e w1 ⟨rfl,rfl⟩)
  go_ret
  exact ⟨by rw [HR.out.1]; rfl,H0.out.2.2.1⟩
 cases g3:inB l.next 1 999999 with
 | false =>
  have HR:=(show Hid (_∧True) from ⟨ok_first (l:=l) (by rw [g3]; simp),trivial⟩)
  subst hW0
  go_enter Tryz.func38,Tryz.ntmps38
  go_wp2_with (go_at_call 84; refine (specIn_any _ _ _ _).mono ?_; simp only [g1,g3]; rintro e w1 ⟨rfl,rfl⟩)
  go_ret
  exact ⟨by rw [HR.out.1]; rfl,H0.out.2.2.1⟩
 | true =>
 by_cases g4:(60:Int)<(l.out.length:Int)
 ·have HR:=(show Hid (_∧True) from ⟨ok_first (l:=l) (by rw [decide_eq_true g4]; simp),trivial⟩)
  subst hW0
  go_enter Tryz.func38,Tryz.ntmps38
  go_wp2_with (go_at_call 84; refine (specIn_any _ _ _ _).mono ?_; simp only [g1,g3]; rintro e w1 ⟨rfl,rfl⟩)
  go_ret
  exact ⟨by rw [HR.out.1]; rfl,H0.out.2.2.1⟩
 have HR:=(show Hid (_∧True) from ⟨ok_rest (l:=l) g1 g2 g3 g4,trivial⟩)
 have hnx:1≤l.next∧l.next≤999999:=by
  have:=g3
  unfold inB at this
  simp only [Bool.and_eq_true,decide_eq_true_eq] at this
  exact this
 have hs0:w.heap.size+1≤W0.heap.size:=lh H0.out.2.2.2.1
 go_enter Tryz.func38,Tryz.ntmps38
 go_wp2_with (go_at_call 84; refine (specIn_any _ _ _ _).mono ?_; simp only [g1,g3]; rintro e w1 ⟨rfl,rfl⟩)
 clear hW0
 go_loopw [3] (fun i wr=>∃ k:Nat,k≤l.out.length∧i = .int .i64 k∧(l.out.take k).all (Sn.fits l.id l.seen.length)=true∧ascB ((l.out.map Sn.seq).take k) 1 (l.next - 1)=true∧wr.heap[w.heap.size]? = some (.cells (l.row (.slice oa l.out.length oc) (.slice sa l.seen.length sc)) 49)∧Below w.heap.size w wr) (fun i _=>l.out.length - (intOf i).toNat)
 case atStart =>
  have hO:=H0.out.2.2.2.1
  have hB:=H0.out.2.2.1
  rw [H0.out.2.2.2.2] at hO hB
  exact ⟨0,Nat.zero_le _,rfl,by simp,by simp [ascB],hO,hB⟩
 case round =>
  obtain ⟨k,hk,rfl,hall,hasc,hbox,hbw⟩:=hrel
  have hsz:=hbw.size
  have hsz1:w.heap.size<wr.heap.size:=lh hbox
  by_cases hkl:k<l.out.length
  ·have he:=List.getElem?_eq_getElem hkl
   have hbk:=bulkO_at he
   generalize l.out[k]=x at *
   obtain ⟨a',cap',hv',-,hc'⟩:=H0.out.1
   cases hv'
   obtain ⟨b,off,hoa,hSb,hlt2,c0,c1,c2,r1,r2,r3⟩:=hc' k x he
   subst hoa
   have hprev:∀ j y,j+1=k→l.out[j]? = some y→wr.cell? ⟨b,off+j * 3,none⟩=some (.int .i64 y.seq)∧inI64 y.seq:=fun j y hj hy=>by
    obtain ⟨b',off',hoa',_,hlt',d0,_,_,s1,_⟩:=hc' j y hy
    cases hoa'
    exact ⟨(hbw.cell (by exact hlt')).trans d0,s1⟩
   clear hc'
   rw [← hbw.cell (by exact hlt2)] at c0 c1 c2
   have hlt3:b<wr.heap.size:=Nat.lt_of_lt_of_le hlt2 hsz
   have hlt':((k:Nat):Int)<((l.out.length:Nat):Int):=by omega
   obtain ⟨W1,hW1⟩:∃ W1,W1=wr.alloc (.cells x.row 93):=⟨_,rfl⟩
   have bW1:Below wr.heap.size wr W1:=by rw [hW1]; exact (Below.refl _ wr).alloc (Nat.le_refl _) _
   have M1:W1.heap[wr.heap.size]? = some (.cells x.row 93):=by rw [hW1]; exact (MapKept.heap_alloc wr _).1
   have hbs:x.body.size≤1048576:=by have:=(show x.bulk=x.body.size from rfl); omega
   have hG:=specGetMsg_any x.body W1 hbs
   have hfs:=fits_is l.id l.seen.length x (by omega)
   unfold Sn.fit Sn.msg at hfs
   generalize msgRes x.body.data.toList=m at *
   generalize msgFit x.body.data.toList=ff at *
   have hsx:(l.out.map Sn.seq)[k]? = some x.seq:=by rw [List.getElem?_map,he]; rfl
   have H1:=(show Hid (_∧_∧_∧_∧_) from ⟨hG,hfs,(bW1.block _ hsz1).trans hbox,hbw.trans (bW1.mono hsz),M1⟩)
   have HK:=(show Hid (_∧_∧_∧_∧_∧_∧_) from ⟨hall,hasc,he,hsx,hprev,hbw,hW1⟩)
   have hs1:wr.heap.size+1≤W1.heap.size:=lh M1
   obtain ⟨q0,q1,q2,q3⟩:=lbox hbox
   clear hG hfs hbox hbw M1 bW1 hall hasc he hsx hprev r1 r2 r3 hSb hlt2 hW1
   go_wp2_with fail
   rw [← (show W1=_ from HK.out.2.2.2.2.2.2)]
   refine H1.out.1.mono ?_
   rintro e w2 ⟨mv,rfl,A2,b2⟩
   obtain ⟨kv,rfl,h2,-⟩:=A2
   obtain ⟨ma,mc,rfl⟩:=own_form h2
   clear h2 c0 c1 c2 q0 q1 q2 q3
   have hs2:W1.heap.size≤w2.heap.size:=b2.size
   obtain ⟨W3,hW3⟩:∃ W3,W3=w2.alloc (.cells (m.row (.slice ma m.cell.kids.length mc)) 67):=⟨_,rfl⟩
   have bW3:Below w2.heap.size w2 W3:=by rw [hW3]; exact (Below.refl _ w2).alloc (Nat.le_refl _) _
   have M3:W3.heap[w2.heap.size]? = some (.cells (m.row (.slice ma m.cell.kids.length mc)) 67):=by rw [hW3]; exact (MapKept.heap_alloc w2 _).1
   have b3:Below W1.heap.size W1 W3:=b2.trans (bW3.mono hs2)
   have H3:=(show Hid (_∧_∧_∧_∧_∧_) from ⟨(b3.block _ (lh H1.out.2.2.1)).trans H1.out.2.2.1,H1.out.2.2.2.1.trans (b3.mono (by omega)),(b3.block _ (lh H1.out.2.2.2.2)).trans H1.out.2.2.2.2,M3,H1.out.2.1,hW3⟩)
   have hs3:w2.heap.size+1≤W3.heap.size:=lh M3
   have b4:Below wr.heap.size wr W3:=by
    have e1:=HK.out.2.2.2.2.2.2
    have:Below wr.heap.size wr W1:=by rw [e1]; exact (Below.refl _ wr).alloc (Nat.le_refl _) _
    exact this.trans (b3.mono (by omega))
   have hprev3:∀ j y,j+1=k→l.out[j]? = some y→W3.cell? ⟨b,off+j * 3,none⟩=some (.int .i64 y.seq)∧inI64 y.seq:=fun j y hj hy =>
    ⟨(b4.cell (by exact hlt3)).trans (HK.out.2.2.2.2.1 j y hj hy).1,(HK.out.2.2.2.2.1 j y hj hy).2⟩
   have HPV:=(show Hid (_∧True) from ⟨hprev3,trivial⟩)
   clear b2 bW3 M3 b3 b4 hprev3 H1 hW3
   go_wp2_with fail
   rw [← (show W3=_ from H3.out.2.2.2.2.2)]
   obtain ⟨q0,q1,q2,q3⟩:=lbox H3.out.1
   have s0:W3.cell? ⟨wr.heap.size,0,none⟩=some (.int .i64 x.seq):=(cell_of_block H3.out.2.2.1 0).trans rfl
   have s1:W3.cell? ⟨wr.heap.size,1,none⟩=some (.int .i64 x.dst):=(cell_of_block H3.out.2.2.1 1).trans rfl
   have m1:W3.cell? ⟨w2.heap.size,1,none⟩=some (.int .i64 m.frm):=(cell_of_block H3.out.2.2.2.1 1).trans rfl
   have m2:W3.cell? ⟨w2.heap.size,2,none⟩=some (.int .i64 m.dst):=(cell_of_block H3.out.2.2.2.1 2).trans rfl
   cases ff with
   | false =>
    have HF:=(show Hid (_∧_) from ⟨(by rw [allF _ _ HK.out.2.2.1 (by rw [H3.out.2.2.2.2.1]; rfl)]; rfl:((l.out.all (Sn.fits l.id l.seen.length) && ascB (l.out.map Sn.seq) 1 (l.next - 1)) && l.seen.all Se.ok)=false),H3.out.2.1⟩)
    clear HPV HK H3
    go_quiet (fail)
    go_wp2
    go_ret
    exact ⟨by rw [HR.out.1,HF.out.1]; rfl,drewN_below HF.out.2 _⟩
   | true =>
   cases d1:(m.frm == l.id) with
   | false =>
    have d1':(m.frm != l.id)=true:=by simp [bne,d1]
    have HF:=(show Hid (_∧_) from ⟨(by rw [allF _ _ HK.out.2.2.1 (by rw [H3.out.2.2.2.2.1,d1]; rfl)]; rfl:((l.out.all (Sn.fits l.id l.seen.length) && ascB (l.out.map Sn.seq) 1 (l.next - 1)) && l.seen.all Se.ok)=false),H3.out.2.1⟩)
    clear HPV HK H3
    go_quiet (fail)
    go_wp2
    go_ret
    exact ⟨by rw [HR.out.1,HF.out.1]; rfl,drewN_below HF.out.2 _⟩
   | true =>
   have d1':(m.frm != l.id)=false:=by simp [bne,d1]
   cases d2:(m.dst == x.dst) with
   | false =>
    have d2':(m.dst != x.dst)=true:=by simp [bne,d2]
    have HF:=(show Hid (_∧_) from ⟨(by rw [allF _ _ HK.out.2.2.1 (by rw [H3.out.2.2.2.2.1,d1,d2]; rfl)]; rfl:((l.out.all (Sn.fits l.id l.seen.length) && ascB (l.out.map Sn.seq) 1 (l.next - 1)) && l.seen.all Se.ok)=false),H3.out.2.1⟩)
    clear HPV HK H3
    go_quiet (fail)
    go_wp2
    go_ret
    exact ⟨by rw [HR.out.1,HF.out.1]; rfl,drewN_below HF.out.2 _⟩
   | true =>
   have d2':(m.dst != x.dst)=false:=by simp [bne,d2]
   by_cases d3:x.dst<(l.seen.length:Int)
   case neg =>
    have d3':decide ((l.seen.length:Int)≤x.dst)=true:=decide_eq_true (by omega)
    have d3b:decide (x.dst<(l.seen.length:Int))=false:=decide_eq_false d3
    have HF:=(show Hid (_∧_) from ⟨(by rw [allF _ _ HK.out.2.2.1 (by rw [H3.out.2.2.2.2.1,d3b]; simp)]; rfl:((l.out.all (Sn.fits l.id l.seen.length) && ascB (l.out.map Sn.seq) 1 (l.next - 1)) && l.seen.all Se.ok)=false),H3.out.2.1⟩)
    clear HPV HK H3
    go_quiet (fail)
    go_wp2
    go_ret
    exact ⟨by rw [HR.out.1,HF.out.1]; rfl,drewN_below HF.out.2 _⟩
   have d3':decide ((l.seen.length:Int)≤x.dst)=false:=decide_eq_false (by omega)
   have d3b:decide (x.dst<(l.seen.length:Int))=true:=decide_eq_true d3
   have hw1:IntKind.i64.wrap (l.next - 1)=l.next - 1:=by rw [IntKind.wrap_i64]; omega
   cases d4:inB x.seq 1 (l.next - 1) with
   | false =>
    have hsc:inB x.seq (lastI 1 ((l.out.map Sn.seq).take k)) (l.next - 1)=false:=by
     have hge:=lastI_ge _ _ _ HK.out.2.1
     unfold inB at d4 ⊢
     generalize lastI 1 ((l.out.map Sn.seq).take k)=la at *
     by_cases u1:x.seq≤l.next - 1
     ·have u2:¬ 1≤x.seq:=by intro u; simp [u,u1] at d4
      have u3:¬ la≤x.seq:=by omega
      simp [u3]
     ·simp [u1]
    have HF:=(show Hid (_∧_) from ⟨(by rw [asc_not HK.out.2.2.2.1 hsc]; simp:((l.out.all (Sn.fits l.id l.seen.length) && ascB (l.out.map Sn.seq) 1 (l.next - 1)) && l.seen.all Se.ok)=false),H3.out.2.1⟩)
    clear HPV HK H3
    go_quiet (first | (go_at_call 84; refine Calls.quiet_of_same (specIn_is _ _ _ _ d4 _)))
    go_wp2
    go_ret
    exact ⟨by rw [HR.out.1,HF.out.1]; rfl,drewN_below HF.out.2 _⟩
   | true =>
   cases k with
   | zero =>
    have d5:decide ((0:Int)<((0:Nat):Int))=false:=rfl
    have d5':decide ((0:Int)<0)=false:=rfl
    have hsc:inB x.seq (lastI 1 ((l.out.map Sn.seq).take 0)) (l.next - 1)=true:=d4
    have HF:=(show Hid (_∧_∧_∧_) from ⟨allT _ _ 0 HK.out.2.2.1 HK.out.1 (by rw [H3.out.2.2.2.2.1,d1,d2,d3b]; rfl),(asc_next HK.out.2.1 HK.out.2.2.2.1).trans hsc,H3.out.1,H3.out.2.1⟩)
    clear HPV HK H3
    go_quiet (first | (go_at_call 84; refine Calls.quiet_of_same (specIn_is _ _ _ _ d4 _)))
    go_wp2
    refine ⟨⟨0+1,by omega,by go_num,HF.out.1,HF.out.2.1,HF.out.2.2.1,drewN_below HF.out.2.2.2 _⟩,by simp [intOf]; omega⟩
   | succ j =>
    have hj:=List.getElem?_eq_getElem (show j<l.out.length by omega)
    generalize l.out[j]=y at *
    obtain ⟨p0,rp⟩:=HPV.out.1 j y rfl hj
    have hlas:=asc_last HK.out.2.1 (show (l.out.map Sn.seq)[j]? = some y.seq by rw [List.getElem?_map,hj]; rfl)
    have hsc0:inB x.seq (lastI 1 ((l.out.map Sn.seq).take (j+1))) (l.next - 1)=(inB x.seq 1 (l.next - 1) && !decide (x.seq≤y.seq)):=by
     rw [hlas.1]; exact inB_next hlas.2
    have d5:decide ((0:Int)<((j:Int)+1))=true:=decide_eq_true (by omega)
    have d5':decide ((0:Int)<(((j+1:Nat):Nat):Int))=true:=decide_eq_true (by omega)
    clear hj
    cases d6:decide (x.seq≤y.seq) with
    | true =>
     have hsc:inB x.seq (lastI 1 ((l.out.map Sn.seq).take (j+1))) (l.next - 1)=false:=by rw [hsc0,d4,d6]; rfl
     have HF:=(show Hid (_∧_) from ⟨(by rw [asc_not HK.out.2.2.2.1 hsc]; simp:((l.out.all (Sn.fits l.id l.seen.length) && ascB (l.out.map Sn.seq) 1 (l.next - 1)) && l.seen.all Se.ok)=false),H3.out.2.1⟩)
     clear HPV HK H3 hsc0 hlas
     go_quiet (first | (go_at_call 84; refine Calls.quiet_of_same (specIn_is _ _ _ _ d4 _)))
     go_wp2
     go_ret
     exact ⟨by rw [HR.out.1,HF.out.1]; rfl,drewN_below HF.out.2 _⟩
    | false =>
     have hsc:inB x.seq (lastI 1 ((l.out.map Sn.seq).take (j+1))) (l.next - 1)=true:=by rw [hsc0,d4,d6]; rfl
     have HF:=(show Hid (_∧_∧_∧_) from ⟨allT _ _ (j+1) HK.out.2.2.1 HK.out.1 (by rw [H3.out.2.2.2.2.1,d1,d2,d3b]; rfl),(asc_next HK.out.2.1 HK.out.2.2.2.1).trans hsc,H3.out.1,H3.out.2.1⟩)
     clear HPV HK H3 hsc0 hlas
     go_quiet (first | (go_at_call 84; refine Calls.quiet_of_same (specIn_is _ _ _ _ d4 _)))
     go_wp2
     refine ⟨⟨j+1+1,by omega,by go_num,HF.out.1,HF.out.2.1,HF.out.2.2.1,drewN_below HF.out.2.2.2 _⟩,by simp [intOf]; omega⟩
  ·obtain rfl:k=l.out.length:=by omega
   have hA1:l.out.all (Sn.fits l.id l.seen.length)=true:=by rw [List.take_length] at hall; exact hall
   have hA2:ascB (l.out.map Sn.seq) 1 (l.next - 1)=true:=by
    rw [show l.out.length=(l.out.map Sn.seq).length by simp,List.take_length] at hasc
    exact hasc
   have HR2:=(show Hid (_∧True) from ⟨(by rw [HR.out.1,hA1,hA2]; simp:l.ok=l.seen.all Se.ok),trivial⟩)
   have HB:=(show Hid (_∧_) from ⟨hbox,hbw⟩)
   obtain ⟨q0,q1,q2,q3⟩:=lbox hbox
   clear hall hasc hA1 hA2 HR hbox hbw
   go_wp2
   clear q0 q1 q2 q3
   go_loopw [7] (fun i wr2=>∃ k:Nat,k≤l.seen.length∧i = .int .i64 k∧(l.seen.take k).all Se.ok=true∧wr2.heap[w.heap.size]? = some (.cells (l.row (.slice oa l.out.length oc) (.slice sa l.seen.length sc)) 49)∧Below w.heap.size w wr2) (fun i _=>l.seen.length - (intOf i).toNat)
   case atStart=>exact ⟨0,Nat.zero_le _,rfl,by simp,HB.out.1,HB.out.2⟩
   case round =>
    clear HB hsz hsz1
    obtain ⟨k,hk,rfl,hall,hbox,hbw⟩:=hrel
    have hsz:=hbw.size
    have hsz1:w.heap.size<wr.heap.size:=lh hbox
    by_cases hkl:k<l.seen.length
    ·have he:=List.getElem?_eq_getElem hkl
     generalize l.seen[k]=x at *
     obtain ⟨a',cap',hv',-,hc'⟩:=H0.out.2.1
     cases hv'
     obtain ⟨b,off,kv,hoa,hSb,hlt2,c0,c1,r0,hkk⟩:=hc' k x he
     subst hoa
     obtain ⟨xa,xc,rfl⟩:=hkk.form
     have hxl:=hkk.len
     rw [← hbw.cell (by exact hlt2)] at c0 c1
     have hlt3:b<wr.heap.size:=Nat.lt_of_lt_of_le hlt2 hsz
     have hlt':((k:Nat):Int)<((l.seen.length:Nat):Int):=by omega
     obtain ⟨W1,hW1⟩:∃ W1,W1=wr.alloc (.cells #[.int .i64 x.low,.slice xa x.ids.length xc] 147):=⟨_,rfl⟩
     have bW1:Below wr.heap.size wr W1:=by rw [hW1]; exact (Below.refl _ wr).alloc (Nat.le_refl _) _
     have M1:W1.heap[wr.heap.size]? = some (.cells #[.int .i64 x.low,.slice xa x.ids.length xc] 147):=by rw [hW1]; exact (MapKept.heap_alloc wr _).1
     have hs1:wr.heap.size+1≤W1.heap.size:=lh M1
     have H1:=(show Hid (_∧_∧_∧_∧_∧_) from ⟨(bW1.block _ hsz1).trans hbox,hbw.trans (bW1.mono hsz),M1,hall,he,hkk⟩)
     have HW1:=(show Hid (_∧True) from ⟨hW1,trivial⟩)
     obtain ⟨q0,q1,q2,q3⟩:=lbox hbox
     clear hc' bW1 M1 hall he hkk hbox hbw hlt2 hSb r0
     cases e1:inB x.low 1 1000000 with
     | false =>
      have HF:=(show Hid (_∧_) from ⟨allF Se.ok _ H1.out.2.2.2.2.1 (by unfold Se.ok; rw [e1]; rfl),H1.out.2.1⟩)
      subst hW1
      go_wp2_with (go_at_call 84; refine (specIn_is _ _ _ _ e1 _).mono ?_; rintro e w1 ⟨rfl,rfl⟩)
      go_ret
      exact ⟨by rw [HR2.out.1,HF.out.1]; rfl,HF.out.2⟩
     | true =>
     by_cases e2:(60:Int)<(x.ids.length:Int)
     ·have HF:=(show Hid (_∧_) from ⟨allF Se.ok _ H1.out.2.2.2.2.1 (by unfold Se.ok; rw [decide_eq_false (show ¬ (x.ids.length:Int)≤60 by omega)]; simp),H1.out.2.1⟩)
      subst hW1
      go_wp2_with (go_at_call 84; refine (specIn_is _ _ _ _ e1 _).mono ?_; rintro e w1 ⟨rfl,rfl⟩)
      go_ret
      exact ⟨by rw [HR2.out.1,HF.out.1]; rfl,HF.out.2⟩
     have HX:Hid (x.ok=ascB x.ids x.low 999999):=by
      show _=_
      unfold Se.ok
      rw [e1,decide_eq_true (show (x.ids.length:Int)≤60 by omega)]
      rfl
     go_wp2_with (go_at_call 84; refine (specIn_is _ _ _ _ e1 _).mono ?_; rintro e w1 ⟨rfl,rfl⟩)
     rw [← (show W1=_ from HW1.out.1)]
     clear q0 q1 q2 q3 c0 c1 hW1 HW1
     generalize wr.heap.size=sb at *
     go_loopw [9] (fun i wr3=>∃ j:Nat,j≤x.ids.length∧i = .int .i64 j∧ascB (x.ids.take j) x.low 999999=true∧wr3.heap[w.heap.size]? = some (.cells (l.row (.slice oa l.out.length oc) (.slice (some ⟨b,off,none⟩) l.seen.length sc)) 49)∧wr3.heap[sb]? = some (.cells #[.int .i64 x.low,.slice xa x.ids.length xc] 147)∧Below w.heap.size w wr3) (fun i _=>x.ids.length - (intOf i).toNat)
     case atStart =>
      exact ⟨0,Nat.zero_le _,rfl,by simp [ascB],H1.out.1,H1.out.2.2.1,H1.out.2.1⟩
     case round =>
      obtain ⟨j,hj,rfl,hasc,hbox3,hsb3,hbw3⟩:=hrel
      have q3:=(lbox hbox3).2.2.2
      have t0:wr.cell? ⟨sb,0,none⟩=some (.int .i64 x.low):=(cell_of_block hsb3 0).trans rfl
      have t1:wr.cell? ⟨sb,1,none⟩=some (.slice xa x.ids.length xc):=(cell_of_block hsb3 1).trans rfl
      by_cases hjl:j<x.ids.length
      ·have hej:=List.getElem?_eq_getElem hjl
       generalize x.ids[j]=z at *
       obtain ⟨a2,cap2,hv2,-,hc2⟩:=H1.out.2.2.2.2.2
       cases hv2
       obtain ⟨b2,off2,hxa,-,hl2,z0,rz⟩:=hc2 j z hej
       subst hxa
       have hprev:∀ i y,i+1=j→x.ids[i]? = some y→wr.cell? ⟨b2,off2+i,none⟩=some (.int .i64 y)∧inI64 y:=fun i y hi hy=>by
        obtain ⟨b',off',hoa',_,hlt',d0,s1⟩:=hc2 i y hy
        cases hoa'
        exact ⟨(hbw3.cell (by exact hlt')).trans d0,s1⟩
       rw [← hbw3.cell (by exact hl2)] at z0
       have hjl':((j:Nat):Int)<((x.ids.length:Nat):Int):=by omega
       have HK:=(show Hid (_∧_∧_∧_∧_∧_) from ⟨hasc,hej,hprev,hbox3,hsb3,hbw3⟩)
       clear hc2 hasc hej hprev hbox3 hsb3 hbw3
       cases d4:inB z x.low 999999 with
       | false =>
        have hsc:inB z (lastI x.low (x.ids.take j)) 999999=false:=by
         have hge:=lastI_ge _ _ _ HK.out.1
         unfold inB at d4 ⊢
         generalize lastI x.low (x.ids.take j)=la at *
         by_cases u1:z≤999999
         ·have u2:¬ x.low≤z:=by intro u; simp [u,u1] at d4
          have u3:¬ la≤z:=by omega
          simp [u3]
         ·simp [u1]
        have HF:=(show Hid (_∧_) from ⟨allF Se.ok _ H1.out.2.2.2.2.1 (by rw [HX.out]; exact asc_not HK.out.2.1 hsc),HK.out.2.2.2.2.2⟩)
        clear HK H1 hsc
        go_wp2_with fail
        go_quiet (first | (go_at_call 84; refine Calls.quiet_of_same (specIn_is _ _ _ _ d4 _)))
        go_wp2
        go_ret
        exact ⟨by rw [HR2.out.1,HF.out.1]; rfl,drewN_below HF.out.2 _⟩
       | true =>
       cases j with
       | zero =>
        have d5:decide ((0:Int)<((0:Nat):Int))=false:=rfl
        have d5':decide ((0:Int)<0)=false:=rfl
        have hsc:inB z (lastI x.low (x.ids.take 0)) 999999=true:=d4
        have z0':wr.cell? ⟨b2,off2,none⟩=some (.int .i64 z):=by simpa using z0
        have HF:=(show Hid (_∧_∧_∧_) from ⟨(asc_next HK.out.1 HK.out.2.1).trans hsc,HK.out.2.2.2.1,HK.out.2.2.2.2.1,HK.out.2.2.2.2.2⟩)
        clear HK
        go_wp2_with fail
        go_quiet (first | (go_at_call 84; refine Calls.quiet_of_same (specIn_is _ _ _ _ d4 _)))
        go_wp2
        refine ⟨⟨0+1,by omega,by go_num,HF.out.1,HF.out.2.1,HF.out.2.2.1,drewN_below HF.out.2.2.2 _⟩,by simp [intOf]; omega⟩
       | succ i =>
        have hi:=List.getElem?_eq_getElem (show i<x.ids.length by omega)
        generalize x.ids[i]=y at *
        obtain ⟨p0,rp⟩:=HK.out.2.2.1 i y rfl hi
        have hlas:=asc_last HK.out.1 hi
        have hsc0:inB z (lastI x.low (x.ids.take (i+1))) 999999=(inB z x.low 999999 && !decide (z≤y)):=by
         rw [hlas.1]; exact inB_next hlas.2
        have d5:decide ((0:Int)<((i:Int)+1))=true:=decide_eq_true (by omega)
        have d5':decide ((0:Int)<(((i+1:Nat):Nat):Int))=true:=decide_eq_true (by omega)
        clear hi
        cases d6:decide (z≤y) with
        | true =>
         have hsc:inB z (lastI x.low (x.ids.take (i+1))) 999999=false:=by rw [hsc0,d4,d6]; rfl
         have HF:=(show Hid (_∧_) from ⟨allF Se.ok _ H1.out.2.2.2.2.1 (by rw [HX.out]; exact asc_not HK.out.2.1 hsc),HK.out.2.2.2.2.2⟩)
         clear HK H1 hsc hsc0 hlas
         go_wp2_with fail
         go_quiet (first | (go_at_call 84; refine Calls.quiet_of_same (specIn_is _ _ _ _ d4 _)))
         go_wp2
         go_ret
         exact ⟨by rw [HR2.out.1,HF.out.1]; rfl,drewN_below HF.out.2 _⟩
        | false =>
         have hsc:inB z (lastI x.low (x.ids.take (i+1))) 999999=true:=by rw [hsc0,d4,d6]; rfl
         have HF:=(show Hid (_∧_∧_∧_) from ⟨(asc_next HK.out.1 HK.out.2.1).trans hsc,HK.out.2.2.2.1,HK.out.2.2.2.2.1,HK.out.2.2.2.2.2⟩)
         clear HK hsc hsc0 hlas
         go_wp2_with fail
         go_quiet (first | (go_at_call 84; refine Calls.quiet_of_same (specIn_is _ _ _ _ d4 _)))
         go_wp2
         refine ⟨⟨i+1+1,by omega,by go_num,HF.out.1,HF.out.2.1,HF.out.2.2.1,drewN_below HF.out.2.2.2 _⟩,by simp [intOf]; omega⟩
      ·obtain rfl:j=x.ids.length:=by omega
       rw [List.take_length] at hasc
       have HF:=(show Hid (_∧_∧_) from ⟨allT Se.ok _ k H1.out.2.2.2.2.1 H1.out.2.2.2.1 (by rw [HX.out]; exact hasc),hbox3,hbw3⟩)
       clear hasc hbox3 hsb3 hbw3 H1
       go_wp2
       refine ⟨⟨k+1,by omega,by go_num,HF.out.1,HF.out.2.1,HF.out.2.2⟩,by simp [intOf]; omega⟩
    ·obtain rfl:k=l.seen.length:=by omega
     rw [List.take_length] at hall
     have HF:=(show Hid (_∧_) from ⟨hall,hbw⟩)
     obtain ⟨q0,q1,q2,q3⟩:=lbox hbox
     clear hall hbox hbw
     go_wp2
     go_ret
     exact ⟨by rw [HR2.out.1,HF.out.1]; rfl,HF.out.2⟩
end Go.Proofs.YtmmadoabejgffaaGreatDoor
