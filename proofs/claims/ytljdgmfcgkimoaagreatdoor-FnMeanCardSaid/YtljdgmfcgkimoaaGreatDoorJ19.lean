/-
  Proofs.
  Proofs.
  Proofs.
-/
import Derived.Test.YtljdgmfcgkimoaaGreatDoorJ1
import Derived.Test.YtljdgmfcgkimoaaGreatDoorJ18
namespace Go.Proofs.YtljdgmfcgkimoaaGreatDoor
open Go.RowKit Go.Joins
set_option maxRecDepth 100000
set_option maxHeartbeats 6400000 in
theorem l02Right_k10 (d:Nat) (hE:RightE d) (v:Value) (x:Ex) (S:Nat→Prop) (w:World) (scope tops deep:Int) (h:ExAt w S (d+1) v x) (hs:0≤scope∧scope≤96) (ht:0≤tops∧tops≤30) (hd : -1≤deep∧deep≤60) (hdp:0≤deep) (hsp:scope≤90) (hlen:(x.kids.length:Int)=kidsOf x.kind) (hkk:x.kind=10) :
  Calls Tryz.prog 34 #[v,.int .i64 scope,.int .i64 tops,.int .i64 deep] w fun e w'=>e = .returned (.bool (x.right scope tops deep))∧Below w.heap.size w w':=by
 have hri:=right_iff x scope tops deep
 have hnot:∀ (x:Bool) (w:World),(Op.unary .not (.bool x)).run Tryz.prog w = .ok (.bool (!x)) w:=fun _ _=>rfl
 obtain ⟨kv,rfl,-,-,-,hk⟩:=h
 obtain ⟨a,cap,rfl,hl,hc⟩:=hk
 unfold maxLen at hl
 have B0:Below w.heap.size w (w.alloc (.cells #[.int .i64 x.kind,.int .i64 x.n,.string x.text,.slice a x.kids.length cap] 52)):=(Below.refl _ w).alloc (Nat.le_refl _) _
 have O0:(w.alloc (.cells #[.int .i64 x.kind,.int .i64 x.n,.string x.text,.slice a x.kids.length cap] 52)).heap[w.heap.size]? = some (.cells #[.int .i64 x.kind,.int .i64 x.n,.string x.text,.slice a x.kids.length cap] 52):=(MapKept.heap_alloc w _).1
 have P3:(w.alloc (.cells #[.int .i64 x.kind,.int .i64 x.n,.string x.text,.slice a x.kids.length cap] 52)).heap.size=w.heap.size+1:=by simp
 have HC:=(show Hid (_∧True) from ⟨hc,trivial⟩)
 have HE:Hid (RightE d):=hE
 have HB0:=(show Hid (_∧True) from ⟨B0,trivial⟩)
 have HO0:=(show Hid (_∧True) from ⟨O0,trivial⟩)
 have HRI:=(show Hid (_∧True) from ⟨hri,trivial⟩)
 clear hc hE B0 O0 hri
 have HBx:Hid (∀ wk:World,Below (w.alloc (.cells #[.int .i64 x.kind,.int .i64 x.n,.string x.text,.slice a x.kids.length cap] 52)).heap.size (w.alloc (.cells #[.int .i64 x.kind,.int .i64 x.n,.string x.text,.slice a x.kids.length cap] 52)) wk→Below w.heap.size w wk∧wk.heap[w.heap.size]? = some (.cells #[.int .i64 x.kind,.int .i64 x.n,.string x.text,.slice a x.kids.length cap] 52)∧w.heap.size<wk.heap.size):=fun wk hb=>⟨HB0.out.1.trans (hb.mono HB0.out.1.size),(hb.block _ (by rw [P3]; omega)).trans HO0.out.1,by have:=hb.size; rw [P3] at this; omega⟩
 have Y0:=cbk HO0.out.1 0 (.int .i64 x.kind) rfl
 have Y2:=cbk HO0.out.1 2 (.string x.text) rfl
 have Y3:=cbk HO0.out.1 3 (.slice a x.kids.length cap) rfl
 clear HB0 HO0
 have gd:decide (deep<0)=false:=by simp; omega
 have gs:decide (90<scope)=false:=by simp; omega
 have gl:(((x.kids.length:Nat):Int) != kidsOf x.kind)=false:=by simp [hlen]
 by_cases htt:x.text.toList=[]
 all_goals by_cases hnn:x.n=0
 all_goals
  have g2:(x.text.toList == [])=decide (x.text.toList=[]):=by by_cases h:x.text.toList=[] <;> simp [h]
  have g3:(x.text.toList != []) = !decide (x.text.toList=[]):=by by_cases h:x.text.toList=[] <;> simp [h]
  simp only [htt,decide_true,decide_false,Bool.not_true,Bool.not_false] at g2 g3
  have g4:(x.kind != 10)=false:=by simp [hkk]
  have HT:=(show Hid (_∧_) from ⟨htt,hnn⟩)
  have n0:(x.n == 0)=decide (x.n=0):=by by_cases h:x.n=0 <;> simp [h]
  first | rw [decide_eq_true hnn] at n0 | rw [decide_eq_false hnn] at n0
  clear hnn
  have HLEN:=(show Hid (_∧_) from ⟨hlen,hkk⟩)
  clear hlen hkk
  go_enter Tryz.func34,Tryz.ntmps34
  go_wp2_with fail
  have HY1:(w.alloc (.cells #[.int .i64 x.kind,.int .i64 x.n,.string x.text,.slice a x.kids.length cap] 52)).heap[w.heap.size]? = some (.cells #[.int .i64 x.kind,.int .i64 x.n,.string x.text,.slice a x.kids.length cap] 52):=(MapKept.heap_alloc w _).1
  generalize (w.alloc (.cells #[.int .i64 x.kind,.int .i64 x.n,.string x.text,.slice a x.kids.length cap] 52))=w2 at *
  have k0:=cell_regrown Y0
  have k2:=cell_regrown Y2
  have k3:=cell_regrown Y3
  refine wp_region_quiet_below (by kernel_rfl) (by kernel_rfl) ?_
  repeat (go_big_quiet_step ((go_at_call 63; exact Calls.regrown_of (l02Kids_any _ _))))
  refine wpQuiet_nil ?_
  intro _ hw'
  obtain ⟨⟨dq,osq⟩,hw''⟩:=hw'
  subst hw''
  have HB3:=(show Hid (_∧True) from ⟨HBx.out _ (below_regrown w2 dq osq),trivial⟩)
  clear k0 k2 k3 Y0 Y2 Y3 HY1 HBx
  generalize Go.Sort.grow (redrawn w2 dq) osq=w3 at *
  have z0:=cbk HB3.out.1.2.1 0 (.int .i64 x.kind) rfl
  have z1:=cbk HB3.out.1.2.1 1 (.int .i64 x.n) rfl
  have z3:=cbk HB3.out.1.2.1 3 (.slice a x.kids.length cap) rfl
  have hlt3:w.heap.size<w3.heap.size:=HB3.out.1.2.2
  have hkk:=HLEN.out.2
  rw [hkk] at z0
  clear hkk
  have z2:=cbk HB3.out.1.2.1 2 (.string x.text) rfl
  have hlc:∀ j,j<5→((w3.alloc (.cells #[.int .i64 0,.int .i64 0,.int .i64 0] 3)).alloc (.cells #[.string ⟨#[61,61]⟩,.string ⟨#[60]⟩,.string ⟨#[43]⟩,.string ⟨#[45]⟩,.string ⟨#[42]⟩] 9)).cell? ⟨w3.heap.size+1,j,none⟩=some (.string (opsB.getD j ByteArray.empty)):=by
   have h:=lit_cells opsB (w3.alloc (.cells #[.int .i64 0,.int .i64 0,.int .i64 0] 3)) 9
   have e:(w3.alloc (.cells #[.int .i64 0,.int .i64 0,.int .i64 0] 3)).heap.size=w3.heap.size+1:=by simp
   rw [e] at h
   exact h
  have HLC:=(show Hid (_∧True) from ⟨hlc,trivial⟩)
  clear hlc
  go_wp2_with (go_at_call 39; refine (has_any (w3.heap.size+1) 5 5 opsB x.text _ rfl (by decide) HLC.out.1).mono ?_; rintro e wx ⟨rfl,rfl⟩)
  clear HLC
  go_loopw [10,11] (fun okv i wr=>∃ k:Nat,k≤x.kids.length∧i = .int .i64 k∧∃ bb:Bool,okv = .bool bb∧(bb=true↔(fieldsB x.kind x.n x.text x.kids scope tops=true∧∀ (j:Nat) (y:Ex),j<k→x.kids[j]? = some y→y.right (scope+moreN x.kind x.n j) tops (deep - 1)=true))∧Below w.heap.size w wr∧wr.heap[w.heap.size]? = some (.cells #[.int .i64 x.kind,.int .i64 x.n,.string x.text,.slice a x.kids.length cap] 52)∧∃ m0 m1 m2:Int,wr.heap[w3.heap.size]? = some (.cells #[.int .i64 m0,.int .i64 m1,.int .i64 m2] 3)∧(0<x.kids.length→m0=moreN x.kind x.n 0)∧(1<x.kids.length→m1=moreN x.kind x.n 1)∧(2<x.kids.length→m2=moreN x.kind x.n 2)) (fun _ i _=>x.kids.length - (intOf i).toNat)
  case' atStart =>
   refine ⟨0,Nat.zero_le _,rfl,_,rfl,?_,?_,?_,0,0,0,?_,?_⟩
   rotate_left
   ·first | exact HB3.out.1.1.alloc HB3.out.1.1.size _ | exact (HB3.out.1.1.alloc HB3.out.1.1.size _).alloc (HB3.out.1.1.alloc HB3.out.1.1.size _).size _
   ·first | exact (Below.heap_alloc _ _ _ hlt3).trans HB3.out.1.2.1 | exact (Below.heap_alloc _ _ _ (by simp; omega)).trans ((Below.heap_alloc _ _ _ hlt3).trans HB3.out.1.2.1)
   ·first | exact (MapKept.heap_alloc w3 _).1 | exact (Below.heap_alloc _ _ _ (by simp)).trans (MapKept.heap_alloc w3 _).1
   rotate_left
   ·have hkk:=HLEN.out.2
    simp [fieldsB,hkk,HT.out.2,among_opsB]
   ·have hkk:=HLEN.out.2
    have hl9:=HLEN.out.1
    rw [hkk] at hl9
    simp only [kidsOf_lit] at hl9
    refine ⟨fun h9 => ?_,fun h9 => ?_,fun h9 => ?_⟩ <;> first | (exfalso; omega) | simp [moreN,hkk]
  case' round =>
   obtain ⟨k,hk,rfl,bb,rfl,hbb,hbw,hO,m0,m1,m2,hM,hm0,hm1,hm2⟩:=hrel
   have P1r:=cbk hO 3 (.slice a x.kids.length cap) rfl
   have hk3:x.kids.length≤3:=by
    have hl9:=HLEN.out.1
    have:kidsOf x.kind≤3:=by unfold kidsOf; split <;> (try split) <;> (try split) <;> (try split) <;> omega
    omega
   have HS:=(show Hid (_∧_∧_∧_) from ⟨hbb,hbw,hO,hM⟩)
   have HS2:=(show Hid (_∧_∧_) from ⟨hm0,hm1,hm2⟩)
   by_cases hgo:k<x.kids.length∧bb=true
   ·obtain ⟨hkl,rfl⟩:=hgo
    have hf:=(hbb.1 rfl).1
    have he:=List.getElem?_eq_getElem hkl
    generalize x.kids[k]=y at *
    obtain ⟨b,off,kv,rfl,-,hl1,c0,c1,c2,c3,r1,r2,r3,kk⟩:=HC.out.1 k y he
    rw [← hbw.cell (by exact hl1)] at c0 c1 c2 c3
    have HX:Hid (∀ wx:World,Below w.heap.size w wx→ExAt wx S d (.agg #[.int .i64 y.kind,.int .i64 y.n,.string y.text,kv]) y):=fun wx hx=>⟨kv,rfl,r1,r2,r3,kk.below hx⟩
    obtain ⟨ka,kc,rfl⟩:=kk.form
    have HEK:Hid (x.kids[k]? = some y):=he
    have hml:=moreN_le hf k
    have hmk:wr.cell? ⟨w3.heap.size,k,none⟩=some (.int .i64 (moreN x.kind x.n k)):=by
     rw [cell_of_block hM]
     match k,hkl with
     | 0,h=>rw [← hm0 h]; rfl
     | 1,h=>rw [← hm1 h]; rfl
     | 2,h=>rw [← hm2 h]; rfl
     | (n+3),h=>omega
    generalize hmm:moreN x.kind x.n k=mj at *
    have HMM:=(show Hid (_∧True) from ⟨hmm,trivial⟩)
    clear kk he HC r1 r2 r3 hbb hbw hO hM hm0 hm1 hm2 hf hmm z0 z1 z3
    have hlt':((k:Nat):Int)<((x.kids.length:Nat):Int):=by omega
    have hw1:IntKind.i64.wrap (scope+mj)=scope+mj:=by rw [IntKind.wrap_i64]; omega
    have hw2:IntKind.i64.wrap (deep - 1)=deep - 1:=by rw [IntKind.wrap_i64]; omega
    have K0:=cell_regrown c0
    have K1:=cell_regrown c1
    have K2:=cell_regrown c2
    have K3:=cell_regrown c3
    have KP:=cell_regrown P1r
    have KM:=cell_regrown hmk
    go_wp2_with fail
    refine wp_region_quiet_below (by kernel_rfl) (by kernel_rfl) ?_
    repeat (go_big_quiet_step ((go_at_call 34; exact Calls.regrown_of (HE.out _ y S _ _ _ _ (HX.out _ (HS.out.2.1.trans ((below_regrown wr _ _).mono HS.out.2.1.size))) ⟨by omega,by omega⟩ ht ⟨by omega,by omega⟩))))
    refine wpQuiet_nil ?_
    intro _ hw'
    obtain ⟨⟨dq,osq⟩,hw''⟩:=hw'
    subst hw''
    have b5:=below_regrown wr dq osq
    clear K0 K1 K2 K3 KP KM
    generalize Go.Sort.grow (redrawn wr dq) osq=w5 at *
    have HB5:Hid (Below wr.heap.size wr w5):=b5
    clear b5
    go_wp2
    refine ⟨⟨k+1,by omega,by go_num,_,rfl,?_,HS.out.2.1.trans (HB5.out.mono HS.out.2.1.size),(HB5.out.block _ (Array.getElem?_eq_some_iff.1 HS.out.2.2.1).1).trans HS.out.2.2.1,m0,m1,m2,(HB5.out.block _ (Array.getElem?_eq_some_iff.1 HS.out.2.2.2).1).trans HS.out.2.2.2,HS2.out⟩,by simp [intOf]; omega⟩
    have h0:=HS.out.1.1 (by simp)
    constructor
    ·intro hy
     refine ⟨h0.1,fun j z hj hz => ?_⟩
     by_cases hjk:j<k
     ·exact h0.2 j z hjk hz
     ·obtain rfl:j=k:=by omega
      rw [HEK.out] at hz
      cases hz
      rw [HMM.out.1]
      exact hy
    ·intro hy
     have:=hy.2 k y (by omega) HEK.out
     rw [HMM.out.1] at this
     exact this
   ·have hres:bb=x.right scope tops deep:=by
     have hri:=HRI.out.1
     have hl9:=HLEN.out.1
     rcases Nat.lt_or_ge k x.kids.length with hkl | hkl
     ·have hb0:bb=false:=by
       cases bb with
       | false=>rfl
       | true=>exact absurd ⟨hkl,rfl⟩ hgo
      rw [hb0]
      refine (right_false fun hr => ?_).symm
      have h5:=hri.1 hr
      have:=hbb.2 ⟨h5.2.2.2.1,fun j y _ hy=>h5.2.2.2.2 j y hy⟩
      rw [hb0] at this
      cases this
     ·refine Bool.eq_iff_iff.2 ?_
      rw [hbb,hri]
      constructor
      ·rintro ⟨h1,h2⟩
       exact ⟨by omega,by omega,hl9,h1,fun i y hy=>h2 i y (by have:=(List.getElem?_eq_some_iff.1 hy).1; omega) hy⟩
      ·rintro ⟨_,_,_,h4,h5⟩
       exact ⟨h4,fun j y _ hy=>h5 j y hy⟩
    have HRS:Hid (bb=x.right scope tops deep):=hres
    have hex:¬ k<x.kids.length∨bb=false:=by
     by_cases h:k<x.kids.length
     ·right
      cases bb with
      | false=>rfl
      | true=>exact absurd ⟨h,rfl⟩ hgo
     ·exact .inl h
    clear hres hbb hbw hO hM hm0 hm1 hm2 HC HE HRI hgo z0 z1 z3
    by_cases hkl:k<x.kids.length
    ·have hb0:bb=false:=hex.resolve_left (fun h=>h hkl)
     subst hb0
     have hlt':((k:Nat):Int)<((x.kids.length:Nat):Int):=by omega
     go_wp2
     go_ret
     exact ⟨ret_bool HRS.out.symm,HS.out.2.1⟩
    ·have hlt':¬ ((k:Nat):Int)<((x.kids.length:Nat):Int):=by omega
     go_wp2
     go_ret
     exact ⟨ret_bool HRS.out.symm,HS.out.2.1⟩
end Go.Proofs.YtljdgmfcgkimoaaGreatDoor

namespace Go.Proofs.YtljdgmfcgkimoaaGreatDoor
open Go.RowKit Go.Joins
set_option maxRecDepth 100000
set_option maxHeartbeats 6400000 in
theorem l02Right_k11 (d:Nat) (hE:RightE d) (v:Value) (x:Ex) (S:Nat→Prop) (w:World) (scope tops deep:Int) (h:ExAt w S (d+1) v x) (hs:0≤scope∧scope≤96) (ht:0≤tops∧tops≤30) (hd : -1≤deep∧deep≤60) (hdp:0≤deep) (hsp:scope≤90) (hlen:(x.kids.length:Int)=kidsOf x.kind) (hkk:x.kind=11) (htx:¬ ¬ x.text.toList=[]) :
  Calls Tryz.prog 34 #[v,.int .i64 scope,.int .i64 tops,.int .i64 deep] w fun e w'=>e = .returned (.bool (x.right scope tops deep))∧Below w.heap.size w w':=by
 have hri:=right_iff x scope tops deep
 have hnot:∀ (x:Bool) (w:World),(Op.unary .not (.bool x)).run Tryz.prog w = .ok (.bool (!x)) w:=fun _ _=>rfl
 obtain ⟨kv,rfl,-,-,-,hk⟩:=h
 obtain ⟨a,cap,rfl,hl,hc⟩:=hk
 unfold maxLen at hl
 have B0:Below w.heap.size w (w.alloc (.cells #[.int .i64 x.kind,.int .i64 x.n,.string x.text,.slice a x.kids.length cap] 52)):=(Below.refl _ w).alloc (Nat.le_refl _) _
 have O0:(w.alloc (.cells #[.int .i64 x.kind,.int .i64 x.n,.string x.text,.slice a x.kids.length cap] 52)).heap[w.heap.size]? = some (.cells #[.int .i64 x.kind,.int .i64 x.n,.string x.text,.slice a x.kids.length cap] 52):=(MapKept.heap_alloc w _).1
 have P3:(w.alloc (.cells #[.int .i64 x.kind,.int .i64 x.n,.string x.text,.slice a x.kids.length cap] 52)).heap.size=w.heap.size+1:=by simp
 have HC:=(show Hid (_∧True) from ⟨hc,trivial⟩)
 have HE:Hid (RightE d):=hE
 have HB0:=(show Hid (_∧True) from ⟨B0,trivial⟩)
 have HO0:=(show Hid (_∧True) from ⟨O0,trivial⟩)
 have HRI:=(show Hid (_∧True) from ⟨hri,trivial⟩)
 clear hc hE B0 O0 hri
 have HBx:Hid (∀ wk:World,Below (w.alloc (.cells #[.int .i64 x.kind,.int .i64 x.n,.string x.text,.slice a x.kids.length cap] 52)).heap.size (w.alloc (.cells #[.int .i64 x.kind,.int .i64 x.n,.string x.text,.slice a x.kids.length cap] 52)) wk→Below w.heap.size w wk∧wk.heap[w.heap.size]? = some (.cells #[.int .i64 x.kind,.int .i64 x.n,.string x.text,.slice a x.kids.length cap] 52)∧w.heap.size<wk.heap.size):=fun wk hb=>⟨HB0.out.1.trans (hb.mono HB0.out.1.size),(hb.block _ (by rw [P3]; omega)).trans HO0.out.1,by have:=hb.size; rw [P3] at this; omega⟩
 have Y0:=cbk HO0.out.1 0 (.int .i64 x.kind) rfl
 have Y2:=cbk HO0.out.1 2 (.string x.text) rfl
 have Y3:=cbk HO0.out.1 3 (.slice a x.kids.length cap) rfl
 clear HB0 HO0
 have gd:decide (deep<0)=false:=by simp; omega
 have gs:decide (90<scope)=false:=by simp; omega
 have gl:(((x.kids.length:Nat):Int) != kidsOf x.kind)=false:=by simp [hlen]
 have htt:x.text.toList=[]:=by
  by_cases h:x.text.toList=[]
  ·exact h
  ·exact absurd h htx
 by_cases hnn:x.n=0
 all_goals
  have g2:(x.text.toList == [])=true:=by simp [htt]
  have g3:(x.text.toList != [])=false:=by simp [htt]
  have HT:=(show Hid (_∧_) from ⟨htt,hnn⟩)
  have n0:(x.n == 0)=decide (x.n=0):=by by_cases h:x.n=0 <;> simp [h]
  first | rw [decide_eq_true hnn] at n0 | rw [decide_eq_false hnn] at n0
  clear hnn
  have HLEN:=(show Hid (_∧_) from ⟨hlen,hkk⟩)
  clear hlen hkk
  go_enter Tryz.func34,Tryz.ntmps34
  go_wp2_with fail
  have HY1:(w.alloc (.cells #[.int .i64 x.kind,.int .i64 x.n,.string x.text,.slice a x.kids.length cap] 52)).heap[w.heap.size]? = some (.cells #[.int .i64 x.kind,.int .i64 x.n,.string x.text,.slice a x.kids.length cap] 52):=(MapKept.heap_alloc w _).1
  generalize (w.alloc (.cells #[.int .i64 x.kind,.int .i64 x.n,.string x.text,.slice a x.kids.length cap] 52))=w2 at *
  have k0:=cell_regrown Y0
  have k2:=cell_regrown Y2
  have k3:=cell_regrown Y3
  refine wp_region_quiet_below (by kernel_rfl) (by kernel_rfl) ?_
  repeat (go_big_quiet_step ((go_at_call 63; exact Calls.regrown_of (l02Kids_any _ _))))
  refine wpQuiet_nil ?_
  intro _ hw'
  obtain ⟨⟨dq,osq⟩,hw''⟩:=hw'
  subst hw''
  have HB3:=(show Hid (_∧True) from ⟨HBx.out _ (below_regrown w2 dq osq),trivial⟩)
  clear k0 k2 k3 Y0 Y2 Y3 HY1 HBx
  generalize Go.Sort.grow (redrawn w2 dq) osq=w3 at *
  have z0:=cbk HB3.out.1.2.1 0 (.int .i64 x.kind) rfl
  have z1:=cbk HB3.out.1.2.1 1 (.int .i64 x.n) rfl
  have z3:=cbk HB3.out.1.2.1 3 (.slice a x.kids.length cap) rfl
  have hlt3:w.heap.size<w3.heap.size:=HB3.out.1.2.2
  have hkk:=HLEN.out.2
  rw [hkk] at z0
  clear hkk
  have hl2:x.kids.length=2:=by
   have hl9:=HLEN.out.1
   rw [HLEN.out.2] at hl9
   simp only [kidsOf_lit] at hl9
   omega
  have hz:=List.getElem?_eq_getElem (show 0<x.kids.length by omega)
  obtain ⟨b0,off0,kv0,ha0,-,hlt0,d0,-⟩:=HC.out.1 0 _ hz
  have hk0:kind0 x.kids=(x.kids[0]'(by omega)).kind:=by unfold kind0; rw [List.head?_eq_getElem?,hz]; rfl
  generalize (x.kids[0]'(by omega)).kind=kk0 at *
  have hd0:(w3.alloc (.cells #[.int .i64 0,.int .i64 0,.int .i64 0] 3)).cell? ⟨b0,off0,none⟩=some (.int .i64 kk0):=by
   rw [← d0,Nat.zero_mul,Nat.add_zero]
   exact (World.cell?_of_block (Below.heap_alloc _ _ _ (by show b0<w3.heap.size; omega))).trans (HB3.out.1.1.cell (by exact hlt0))
  have HK0:=(show Hid (_∧_) from ⟨hk0,hl2⟩)
  have hlp:(0:Int)<((x.kids.length:Nat):Int):=by omega
  rw [ha0] at z3
  clear hk0 hl2 hz d0 ha0
  go_wp2_with (go_at_call 21; refine (specIn_any _ _ _ _).mono ?_; rintro e wx ⟨rfl,rfl⟩)
  clear hd0
  go_loopw [10,11] (fun okv i wr=>∃ k:Nat,k≤x.kids.length∧i = .int .i64 k∧∃ bb:Bool,okv = .bool bb∧(bb=true↔(fieldsB x.kind x.n x.text x.kids scope tops=true∧∀ (j:Nat) (y:Ex),j<k→x.kids[j]? = some y→y.right (scope+moreN x.kind x.n j) tops (deep - 1)=true))∧Below w.heap.size w wr∧wr.heap[w.heap.size]? = some (.cells #[.int .i64 x.kind,.int .i64 x.n,.string x.text,.slice a x.kids.length cap] 52)∧∃ m0 m1 m2:Int,wr.heap[w3.heap.size]? = some (.cells #[.int .i64 m0,.int .i64 m1,.int .i64 m2] 3)∧(0<x.kids.length→m0=moreN x.kind x.n 0)∧(1<x.kids.length→m1=moreN x.kind x.n 1)∧(2<x.kids.length→m2=moreN x.kind x.n 2)) (fun _ i _=>x.kids.length - (intOf i).toNat)
  case' atStart =>
   refine ⟨0,Nat.zero_le _,rfl,_,rfl,?_,?_,?_,0,0,0,?_,?_⟩
   rotate_left
   ·first | exact HB3.out.1.1.alloc HB3.out.1.1.size _ | exact (HB3.out.1.1.alloc HB3.out.1.1.size _).alloc (HB3.out.1.1.alloc HB3.out.1.1.size _).size _
   ·first | exact (Below.heap_alloc _ _ _ hlt3).trans HB3.out.1.2.1 | exact (Below.heap_alloc _ _ _ (by simp; omega)).trans ((Below.heap_alloc _ _ _ hlt3).trans HB3.out.1.2.1)
   ·first | exact (MapKept.heap_alloc w3 _).1 | exact (Below.heap_alloc _ _ _ (by simp)).trans (MapKept.heap_alloc w3 _).1
   rotate_left
   ·have hkk:=HLEN.out.2
    simp [fieldsB,inB,hkk,HT.out.1,HT.out.2,HK0.out.1]
    try omega
   ·have hkk:=HLEN.out.2
    have hl9:=HLEN.out.1
    rw [hkk] at hl9
    simp only [kidsOf_lit] at hl9
    refine ⟨fun h9 => ?_,fun h9 => ?_,fun h9 => ?_⟩ <;> first | (exfalso; omega) | simp [moreN,hkk]
  case' round =>
   obtain ⟨k,hk,rfl,bb,rfl,hbb,hbw,hO,m0,m1,m2,hM,hm0,hm1,hm2⟩:=hrel
   have P1r:=cbk hO 3 (.slice a x.kids.length cap) rfl
   have hk3:x.kids.length≤3:=by
    have hl9:=HLEN.out.1
    have:kidsOf x.kind≤3:=by unfold kidsOf; split <;> (try split) <;> (try split) <;> (try split) <;> omega
    omega
   have HS:=(show Hid (_∧_∧_∧_) from ⟨hbb,hbw,hO,hM⟩)
   have HS2:=(show Hid (_∧_∧_) from ⟨hm0,hm1,hm2⟩)
   by_cases hgo:k<x.kids.length∧bb=true
   ·obtain ⟨hkl,rfl⟩:=hgo
    have hf:=(hbb.1 rfl).1
    have he:=List.getElem?_eq_getElem hkl
    generalize x.kids[k]=y at *
    obtain ⟨b,off,kv,rfl,-,hl1,c0,c1,c2,c3,r1,r2,r3,kk⟩:=HC.out.1 k y he
    rw [← hbw.cell (by exact hl1)] at c0 c1 c2 c3
    have HX:Hid (∀ wx:World,Below w.heap.size w wx→ExAt wx S d (.agg #[.int .i64 y.kind,.int .i64 y.n,.string y.text,kv]) y):=fun wx hx=>⟨kv,rfl,r1,r2,r3,kk.below hx⟩
    obtain ⟨ka,kc,rfl⟩:=kk.form
    have HEK:Hid (x.kids[k]? = some y):=he
    have hml:=moreN_le hf k
    have hmk:wr.cell? ⟨w3.heap.size,k,none⟩=some (.int .i64 (moreN x.kind x.n k)):=by
     rw [cell_of_block hM]
     match k,hkl with
     | 0,h=>rw [← hm0 h]; rfl
     | 1,h=>rw [← hm1 h]; rfl
     | 2,h=>rw [← hm2 h]; rfl
     | (n+3),h=>omega
    generalize hmm:moreN x.kind x.n k=mj at *
    have HMM:=(show Hid (_∧True) from ⟨hmm,trivial⟩)
    clear kk he HC r1 r2 r3 hbb hbw hO hM hm0 hm1 hm2 hf hmm z0 z1 z3
    have hlt':((k:Nat):Int)<((x.kids.length:Nat):Int):=by omega
    have hw1:IntKind.i64.wrap (scope+mj)=scope+mj:=by rw [IntKind.wrap_i64]; omega
    have hw2:IntKind.i64.wrap (deep - 1)=deep - 1:=by rw [IntKind.wrap_i64]; omega
    have K0:=cell_regrown c0
    have K1:=cell_regrown c1
    have K2:=cell_regrown c2
    have K3:=cell_regrown c3
    have KP:=cell_regrown P1r
    have KM:=cell_regrown hmk
    go_wp2_with fail
    refine wp_region_quiet_below (by kernel_rfl) (by kernel_rfl) ?_
    repeat (go_big_quiet_step ((go_at_call 34; exact Calls.regrown_of (HE.out _ y S _ _ _ _ (HX.out _ (HS.out.2.1.trans ((below_regrown wr _ _).mono HS.out.2.1.size))) ⟨by omega,by omega⟩ ht ⟨by omega,by omega⟩))))
    refine wpQuiet_nil ?_
    intro _ hw'
    obtain ⟨⟨dq,osq⟩,hw''⟩:=hw'
    subst hw''
    have b5:=below_regrown wr dq osq
    clear K0 K1 K2 K3 KP KM
    generalize Go.Sort.grow (redrawn wr dq) osq=w5 at *
    have HB5:Hid (Below wr.heap.size wr w5):=b5
    clear b5
    go_wp2
    refine ⟨⟨k+1,by omega,by go_num,_,rfl,?_,HS.out.2.1.trans (HB5.out.mono HS.out.2.1.size),(HB5.out.block _ (Array.getElem?_eq_some_iff.1 HS.out.2.2.1).1).trans HS.out.2.2.1,m0,m1,m2,(HB5.out.block _ (Array.getElem?_eq_some_iff.1 HS.out.2.2.2).1).trans HS.out.2.2.2,HS2.out⟩,by simp [intOf]; omega⟩
    have h0:=HS.out.1.1 (by simp)
    constructor
    ·intro hy
     refine ⟨h0.1,fun j z hj hz => ?_⟩
     by_cases hjk:j<k
     ·exact h0.2 j z hjk hz
     ·obtain rfl:j=k:=by omega
      rw [HEK.out] at hz
      cases hz
      rw [HMM.out.1]
      exact hy
    ·intro hy
     have:=hy.2 k y (by omega) HEK.out
     rw [HMM.out.1] at this
     exact this
   ·have hres:bb=x.right scope tops deep:=by
     have hri:=HRI.out.1
     have hl9:=HLEN.out.1
     rcases Nat.lt_or_ge k x.kids.length with hkl | hkl
     ·have hb0:bb=false:=by
       cases bb with
       | false=>rfl
       | true=>exact absurd ⟨hkl,rfl⟩ hgo
      rw [hb0]
      refine (right_false fun hr => ?_).symm
      have h5:=hri.1 hr
      have:=hbb.2 ⟨h5.2.2.2.1,fun j y _ hy=>h5.2.2.2.2 j y hy⟩
      rw [hb0] at this
      cases this
     ·refine Bool.eq_iff_iff.2 ?_
      rw [hbb,hri]
      constructor
      ·rintro ⟨h1,h2⟩
       exact ⟨by omega,by omega,hl9,h1,fun i y hy=>h2 i y (by have:=(List.getElem?_eq_some_iff.1 hy).1; omega) hy⟩
      ·rintro ⟨_,_,_,h4,h5⟩
       exact ⟨h4,fun j y _ hy=>h5 j y hy⟩
    have HRS:Hid (bb=x.right scope tops deep):=hres
    have hex:¬ k<x.kids.length∨bb=false:=by
     by_cases h:k<x.kids.length
     ·right
      cases bb with
      | false=>rfl
      | true=>exact absurd ⟨h,rfl⟩ hgo
     ·exact .inl h
    clear hres hbb hbw hO hM hm0 hm1 hm2 HC HE HRI hgo z0 z1 z3
    by_cases hkl:k<x.kids.length
    ·have hb0:bb=false:=hex.resolve_left (fun h=>h hkl)
     subst hb0
     have hlt':((k:Nat):Int)<((x.kids.length:Nat):Int):=by omega
     go_wp2
     go_ret
     exact ⟨ret_bool HRS.out.symm,HS.out.2.1⟩
    ·have hlt':¬ ((k:Nat):Int)<((x.kids.length:Nat):Int):=by omega
     go_wp2
     go_ret
     exact ⟨ret_bool HRS.out.symm,HS.out.2.1⟩
end Go.Proofs.YtljdgmfcgkimoaaGreatDoor

namespace Go.Proofs.YtljdgmfcgkimoaaGreatDoor
open Go.RowKit Go.Joins
theorem l02Right_any:∀ d,RightE d
 | 0=>fun _ _ _ _ _ _ _ ⟨_,_,_,_,_,h⟩=>h.elim
 | d+1=>fun v x S w scope tops deep h hs ht hd=>by
  by_cases hm:0≤deep∧scope≤90∧(x.kids.length:Int)=kidsOf x.kind
  ·by_cases h10:x.kind=10
   ·exact l02Right_k10 d (l02Right_any d) v x S w scope tops deep h hs ht hd hm.1 hm.2.1 hm.2.2 h10
   ·by_cases h11:x.kind=11∧x.text.toList=[]
    ·exact l02Right_k11 d (l02Right_any d) v x S w scope tops deep h hs ht hd hm.1 hm.2.1 hm.2.2 h11.1 (fun hn=>hn h11.2)
    ·refine l02Right_gen d (l02Right_any d) v x S w scope tops deep h hs ht hd (fun _ _ _ hx=>⟨h10,fun he=>h11 ⟨he,?_⟩⟩)
     by_cases ht:x.text.toList=[]
     ·exact ht
     ·exact absurd ⟨ht,h10⟩ hx
  ·exact l02Right_gen d (l02Right_any d) v x S w scope tops deep h hs ht hd (fun h1 h2 h3 _=>absurd ⟨h1,h2,h3⟩ hm)
end Go.Proofs.YtljdgmfcgkimoaaGreatDoor
