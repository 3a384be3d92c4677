/-
  Proofs.
-/
import Derived.Test.YtljdgmfcgkimoaaGreatDoorJ1
import Derived.Test.YtljdgmfcgkimoaaGreatDoorJ19
import Derived.Test.YtljdgmfcgkimoaaGreatDoorJ4
import Derived.Test.YtljdgmfcgkimoaaGreatDoorJ15
namespace Go.Proofs.YtljdgmfcgkimoaaGreatDoor
open Go.RowKit Go.Joins
set_option maxRecDepth 100000
set_option maxHeartbeats 1600000 in
theorem specProg_any (d:Nat) (v:Value) (p:Pr) (S:Nat→Prop) (w:World) (h:PrAt w S d v p) :
  Calls Tryz.prog 20 #[v] w fun e w'=>e = .returned (.bool p.ok)∧Below w.heap.size w w':=by
 have hnot:∀ (x:Bool) (w:World),(Op.unary .not (.bool x)).run Tryz.prog w = .ok (.bool (!x)) w:=fun _ _=>rfl
 have hok:=p.ok_iff
 obtain ⟨nv,bv,rfl,hn,hk⟩:=h
 have HN:=(show Hid (_∧True) from ⟨hn,trivial⟩)
 obtain ⟨a1,cap1,rfl,hl1,hc1⟩:=hn
 cases d with
 | zero=>exact hk.elim
 | succ d =>
 obtain ⟨a,cap,rfl,hl,hc⟩:=hk
 unfold maxLen at hl hl1
 have HC1:=(show Hid (_∧True) from ⟨hc1,trivial⟩)
 have HC:=(show Hid (_∧True) from ⟨hc,trivial⟩)
 have HE:Hid (RightE d):=l02Right_any d
 have HOK:=(show Hid (_∧True) from ⟨hok,trivial⟩)
 have B0:Below w.heap.size w (w.alloc (.cells #[.slice a1 p.names.length cap1,.slice a p.bodies.length cap] 27)):=(Below.refl _ w).alloc (Nat.le_refl _) _
 have O0:(w.alloc (.cells #[.slice a1 p.names.length cap1,.slice a p.bodies.length cap] 27)).heap[w.heap.size]? = some (.cells #[.slice a1 p.names.length cap1,.slice a p.bodies.length cap] 27):=(MapKept.heap_alloc w _).1
 have P3:(w.alloc (.cells #[.slice a1 p.names.length cap1,.slice a p.bodies.length cap] 27)).heap.size=w.heap.size+1:=by simp
 have HBx:Hid (∀ wk:World,Below (w.alloc (.cells #[.slice a1 p.names.length cap1,.slice a p.bodies.length cap] 27)).heap.size (w.alloc (.cells #[.slice a1 p.names.length cap1,.slice a p.bodies.length cap] 27)) wk→Below w.heap.size w wk∧wk.heap[w.heap.size]? = some (.cells #[.slice a1 p.names.length cap1,.slice a p.bodies.length cap] 27)):=fun wk hb=>⟨B0.trans (hb.mono B0.size),(hb.block _ (by rw [P3]; omega)).trans O0⟩
 have Y0:=cbk O0 0 (.slice a1 p.names.length cap1) rfl
 have Y1:=cbk O0 1 (.slice a p.bodies.length cap) rfl
 clear hc1 hc hok B0 O0
 by_cases hlen:p.names.length=p.bodies.length
 ·have gl:(((p.names.length:Nat):Int) != ((p.bodies.length:Nat):Int))=false:=by simp [hlen]
  by_cases hin:1≤p.names.length∧p.names.length≤30
  ·have hib:inB (p.names.length:Int) 1 30=true:=by unfold inB; simp; omega
   have HLN:=(show Hid (_∧_) from ⟨hlen,hin⟩)
   clear hlen
   go_enter Tryz.func20,Tryz.ntmps20
   go_wp2_with (go_at_call 21; refine (specIn_is _ _ _ _ hib _).mono ?_; rintro e wx ⟨rfl,rfl⟩)
   have HST:=(show Hid (_∧_) from HBx.out _ (Below.refl _ _))
   generalize (w.alloc (.cells #[.slice a1 p.names.length cap1,.slice a p.bodies.length cap] 27))=w2 at *
   clear HBx Y0 Y1
   go_loopw [3] (fun i wr=>∃ k:Nat,k≤p.names.length∧i = .int .i64 k∧(∀ (j:Nat) (t:ByteArray) (y:Ex),j<k→p.names[j]? = some t→p.bodies[j]? = some y→nameOk t=true∧lastN p.names t p.names.length=j∧y.right 0 (p.names.length:Int) 60=true)∧Below w.heap.size w wr∧wr.heap[w.heap.size]? = some (.cells #[.slice a1 p.names.length cap1,.slice a p.bodies.length cap] 27)) (fun i _=>p.names.length - (intOf i).toNat)
   case atStart=>exact ⟨0,Nat.zero_le _,rfl,fun j _ _ h=>by omega,HST.out.1,HST.out.2⟩
   case round =>
    obtain ⟨k,hk,rfl,hall,hbw,hO⟩:=hrel
    have P0r:=cbk hO 0 (.slice a1 p.names.length cap1) rfl
    have P1r:=cbk hO 1 (.slice a p.bodies.length cap) rfl
    have HS:=(show Hid (_∧_∧_) from ⟨hall,hbw,hO⟩)
    by_cases hkl:k<p.names.length
    ·have hkb:k<p.bodies.length:=by have:=HLN.out.1; omega
     have ht:=List.getElem?_eq_getElem hkl
     have he:=List.getElem?_eq_getElem hkb
     have htd:p.names.getD k ByteArray.empty=p.names[k]:=by simp [List.getD,ht]
     generalize p.names[k]=t at *
     generalize p.bodies[k]=y at *
     obtain ⟨b,off,kv,rfl,-,hlt1,c0,c1,c2,c3,r1,r2,r3,kk⟩:=HC.out.1 k y he
     obtain ⟨b1,off1,rfl,-,hlt2,ct,hts⟩:=HC1.out.1 k t ht
     rw [← hbw.cell (by exact hlt1)] at c0 c1 c2 c3
     rw [← hbw.cell (by exact hlt2)] at ct
     have HX:Hid (∀ wx:World,Below w.heap.size w wx→ExAt wx S d (.agg #[.int .i64 y.kind,.int .i64 y.n,.string y.text,kv]) y):=fun wx hx=>⟨kv,rfl,r1,r2,r3,kk.below hx⟩
     obtain ⟨ka,kc,rfl⟩:=kk.form
     have HEK:=(show Hid (_∧_) from ⟨ht,he⟩)
     have HTD:=(show Hid (_∧True) from ⟨htd,trivial⟩)
     clear kk he ht htd HC HC1 r1 r2 r3 hall hbw hO
     have hlt':((k:Nat):Int)<((p.names.length:Nat):Int):=by omega
     have hlt'':((k:Nat):Int)<((p.bodies.length:Nat):Int):=by have:=HLN.out.1; omega
     have K0:=cell_regrown c0
     have K1:=cell_regrown c1
     have K2:=cell_regrown c2
     have K3:=cell_regrown c3
     have KP:=cell_regrown P0r
     have KQ:=cell_regrown P1r
     have KT:=cell_regrown ct
     obtain ⟨q,HPL⟩:∃ q:Int,Hid (lastN p.names t p.names.length=q∧(q=(k:Int)→lastN p.names t p.names.length=(k:Int))):=⟨_,rfl,fun h=>h⟩
     cases hnm:nameOk t with
     | false =>
     have hr:p.ok=false:=Pr.ok_false fun h=>(by have:=h.2.2.2.1 t (List.mem_of_getElem? HEK.out.1); rw [hnm] at this; cases this)
     have HR:Hid (p.ok=false):=hr
     clear hr
     go_wp2_with fail
     refine wp_region_quiet_below (by kernel_rfl) (by kernel_rfl) ?_
     repeat (go_big_quiet_step (first
      | (go_at_call 33; exact Calls.regrown_of (hnm ▸ specNameOk_any t _ hts))
      | (go_at_call 19; exact Calls.regrown_of ((HPL.out.1 ▸ l02Place_any _ p.names t S _ (HN.out.1.below (HS.out.2.1.trans ((below_regrown wr _ _).mono HS.out.2.1.size)))).mono (fun _ _ h=>⟨h.1,h.2 ▸ Below.refl _ _⟩)))
      | (go_at_call 34; exact Calls.regrown_of (hrt ▸ HE.out _ y S _ _ _ _ (HX.out _ (HS.out.2.1.trans ((below_regrown wr _ _).mono HS.out.2.1.size))) ⟨by omega,by omega⟩ ⟨by omega,by omega⟩ ⟨by omega,by omega⟩))))
     refine wpQuiet_nil ?_
     intro _ hw'
     obtain ⟨⟨dq,osq⟩,hw''⟩:=hw'
     subst hw''
     have b5:=below_regrown wr dq osq
     clear K0 K1 K2 K3 KP KQ KT
     generalize Go.Sort.grow (redrawn wr dq) osq=w5 at *
     have HB5:Hid (Below wr.heap.size wr w5):=b5
     clear b5
     go_wp2
     go_ret
     exact ⟨ret_bool HR.out,HS.out.2.1.trans (HB5.out.mono HS.out.2.1.size)⟩
     | true =>
     by_cases hpl0:q=(k:Int)
     case neg =>
      have hpl:(q != (k:Int))=true:=by simp [hpl0]
      have hr:p.ok=false:=Pr.ok_false fun h=>(by have:=(nodup_last p.names).1 h.2.2.2.2.1 k hkl; rw [HTD.out.1,HPL.out.1] at this; exact hpl0 this)
      have HR:Hid (p.ok=false):=hr
      clear hr
      go_wp2_with fail
      refine wp_region_quiet_below (by kernel_rfl) (by kernel_rfl) ?_
      repeat (go_big_quiet_step (first
       | (go_at_call 33; exact Calls.regrown_of (hnm ▸ specNameOk_any t _ hts))
       | (go_at_call 19; exact Calls.regrown_of ((HPL.out.1 ▸ l02Place_any _ p.names t S _ (HN.out.1.below (HS.out.2.1.trans ((below_regrown wr _ _).mono HS.out.2.1.size)))).mono (fun _ _ h=>⟨h.1,h.2 ▸ Below.refl _ _⟩)))
       | (go_at_call 34; exact Calls.regrown_of (hrt ▸ HE.out _ y S _ _ _ _ (HX.out _ (HS.out.2.1.trans ((below_regrown wr _ _).mono HS.out.2.1.size))) ⟨by omega,by omega⟩ ⟨by omega,by omega⟩ ⟨by omega,by omega⟩))))
      refine wpQuiet_nil ?_
      intro _ hw'
      obtain ⟨⟨dq,osq⟩,hw''⟩:=hw'
      subst hw''
      have b5:=below_regrown wr dq osq
      clear K0 K1 K2 K3 KP KQ KT
      generalize Go.Sort.grow (redrawn wr dq) osq=w5 at *
      have HB5:Hid (Below wr.heap.size wr w5):=b5
      clear b5
      go_wp2
      go_ret
      exact ⟨ret_bool HR.out,HS.out.2.1.trans (HB5.out.mono HS.out.2.1.size)⟩
     have hpl:(q != (k:Int))=false:=by simp [hpl0]
     cases hrt:y.right 0 (p.names.length:Int) 60 with
     | false =>
     have hr:p.ok=false:=Pr.ok_false fun h=>(by have:=h.2.2.2.2.2 y (List.mem_of_getElem? HEK.out.2); rw [hrt] at this; cases this)
     have HR:Hid (p.ok=false):=hr
     clear hr
     go_wp2_with fail
     refine wp_region_quiet_below (by kernel_rfl) (by kernel_rfl) ?_
     repeat (go_big_quiet_step (first
      | (go_at_call 33; exact Calls.regrown_of (hnm ▸ specNameOk_any t _ hts))
      | (go_at_call 19; exact Calls.regrown_of ((HPL.out.1 ▸ l02Place_any _ p.names t S _ (HN.out.1.below (HS.out.2.1.trans ((below_regrown wr _ _).mono HS.out.2.1.size)))).mono (fun _ _ h=>⟨h.1,h.2 ▸ Below.refl _ _⟩)))
      | (go_at_call 34; exact Calls.regrown_of (hrt ▸ HE.out _ y S _ _ _ _ (HX.out _ (HS.out.2.1.trans ((below_regrown wr _ _).mono HS.out.2.1.size))) ⟨by omega,by omega⟩ ⟨by omega,by omega⟩ ⟨by omega,by omega⟩))))
     refine wpQuiet_nil ?_
     intro _ hw'
     obtain ⟨⟨dq,osq⟩,hw''⟩:=hw'
     subst hw''
     have b5:=below_regrown wr dq osq
     clear K0 K1 K2 K3 KP KQ KT
     generalize Go.Sort.grow (redrawn wr dq) osq=w5 at *
     have HB5:Hid (Below wr.heap.size wr w5):=b5
     clear b5
     go_wp2
     go_ret
     exact ⟨ret_bool HR.out,HS.out.2.1.trans (HB5.out.mono HS.out.2.1.size)⟩
     | true =>
     go_wp2_with fail
     refine wp_region_quiet_below (by kernel_rfl) (by kernel_rfl) ?_
     repeat (go_big_quiet_step (first
      | (go_at_call 33; exact Calls.regrown_of (hnm ▸ specNameOk_any t _ hts))
      | (go_at_call 19; exact Calls.regrown_of ((HPL.out.1 ▸ l02Place_any _ p.names t S _ (HN.out.1.below (HS.out.2.1.trans ((below_regrown wr _ _).mono HS.out.2.1.size)))).mono (fun _ _ h=>⟨h.1,h.2 ▸ Below.refl _ _⟩)))
      | (go_at_call 34; exact Calls.regrown_of (hrt ▸ HE.out _ y S _ _ _ _ (HX.out _ (HS.out.2.1.trans ((below_regrown wr _ _).mono HS.out.2.1.size))) ⟨by omega,by omega⟩ ⟨by omega,by omega⟩ ⟨by omega,by omega⟩))))
     refine wpQuiet_nil ?_
     intro _ hw'
     obtain ⟨⟨dq,osq⟩,hw''⟩:=hw'
     subst hw''
     have b5:=below_regrown wr dq osq
     clear K0 K1 K2 K3 KP KQ KT
     generalize Go.Sort.grow (redrawn wr dq) osq=w5 at *
     have HB5:Hid (Below wr.heap.size wr w5):=b5
     clear b5
     go_wp2
     refine ⟨⟨k+1,by omega,by go_num,?_,HS.out.2.1.trans (HB5.out.mono HS.out.2.1.size),(HB5.out.block _ (Array.getElem?_eq_some_iff.1 HS.out.2.2).1).trans HS.out.2.2⟩,by simp [intOf]; omega⟩
     intro j t' y' hj ht' hy'
     by_cases hjk:j<k
     ·exact HS.out.1 j t' y' hjk ht' hy'
     ·obtain rfl:j=k:=by omega
      rw [HEK.out.1] at ht'
      rw [HEK.out.2] at hy'
      cases ht'
      cases hy'
      exact ⟨hnm,HPL.out.2 (by simpa using hpl),hrt⟩
    ·obtain rfl:k=p.names.length:=by omega
     have hr:p.ok=true:=p.ok_iff.2 ⟨HLN.out.1,HLN.out.2.1,HLN.out.2.2,fun t ht=>by
       obtain ⟨i,hi,rfl⟩:=List.getElem_of_mem ht
       have hib:i<p.bodies.length:=by have:=HLN.out.1; omega
       exact (hall i _ _ hi (List.getElem?_eq_getElem hi) (List.getElem?_eq_getElem hib)).1,(nodup_last p.names).2 fun i hi=>by
       have hib:i<p.bodies.length:=by have:=HLN.out.1; omega
       have:=(hall i _ _ hi (List.getElem?_eq_getElem hi) (List.getElem?_eq_getElem hib)).2.1
       rw [show p.names.getD i ByteArray.empty=p.names[i] by simp [List.getD,List.getElem?_eq_getElem hi]]
       exact this,fun y hy=>by
       obtain ⟨i,hi,rfl⟩:=List.getElem_of_mem hy
       have hib:i<p.names.length:=by have:=HLN.out.1; omega
       exact (hall i _ _ hib (List.getElem?_eq_getElem hib) (List.getElem?_eq_getElem hi)).2.2⟩
     have HR:Hid (p.ok=true):=hr
     clear hr hall hbw hO HC HC1 HE
     go_wp2
     go_ret
     exact ⟨ret_bool HR.out,HS.out.2.1⟩
  ·have hib:inB (p.names.length:Int) 1 30=false:=by unfold inB; simp; omega
   have hr:p.ok=false:=Pr.ok_false fun h=>hin ⟨h.2.1,h.2.2.1⟩
   rw [hr]
   have HLN:=(show Hid (_∧_) from ⟨hlen,hin⟩)
   clear hlen hin
   go_enter Tryz.func20,Tryz.ntmps20
   go_wp2_with (go_at_call 21; refine (specIn_is _ _ _ _ hib _).mono ?_; rintro e wx ⟨rfl,rfl⟩)
   go_ret
   exact ⟨rfl,(HBx.out _ (Below.refl _ _)).1⟩
 ·have gl:(((p.names.length:Nat):Int) != ((p.bodies.length:Nat):Int))=true:=by simp; omega
  have hr:p.ok=false:=Pr.ok_false fun h=>hlen h.1
  rw [hr]
  go_enter Tryz.func20,Tryz.ntmps20
  go_wp2_with fail
  generalize (w.alloc (.cells #[.slice a1 p.names.length cap1,.slice a p.bodies.length cap] 27))=w2 at *
  go_ret
  exact ⟨rfl,(HBx.out _ (Below.refl _ w2)).1⟩
end Go.Proofs.YtljdgmfcgkimoaaGreatDoor
