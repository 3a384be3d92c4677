/-
  Proofs.
  Proofs.
  Proofs.
  Proofs.
-/
import Derived.Test.YtljdgmfcgkimoaaGreatDoorJ1
import Derived.Test.YtljdgmfcgkimoaaGreatDoorJ48
import Derived.Test.YtljdgmfcgkimoaaGreatDoorJ15
import Derived.Test.YtljdgmfcgkimoaaGreatDoorJ39
import Derived.Test.YtljdgmfcgkimoaaGreatDoorJ46
namespace Go.Proofs.YtljdgmfcgkimoaaGreatDoor
open Go.RowKit Go.Joins
set_option maxRecDepth 100000
theorem retB {a b:Bool} (h:a=b):Ending.returned (.bool a) = .returned (.bool b):=by rw [h]
set_option maxHeartbeats 1600000 in
theorem progOk_any (d:Nat) (v:Value) (p:Pr) (w:World) (h:PrAt w (Pl w) d v p) :
  Calls Tryz.prog 28 #[v] w fun e w'=>e = .returned (.bool p.ok)∧Below w.heap.size w w':=by
 have hnot:∀ (x:Bool) (w:World),(Op.unary .not (.bool x)).run Tryz.prog w = .ok (.bool (!x)) w:=fun _ _=>rfl
 have hok:=p.ok_iff
 obtain ⟨nv,bv,rfl,hn,hk⟩:=h
 have HN:=(show Hid (_∧True) from ⟨hn,trivial⟩)
 obtain ⟨a1,cap1,rfl,hl1,-⟩:=hn
 cases d with
 | zero=>exact hk.elim
 | succ d =>
 obtain ⟨a,cap,rfl,hl,hc⟩:=hk
 unfold maxLen at hl hl1
 have HOK:=(show Hid (_∧True) from ⟨hok,trivial⟩)
 have HNode:Hid (∀ (i:Nat) (e:Ex),p.bodies[i]? = some e→∃ b o,a=some ⟨b,o,none⟩∧NodeAt w d ⟨b,o+i * 4,none⟩ e):=fun i e he=>by
  obtain ⟨b,off,kv,ha,hp,hl1,c0,c1,c2,c3,r1,r2,r3,kk⟩:=hc i e he
  exact ⟨b,off,ha,b,off+i * 4,kv,rfl,hp,c0,c1,c2,c3,r1,r2,r3,kk⟩
 have B0:Below w.heap.size w (w.alloc (.cells #[.slice a1 p.names.length cap1,.slice a p.bodies.length cap] 27)):=(Below.refl _ w).alloc (Nat.le_refl _) _
 have O0:(w.alloc (.cells #[.slice a1 p.names.length cap1,.slice a p.bodies.length cap] 27)).heap[w.heap.size]? = some (.cells #[.slice a1 p.names.length cap1,.slice a p.bodies.length cap] 27):=(MapKept.heap_alloc w _).1
 have P3:(w.alloc (.cells #[.slice a1 p.names.length cap1,.slice a p.bodies.length cap] 27)).heap.size=w.heap.size+1:=by simp
 have HBx:Hid (∀ wk:World,Below (w.alloc (.cells #[.slice a1 p.names.length cap1,.slice a p.bodies.length cap] 27)).heap.size (w.alloc (.cells #[.slice a1 p.names.length cap1,.slice a p.bodies.length cap] 27)) wk→Below w.heap.size w wk∧wk.heap[w.heap.size]? = some (.cells #[.slice a1 p.names.length cap1,.slice a p.bodies.length cap] 27)):=fun wk hb=>⟨B0.trans (hb.mono B0.size),(hb.block _ (by rw [P3]; omega)).trans O0⟩
 have hmm:=@run_makeMap Tryz.prog
 clear hc hok O0
 by_cases hlen:p.names.length=p.bodies.length
 case neg =>
  have gl:(((p.names.length:Nat):Int) != ((p.bodies.length:Nat):Int))=true:=by simp; omega
  have hr:p.ok=false:=Pr.ok_false fun h=>hlen h.1
  rw [hr]
  go_enter Tryz.func28,Tryz.ntmps28
  go_wp2_with fail
  go_ret
  exact ⟨rfl,B0⟩
 have gl:(((p.names.length:Nat):Int) != ((p.bodies.length:Nat):Int))=false:=by simp [hlen]
 by_cases hin:1≤p.names.length
 case neg =>
  have g1:decide (((p.names.length:Nat):Int)<1)=true:=by simp; omega
  have hr:p.ok=false:=Pr.ok_false fun h=>hin h.2.1
  rw [hr]
  have HLN:=(show Hid (_∧True) from ⟨hlen,trivial⟩)
  clear hlen
  go_enter Tryz.func28,Tryz.ntmps28
  go_wp2_with fail
  go_ret
  exact ⟨rfl,B0⟩
 have g1:decide (((p.names.length:Nat):Int)<1)=false:=by simp; omega
 by_cases hin2:p.names.length≤30
 case neg =>
  have g2:decide (30<((p.names.length:Nat):Int))=true:=by simp; omega
  have hr:p.ok=false:=Pr.ok_false fun h=>hin2 h.2.2.1
  rw [hr]
  have HLN:=(show Hid (_∧True) from ⟨hlen,trivial⟩)
  clear hlen
  go_enter Tryz.func28,Tryz.ntmps28
  go_wp2_with fail
  go_ret
  exact ⟨rfl,B0⟩
 have g2:decide (30<((p.names.length:Nat):Int))=false:=by simp; omega
 have HLN:=(show Hid (_∧_∧_) from ⟨hlen,hin,hin2⟩)
 cases hnm:(p.names.all nameOk && decide (keysS p.names).Nodup) with
 | false =>
  have hr:p.ok=false:=by unfold Pr.ok; rw [Bool.and_assoc (_ && _) (p.names.all nameOk),hnm]; simp
  rw [hr]
  clear hlen
  go_enter Tryz.func28,Tryz.ntmps28
  go_wp2_with (go_at_call 46; refine (namesOk_any _ p.names _ _ (HN.out.1.below B0) hin2).mono ?_; rintro e w1 ⟨rfl,b1⟩; rw [hnm])
  go_ret
  exact ⟨rfl,B0.trans (b1.mono B0.size)⟩
 | true =>
  clear hlen
  go_enter Tryz.func28,Tryz.ntmps28
  go_wp2_with (go_at_call 46; refine (namesOk_any _ p.names _ _ (HN.out.1.below B0) hin2).mono ?_; rintro e w1 ⟨rfl,b1⟩; rw [hnm]; have Y0:w1.cell? ⟨w.heap.size,0,none⟩=some (.slice a1 p.names.length cap1):=(by rw [cell_of_block (HBx.out _ b1).2]; rfl); have hlt1:w.heap.size<w1.heap.size:=(Array.getElem?_eq_some_iff.1 (HBx.out _ b1).2).1; have O2:((w1.alloc (.map #[] 0)).alloc (.cells #[.int .i64 p.names.length,.map (some w1.heap.size)] 97)).heap[w.heap.size]? = some (.cells #[.slice a1 p.names.length cap1,.slice a p.bodies.length cap] 27):=(Below.heap_alloc _ _ _ (by simp; omega)).trans ((Below.heap_alloc _ _ _ hlt1).trans (HBx.out _ b1).2); have Y2:((w1.alloc (.map #[] 0)).alloc (.cells #[.int .i64 p.names.length,.map (some w1.heap.size)] 97)).cell? ⟨w.heap.size,1,none⟩=some (.slice a p.bodies.length cap):=(by rw [cell_of_block O2]; rfl); have HO2:=(show Hid (_∧_) from ⟨O2,(HBx.out _ b1).1⟩); clear O2 b1)
  have hch:Chk ((w1.alloc (.map #[] 0)).alloc (.cells #[.int .i64 p.names.length,.map (some w1.heap.size)] 97)) (w1.heap.size+1) w1.heap.size p.names.length:=by
   have:=(MapKept.heap_alloc (w1.alloc (.map #[] 0)) (.cells #[.int .i64 p.names.length,.map (some w1.heap.size)] 97)).1
   rw [show (w1.alloc (.map #[] 0)).heap.size=w1.heap.size+1 by simp] at this
   exact this
  have hpm:PtMap (PtrIntN w.heap.size) ((w1.alloc (.map #[] 0)).alloc (.cells #[.int .i64 p.names.length,.map (some w1.heap.size)] 97)) w1.heap.size (fun _=>none):=by
   have:=PtMap.made (Kd:=PtrIntN w.heap.size) w1
   exact ptiKept this (Below.heap_alloc _ _ _ (by simp)) (fun c hc=>Below.heap_alloc _ _ _ (by simp; omega))
  have HCH:=(show Hid (_∧_∧_) from ⟨hpm,hch,(HO2.out.2.alloc HO2.out.2.size (.map #[] 0)).alloc (HO2.out.2.alloc HO2.out.2.size (.map #[] 0)).size (.cells #[.int .i64 p.names.length,.map (some w1.heap.size)] 97)⟩)
  clear hch hpm Y0 Y2 hmm HBx P3 B0
  go_loopw [36] (fun i wr=>∃ k:Nat,k≤p.bodies.length∧i = .int .i64 k∧(∀ (j:Nat) (y:Ex),j<k→p.bodies[j]? = some y→y.right 0 (p.names.length:Int) 60=true)∧∃ f,PtMap (PtrIntN w.heap.size) wr w1.heap.size f∧RFin w (p.names.length:Int) f∧Chk wr (w1.heap.size+1) w1.heap.size (p.names.length:Int)∧wr.heap[w.heap.size]? = some (.cells #[.slice a1 p.names.length cap1,.slice a p.bodies.length cap] 27)∧Below w.heap.size w wr) (fun i _=>p.bodies.length - (intOf i).toNat)
  case atStart=>exact ⟨0,Nat.zero_le _,rfl,fun j _ h=>by omega,_,HCH.out.1,fun k u h=>(by cases h),HCH.out.2.1,HO2.out.1,HCH.out.2.2⟩
  case round =>
   obtain ⟨k,hk,rfl,hall,f,hmap,hfin,hchk,hO,hbw⟩:=hrel
   have P1r:=cbk hO 1 (.slice a p.bodies.length cap) rfl
   have HS:=(show Hid (_∧_∧_∧_∧_∧_) from ⟨hall,hmap,hfin,hchk,hO,hbw⟩)
   have hcl:w1.heap.size+1<wr.heap.size:=(Array.getElem?_eq_some_iff.1 hchk).1
   by_cases hkl:k<p.bodies.length
   ·have he:=List.getElem?_eq_getElem hkl
    generalize p.bodies[k]=y at *
    obtain ⟨b,o,rfl,hnode⟩:=HNode.out k y he
    have HEK:=(show Hid (_∧_) from ⟨he,hnode⟩)
    have hlt':((k:Nat):Int)<((p.bodies.length:Nat):Int):=by omega
    clear he hnode hall hmap hfin hchk hO hbw
    have hx:=fun (r:Bool) (hr:y.right 0 (p.names.length:Int) 60=r)=>hr ▸ expOk_any w d ⟨b,o+k * 4,none⟩ y 0 0 (p.names.length:Int) (w1.heap.size+1) w1.heap.size f wr HS.out.2.2.2.2.2 (by omega) (by omega) HEK.out.2 HS.out.2.2.2.1 HS.out.2.1 HS.out.2.2.1 ⟨by omega,by omega⟩ ⟨by omega,by omega⟩ ⟨by omega,by omega⟩
    have HX:=(show Hid (_∧True) from ⟨hx,trivial⟩)
    clear hx
    cases hrt:y.right 0 (p.names.length:Int) 60 with
    | false =>
     have hr:p.ok=false:=Pr.ok_false fun h=>by have:=h.2.2.2.2.2 y (List.mem_of_getElem? HEK.out.1); rw [hrt] at this; cases this
     have HR:Hid (p.ok=false):=hr
     clear hr
     go_wp2_with (go_at_call 47; refine (HX.out.1 _ hrt).mono ?_; rintro r w5 ⟨rfl,f5,hm5,hf5,hg5⟩)
     go_ret
     exact ⟨retB HR.out.symm,Below.grown HS.out.2.2.2.2.2 hg5 (fun k hk=>by cases hk; omega) HS.out.2.2.2.2.2.size⟩
    | true =>
     go_wp2_with (go_at_call 47; refine (HX.out.1 _ hrt).mono ?_; rintro r w5 ⟨rfl,f5,hm5,hf5,hg5⟩; have HR5:=(show Hid (_∧_∧_) from ⟨hm5,hf5,hg5⟩); clear hm5 hf5 hg5)
     refine ⟨⟨k+1,by omega,by go_num,?_,f5,HR5.out.1,HR5.out.2.1,?_,?_,Below.grown HS.out.2.2.2.2.2 HR5.out.2.2 (fun k hk=>by cases hk; omega) HS.out.2.2.2.2.2.size⟩,by simp [intOf]; omega⟩
     ·intro j z hj hz
      by_cases hjk:j<k
      ·exact HS.out.1 j z hjk hz
      ·obtain rfl:j=k:=by omega
       rw [HEK.out.1] at hz
       cases hz
       exact hrt
     ·exact (HR5.out.2.2.block _ hcl (by simp)).trans HS.out.2.2.2.1
     ·exact (HR5.out.2.2.block _ (by omega) (by simp; omega)).trans HS.out.2.2.2.2.1
   ·obtain rfl:k=p.bodies.length:=by omega
    have hr:p.ok=true:=by
     rw [Bool.and_eq_true,List.all_eq_true,decide_eq_true_eq] at hnm
     refine p.ok_iff.2 ⟨HLN.out.1,HLN.out.2.1,HLN.out.2.2,hnm.1,hnm.2,fun y hy => ?_⟩
     obtain ⟨i,hi,rfl⟩:=List.getElem_of_mem hy
     exact hall i _ hi (List.getElem?_eq_getElem hi)
    have HR:Hid (p.ok=true):=hr
    clear hr hall hmap hfin hchk hO hbw HNode
    go_wp2
    go_ret
    exact ⟨retB HR.out.symm,HS.out.2.2.2.2.2⟩
end Go.Proofs.YtljdgmfcgkimoaaGreatDoor

namespace Go.Proofs.YtljdgmfcgkimoaaGreatDoor
open Go.RowKit Go.Joins
set_option maxRecDepth 100000
theorem within_any (n a b:Int) (w:World):Calls Tryz.prog 27 #[.int .i64 n,.int .i64 a,.int .i64 b] w fun e w'=>e = .returned (.bool (inB n a b))∧w'=w:=by
 unfold inB
 by_cases h1:a≤n
 ·have d1:decide (a≤n)=true:=by simpa using h1
  go_enter Tryz.func27,Tryz.ntmps27
  go_wp2
  go_ret
  exact ⟨by simp [h1],rfl⟩
 ·have d1:decide (a≤n)=false:=by simpa using h1
  go_enter Tryz.func27,Tryz.ntmps27
  go_wp2
  go_ret
  exact ⟨by simp,rfl⟩
end Go.Proofs.YtljdgmfcgkimoaaGreatDoor

namespace Go.Proofs.YtljdgmfcgkimoaaGreatDoor
open Go.RowKit Go.Joins
set_option maxRecDepth 100000
theorem prAt_pl {w w':World} {d:Nat} {v:Value} {p:Pr} (h:PrAt w (Pl w) d v p) (hb:Below w.heap.size w w'):PrAt w' (Pl w') d v p:=by
 obtain ⟨nv,bv,hv,h1,h2⟩:=h
 exact ⟨nv,bv,hv,h1.kept (fun b _ hlt=>hb.block b hlt) hb.size (fun _ h _=>h.below hb),h2.belowPl hb⟩
def firstIs (ts:List ByteArray) (s:ByteArray) (z:Int):Prop:=(z = -1∧∀ i,i<ts.length→(ts.getD i ByteArray.empty).toList≠s.toList)∨∃ k:Nat,z=(k:Int)∧k<ts.length∧(ts.getD k ByteArray.empty).toList=s.toList
theorem first_last {ts:List ByteArray} {s:ByteArray} {z:Int} (h:firstIs ts s z) (hn:(keysS ts).Nodup):z=lastN ts s ts.length:=by
 rcases h with ⟨rfl,h⟩ | ⟨k,rfl,hk,he⟩
 ·have:∀ n,n≤ts.length→lastN ts s n = -1:=by
   intro n
   induction n with
   | zero=>intro _; rfl
   | succ n ih =>
    intro hl
    rw [lastN,if_neg (by simpa using h n (by omega))]
    exact ih (by omega)
  exact (this _ (Nat.le_refl _)).symm
 ·have h1:=(nodup_last ts).1 hn k hk
  have h2:=(lastN_is ts _ k ts.length hk rfl).1 h1
  exact ((lastN_is ts s k ts.length hk he).2 (fun j h3 h4=>by rw [← he]; exact h2 j h3 h4)).symm
set_option maxHeartbeats 3200000 in
theorem index_any (v:Value) (ts:List ByteArray) (s:ByteArray) (S:Nat→Prop) (w:World) (h:StrsAt w S v ts) :
  Calls Tryz.prog 16 #[v,.string s] w fun e w'=>(∃ z,e = .returned (.int .i64 z)∧firstIs ts s z)∧w'=w:=by
 obtain ⟨a,cap,rfl,hl,hc⟩:=h
 unfold maxLen at hl
 have HC:=(show Hid (_∧True) from ⟨hc,trivial⟩)
 clear hc
 go_enter Tryz.func16,Tryz.ntmps16
 go_wp2
 go_loopw [8] (fun i wr=>∃ k:Nat,k≤ts.length∧i = .int .i64 k∧(∀ i,i<k→(ts.getD i ByteArray.empty).toList≠s.toList)∧wr=w) (fun i _=>ts.length - (intOf i).toNat)
 case atStart=>exact ⟨0,Nat.zero_le _,rfl,fun i hi=>by omega,rfl⟩
 case round =>
  obtain ⟨k,hk,rfl,hno,rfl⟩:=hrel
  by_cases hkl:k<ts.length
  ·have he:=List.getElem?_eq_getElem hkl
   have hgd:ts.getD k ByteArray.empty=ts[k]:=by rw [List.getD_eq_getElem?_getD,he]; rfl
   generalize ts[k]=x at *
   obtain ⟨b',off,rfl,-,-,c0,-⟩:=HC.out.1 k x he
   have hlt':((k:Nat):Int)<((ts.length:Nat):Int):=by omega
   have HX:=(show Hid (_∧_) from ⟨hno,hgd⟩)
   clear hno hgd he
   by_cases hd:x.toList=s.toList
   ·have g1:(s.toList == x.toList)=true:=by simp [hd]
    have HF:=(show Hid (_∧True) from ⟨hd,trivial⟩)
    clear hd
    go_wp2_with fail
    go_ret
    exact ⟨⟨k,rfl,Or.inr ⟨k,rfl,hkl,by rw [HX.out.2]; exact HF.out.1⟩⟩,rfl⟩
   ·have g1:(s.toList == x.toList)=false:=by simp; exact fun e=>hd e.symm
    have HF:=(show Hid (_∧True) from ⟨hd,trivial⟩)
    clear hd
    go_wp2_with fail
    refine ⟨⟨k+1,by omega,by go_num,fun i hi => ?_,by first | rfl | trivial⟩,by simp [intOf]; omega⟩
    by_cases hik:i=k
    ·subst hik
     rw [HX.out.2]
     exact HF.out.1
    ·exact HX.out.1 i (by omega)
  ·obtain rfl:k=ts.length:=by omega
   have HX:=(show Hid (_∧True) from ⟨hno,trivial⟩)
   clear hno
   go_wp2_with fail
   go_ret
   exact ⟨⟨-1,rfl,Or.inl ⟨rfl,HX.out.1⟩⟩,rfl⟩
set_option maxHeartbeats 3200000 in
theorem canReckon_any (d:Nat) (v:Value) (p:Pr) (F:Int) (w:World) (h:PrAt w (Pl w) d v p) :
  Calls Tryz.prog 17 #[v,.int .i64 F] w fun r w'=>r = .returned (.bool (inB F 0 100000 && p.ok))∧Below w.heap.size w w':=by
 have H0:=(show Hid (PrAt w (Pl w) d v p∧True) from ⟨h,trivial⟩)
 obtain ⟨nv,bv,rfl,hn,hk⟩:=h
 obtain ⟨a1,cap1,rfl⟩:=hn.form
 obtain ⟨a2,cap2,rfl⟩:=hk.form
 obtain ⟨W1,hW1⟩:∃ W1,W1=w.alloc (.cells #[.slice a1 p.names.length cap1,.slice a2 p.bodies.length cap2] 27):=⟨_,rfl⟩
 have b1:Below w.heap.size w W1:=by rw [hW1]; exact (Below.refl _ w).alloc (Nat.le_refl _) _
 have q1:W1.heap[w.heap.size]? = some (.cells #[.slice a1 p.names.length cap1,.slice a2 p.bodies.length cap2] 27):=by rw [hW1]; exact block_alloc
 have hpr:=progOk_any d _ p W1 (prAt_pl H0.out.1 b1)
 have x0:=cbk q1 0 (.slice a1 p.names.length cap1) rfl
 have x1:=cbk q1 1 (.slice a2 p.bodies.length cap2) rfl
 have HK:=(show Hid (_∧_) from ⟨hpr,b1⟩)
 have hwi:=fun w=>within_any F 0 100000 w
 have HW:=(show Hid (_∧_) from ⟨hwi,hW1⟩)
 clear hpr b1 q1 hn hk H0 hwi hW1
 cases hi:inB F 0 100000 with
 | false =>
  go_enter Tryz.func17,Tryz.ntmps17
  go_upto_region 1 with fail
  rw [← HW.out.2]
  go_wp2_with fail
  refine (HW.out.1 _).mono ?_
  rw [hi]
  rintro r w1 ⟨rfl,rfl⟩
  go_wp2_with fail
  go_ret
  exact ⟨rfl,HK.out.2⟩
 | true =>
  rw [Bool.true_and]
  go_enter Tryz.func17,Tryz.ntmps17
  go_upto_region 1 with fail
  rw [← HW.out.2]
  go_wp2_with fail
  refine (HW.out.1 _).mono ?_
  rw [hi]
  rintro r w1 ⟨rfl,rfl⟩
  go_wp2_with fail
  refine HK.out.1.mono ?_
  rintro r w2 ⟨rfl,b2⟩
  have B2:=(show Hid _ from b2)
  clear b2
  go_wp2_with fail
  go_ret
  exact ⟨rfl,HK.out.2.trans (B2.out.mono HK.out.2.size)⟩
set_option maxHeartbeats 3200000 in
theorem implMean_any (d : Nat) (v : Value) (p : Pr) (F : Int) (w : World) (h : PrAt w (Pl w) d v p) (htab : Lib.TabIs Tryz.prog w "internal/strconv.uint64pow10" .u64 Lib.pow10Tab) :
  Calls Tryz.prog 6 #[v,.int .i64 F] w fun r w'=>r = .returned (.tuple #[.string (mB p F),.int .i64 (mC p F)])∧Below w.heap.size w w':=by
 have H0:=(show Hid (PrAt w (Pl w) d v p∧True) from ⟨h,trivial⟩)
 obtain ⟨nv,bv,rfl,hn,hk⟩:=h
 obtain ⟨a1,cap1,rfl⟩:=hn.form
 obtain ⟨a2,cap2,rfl⟩:=hk.form
 obtain ⟨W1,hW1⟩:∃ W1,W1=w.alloc (.cells #[.slice a1 p.names.length cap1,.slice a2 p.bodies.length cap2] 27):=⟨_,rfl⟩
 have b1:Below w.heap.size w W1:=by rw [hW1]; exact (Below.refl _ w).alloc (Nat.le_refl _) _
 have q1:W1.heap[w.heap.size]? = some (.cells #[.slice a1 p.names.length cap1,.slice a2 p.bodies.length cap2] 27):=by rw [hW1]; exact block_alloc
 have hix:=index_any _ p.names mainB (Pl w) W1 (hn.below b1)
 have hcan:=canReckon_any d _ p F W1 (prAt_pl H0.out.1 b1)
 have hof:=fun (w2:World) (hb:Below W1.heap.size W1 w2) (ho:mOk p F)=>meanOf_any p.bodies (mainN p).toNat F.toNat d (Pl w) a1 p.names.length cap1 (.slice a2 p.bodies.length cap2) w2 (ok_bodies ho.1) (main_lt ho.1 ho.2.1) (by have:=ho.2.2; omega) ((hk.below b1).below hb) (Lib.tabBelow_of_tabIs htab w2 (b1.trans (hb.mono b1.size)))
 have x0:=cbk q1 0 (.slice a1 p.names.length cap1) rfl
 have x1:=cbk q1 1 (.slice a2 p.bodies.length cap2) rfl
 unfold mainB at hix
 have HK:=(show Hid (_∧_∧_∧_∧_) from ⟨hix,hcan,hof,b1,q1⟩)
 have HW:=(show Hid (_∧True) from ⟨hW1,trivial⟩)
 clear hix hcan hof b1 q1 hn hk H0 hW1 htab
 obtain ⟨t0,ht0⟩:∃ t0,mB p F=t0:=⟨_,rfl⟩
 obtain ⟨c0,hc0⟩:∃ c0,mC p F=c0:=⟨_,rfl⟩
 rw [ht0,hc0]
 have HT:=(show Hid (_∧_) from ⟨ht0,hc0⟩)
 clear ht0 hc0
 go_enter Tryz.func6,Tryz.ntmps6
 go_upto_region 1 with fail
 rw [← HW.out.1]
 go_wp2_with fail
 refine HK.out.1.mono ?_
 rintro r w1 ⟨⟨z,rfl,hfi⟩,rfl⟩
 have HF:=(show Hid (_∧True) from ⟨hfi,trivial⟩)
 clear hfi
 by_cases hz:z<0
 ·have hz0:decide (z<0)=true:=by simpa using hz
  have hno:¬ mOk p F:=fun ho=>by
   have:=first_last HF.out.1 ((p.ok_iff.1 ho.1).2.2.2.2.1)
   have h2:=ho.2.1
   unfold mainN mainB at h2
   omega
  obtain ⟨e1,e2⟩:=mB_no hno
  have HE:=(show Hid (_∧_) from ⟨HT.out.1.symm.trans e1,HT.out.2.symm.trans e2⟩)
  clear hz hno e1 e2
  go_wp2_with fail
  refine bodyPost_ret (v:=.tuple #[.string ⟨#[]⟩,.int .i64 3]) (by simp [results,Tryz.results6,go_sem]) rfl ?_
  rw [HE.out.1,HE.out.2]
  exact ⟨rfl,HK.out.2.2.2.1⟩
 ·have hz0:decide (z<0)=false:=by simpa using hz
  obtain ⟨zi,hzi⟩:∃ zi:Nat,z=(zi:Int):=⟨z.toNat,by omega⟩
  subst hzi
  clear hz
  go_wp2_with fail
  refine HK.out.2.1.mono ?_
  rintro r w2 ⟨rfl,b2⟩
  cases hcn:(inB F 0 100000 && p.ok) with
  | false =>
   have hno:¬ mOk p F:=fun ho=>by
    have h2:=ho.2.2
    rw [ho.1] at hcn
    unfold inB at hcn
    simp [h2.1,h2.2] at hcn
   obtain ⟨e1,e2⟩:=mB_no hno
   have HE:=(show Hid (_∧_∧_) from ⟨HT.out.1.symm.trans e1,HT.out.2.symm.trans e2,b2⟩)
   clear hno e1 e2 b2 hcn
   go_wp2_with fail
   refine bodyPost_ret (v:=.tuple #[.string ⟨#[]⟩,.int .i64 3]) (by simp [results,Tryz.results6,go_sem]) rfl ?_
   rw [HE.out.1,HE.out.2.1]
   exact ⟨rfl,HK.out.2.2.2.1.trans (HE.out.2.2.mono HK.out.2.2.2.1.size)⟩
  | true =>
   rw [Bool.and_eq_true] at hcn
   have hinF:0≤F∧F≤100000:=by have:=hcn.1; unfold inB at this; simpa using this
   have hmz:mainN p=(zi:Int):=by unfold mainN; exact (first_last HF.out.1 ((p.ok_iff.1 hcn.2).2.2.2.2.1)).symm
   have ho:mOk p F:=⟨hcn.2,by rw [hmz]; omega,hinF⟩
   obtain ⟨e1,e2⟩:=mB_ok ho
   have hof:=HK.out.2.2.1 w2 b2 ho
   obtain ⟨Fi,hFi⟩:∃ Fi:Nat,F=(Fi:Int):=⟨F.toNat,by omega⟩
   rw [hmz] at hof e1 e2
   have HE:=(show Hid (_∧_∧_∧_) from ⟨HT.out.1.symm.trans e1,HT.out.2.symm.trans e2,b2,hof⟩)
   have y0:=(b2.cell (p:=⟨w.heap.size,0,none⟩) (lh HK.out.2.2.2.2)).trans x0
   have y1:=(b2.cell (p:=⟨w.heap.size,1,none⟩) (lh HK.out.2.2.2.2)).trans x1
   clear e1 e2 b2 hcn hinF hmz ho hof x0 x1
   subst hFi
   go_wp2_with fail
   have hc:=HE.out.2.2.2
   simp only [Int.toNat_natCast] at hc
   refine hc.mono ?_
   rintro r w3 ⟨rfl,b3⟩
   have B3:=(show Hid _ from b3)
   clear b3 hc
   go_wp2_with fail
   refine bodyPost_ret (v:=.tuple #[.string (ofB p.bodies zi Fi),.int .i64 (ofC p.bodies zi Fi)]) (by simp [results,Tryz.results6,go_sem]) rfl ?_
   rw [HE.out.1,HE.out.2.1]
   simp only [Int.toNat_natCast]
   exact ⟨trivial,HK.out.2.2.2.1.trans ((HE.out.2.2.1.trans (B3.out.mono HE.out.2.2.1.size)).mono HK.out.2.2.2.1.size)⟩
end Go.Proofs.YtljdgmfcgkimoaaGreatDoor

namespace Go.Proofs.YtljdgmfcgkimoaaGreatDoor
open Go.RowKit Go.Joins
set_option maxRecDepth 100000
def cOk (r:Rs×Nat):Prop:=∀ c,r.1 = .err c→c=1∨c=2
theorem cOk_ok (v:Vl) (f:Nat):cOk (.ok v,f):=fun c h=>by cases h
theorem cOk_one (f:Nat):cOk (.err 1,f):=fun c h=>by cases h; exact Or.inl rfl
theorem cOk_two (f:Nat):cOk (.err 2,f):=fun c h=>by cases h; exact Or.inr rfl
theorem ite_c {c:Prop} [Decidable c] {a b:Rs×Nat} (ha:cOk a) (hb:cOk b):cOk (if c then a else b):=by
 split
 ·exact ha
 ·exact hb
theorem onNum_c {r:Rs×Nat} {k:Int→Nat→Rs×Nat} (h:cOk r) (hk:∀ n f,cOk (k n f)):cOk (onNum r k):=by
 obtain ⟨r,f⟩:=r
 cases r with
 | err c=>exact fun q hq=>by cases hq; exact h c rfl
 | ok v=>cases v <;> first | exact hk _ _ | exact cOk_two _
theorem onFn_c {r:Rs×Nat} {k:Int→Ex→List Clo→Nat→Rs×Nat} (h:cOk r) (hk:∀ l x en f,cOk (k l x en f)):cOk (onFn r k):=by
 obtain ⟨r,f⟩:=r
 cases r with
 | err c=>exact fun q hq=>by cases hq; exact h c rfl
 | ok v=>cases v <;> first | exact hk _ _ _ _ | exact cOk_two _
theorem onList_c {r:Rs×Nat} {k0:Nat→Rs×Nat} {k1:Clo→Clo→Nat→Rs×Nat} (h:cOk r) (hk0:∀ f,cOk (k0 f)) (hk1:∀ a b f,cOk (k1 a b f)):cOk (onList r k0 k1):=by
 obtain ⟨r,f⟩:=r
 cases r with
 | err c=>exact fun q hq=>by cases hq; exact h c rfl
 | ok v=>cases v <;> first | exact hk0 _ | exact hk1 _ _ _ | exact cOk_two _
theorem ev_c (P:List Ex):∀ (b f:Nat) (e:Ex) (env:List Clo),cOk (ev P b f e env)
 | 0,f,_,_=>cOk_one f
 | b+1,f,e,env=>by
  have ih:∀ f' e env,cOk (ev P b f' e env):=fun f' e env=>ev_c P b f' e env
  rw [ev]
  refine ite_c (cOk_one _) (ite_c (cOk_ok _ _) (ite_c ?_ (ite_c (ih _ _ _) (ite_c (cOk_ok _ _) (ite_c ?_ (ite_c (ih _ _ _) (ite_c ?_ (ite_c (cOk_ok _ _) (ite_c (cOk_ok _ _) (ite_c ?_ (ite_c ?_ (ih _ _ _))))))))))))
  ·cases env[e.n.toNat]? with
   | none=>exact cOk_two _
   | some c=>exact ih _ _ _
  ·exact onFn_c (ih _ _ _) fun l x en f'=>ite_c (cOk_ok _ _) (ih _ _ _)
  ·exact onNum_c (ih _ _ _) fun n f'=>ite_c (ih _ _ _) (ih _ _ _)
  ·exact onList_c (ih _ _ _) (fun f'=>ih _ _ _) (fun a b f'=>ih _ _ _)
  ·exact onNum_c (ih _ _ _) fun x f'=>onNum_c (ih _ _ _) fun y f''=>cOk_ok _ _
theorem pr_c (P:List Ex) (B:Nat):∀ (b f:Nat) (c:Clo) (k:Int),(pr P B b f c).1 = .error k→k=1∨k=2
 | 0,f,c,k,h=>by rw [pr] at h; cases h; exact Or.inl rfl
 | b+1,f,c,k,h=>by
  have he:=ev_c P B f c.ex c.scope
  rw [pr] at h
  generalize ev P B f c.ex c.scope=R at h he
  obtain ⟨R,f'⟩:=R
  cases R with
  | err q=>cases h; exact he _ rfl
  | ok v =>
   cases v with
   | num n=>cases h
   | nil=>cases h
   | fn l x en=>cases h
   | pair hd tl =>
    have h1:=pr_c P B b f' hd
    simp only [] at h
    generalize pr P B b f' hd=R1 at h h1
    obtain ⟨R1,f1⟩:=R1
    cases R1 with
    | error q=>cases h; exact h1 _ rfl
    | ok s =>
     have h2:=pr_c P B b f1 tl
     simp only [] at h
     generalize pr P B b f1 tl=R2 at h h2
     obtain ⟨R2,f2⟩:=R2
     cases R2 with
     | error q=>cases h; exact h2 _ rfl
     | ok s'=>cases h
theorem ofC_small (P:List Ex) (i F:Nat):0≤ofC P i F∧ofC P i F≤3:=by
 unfold ofC
 have h:=pr_c P F (F+1) F (.mk (P.getD i exZ) [] false)
 generalize pr P F (F+1) F (.mk (P.getD i exZ) [] false)=R at h
 obtain ⟨R,f⟩:=R
 cases R with
 | ok s=>exact ⟨Int.le_refl _,by show (0:Int)≤3; decide⟩
 | error k=>show 0≤k∧k≤3; rcases h k rfl with rfl | rfl <;> decide
end Go.Proofs.YtljdgmfcgkimoaaGreatDoor
