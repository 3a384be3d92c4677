/-
  Proofs.
-/
import Derived.Test.YtmmadoabejgffaaGreatDoorA
import Derived.Test.YtmmadoabejgffaaGreatDoorH
import Derived.Test.YtmmadoabejgffaaGreatDoorK
import Derived.Test.YtmmadoabejgffaaGreatDoorCB
import Derived.Test.YtmmadoabejgffaaGreatDoorC
import Derived.Test.YtmmadoabejgffaaGreatDoorL
import Derived.Lib.ConvBytes
import Derived.Deep.RegionHeld3
namespace Go.Proofs.YtmmadoabejgffaaGreatDoor
open Go.RowKit Go.Joins
set_option maxRecDepth 100000
set_option maxHeartbeats 51200000
def OwnMs (w:World) (B:Nat) (v:Value) (m:Ms):Prop :=
 ∃ kv,v = .agg (m.row kv)∧w.ownsRow B 3 1 kv m.cell.kids.length (m.cell.kids.map (fun z=>Value.int .i64 z)) ∧
  (inI64 m.kind∧inI64 m.frm∧inI64 m.dst∧inI64 m.id∧inI64 m.want)∧inI64 m.cell.kind∧inI64 m.cell.n∧inI64 m.cell.pos∧∀ z ∈ m.cell.kids,inI64 z
theorem OwnMs.below {w w':World} {B:Nat} {v:Value} {m:Ms} (h:OwnMs w B v m) (hb:Below w.heap.size w w'):OwnMs w' B v m:=by
 obtain ⟨kv,rfl,h1,h2⟩:=h
 exact ⟨kv,rfl,own_moved h1 (fun g hg=>hb.block g (own_lt h1 g hg)),h2⟩
theorem OwnMs.at_ {w:World} {B:Nat} {v:Value} {m:Ms} (h:OwnMs w B v m):∃ S,MsAt w S v m:=by
 obtain ⟨kv,rfl,h1,h2,h3,h4,h5,h6⟩:=h
 exact ⟨_,kv,rfl,h2,h3,h4,h5,own_ints h1 h6⟩
theorem own_base {W:World} {B B' n size:Nat} {e:TypeId} {v:Value} {xs:List Value} (h:W.ownsRow B e size v n xs) (hB:B'≤B):W.ownsRow B' e size v n xs :=
 ⟨h.1,h.2.imp id (fun ⟨g,cap,cur,hv,hb,r⟩=>⟨g,cap,cur,hv,Nat.le_trans hB hb,r⟩)⟩
theorem OwnMs.kept {w w':World} {B:Nat} {v:Value} {m:Ms} {X:Nat→Prop} (h:OwnMs w B v m) (hb:KB X w w') (hX:∀ k,B≤k→¬ X k):OwnMs w' B v m:=by
 obtain ⟨kv,rfl,h1,h2⟩:=h
 exact ⟨kv,rfl,own_moved h1 (fun g hg=>hb.block g (own_lt h1 g hg) (hX g (own_type h1 g hg).1)),h2⟩
theorem OwnMs.base {w:World} {B B':Nat} {v:Value} {m:Ms} (h:OwnMs w B v m) (hB:B'≤B):OwnMs w B' v m:=by
 obtain ⟨kv,rfl,h1,h2⟩:=h
 exact ⟨kv,rfl,own_base h1 hB,h2⟩
abbrev zero9:Array Value:=#[.int .i64 0,.int .i64 0,.int .i64 0,.int .i64 0,.int .i64 0,.int .i64 0,.int .i64 0,.int .i64 0,.slice none 0 0]
theorem ownZero (w:World) (B:Nat):OwnMs w B (.agg zero9) zeroMs:=by
 have h0:inI64 0:=by unfold inI64; omega
 exact ⟨.slice none 0 0,rfl,World.ownsRow_nil _ _ _ _,⟨h0,h0,h0,h0,h0⟩,h0,h0,h0,fun z hz=>by cases hz⟩
theorem zbox {W:World} {b:Nat} {t:TypeId} (h:W.heap[b]? = some (.cells zero9 t)):W.cell? ⟨b,0,none⟩=some (.int .i64 0)∧W.cell? ⟨b,1,none⟩=some (.int .i64 0)∧W.cell? ⟨b,2,none⟩=some (.int .i64 0)∧W.cell? ⟨b,3,none⟩=some (.int .i64 0)∧W.cell? ⟨b,4,none⟩=some (.int .i64 0)∧W.cell? ⟨b,5,none⟩=some (.int .i64 0)∧W.cell? ⟨b,6,none⟩=some (.int .i64 0)∧W.cell? ⟨b,7,none⟩=some (.int .i64 0)∧W.cell? ⟨b,8,none⟩=some (.slice none 0 0) :=
 ⟨(cell_of_block h 0).trans rfl,(cell_of_block h 1).trans rfl,(cell_of_block h 2).trans rfl,(cell_of_block h 3).trans rfl,(cell_of_block h 4).trans rfl,(cell_of_block h 5).trans rfl,(cell_of_block h 6).trans rfl,(cell_of_block h 7).trans rfl,(cell_of_block h 8).trans rfl⟩
theorem fbox {W:World} {b:Nat} {cs:Array Value} {t:TypeId} (h:W.heap[b]? = some (.cells cs t)):W.frozen? ⟨b,0,none⟩=false∧W.frozen? ⟨b,1,none⟩=false∧W.frozen? ⟨b,2,none⟩=false∧W.frozen? ⟨b,3,none⟩=false∧W.frozen? ⟨b,4,none⟩=false∧W.frozen? ⟨b,5,none⟩=false∧W.frozen? ⟨b,6,none⟩=false∧W.frozen? ⟨b,7,none⟩=false∧W.frozen? ⟨b,8,none⟩=false :=
 ⟨unfrozen_of_block h 0,unfrozen_of_block h 1,unfrozen_of_block h 2,unfrozen_of_block h 3,unfrozen_of_block h 4,unfrozen_of_block h 5,unfrozen_of_block h 6,unfrozen_of_block h 7,unfrozen_of_block h 8⟩
def putG (cs:Array Value) (f:Nat→Int):Nat→Array Value
 | 0=>cs
 | k+1=>(putG cs f k).setIfInBounds k (.int .i64 (f k))
theorem putN_is (cs:Array Value) (l:List UInt8) (p:Nat):∀ k,putN cs l p k=putG cs (fun k=>numL l (p+8 * k)) k
 | 0=>rfl
 | k+1=>by rw [putN,putG,putN_is cs l p k]
theorem putG_msg (f:Nat→Int):putG zero9 f 8 = #[.int .i64 (f 0),.int .i64 (f 1),.int .i64 (f 2),.int .i64 (f 3),.int .i64 (f 4),.int .i64 (f 5),.int .i64 (f 6),.int .i64 (f 7),.slice none 0 0]:=by simp [putG]
theorem putN_msg (l:List UInt8):putN zero9 l 0 8 = #[.int .i64 (numL l 0),.int .i64 (numL l 8),.int .i64 (numL l 16),.int .i64 (numL l 24),.int .i64 (numL l 32),.int .i64 (numL l 40),.int .i64 (numL l 48),.int .i64 (numL l 56),.slice none 0 0]:=by rw [putN_is,putG_msg]
theorem ptr8_is (p:Nat):ptr8 p=ptrsTo 8 p:=rfl
theorem fit_short {l:List UInt8} (h:¬ (0+8 * 8≤l.length∧kidsFit l 64∧l.length≤72+8 * (numL l 64).toNat∧(msgL l).ok=true)):msgFit l=false:=by
 cases hf:msgFit l with
 | false=>rfl
 | true =>
  unfold msgFit at hf
  simp only [Bool.and_eq_true,decide_eq_true_eq] at hf
  exact absurd ⟨by omega,⟨by omega,hf.1.1.2,by omega⟩,by omega,hf.2⟩ h
theorem fit_full {l:List UInt8} (h1:kidsFit l 64) (h2:l.length≤72+8 * (numL l 64).toNat) (h3:(msgL l).ok=true):msgFit l=true:=by
 unfold msgFit
 rw [h1.2.1,h3,decide_eq_true (show 72≤l.length by have:=h1.1; omega),decide_eq_true (show l.length=72+8 * (numL l 64).toNat by have:=h1.2.2; omega)]
 rfl
theorem res_no {l:List UInt8} (h:msgFit l=false):msgRes l=zeroMs:=by unfold msgRes; rw [h]; rfl
theorem res_yes {l:List UInt8} (h:msgFit l=true):msgRes l=msgL l:=by unfold msgRes; rw [h]; rfl
def ReadEnd (w w':World) (l:List UInt8) (e:Ending):Prop:=∃ mv ev,e = .returned (.tuple #[mv,ev])∧OwnMs w' w.heap.size mv (msgRes l)∧((msgFit l=true∧ev = .nilIface)∨(msgFit l=false∧∃ z,ev = .iface 283 (.agg #[.int .i64 z])))∧Below w.heap.size w w'
theorem readMsg_any (g cap:Nat) (l:List UInt8) (w:World) (hb:∃ cs fz,w.heap[g]? = some (.cells cs 5 fz)∧∀ (j:Nat) (x:UInt8),l[j]? = some x→cs[j]? = some (.int .u8 ((x.toNat:Nat):Int))) (hl:l.length≤1048576) (hcap:l.length≤cap) :
  Calls Tryz.prog 204 #[.slice (some ⟨g,0,none⟩) l.length cap] w fun e w'=>ReadEnd w w' l e:=by
 have hnot:=ex_not
 have hglt:g<w.heap.size:=by obtain ⟨cs,fz,h,-⟩:=hb; exact lh h
 obtain ⟨W2,hW2⟩:∃ W2,W2=((w.alloc (.cells zero9 67)).alloc (.cells #[.slice (some ⟨g,0,none⟩) l.length cap,.int .i64 0] 277)).alloc (.cells zero9 67):=⟨_,rfl⟩
 have s2:W2.heap.size=w.heap.size+3:=by rw [hW2]; simp
 have B2:Below w.heap.size w W2:=by rw [hW2]; exact (((Below.refl _ w).alloc (Nat.le_refl _) _).alloc (by simp) _).alloc (by simp; omega) _
 have R2:W2.heap[w.heap.size]? = some (.cells zero9 67):=by
  rw [hW2,Below.heap_alloc _ _ _ (by simp; omega),Below.heap_alloc _ _ _ (by simp)]
  exact (MapKept.heap_alloc w _).1
 have Q2:W2.heap[w.heap.size+1]? = some (.cells #[.slice (some ⟨g,0,none⟩) l.length cap,.int .i64 0] 277):=by
  rw [hW2,Below.heap_alloc _ _ _ (by simp)]
  have:=(MapKept.heap_alloc (w.alloc (.cells zero9 67)) (.cells #[.slice (some ⟨g,0,none⟩) l.length cap,.int .i64 0] 277)).1
  simpa using this
 have M2:W2.heap[w.heap.size+1+1]? = some (.cells zero9 67):=by
  rw [hW2]
  have:=(MapKept.heap_alloc ((w.alloc (.cells zero9 67)).alloc (.cells #[.slice (some ⟨g,0,none⟩) l.length cap,.int .i64 0] 277)) (.cells zero9 67)).1
  simpa using this
 have Wr2:Wr W2 (w.heap.size+1) g cap l 0:=by
  obtain ⟨cs,fz,h1,h2⟩:=hb
  exact ⟨Q2,⟨cs,fz,(B2.block _ hglt).trans h1,h2⟩,by omega,hl,hcap,Nat.zero_le _⟩
 have H2:=(show Hid (_∧_∧_∧_∧_∧_) from ⟨Wr2,B2,R2,M2,s2,hW2⟩)
 clear Wr2 B2 R2 M2 s2 hW2 Q2 hb
 go_enter Tryz.func204,Tryz.ntmps204
 go_wp2_with fail
 rw [← (show W2=_ from H2.out.2.2.2.2.2)]
 refine (msgFields_any (w.heap.size+1+1) W2).mono ?_
 rintro e w3 ⟨rfl,o3,b3⟩
 rw [ptr8_is] at o3
 have hs2:=(show Hid (_∧True) from ⟨H2.out.2.2.2.2.1,trivial⟩)
 have M3:=(b3.block _ (lh H2.out.2.2.2.1)).trans H2.out.2.2.2.1
 have R3:=(b3.block _ (lh H2.out.2.2.1)).trans H2.out.2.2.1
 have Wr3:=H2.out.1.below b3
 have hF:=fill_any (w.heap.size+1) g cap W2.heap.size (w.heap.size+1+1) 8 l 0 zero9 67 8 w3 Wr3 o3 M3 (by decide) (by decide) (by omega) (by omega) (by have:=hs2.out.1; omega) (by have:=hs2.out.1; omega)
 have hs3:w.heap.size+3≤w3.heap.size:=by have:=b3.size; have:=hs2.out.1; omega
 have H3:=(show Hid (_∧_∧_) from ⟨hF,H2.out.2.1.trans (b3.mono (by have:=hs2.out.1; omega)),R3⟩)
 clear hF R3 M3 Wr3 o3 b3 H2
 go_wp2_with fail
 refine H3.out.1.mono ?_
 rintro e w4 (⟨hfit,rfl,Wr4,M4,k4⟩ | ⟨hfit,z,rfl,k4⟩)
 case inr =>
  have R4:=k4.heap H3.out.2.2 (by omega)
  obtain ⟨d0,d1,d2,d3,d4,d5,d6,d7,d8⟩:=zbox R4
  obtain ⟨f0,f1,f2,f3,f4,f5,f6,f7,f8⟩:=fbox R4
  have HE:=(show Hid (_∧_) from ⟨H3.out.2.1.trans (k4.below (B:=w.heap.size) (by rintro k (rfl | rfl) <;> omega) (by omega)),fit_short (l:=l) (fun h=>hfit h.1)⟩)
  clear k4 R4 H3 hfit
  go_wp2
  refine bodyPost_ret (v:=.tuple #[.agg zero9,.iface 283 (.agg #[.int .i64 z])]) (by simp [results,Tryz.results204,go_sem,d0,d1,d2,d3,d4,d5,d6,d7,d8]) rfl ?_
  refine ⟨_,_,rfl,by rw [res_no HE.out.2]; exact ownZero _ _,.inr ⟨HE.out.2,z,rfl⟩,?_⟩
  iterate 9 refine Below.setCell ?_ (by simp) _
  exact HE.out.1
 have R4:=k4.heap H3.out.2.2 (by omega)
 have Wr4':Wr w4 (w.heap.size+1) g cap l 64:=Wr4
 have hK:=kids_any (w.heap.size+1) g cap l 64 w4 Wr4'
 have hs4:w3.heap.size≤w4.heap.size:=k4.size
 have B4:=H3.out.2.1.trans (k4.below (B:=w.heap.size) (by rintro k (rfl | rfl) <;> omega) (by omega))
 have H4:=(show Hid (_∧_∧_∧_) from ⟨hK,B4,R4,M4⟩)
 clear hK B4 R4 M4 k4 Wr4 Wr4' H3
 go_wp2_with fail
 refine H4.out.1.mono ?_
 rintro e w5 (⟨hkf,kv,rfl,O5,Wr5,k5⟩ | ⟨hkf,z,rfl,k5⟩)
 case inr =>
  have R5:=k5.heap H4.out.2.2.1 (by omega)
  obtain ⟨d0,d1,d2,d3,d4,d5,d6,d7,d8⟩:=zbox R5
  obtain ⟨f0,f1,f2,f3,f4,f5,f6,f7,f8⟩:=fbox R5
  have HE:=(show Hid (_∧_) from ⟨H4.out.2.1.trans (k5.below (B:=w.heap.size) (by rintro k rfl; omega) (by omega)),fit_short (l:=l) (fun h=>hkf h.2.1)⟩)
  clear k5 R5 H4 hkf hfit
  go_wp2
  refine bodyPost_ret (v:=.tuple #[.agg zero9,.iface 283 (.agg #[.int .i64 z])]) (by simp [results,Tryz.results204,go_sem,d0,d1,d2,d3,d4,d5,d6,d7,d8]) rfl ?_
  refine ⟨_,_,rfl,by rw [res_no HE.out.2]; exact ownZero _ _,.inr ⟨HE.out.2,z,rfl⟩,?_⟩
  iterate 9 refine Below.setCell ?_ (by simp) _
  exact HE.out.1
 have R5:=k5.heap H4.out.2.2.1 (by omega)
 have M5:=k5.heap H4.out.2.2.2 (by omega)
 rw [putN_msg] at M5
 have hs5:w4.heap.size≤w5.heap.size:=k5.size
 have B5:=H4.out.2.1.trans (k5.below (B:=w.heap.size) (by rintro k rfl; omega) (by omega))
 obtain ⟨oa,oc,rfl⟩:=own_form O5
 obtain ⟨p5,hp5⟩:∃ p5,64+8+8 * (numL l 64).toNat=p5:=⟨_,rfl⟩
 rw [hp5] at Wr5
 have hL:=left_any (w.heap.size+1) g cap l _ w5 Wr5
 have H5:=(show Hid (_∧_∧_∧_∧_∧_∧_) from ⟨hL,B5,R5,M5,O5,Wr5,hkf⟩)
 have HP5:=(show Hid (_∧True) from ⟨hp5,trivial⟩)
 have ha5:=Wr5.at_
 clear hL B5 R5 M5 k5 H4 O5 Wr5 hkf hp5
 go_wp2_with fail
 refine H5.out.1.mono ?_
 rintro e w6 ⟨rfl,b6⟩
 have R6:=(b6.block _ (lh H5.out.2.2.1)).trans H5.out.2.2.1
 have M6:=(b6.block _ (lh H5.out.2.2.2.1)).trans H5.out.2.2.2.1
 have B6:=H5.out.2.1.trans (b6.mono (by omega))
 have O6:=own_moved H5.out.2.2.2.2.1 (fun j hj=>b6.block j (own_lt H5.out.2.2.2.2.1 j hj))
 have W6:=H5.out.2.2.2.2.2.1.below b6
 have hs6:w5.heap.size≤w6.heap.size:=b6.size
 have H6:=(show Hid (_∧_∧_∧_∧_) from ⟨B6,R6,M6,O6,H5.out.2.2.2.2.2.2⟩)
 obtain ⟨-,c1,-⟩:=W6.cells
 clear B6 R6 M6 O6 b6 H5 W6
 by_cases hlong:p5<l.length
 ·have hgt:(0:Int)<(l.length:Int) - (p5:Int):=by omega
  obtain ⟨d0,d1,d2,d3,d4,d5,d6,d7,d8⟩:=zbox H6.out.2.1
  obtain ⟨f0,f1,f2,f3,f4,f5,f6,f7,f8⟩:=fbox H6.out.2.1
  have HE:=(show Hid (_∧_) from ⟨H6.out.1,fit_short (l:=l) (fun h=>by have:=h.2.2.1; have:=HP5.out.1; omega)⟩)
  clear H6 hlong HP5
  go_wp2_with fail
  go_region
  all_goals go_wp2
  all_goals (refine bodyPost_ret (v:=.tuple #[.agg zero9,.iface 283 (.agg #[.int .i64 (p5:Int)])]) (by simp [results,Tryz.results204,go_sem,d0,d1,d2,d3,d4,d5,d6,d7,d8]) rfl ?_)
  all_goals (refine ⟨_,_,rfl,by rw [res_no HE.out.2]; exact ownZero _ _,.inr ⟨HE.out.2,_,rfl⟩,?_⟩)
  all_goals (refine Below.drew ?_)
  all_goals (iterate 9 refine Below.setCell ?_ (by simp) _)
  all_goals (exact HE.out.1)
 ·have hgt:¬ (0:Int)<(l.length:Int) - (p5:Int):=by omega
  have hall:Hid (l.length≤72+8 * (numL l 64).toNat):=by have:=HP5.out.1; show _≤_; omega
  have m8:w6.cell? ⟨w.heap.size+1+1,8,none⟩=some (.slice none 0 0):=(cell_of_block H6.out.2.2.1 8).trans rfl
  have g8:=ub H6.out.2.2.1 8
  have hne1:¬ w.heap.size+1+1=w.heap.size:=by omega
  obtain ⟨W7,hW7⟩:∃ W7,W7=w6.setCell ⟨w.heap.size+1+1,8,none⟩ (.slice oa (numL l 64).toNat oc):=⟨_,rfl⟩
  have M7:W7.heap[w.heap.size+1+1]? = some (.cells ((msgL l).row (.slice oa (msgL l).cell.kids.length oc)) 67):=by
   rw [hW7,block_setCell H6.out.2.2.1,show (msgL l).cell.kids.length=(numL l 64).toNat from numsL_len l 72 _]
   rfl
  have K7:KB (fun k=>k=w.heap.size+1+1) w6 W7:=by rw [hW7]; exact KB.setCell (X:=fun k=>k=w.heap.size+1+1) (KB.refl _ _) (p:=⟨w.heap.size+1+1,8,none⟩) rfl _
  have R7:=K7.heap H6.out.2.1 (by omega)
  have B7:=H6.out.1.trans (K7.below (B:=w.heap.size) (by rintro k rfl; omega) (by omega))
  have O7:W7.ownsRow w4.heap.size 3 1 (.slice oa (numL l 64).toNat oc) (numL l 64).toNat ((numsL l 72 (numL l 64).toNat).map (fun z=>Value.int .i64 z)):=own_moved H6.out.2.2.2.1 (fun j hj=>K7.block j (own_lt H6.out.2.2.2.1 j hj) (fun e=>by have:=(own_type H6.out.2.2.2.1 j hj).1; omega))
  have hw4:w.heap.size≤w4.heap.size:=by omega
  have A7:OwnMs W7 w4.heap.size (.agg ((msgL l).row (.slice oa (msgL l).cell.kids.length oc))) (msgL l):=by
   obtain ⟨i0,i5,i6,i7,i8⟩:=msgL_fits l
   refine ⟨_,rfl,?_,i0,i5,i6,i7,i8⟩
   rw [show (msgL l).cell.kids.length=(numL l 64).toNat from numsL_len l 72 _]
   exact O7
  have hk7:=(show Hid (_∧_∧_∧_∧_) from ⟨A7,B7,R7,M7,hW7⟩)
  have hs7:w6.heap.size≤W7.heap.size:=K7.size
  have hkl:(msgL l).cell.kids.length=(numL l 64).toNat:=numsL_len l 72 _
  have hOk:Calls Tryz.prog 144 #[.agg #[.int .i64 (numL l 0),.int .i64 (numL l 8),.int .i64 (numL l 16),.int .i64 (numL l 24),.int .i64 (numL l 32),.int .i64 (numL l 40),.int .i64 (numL l 48),.int .i64 (numL l 56),.slice oa (numL l 64).toNat oc]] W7 fun e w'=>e = .returned (.bool (msgL l).ok)∧Below W7.heap.size W7 w':=by
   have:=implMsgOk_any _ (msgL l) A7.at_.choose W7 A7.at_.choose_spec
   rw [hkl] at this
   exact this
  have HOk:=(show Hid (_∧_) from ⟨hOk,H6.out.2.2.2.2⟩)
  have m0:w6.cell? ⟨w.heap.size+1+1,0,none⟩=some (.int .i64 (numL l 0)):=(cell_of_block H6.out.2.2.1 0).trans rfl
  have m1:w6.cell? ⟨w.heap.size+1+1,1,none⟩=some (.int .i64 (numL l 8)):=(cell_of_block H6.out.2.2.1 1).trans rfl
  have m2:w6.cell? ⟨w.heap.size+1+1,2,none⟩=some (.int .i64 (numL l 16)):=(cell_of_block H6.out.2.2.1 2).trans rfl
  have m3:w6.cell? ⟨w.heap.size+1+1,3,none⟩=some (.int .i64 (numL l 24)):=(cell_of_block H6.out.2.2.1 3).trans rfl
  have m4:w6.cell? ⟨w.heap.size+1+1,4,none⟩=some (.int .i64 (numL l 32)):=(cell_of_block H6.out.2.2.1 4).trans rfl
  have m5:w6.cell? ⟨w.heap.size+1+1,5,none⟩=some (.int .i64 (numL l 40)):=(cell_of_block H6.out.2.2.1 5).trans rfl
  have m6:w6.cell? ⟨w.heap.size+1+1,6,none⟩=some (.int .i64 (numL l 48)):=(cell_of_block H6.out.2.2.1 6).trans rfl
  have m7:w6.cell? ⟨w.heap.size+1+1,7,none⟩=some (.int .i64 (numL l 56)):=(cell_of_block H6.out.2.2.1 7).trans rfl
  have HKL:=(show Hid (_∧True) from ⟨hkl,trivial⟩)
  clear hOk A7 B7 R7 M7 K7 O7 hW7 H6 hkl
  go_wp2_with fail
  rw [← hk7.out.2.2.2.2]
  refine HOk.out.1.mono ?_
  rintro e w8 ⟨rfl,b8⟩
  clear m0 m1 m2 m3 m4 m5 m6 m7 m8 g8 c1
  have R8:=(b8.block _ (lh hk7.out.2.2.1)).trans hk7.out.2.2.1
  have M8:=(b8.block _ (lh hk7.out.2.2.2.1)).trans hk7.out.2.2.2.1
  obtain ⟨d0,d1,d2,d3,d4,d5,d6,d7,d8⟩:=zbox R8
  obtain ⟨f0,f1,f2,f3,f4,f5,f6,f7,f8⟩:=fbox R8
  have B8:=hk7.out.2.1.trans (b8.mono (by omega))
  have A8:=hk7.out.1.below b8
  cases hok:(msgL l).ok with
  | false =>
   have HE:=(show Hid (_∧_) from ⟨B8,fit_short (l:=l) (fun h=>by rw [hok] at h; exact absurd h.2.2.2 (by decide))⟩)
   clear B8 A8 M8 R8 b8 hk7 HOk
   go_wp2
   all_goals (refine bodyPost_ret (v:=.tuple #[.agg zero9,.iface 283 (.agg #[.int .i64 0])]) (by simp [results,Tryz.results204,go_sem,d0,d1,d2,d3,d4,d5,d6,d7,d8]) rfl ?_)
   all_goals (refine ⟨_,_,rfl,by rw [res_no HE.out.2]; exact ownZero _ _,.inr ⟨HE.out.2,_,rfl⟩,?_⟩)
   all_goals (iterate 9 refine Below.setCell ?_ (by simp) _)
   all_goals (exact HE.out.1)
  | true =>
   have hfull:=fit_full HOk.out.2 hall.out hok
   have n0:w8.cell? ⟨w.heap.size+1+1,0,none⟩=some (.int .i64 (numL l 0)):=(cell_of_block M8 0).trans rfl
   have n1:w8.cell? ⟨w.heap.size+1+1,1,none⟩=some (.int .i64 (numL l 8)):=(cell_of_block M8 1).trans rfl
   have n2:w8.cell? ⟨w.heap.size+1+1,2,none⟩=some (.int .i64 (numL l 16)):=(cell_of_block M8 2).trans rfl
   have n3:w8.cell? ⟨w.heap.size+1+1,3,none⟩=some (.int .i64 (numL l 24)):=(cell_of_block M8 3).trans rfl
   have n4:w8.cell? ⟨w.heap.size+1+1,4,none⟩=some (.int .i64 (numL l 32)):=(cell_of_block M8 4).trans rfl
   have n5:w8.cell? ⟨w.heap.size+1+1,5,none⟩=some (.int .i64 (numL l 40)):=(cell_of_block M8 5).trans rfl
   have n6:w8.cell? ⟨w.heap.size+1+1,6,none⟩=some (.int .i64 (numL l 48)):=(cell_of_block M8 6).trans rfl
   have n7:w8.cell? ⟨w.heap.size+1+1,7,none⟩=some (.int .i64 (numL l 56)):=(cell_of_block M8 7).trans rfl
   have n8:w8.cell? ⟨w.heap.size+1+1,8,none⟩=some (.slice oa (msgL l).cell.kids.length oc):=(cell_of_block M8 8).trans rfl
   have HE:=(show Hid (_∧_∧_) from ⟨B8,hfull,A8⟩)
   clear B8 A8 M8 R8 b8 hk7 HOk hok hfull
   go_wp2
   refine bodyPost_ret (v:=.tuple #[.agg ((msgL l).row (.slice oa (msgL l).cell.kids.length oc)),.nilIface]) (by simp [results,Tryz.results204,go_sem,d0,d1,d2,d3,d4,d5,d6,d7,d8]; exact ⟨rfl,rfl,rfl,rfl,rfl,rfl,rfl,rfl⟩) rfl ?_
   refine ⟨_,_,rfl,?_,.inl ⟨HE.out.2.1,rfl⟩,?_⟩
   ·rw [res_yes HE.out.2.1]
    refine (OwnMs.kept (B:=w4.heap.size) HE.out.2.2 (w':=_) (X:=fun k=>k=w.heap.size) ?_ (fun k hk hx=>by omega)).base hw4
    iterate 9 refine KB.setCell (X:=fun k=>k=w.heap.size) ?_ rfl _
    exact KB.refl _ _
   ·iterate 9 refine Below.setCell ?_ (by simp) _
    exact HE.out.1
theorem bytes_below (w:World) (e:TypeId) (s:ByteArray):Below w.heap.size w (Lib.bytesWorld w e s) :=
 ⟨rfl,rfl,rfl,by rw [Lib.bytesWorld_size]; omega,fun k hk=>Lib.bytesWorld_at_old w e s k hk⟩
theorem bytes_row (w:World) (e:TypeId) (s:ByteArray):∃ cs fz,(Lib.bytesWorld w e s).heap[w.heap.size]? = some (.cells cs e fz)∧∀ (j:Nat) (x:UInt8),s.data.toList[j]? = some x→cs[j]? = some (.int .u8 ((x.toNat:Nat):Int)):=by
 refine ⟨_,_,Lib.bytesWorld_at_new w e s,fun j x hx => ?_⟩
 have hj:j<s.size:=by have:=(List.getElem?_eq_some_iff.1 hx).1; simpa using this
 have:=Lib.bytesWorld_cell w e s j hj
 simp only [World.cell?,Lib.bytesWorld_at_new] at this
 rw [show s.data.toList.getD j 0=x by simp [List.getD,hx]] at this
 simpa using this
theorem set9_end {w w4:World} {v:Value} {m:Ms} (h:OwnMs w4 (w.heap.size+1) v m) (hb:Below w.heap.size w w4) (x0 x1 x2 x3 x4 x5 x6 x7 x8:Value) :
  OwnMs (((((((((w4.setCell ⟨w.heap.size,0,none⟩ x0).setCell ⟨w.heap.size,1,none⟩ x1).setCell ⟨w.heap.size,2,none⟩ x2).setCell ⟨w.heap.size,3,none⟩ x3).setCell ⟨w.heap.size,4,none⟩ x4).setCell ⟨w.heap.size,5,none⟩ x5).setCell ⟨w.heap.size,6,none⟩ x6).setCell ⟨w.heap.size,7,none⟩ x7).setCell ⟨w.heap.size,8,none⟩ x8) w.heap.size v m ∧
  Below w.heap.size w (((((((((w4.setCell ⟨w.heap.size,0,none⟩ x0).setCell ⟨w.heap.size,1,none⟩ x1).setCell ⟨w.heap.size,2,none⟩ x2).setCell ⟨w.heap.size,3,none⟩ x3).setCell ⟨w.heap.size,4,none⟩ x4).setCell ⟨w.heap.size,5,none⟩ x5).setCell ⟨w.heap.size,6,none⟩ x6).setCell ⟨w.heap.size,7,none⟩ x7).setCell ⟨w.heap.size,8,none⟩ x8):=by
 constructor
 ·refine (OwnMs.kept (B:=w.heap.size+1) h (w':=_) (X:=fun k=>k=w.heap.size) ?_ (fun k hk hx=>by omega)).base (by omega)
  iterate 9 refine KB.setCell (X:=fun k=>k=w.heap.size) ?_ rfl _
  exact KB.refl _ _
 ·iterate 9 refine Below.setCell ?_ (by simp) _
  exact hb
theorem hold27 {W:World} {b r:Nat} {m:Ms} {kv:Value} {t t':TypeId} (h1:W.heap[b]? = some (.cells (m.row kv) t)) (h2:W.heap[r]? = some (.cells zero9 t')):(W.cell? ⟨b,0,none⟩=some (.int .i64 m.kind)∧W.cell? ⟨b,1,none⟩=some (.int .i64 m.frm)∧W.cell? ⟨b,2,none⟩=some (.int .i64 m.dst)∧W.cell? ⟨b,3,none⟩=some (.int .i64 m.id)∧W.cell? ⟨b,4,none⟩=some (.int .i64 m.want)∧W.cell? ⟨b,5,none⟩=some (.int .i64 m.cell.kind)∧W.cell? ⟨b,6,none⟩=some (.int .i64 m.cell.n)∧W.cell? ⟨b,7,none⟩=some (.int .i64 m.cell.pos)∧W.cell? ⟨b,8,none⟩=some (kv))∧(W.cell? ⟨r,0,none⟩=some (.int .i64 0)∧W.cell? ⟨r,1,none⟩=some (.int .i64 0)∧W.cell? ⟨r,2,none⟩=some (.int .i64 0)∧W.cell? ⟨r,3,none⟩=some (.int .i64 0)∧W.cell? ⟨r,4,none⟩=some (.int .i64 0)∧W.cell? ⟨r,5,none⟩=some (.int .i64 0)∧W.cell? ⟨r,6,none⟩=some (.int .i64 0)∧W.cell? ⟨r,7,none⟩=some (.int .i64 0)∧W.cell? ⟨r,8,none⟩=some (.slice none 0 0))∧(W.frozen? ⟨r,0,none⟩=false∧W.frozen? ⟨r,1,none⟩=false∧W.frozen? ⟨r,2,none⟩=false∧W.frozen? ⟨r,3,none⟩=false∧W.frozen? ⟨r,4,none⟩=false∧W.frozen? ⟨r,5,none⟩=false∧W.frozen? ⟨r,6,none⟩=false∧W.frozen? ⟨r,7,none⟩=false∧W.frozen? ⟨r,8,none⟩=false):=⟨boxM h1,zbox h2,fbox h2⟩
theorem implGetMsg_any (s:ByteArray) (w:World) (hs:s.size≤1048576) (hg:ET w) :
  Calls Tryz.prog 198 #[.string s] w fun e w'=>∃ mv,e = .returned (.tuple #[mv,.bool (msgFit s.data.toList)])∧OwnMs w' w.heap.size mv (msgRes s.data.toList)∧Below w.heap.size w w':=by
 have hnot:=ex_not
 obtain ⟨W0,hW0⟩:∃ W0,W0=w.alloc (.cells zero9 67):=⟨_,rfl⟩
 have B0:Below w.heap.size w W0:=by rw [hW0]; exact (Below.refl _ w).alloc (Nat.le_refl _) _
 have R0:W0.heap[w.heap.size]? = some (.cells zero9 67):=by rw [hW0]; exact (MapKept.heap_alloc w _).1
 have hlen:s.data.toList.length=s.size:=by simp
 have hcv:(convert 9 124 (.string s)).run Tryz.prog W0 = .ok (.slice (some ⟨W0.heap.size,0,none⟩) s.size (grownCap W0 s.size 0 5)) (Lib.bytesWorld W0 5 s) :=
  Lib.run_convert_string_bytes (P:=Tryz.prog) W0 9 124 5 s Tryz.underlying9 Tryz.underlying124 Tryz.underlying5
 have hcap:=grownCap_ge W0 s.size 0 5
 have b1:=bytes_below W0 5 s
 have hR:=readMsg_any W0.heap.size (grownCap W0 s.size 0 5) s.data.toList (Lib.bytesWorld W0 5 s) (bytes_row W0 5 s) (by rw [hlen]; exact hs) (by rw [hlen]; exact hcap)
 rw [hlen,show W0.heap.size=w.heap.size+1 by rw [hW0]; simp] at hR
 have H0:=(show Hid (_∧_∧_∧_∧_) from ⟨hR,B0.trans (b1.mono B0.size),(b1.block _ (lh R0)).trans R0,(hg.below B0).below b1,hW0⟩)
 have hsb:W0.heap.size≤(Lib.bytesWorld W0 5 s).heap.size:=b1.size
 have hs0:w.heap.size+1≤W0.heap.size:=lh R0
 subst hW0
 clear hR B0 R0 hg b1 hcap hlen
 go_enter Tryz.func198,Tryz.ntmps198
 go_wp2_with fail
 refine H0.out.1.mono ?_
 rintro e w2 ⟨mv,ev,rfl,A2,hev,b2⟩
 obtain ⟨kv,rfl,h2,h3⟩:=A2
 obtain ⟨oa,oc,rfl⟩:=own_form h2
 have A2:OwnMs w2 (Lib.bytesWorld (w.alloc (.cells zero9 67)) 5 s).heap.size (.agg ((msgRes s.data.toList).row (.slice oa (msgRes s.data.toList).cell.kids.length oc))) (msgRes s.data.toList):=⟨_,rfl,h2,h3⟩
 have A3:=A2.base (B':=w.heap.size+1) (by omega)
 have R2:=(b2.block _ (lh H0.out.2.2.1)).trans H0.out.2.2.1
 have B2:=H0.out.2.1.trans (b2.mono (by omega))
 have hs2:w.heap.size+1≤w2.heap.size:=by have:=b2.size; omega
 have E2:=H0.out.2.2.2.1.below b2
 generalize hm:msgRes s.data.toList=m at *
 obtain ⟨W3,hW3⟩:∃ W3,W3=w2.alloc (.cells (m.row (.slice oa m.cell.kids.length oc)) 67):=⟨_,rfl⟩
 have b3:Below w2.heap.size w2 W3:=by rw [hW3]; exact (Below.refl _ w2).alloc (Nat.le_refl _) _
 have M3:W3.heap[w2.heap.size]? = some (.cells (m.row (.slice oa m.cell.kids.length oc)) 67):=by rw [hW3]; exact (MapKept.heap_alloc w2 _).1
 have R3:=(b3.block _ (lh R2)).trans R2
 have H3:=(show Hid (_∧_∧_∧_∧_∧_∧_) from ⟨A3.below b3,B2.trans (b3.mono (by omega)),R3,M3,E2.below b3,hm,hW3⟩)
 have hs3:w2.heap.size+1≤W3.heap.size:=lh M3
 clear A2 A3 R2 B2 E2 b3 M3 R3 hm hW3 h2 h3 b2 H0
 go_wp2_with fail
 rw [← (show W3=w2.alloc (.cells #[.int .i64 m.kind,.int .i64 m.frm,.int .i64 m.dst,.int .i64 m.id,.int .i64 m.want,.int .i64 m.cell.kind,.int .i64 m.cell.n,.int .i64 m.cell.pos,.slice oa m.cell.kids.length oc] 67) from H3.out.2.2.2.2.2.2)]
 obtain ⟨⟨y0,y1,y2,y3,y4,y5,y6,y7,y8⟩,⟨z0,z1,z2,z3,z4,z5,z6,z7,z8⟩,⟨u0,u1,u2,u3,u4,u5,u6,u7,u8⟩⟩:=hold27 H3.out.2.2.2.1 H3.out.2.2.1
 have hne:¬ w2.heap.size=w.heap.size:=by omega
 have hne':¬ w.heap.size=w2.heap.size:=by omega
 rcases hev with ⟨hf,rfl⟩ | ⟨hf,z,rfl⟩
 ·have HI:=(show Hid (_∧_) from ⟨isNone_nil,hf⟩)
  clear hf
  go_region_with (first
   | (go_at_call 205; refine (HI.out.1 _).mono ?_; rintro e w4 ⟨rfl,b4'⟩; have b4:Below W3.heap.size W3 w4:=(((Below.refl _ W3).drew).trans b4'); clear b4'; obtain ⟨⟨y0',y1',y2',y3',y4',y5',y6',y7',y8'⟩,⟨z0',z1',z2',z3',z4',z5',z6',z7',z8'⟩,⟨u0',u1',u2',u3',u4',u5',u6',u7',u8'⟩⟩:=hold27 ((b4.block _ (lh H3.out.2.2.2.1)).trans H3.out.2.2.2.1) ((b4.block _ (lh H3.out.2.2.1)).trans H3.out.2.2.1)))
  all_goals go_wp2
  all_goals (refine bodyPost_ret (v:=.tuple #[.agg (m.row (.slice oa m.cell.kids.length oc)),.bool true]) (by simp [results,Tryz.results198,go_sem,z0',z1',z2',z3',z4',z5',z6',z7',z8']) rfl ?_)
  all_goals (rw [H3.out.2.2.2.2.2.1])
  all_goals (exact ⟨_,by rw [HI.out.2],(set9_end (H3.out.1.below b4) (H3.out.2.1.trans (b4.mono (by omega))) _ _ _ _ _ _ _ _ _).1,(set9_end (H3.out.1.below b4) (H3.out.2.1.trans (b4.mono (by omega))) _ _ _ _ _ _ _ _ _).2⟩)
 ·have HI:=(show Hid (_∧_) from ⟨fun wx (hx:ET wx)=>isNone_err z wx hx,hf⟩)
  clear hf
  go_region_with (first
   | (go_at_call 205; refine (HI.out.1 _ (H3.out.2.2.2.2.1.below ((Below.refl _ W3).drew))).mono ?_; rintro e w4 ⟨rfl,b4'⟩; have b4:Below W3.heap.size W3 w4:=(((Below.refl _ W3).drew).trans b4'); clear b4'; obtain ⟨⟨y0',y1',y2',y3',y4',y5',y6',y7',y8'⟩,⟨z0',z1',z2',z3',z4',z5',z6',z7',z8'⟩,⟨u0',u1',u2',u3',u4',u5',u6',u7',u8'⟩⟩:=hold27 ((b4.block _ (lh H3.out.2.2.2.1)).trans H3.out.2.2.2.1) ((b4.block _ (lh H3.out.2.2.1)).trans H3.out.2.2.1)))
  all_goals go_wp2
  all_goals (refine bodyPost_ret (v:=.tuple #[.agg (m.row (.slice oa m.cell.kids.length oc)),.bool false]) (by simp [results,Tryz.results198,go_sem,z0',z1',z2',z3',z4',z5',z6',z7',z8']) rfl ?_)
  all_goals (rw [H3.out.2.2.2.2.2.1])
  all_goals (exact ⟨_,by rw [HI.out.2],(set9_end (H3.out.1.below b4) (H3.out.2.1.trans (b4.mono (by omega))) _ _ _ _ _ _ _ _ _).1,(set9_end (H3.out.1.below b4) (H3.out.2.1.trans (b4.mono (by omega))) _ _ _ _ _ _ _ _ _).2⟩)
end Go.Proofs.YtmmadoabejgffaaGreatDoor
