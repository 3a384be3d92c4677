/-
  Proofs.
-/
import Derived.Test.YtljdgmfcgkimoaaGreatDoorJ22
namespace Go.Proofs.YtljdgmfcgkimoaaGreatDoor
open Go.RowKit Go.Joins
set_option maxRecDepth 100000
theorem infoStrD:(Tryz.prog.info? 9).map (fun i=>(i.zero,i.size,i.bytes))=some (some (.string ⟨#[]⟩),1,16):=by kernel_rfl
theorem texts_oneCell (ts:List ByteArray):∀ u ∈ ts.map Value.string,u.oneCell'=true:=by
 intro u hu
 obtain ⟨_,_,rfl⟩:=List.mem_map.1 hu
 rfl
theorem d_not (x:Bool) (w:World):(Op.unary .not (.bool x)).run Tryz.prog w = .ok (.bool (!x)) w:=rfl
set_option maxHeartbeats 1600000 in
theorem atom_dr (B g:Nat) (V:Value) (len:Nat) (v:Value) (n:Nat) (w:World) (hv:TextsIs w v n 32 g) (h:Dr B w g V len) :
  Calls Tryz.prog 75 #[.pointer (some ⟨g,0,none⟩),v] w fun e w'=>∃ t:ByteArray,e = .returned (.string t)∧t.size≤32∧Dr B w' g V len∧w.grownBy w' (some g):=by
 have hnot:=d_not
 have hv0:=hv
 obtain ⟨b,cap,ts,rfl,hts,hbg,hlt,hn1,hL,hc⟩:=hv
 have HV:Hid (TextsIs w (.slice (some ⟨b,0,none⟩) n cap) n 32 g):=hv0
 clear hv0 hts hc hL
 by_cases hz:0<n
 ·have hz':(0:Int)<((n:Nat):Int):=by omega
  go_enter Tryz.func75,Tryz.ntmps75
  go_wp2_with fail
  refine (once_dr B g V len _ _ (by omega) (by omega) h).mono ?_
  rintro e w1 ⟨x,rfl,h1,g1⟩
  cases x
  ·go_wp2_with fail
   refine (pick_dr B g V len _ n 32 _ hz (HV.out.grown g1) h1).mono ?_
   rintro e w2 ⟨t,rfl,ht,h2,g2⟩
   go_wp2
   go_ret
   exact ⟨t,rfl,ht,h2,g1.trans g2⟩
  ·go_wp2_with fail
   refine (pick_dr B g V len _ 6 32 _ (by decide) (texts_lit [⟨#[48]⟩,⟨#[49]⟩,⟨#[50]⟩,⟨#[55]⟩,⟨#[91,93]⟩,⟨#[51]⟩] w1 6 32 g rfl (by decide) (by decide) h1.2.1.lt) (h1.alloc _)).mono ?_
   rintro e w2 ⟨t,rfl,ht,h2,g2⟩
   go_wp2
   go_ret
   exact ⟨t,rfl,ht,h2,g1.trans ((World.grownBy_alloc w1 _ _).trans g2)⟩
 ·have hz':decide ((0:Int)<((n:Nat):Int))=false:=by simp; omega
  go_enter Tryz.func75,Tryz.ntmps75
  go_wp2_with fail
  refine (pick_dr B g V len _ 6 32 _ (by decide) (texts_lit [⟨#[48]⟩,⟨#[49]⟩,⟨#[50]⟩,⟨#[55]⟩,⟨#[91,93]⟩,⟨#[51]⟩] w 6 32 g rfl (by decide) (by decide) h.2.1.lt) (h.alloc _)).mono ?_
  rintro e w2 ⟨t,rfl,ht,h2,g2⟩
  go_wp2
  go_ret
  exact ⟨t,rfl,ht,h2,(World.grownBy_alloc w _ _).trans g2⟩
def EB:Nat→Nat
 | 0=>32
 | d+1=>3 * EB d+200
theorem EB_le:∀ d,d≤4→EB d≤20000:=by decide
theorem EB_32 (d:Nat):32≤EB d:=by
 induction d with
 | zero=>decide
 | succ d ih=>rw [EB]; omega
def ExpDr (d:Nat):Prop:=∀ (B g:Nat) (V:Value) (len:Nat) (v:Value) (n:Nat) (deep:Int) (w:World),deep≤d → -10≤deep→n+2 * d≤100→TextsIs w v n 32 g→Dr B w g V len →
 Calls Tryz.prog 44 #[.pointer (some ⟨g,0,none⟩),v,.int .i64 deep] w fun e w'=>∃ t:ByteArray,e = .returned (.string t)∧t.size≤EB d∧Dr B w' g V len∧w.grownBy w' (some g)
set_option maxHeartbeats 1600000 in
theorem exp_flat (d:Nat) (B g:Nat) (V:Value) (len:Nat) (v:Value) (n:Nat) (deep:Int) (w:World) (hd:deep≤0) (hv:TextsIs w v n 32 g) (h:Dr B w g V len) :
  Calls Tryz.prog 44 #[.pointer (some ⟨g,0,none⟩),v,.int .i64 deep] w fun e w'=>∃ t:ByteArray,e = .returned (.string t)∧t.size≤EB d∧Dr B w' g V len∧w.grownBy w' (some g):=by
 have h32:=EB_32 d
 go_enter Tryz.func44,Tryz.ntmps44
 go_wp2_with fail
 refine (atom_dr B g V len _ n _ hv h).mono ?_
 rintro e w1 ⟨t,rfl,ht,h1,g1⟩
 go_wp2
 go_ret
 exact ⟨t,rfl,by omega,h1,g1⟩
theorem names_more {w w':World} {o:Obj} {v v':Value} {n m g:Nat} {ts ns:List ByteArray} (hown:w'.ownsRow w.heap.size 9 1 v' (m+n) ((ns.map Value.string) ++ (ts.map Value.string))) (hg:(w.alloc o).grownBy w' v.ownBlock) (hvb:v.ownBlock=some w.heap.size) (hm:0<m) (hns:ns.length=m) (hts:ts.length=n) (hn:m+n≤1000) (h1:∀ t ∈ ns,t.size≤32) (h2:∀ t ∈ ts,t.size≤32) (hlt:g<w.heap.size) :
  TextsIs w' v' (m+n) 32 g∧w.grownBy w' none:=by
 refine ⟨TextsIs.of_row (base:=w.heap.size) (ts:=ns ++ ts) (by rw [List.map_append]; exact hown) (by omega) hn (by simp [hns,hts]) (fun t ht=>(List.mem_append.1 ht).elim (h1 t) (h2 t)) hlt,?_⟩
 exact (World.grownBy_alloc w o none).andThen hg (fun j hj=>by rw [hvb] at hj; cases hj; exact .inl (Nat.le_refl _))
theorem news_of {w W:World} {nb g:Nat} {nts:List ByteArray} (hc:∀ j t,nts[j]? = some t→w.cell? ⟨nb,j,none⟩=some (.string t)) (G:w.grownBy W (some g)) (hbg:nb≠g) :
  ∀ j u,(nts.map Value.string)[j]? = some u→W.cell? ((⟨nb,0,none⟩:Addr).add j)=some u:=by
 intro j u hj
 rw [List.getElem?_map] at hj
 obtain ⟨t,ht,rfl⟩:=Option.map_eq_some_iff.1 hj
 have:=G.cell (hc j t ht) (fun e=>hbg (Option.some.inj e))
 have hplain:(⟨nb,0,none⟩:Addr).add j=⟨nb,j,none⟩:=by unfold Addr.add; split <;> simp_all
 rw [hplain]
 exact this
theorem row_lit (w:World) (ns:List ByteArray) (m:Nat) (hm:ns.length=m) (h1:m≤1000):(w.alloc (.cells (ns.map Value.string).toArray 9)).ownsRow w.heap.size 9 1 (.slice (some ⟨w.heap.size,0,none⟩) m m) m (ns.map Value.string) :=
 ⟨by simp [hm],.inr ⟨w.heap.size,m,_,rfl,Nat.le_refl _,heap_alloc_new w _,Nat.le_refl _,by unfold maxLen; omega,by simp [hm],by rw [Nat.mul_one,List.toList_toArray]; exact List.take_of_length_le (by simp [hm])⟩⟩
theorem but_none {w w':World} (h:w.grownBy w' none) (row:Option Nat):w.grownBy w' row:=⟨h.os,h.tape,h.output,h.size,fun k hk _=>h.block k hk (by simp)⟩
theorem sz (a:Array UInt8):(⟨a⟩:ByteArray).size=a.size:=rfl
theorem below_of_none {w w':World} (h:w.grownBy w' none):Below w.heap.size w w':=⟨h.os,h.tape,h.output,h.size,fun k hk=>h.block k hk (by simp)⟩
set_option maxHeartbeats 6400000 in
theorem exp_step (d:Nat) (hd4:d+1≤4) (ih:ExpDr d):ExpDr (d+1):=by
 intro B g V len v n deep w hdeep hlow hn hv h
 have IH:Hid (ExpDr d):=ih
 clear ih
 by_cases hz:deep≤0
 ·exact exp_flat (d+1) B g V len v n deep w hz hv h
 have hE:=EB_le d (by omega)
 have h32:=EB_32 d
 have hEs:EB (d+1)=3 * EB d+200:=rfl
 generalize hEd:EB d=E at *
 have HE:Hid (EB (d+1)=3 * E+200):=hEs
 have HEd:Hid (EB d=E):=hEd
 clear hEs hEd
 obtain ⟨i0,hi,hz0,hz1,hz2⟩:=info_parts infoStrD
 have hv0:=hv
 obtain ⟨nb,ncap,nts,rfl,hts,hbg,_,_,_,_⟩:=hv
 clear hts
 go_enter Tryz.func44,Tryz.ntmps44
 go_wp2_with fail
 refine (IH.out B g V len _ n _ _ (by omega) (by omega) (by omega) hv0 h).mono ?_
 rintro e w1 ⟨ta,rfl,hta,h1,g1⟩
 rw [HEd.out] at hta
 go_wp2_with fail
 refine (below_dr B g V len _ _ (by omega) (by omega) h1).mono ?_
 rintro e w2 ⟨c,rfl,c0,c1,h2,g2⟩
 have hv2:=(hv0.grown g1).grown g2
 have HV:Hid (TextsIs w2 (.slice (some ⟨nb,0,none⟩) n ncap) n 32 g):=hv2
 obtain ⟨nb',ncap',nts,hvv,hts,_,_,_,hL,hc⟩:=hv2
 simp only [Value.slice.injEq,Option.some.injEq,Addr.mk.injEq,and_true,true_and] at hvv
 obtain ⟨rfl,rfl⟩:=hvv
 have NTS:Hid (nts.length=n):=hts
 have HL:Hid (∀ t ∈ nts,t.size≤32):=hL
 have HC:Hid (∀ j t,nts[j]? = some t→w2.cell? ⟨nb,j,none⟩=some (.string t)):=hc
 have g12:=g1.trans g2
 have G2:=World.grownBy.refl w2 (some g)
 clear g1 g2 h h1 hts hL hc hv0
 obtain rfl | rfl | rfl | rfl | rfl | rfl | rfl | rfl | rfl | rfl | rfl | rfl:c=0∨c=1∨c=2∨c=3∨c=4∨c=5∨c=6∨c=7∨c=8∨c=9∨c=10∨c=11:=by omega
 ·go_wp2_with fail
  refine (pick_dr B g V len _ 3 32 _ (by decide) (texts_lit [⟨#[120]⟩,⟨#[121]⟩,⟨#[118]⟩] w2 3 32 g rfl (by decide) (by decide) h2.2.1.lt) (h2.alloc _)).mono ?_
  rintro e w3 ⟨x,rfl,hx,h3,g3⟩
  have G3:=G2.trans ((World.grownBy_alloc w2 _ _).trans g3)
  clear g3 h2 G2
  go_wp2_with (at_builtin; refine wpList_append_own _ rfl _ _ 24 rfl w3.heap.size 9 i0 (.string ⟨#[]⟩) 1 16 Tryz.underlying24 hi hz0 hz1 hz2 rfl (by decide) _ _ _ rfl (row_lit w3 [x] 1 rfl (by decide)) ⟨nb,0,none⟩ n ncap (nts.map Value.string) rfl (by rw [List.length_map,NTS.out,Nat.mul_one]) (news_of HC.out (G3.trans (World.grownBy_alloc w3 _ _)) hbg) (texts_oneCell _) (by unfold maxLen; omega) (by omega) (by simp) ?_; intro av4 aw4 ah4 ag4 an4)
  obtain ⟨hvA4,gA4⟩:=names_more (ns:=[x]) (m:=1) ah4 ag4 rfl (by decide) rfl NTS.out (by omega) (fun t ht=>by rw [List.mem_singleton.1 ht]; exact hx) HL.out h3.2.1.lt
  have hA4:=h3.below (below_of_none gA4)
  have GA4:=G3.trans (but_none gA4 (some g))
  clear ah4 ag4 an4 gA4 h3 G3
  refine (IH.out B g V len av4 (1+n) _ _ (by omega) (by omega) (by omega) hvA4 hA4).mono ?_
  rintro e w4 ⟨ta1,rfl,hta1,h4,g4⟩
  rw [HEd.out] at hta1
  have G4:=GA4.trans g4
  clear g4 hvA4 hA4 GA4
  go_wp2_with (at_builtin; refine wpList_append_own _ rfl _ _ 24 rfl w4.heap.size 9 i0 (.string ⟨#[]⟩) 1 16 Tryz.underlying24 hi hz0 hz1 hz2 rfl (by decide) _ _ _ rfl (row_lit w4 [x,x] 2 rfl (by decide)) ⟨nb,0,none⟩ n ncap (nts.map Value.string) rfl (by rw [List.length_map,NTS.out,Nat.mul_one]) (news_of HC.out (G4.trans (World.grownBy_alloc w4 _ _)) hbg) (texts_oneCell _) (by unfold maxLen; omega) (by omega) (by simp) ?_; intro av5 aw5 ah5 ag5 an5)
  obtain ⟨hvA5,gA5⟩:=names_more (ns:=[x,x]) (m:=2) ah5 ag5 rfl (by decide) rfl NTS.out (by omega) (fun t ht=>by simp at ht; rw [ht]; exact hx) HL.out h4.2.1.lt
  have hA5:=h4.below (below_of_none gA5)
  have GA5:=G4.trans (but_none gA5 (some g))
  clear ah5 ag5 an5 gA5 h4 G4
  refine (IH.out B g V len av5 (2+n) _ _ (by omega) (by omega) (by omega) hvA5 hA5).mono ?_
  rintro e w5 ⟨ta2,rfl,hta2,h5,g5⟩
  rw [HEd.out] at hta2
  have G5:=GA5.trans g5
  clear g5 hvA5 hA5 GA5
  go_wp2
  go_ret
  exact ⟨_,rfl,by rw [HE.out]; simp [ByteArray.size_append,sz]; omega,h5,g12.trans G5⟩
 ·go_wp2_with fail
  refine (pick_dr B g V len _ 3 32 _ (by decide) (texts_lit [⟨#[120]⟩,⟨#[121]⟩,⟨#[119]⟩] w2 3 32 g rfl (by decide) (by decide) h2.2.1.lt) (h2.alloc _)).mono ?_
  rintro e w3 ⟨x,rfl,hx,h3,g3⟩
  have G3:=G2.trans ((World.grownBy_alloc w2 _ _).trans g3)
  clear g3 h2 G2
  go_wp2_with (at_builtin; refine wpList_append_own _ rfl _ _ 24 rfl w3.heap.size 9 i0 (.string ⟨#[]⟩) 1 16 Tryz.underlying24 hi hz0 hz1 hz2 rfl (by decide) _ _ _ rfl (row_lit w3 [x] 1 rfl (by decide)) ⟨nb,0,none⟩ n ncap (nts.map Value.string) rfl (by rw [List.length_map,NTS.out,Nat.mul_one]) (news_of HC.out (G3.trans (World.grownBy_alloc w3 _ _)) hbg) (texts_oneCell _) (by unfold maxLen; omega) (by omega) (by simp) ?_; intro av4 aw4 ah4 ag4 an4)
  obtain ⟨hvA4,gA4⟩:=names_more (ns:=[x]) (m:=1) ah4 ag4 rfl (by decide) rfl NTS.out (by omega) (fun t ht=>by rw [List.mem_singleton.1 ht]; exact hx) HL.out h3.2.1.lt
  have hA4:=h3.below (below_of_none gA4)
  have GA4:=G3.trans (but_none gA4 (some g))
  clear ah4 ag4 an4 gA4 h3 G3
  refine (IH.out B g V len av4 (1+n) _ _ (by omega) (by omega) (by omega) hvA4 hA4).mono ?_
  rintro e w4 ⟨ta1,rfl,hta1,h4,g4⟩
  rw [HEd.out] at hta1
  have G4:=GA4.trans g4
  clear g4 hvA4 hA4 GA4
  go_wp2_with fail
  refine (atom_dr B g V len _ n _ (HV.out.grown G4) h4).mono ?_
  rintro e w5 ⟨u,rfl,hu,h5,g5⟩
  have G5:=G4.trans g5
  clear g5 h4 G4
  go_wp2
  go_ret
  exact ⟨_,rfl,by rw [HE.out]; simp [ByteArray.size_append,sz]; omega,h5,g12.trans G5⟩
 ·go_wp2_with fail
  refine (IH.out B g V len _ n _ _ (by omega) (by omega) (by omega) (HV.out.grown G2) h2).mono ?_
  rintro e w3 ⟨tb,rfl,htb,h3,g3⟩
  rw [HEd.out] at htb
  have G3:=G2.trans g3
  clear g3 h2 G2
  go_wp2_with fail
  refine (IH.out B g V len _ n _ _ (by omega) (by omega) (by omega) (HV.out.grown G3) h3).mono ?_
  rintro e w4 ⟨tc,rfl,htc,h4,g4⟩
  rw [HEd.out] at htc
  have G4:=G3.trans g4
  clear g4 h3 G3
  go_wp2
  go_ret
  exact ⟨_,rfl,by rw [HE.out]; simp [ByteArray.size_append,sz]; omega,h4,g12.trans G4⟩
 ·go_wp2_with fail
  refine (IH.out B g V len _ n _ _ (by omega) (by omega) (by omega) (HV.out.grown G2) h2).mono ?_
  rintro e w3 ⟨tb,rfl,htb,h3,g3⟩
  rw [HEd.out] at htb
  have G3:=G2.trans g3
  clear g3 h2 G2
  go_wp2_with fail
  refine (atom_dr B g V len _ n _ (HV.out.grown G3) h3).mono ?_
  rintro e w4 ⟨u,rfl,hu,h4,g4⟩
  have G4:=G3.trans g4
  clear g4 h3 G3
  go_wp2_with (at_builtin; refine wpList_append_own _ rfl _ _ 24 rfl w4.heap.size 9 i0 (.string ⟨#[]⟩) 1 16 Tryz.underlying24 hi hz0 hz1 hz2 rfl (by decide) _ _ _ rfl (row_lit w4 [⟨#[104]⟩,⟨#[116]⟩] 2 rfl (by decide)) ⟨nb,0,none⟩ n ncap (nts.map Value.string) rfl (by rw [List.length_map,NTS.out,Nat.mul_one]) (news_of HC.out (G4.trans (World.grownBy_alloc w4 _ _)) hbg) (texts_oneCell _) (by unfold maxLen; omega) (by omega) (by simp) ?_; intro av5 aw5 ah5 ag5 an5)
  obtain ⟨hvA5,gA5⟩:=names_more (ns:=[⟨#[104]⟩,⟨#[116]⟩]) (m:=2) ah5 ag5 rfl (by decide) rfl NTS.out (by omega) (by decide) HL.out h4.2.1.lt
  have hA5:=h4.below (below_of_none gA5)
  have GA5:=G4.trans (but_none gA5 (some g))
  clear ah5 ag5 an5 gA5 h4 G4
  refine (IH.out B g V len av5 (2+n) _ _ (by omega) (by omega) (by omega) hvA5 hA5).mono ?_
  rintro e w5 ⟨tc,rfl,htc,h5,g5⟩
  rw [HEd.out] at htc
  have G5:=GA5.trans g5
  clear g5 hvA5 hA5 GA5
  go_wp2
  go_ret
  exact ⟨_,rfl,by rw [HE.out]; simp [ByteArray.size_append,sz]; omega,h5,g12.trans G5⟩
 ·go_wp2_with fail
  refine (pick_dr B g V len _ 6 32 _ (by decide) (texts_lit [⟨#[32,43,32]⟩,⟨#[32,45,32]⟩,⟨#[32,42,32]⟩,⟨#[32,61,61,32]⟩,⟨#[32,60,32]⟩,⟨#[32,43,32]⟩] w2 6 32 g rfl (by decide) (by decide) h2.2.1.lt) (h2.alloc _)).mono ?_
  rintro e w3 ⟨x,rfl,hx,h3,g3⟩
  have G3:=G2.trans ((World.grownBy_alloc w2 _ _).trans g3)
  clear g3 h2 G2
  go_wp2_with fail
  refine (IH.out B g V len _ n _ _ (by omega) (by omega) (by omega) (HV.out.grown G3) h3).mono ?_
  rintro e w4 ⟨tb,rfl,htb,h4,g4⟩
  rw [HEd.out] at htb
  have G4:=G3.trans g4
  clear g4 h3 G3
  go_wp2
  go_ret
  exact ⟨_,rfl,by rw [HE.out]; simp [ByteArray.size_append,sz]; omega,h4,g12.trans G4⟩
 ·go_wp2_with fail
  refine (pick_dr B g V len _ 6 32 _ (by decide) (texts_lit [⟨#[32,43,32]⟩,⟨#[32,45,32]⟩,⟨#[32,42,32]⟩,⟨#[32,61,61,32]⟩,⟨#[32,60,32]⟩,⟨#[32,43,32]⟩] w2 6 32 g rfl (by decide) (by decide) h2.2.1.lt) (h2.alloc _)).mono ?_
  rintro e w3 ⟨x,rfl,hx,h3,g3⟩
  have G3:=G2.trans ((World.grownBy_alloc w2 _ _).trans g3)
  clear g3 h2 G2
  go_wp2_with fail
  refine (IH.out B g V len _ n _ _ (by omega) (by omega) (by omega) (HV.out.grown G3) h3).mono ?_
  rintro e w4 ⟨tb,rfl,htb,h4,g4⟩
  rw [HEd.out] at htb
  have G4:=G3.trans g4
  clear g4 h3 G3
  go_wp2
  go_ret
  exact ⟨_,rfl,by rw [HE.out]; simp [ByteArray.size_append,sz]; omega,h4,g12.trans G4⟩
 ·go_wp2_with fail
  refine (atom_dr B g V len _ n _ (HV.out.grown G2) h2).mono ?_
  rintro e w3 ⟨u,rfl,hu,h3,g3⟩
  have G3:=G2.trans g3
  clear g3 h2 G2
  go_wp2
  go_ret
  exact ⟨_,rfl,by rw [HE.out]; simp [ByteArray.size_append,sz]; omega,h3,g12.trans G3⟩
 ·go_wp2_with fail
  refine (atom_dr B g V len _ n _ (HV.out.grown G2) h2).mono ?_
  rintro e w3 ⟨u,rfl,hu,h3,g3⟩
  have G3:=G2.trans g3
  clear g3 h2 G2
  go_wp2
  go_ret
  exact ⟨_,rfl,by rw [HE.out]; simp [ByteArray.size_append,sz]; omega,h3,g12.trans G3⟩
 ·by_cases hnz:0<n
  ·have hnz':(0:Int)<((n:Nat):Int):=by omega
   go_wp2_with fail
   refine (pick_dr B g V len _ n 32 _ (by omega) (HV.out.grown G2) h2).mono ?_
   rintro e w3 ⟨u,rfl,hu,h3,g3⟩
   have G3:=G2.trans g3
   clear g3 h2 G2
   go_wp2
   go_ret
   exact ⟨_,rfl,by rw [HE.out]; simp [ByteArray.size_append,sz]; omega,h3,g12.trans G3⟩
  ·have hnz':¬ (0:Int)<((n:Nat):Int):=by omega
   go_wp2
   go_ret
   exact ⟨_,rfl,by rw [HE.out]; omega,h2,g12.trans G2⟩
 ·go_wp2
  go_ret
  exact ⟨_,rfl,by rw [HE.out]; simp [ByteArray.size_append,sz]; omega,h2,g12.trans G2⟩
 ·go_wp2
  go_ret
  exact ⟨_,rfl,by rw [HE.out]; omega,h2,g12.trans G2⟩
 ·go_wp2
  go_ret
  exact ⟨_,rfl,by rw [HE.out]; omega,h2,g12.trans G2⟩
theorem exp_dr:∀ d,d≤4→ExpDr d
 | 0,_=>fun B g V len v n deep w hdeep _ _ hv h=>exp_flat 0 B g V len v n deep w (by simpa using hdeep) hv h
 | d+1,hd=>exp_step d hd (exp_dr d (by omega))
end Go.Proofs.YtljdgmfcgkimoaaGreatDoor
