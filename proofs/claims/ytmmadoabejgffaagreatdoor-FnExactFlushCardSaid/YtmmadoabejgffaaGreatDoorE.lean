/-
  Proofs.
-/
import Derived.Test.YtmmadoabejgffaaGreatDoorD
import Derived.Test.YtmmadoabejgffaaGreatDoorCB
namespace Go.Proofs.YtmmadoabejgffaaGreatDoor
open Go.RowKit Go.Joins
set_option maxRecDepth 100000
set_option maxHeartbeats 51200000
def intR (r:List Dt):Int:=match r with | [.int z]=>z | _=>0
def intsOf (xs:List (List Dt)):List Int:=xs.map intR
def intsD (zs:List Int):List (List Dt):=zs.map fun z=>[Dt.int z]
def snOf (r:List Dt):Sn:=match r with | [.int a,.int b,.str c]=>⟨a,b,c⟩ | _=>⟨0,0,⟨#[]⟩⟩
def snD (s:Sn):List Dt:=[.int s.seq,.int s.dst,.str s.body]
def seOf (r:List Dt):Se:=match r with | [.int a,.row xs]=>⟨a,intsOf xs⟩ | _=>⟨0,[]⟩
def seD (s:Se):List Dt:=[.int s.low,.row (intsD s.ids)]
def lkOf (z7 z8:Int) (x9 x10:List (List Dt)):Lk:=⟨z7,z8,x9.map snOf,x10.map seOf⟩
def lkD (l:Lk):List Dt:=[.int l.id,.int l.next,.row (l.out.map snD),.row (l.seen.map seD)]
def msOf (r:List Dt):Ms:=match r with | [.int a,.int b,.int c,.int d,.int e,.int f,.int g,.int h,.row xs]=>⟨a,b,c,d,e,⟨f,g,h,intsOf xs⟩⟩ | _=>⟨0,0,0,0,0,⟨0,0,0,[]⟩⟩
theorem intsD_all (zs:List Int):AllR IntR (intsD zs):=fun i r hr=>by
 unfold intsD at hr; rw [List.getElem?_map] at hr
 obtain ⟨z,-,rfl⟩:=Option.map_eq_some_iff.1 hr
 exact ⟨z,rfl⟩
theorem snD_all (l:List Sn):AllR SentR (l.map snD):=fun i r hr=>by
 rw [List.getElem?_map] at hr
 obtain ⟨z,-,rfl⟩:=Option.map_eq_some_iff.1 hr
 exact ⟨_,_,_,rfl⟩
theorem seD_all (l:List Se):AllR SeenR (l.map seD):=fun i r hr=>by
 rw [List.getElem?_map] at hr
 obtain ⟨z,-,rfl⟩:=Option.map_eq_some_iff.1 hr
 exact ⟨_,_,rfl,intsD_all _⟩
theorem ints_of_fat {w:World} {S:Nat→Prop} {v:Value} {xs:List (List Dt)} (h:FAt w S v (.row xs)) (hP:AllR IntR xs):IntsAt w S v (intsOf xs):=by
 have hlen:(intsOf xs).length=xs.length:=List.length_map _
 obtain ⟨a,cap,rfl⟩:=h.form
 refine ⟨a,cap,by rw [hlen],by rw [hlen]; exact h.len,fun i t ht => ?_⟩
 unfold intsOf at ht
 rw [List.getElem?_map] at ht
 obtain ⟨r,hr,rfl⟩:=Option.map_eq_some_iff.1 ht
 obtain ⟨z,rfl⟩:=hP i r hr
 obtain ⟨b,off,ha,hS,hb,vs,hv⟩:=h.at hr
 have h0:=hv 0 (.int z) rfl
 obtain ⟨e,hz⟩:=h0.2.ofInt
 refine ⟨b,off,ha,hS,hb,?_,hz⟩
 have:=h0.1
 rw [e] at this
 show w.cell? _=some (.int .i64 z)
 simpa using this
theorem sents_of_fat {w:World} {S:Nat→Prop} {v:Value} {xs:List (List Dt)} (h:FAt w S v (.row xs)) (hP:AllR SentR xs):SentsAt w S v (xs.map snOf):=by
 have hlen:(xs.map snOf).length=xs.length:=List.length_map _
 obtain ⟨a,cap,rfl⟩:=h.form
 refine ⟨a,cap,by rw [hlen],by rw [hlen]; exact h.len,fun i t ht => ?_⟩
 rw [List.getElem?_map] at ht
 obtain ⟨r,hr,rfl⟩:=Option.map_eq_some_iff.1 ht
 obtain ⟨z0,z1,b2,rfl⟩:=hP i r hr
 obtain ⟨b,off,ha,hS,hb,vs,hv⟩:=h.at hr
 have h0:=hv 0 (.int z0) rfl
 have h1:=hv 1 (.int z1) rfl
 have h2:=hv 2 (.str b2) rfl
 obtain ⟨e0,r0⟩:=h0.2.ofInt
 obtain ⟨e1,r1⟩:=h1.2.ofInt
 obtain ⟨e2,r2⟩:=h2.2.ofStr
 have c0:=h0.1
 have c1:=h1.1
 have c2:=h2.1
 rw [e0] at c0
 rw [e1] at c1
 rw [e2] at c2
 exact ⟨b,off,ha,hS,hb,c0,c1,c2,r0,r1,r2⟩
theorem seens_of_fat {w:World} {S:Nat→Prop} {v:Value} {xs:List (List Dt)} (h:FAt w S v (.row xs)) (hP:AllR SeenR xs):SeensAt w S v (xs.map seOf):=by
 have hlen:(xs.map seOf).length=xs.length:=List.length_map _
 obtain ⟨a,cap,rfl⟩:=h.form
 refine ⟨a,cap,by rw [hlen],by rw [hlen]; exact h.len,fun i t ht => ?_⟩
 rw [List.getElem?_map] at ht
 obtain ⟨r,hr,rfl⟩:=Option.map_eq_some_iff.1 ht
 obtain ⟨z0,x1,rfl,q1⟩:=hP i r hr
 obtain ⟨b,off,ha,hS,hb,vs,hv⟩:=h.at hr
 have h0:=hv 0 (.int z0) rfl
 have h1:=hv 1 (.row x1) rfl
 obtain ⟨e0,r0⟩:=h0.2.ofInt
 have c0:=h0.1
 rw [e0] at c0
 exact ⟨b,off,vs 1,ha,hS,hb,c0,h1.1,r0,ints_of_fat h1.2 q1⟩
theorem lk_of_fs {w:World} {S:Nat→Prop} {vs:List Value} {z7 z8:Int} {x9 x10:List (List Dt)} (h:FsAt w S vs [.int z7,.int z8,.row x9,.row x10]) (h9:AllR SentR x9) (h10:AllR SeenR x10):LkAt w S (.agg vs.toArray) (lkOf z7 z8 x9 x10):=by
 obtain ⟨v0,v1,v2,v3,rfl,a0,a1,a2,a3⟩:=fs4 h
 obtain ⟨rfl,i0⟩:=a0.ofInt
 obtain ⟨rfl,i1⟩:=a1.ofInt
 exact ⟨v2,v3,rfl,i0,i1,sents_of_fat a2 h9,seens_of_fat a3 h10⟩
theorem ms_of_fs {w:World} {S:Nat→Prop} {vs:List Value} {r:List Dt} (hr:MsgR r) (h:FsAt w S vs r):MsAt w S (.agg vs.toArray) (msOf r):=by
 obtain ⟨z0,z1,z2,z3,z4,z5,z6,z7,x8,rfl,q8⟩:=hr
 obtain ⟨v0,v1,v2,v3,v4,v5,v6,v7,v8,rfl,a0,a1,a2,a3,a4,a5,a6,a7,a8⟩:=fs9 h
 obtain ⟨rfl,i0⟩:=a0.ofInt
 obtain ⟨rfl,i1⟩:=a1.ofInt
 obtain ⟨rfl,i2⟩:=a2.ofInt
 obtain ⟨rfl,i3⟩:=a3.ofInt
 obtain ⟨rfl,i4⟩:=a4.ofInt
 obtain ⟨rfl,i5⟩:=a5.ofInt
 obtain ⟨rfl,i6⟩:=a6.ofInt
 obtain ⟨rfl,i7⟩:=a7.ofInt
 exact ⟨v8,rfl,⟨i0,i1,i2,i3,i4⟩,i5,i6,i7,ints_of_fat a8 q8⟩
theorem flat_get {α : Type} (f : α → List Value) (n:Nat) (hn:∀ a,(f a).length=n):∀ (l:List α) (i j:Nat) (a : α),l[i]? = some a→j<n→(l.flatMap f)[i * n+j]? = (f a)[j]?
 | [],_,_,_,h,_=>by simp at h
 | x :: l,0,j,a,h,hj=>by
  obtain rfl:x=a:=by simpa using h
  rw [List.flatMap_cons,List.getElem?_append_left (by rw [hn]; omega)]
  simp
 | x :: l,i+1,j,a,h,hj=>by
  rw [List.flatMap_cons,List.getElem?_append_right (by rw [hn,Nat.add_mul]; omega),hn,show (i+1) * n+j - n=i * n+j by rw [Nat.add_mul]; omega]
  exact flat_get f n hn l i j a (by simpa using h) hj
theorem ints_own {W:World} {B:Nat} {v:Value} {zs:List Int} (h:W.ownsRow B 3 1 v zs.length (intVs zs)) (hz:∀ z ∈ zs,inI64 z):Own W v (.row (intsD zs)) (fun b=>B≤b∧v.ownBlock=some b):=by
 have hlen:(intsD zs).length=zs.length:=List.length_map _
 refine own_atoms (w0:=W) (S:=fun _=>True) (n:=1) (e:=3) (flat:=intVs zs) (by rw [hlen]; exact h) (fun i r hr=>IntR.len r (intsD_all zs i r hr)) (fun i j r d hr hj => ?_) (fun i j r d hr hj=>(intsD_all zs i r hr).atoms j d hj)
 unfold intsD at hr
 rw [List.getElem?_map] at hr
 obtain ⟨z,hz',rfl⟩:=Option.map_eq_some_iff.1 hr
 match j,hj with
 | 0,hj =>
  simp at hj
  subst hj
  exact ⟨.int .i64 z,by rw [Nat.mul_one,Nat.add_zero,List.getElem?_map,hz']; rfl,.int z (hz z (List.mem_of_getElem? hz'))⟩
theorem SentR.atoms' {r:List Dt} (h:SentR r):∀ (j:Nat) (d:Dt),r[j]? = some d→Atom d:=by
 obtain ⟨z0,z1,b2,rfl⟩:=h
 intro j d hj
 match j,hj with
 | 0,hj=>simp at hj; exact .inl ⟨_,hj.symm⟩
 | 1,hj=>simp at hj; exact .inl ⟨_,hj.symm⟩
 | 2,hj=>simp at hj; exact .inr ⟨_,hj.symm⟩
theorem sn_own {W:World} {B:Nat} {v:Value} {ns:List Sn} (h:SnOwn W B v ns):Own W v (.row (ns.map snD)) (fun b=>v.ownBlock=some b):=by
 have hlen:(ns.map snD).length=ns.length:=List.length_map _
 refine (own_atoms (w0:=W) (S:=fun _=>True) (n:=3) (e:=93) (flat:=ns.flatMap snCells) (by rw [hlen]; exact h.1) (fun i r hr=>SentR.len r (snD_all ns i r hr)) (fun i j r d hr hj => ?_) (fun i j r d hr hj=>(snD_all ns i r hr).atoms' j d hj)).mono (fun b hb=>hb.2)
 rw [List.getElem?_map] at hr
 obtain ⟨s,hs,rfl⟩:=Option.map_eq_some_iff.1 hr
 have ok:=h.2 s (List.mem_of_getElem? hs)
 have hg:=fun j hj=>flat_get snCells 3 (fun _=>rfl) ns i j s hs hj
 match j,hj with
 | 0,hj=>simp [snD] at hj; subst hj; exact ⟨_,hg 0 (by omega),.int _ ok.1⟩
 | 1,hj=>simp [snD] at hj; subst hj; exact ⟨_,hg 1 (by omega),.int _ ok.2.1⟩
 | 2,hj=>simp [snD] at hj; subst hj; exact ⟨_,hg 2 (by omega),.str _ ok.2.2⟩
 | j+3,hj=>simp [snD] at hj
theorem se_own {W:World} {B:Nat} {cv:Value} {rs:List (Se×Value)} (h:SeOwn W B cv rs):Own W cv (.row ((rs.map Prod.fst).map seD)) (SeBlk cv rs):=by
 have hlen:((rs.map Prod.fst).map seD).length=rs.length:=by rw [List.length_map,List.length_map]
 rcases h.cells.2 with ⟨rfl,h0⟩ | ⟨g,cap,cur,rfl,hb,hc,hn,hcm,hs,ht⟩
 ·obtain rfl:rs=[]:=List.length_eq_zero_iff.1 h0
  exact .nil _
 ·rw [← hlen] at hn ⊢
  have at_:∀ (i:Nat) (r:List Dt),((rs.map Prod.fst).map seD)[i]? = some r→∃ p,rs[i]? = some p∧r=seD p.1:=fun i r hr=>by
   rw [List.getElem?_map,List.getElem?_map] at hr
   obtain ⟨s,hs',rfl⟩:=Option.map_eq_some_iff.1 hr
   obtain ⟨p,hp,rfl⟩:=Option.map_eq_some_iff.1 hs'
   exact ⟨p,hp,rfl⟩
  refine Own.row0 g cap 2 147 cur _ (fun i j=>((rs.flatMap seCells)[i * 2+j]?).getD .nilFunc) (fun i j b=>j=1∧∃ p,rs[i]? = some p∧p.2.ownBlock=some b) _ hn hcm hs (.inl rfl) hc (fun i r hr => ?_) (fun i j r d hr hj => ?_) (fun i j r d hr hj => ?_) (fun i j b hY => ?_) (fun i j i' j' b h1 h2 => ?_)
  ·obtain ⟨p,-,rfl⟩:=at_ i r hr; rfl
  ·obtain ⟨p,hp,rfl⟩:=at_ i r hr
   have hj2:j<2:=by have:=(List.getElem?_eq_some_iff.1 hj).1; exact this
   have hg:=flat_get seCells 2 (fun _=>rfl) rs i j p hp hj2
   have hlt:j<(seCells p).length:=hj2
   rw [List.getElem?_eq_getElem hlt] at hg
   rw [hg]
   exact own_get ht hg
  ·obtain ⟨p,hp,rfl⟩:=at_ i r hr
   have hk:=h.kids p (List.mem_of_getElem? hp)
   have hg:=fun j hj=>flat_get seCells 2 (fun _=>rfl) rs i j p hp hj
   match j,hj with
   | 0,hj=>simp [seD] at hj; subst hj; simp only [hg 0 (by omega)]; exact .int _ hk.2.1 _
   | 1,hj =>
    simp [seD] at hj
    subst hj
    simp only [hg 1 (by omega)]
    exact (ints_own hk.1 hk.2.2).mono (fun b hb=>by first | exact ⟨rfl,p,hp,hb.2⟩ | exact ⟨trivial,p,hp,hb.2⟩)
   | j+2,hj=>simp [seD] at hj
  ·obtain ⟨rfl,p,hp,hb'⟩:=hY
   have hpm:=List.mem_of_getElem? hp
   refine ⟨.inr ⟨p,hpm,hb'⟩,fun e => ?_⟩
   have:=own_ne (h.kids p hpm).1 h.cells (by decide) b hb'
   exact this (by rw [e]; rfl)
  ·obtain ⟨rfl,p,hp,hb1⟩:=h1
   obtain ⟨rfl,p',hp',hb2⟩:=h2
   refine ⟨?_,rfl⟩
   have hap:=List.pairwise_iff_getElem.1 h.apart
   have l1:=(List.getElem?_eq_some_iff.1 hp)
   have l2:=(List.getElem?_eq_some_iff.1 hp')
   obtain ⟨l1,e1⟩:=l1
   obtain ⟨l2,e2⟩:=l2
   rcases Nat.lt_trichotomy i i' with hlt | heq | hlt
   ·have:=hap i i' (by rw [List.length_map]; exact l1) (by rw [List.length_map]; exact l2) hlt
    rw [List.getElem_map,List.getElem_map,e1,e2] at this
    rcases this with h3 | h3
    ·rw [h3] at hb1; cases hb1
    ·exact absurd (hb1.trans hb2.symm) h3
   ·exact heq
   ·have:=hap i' i (by rw [List.length_map]; exact l2) (by rw [List.length_map]; exact l1) hlt
    rw [List.getElem_map,List.getElem_map,e1,e2] at this
    rcases this with h3 | h3
    ·rw [h3] at hb2; cases hb2
    ·exact absurd (hb2.trans hb1.symm) h3
theorem lk_own {W:World} {B:Nat} {v:Value} {l:Lk} {ov sv:Value} {rs:List (Se×Value)} (h:LkOwn W B v l ov sv rs):OFs W [.int .i64 l.id,.int .i64 l.next,ov,sv] (lkD l) (LkBlk ov sv rs):=by
 have hs:=se_own h.seen
 rw [h.is] at hs
 refine OFs.int h.fits.1 (OFs.int h.fits.2 ⟨fun b=>ov.ownBlock=some b,SeBlk sv rs,fun b hb => .inl hb,fun b hb => .inr hb,fun b h1 h2 => ?_,sn_own h.out,⟨SeBlk sv rs,fun _=>False,fun b hb=>hb,fun _ hb=>hb.elim,fun _ _ hb=>hb,hs,trivial⟩⟩)
 rcases h2 with h2 | ⟨p,hp,h2⟩
 ·exact own_ne h.out.1 h.seen.cells (by decide) b h1 h2.symm
 ·exact own_ne h.out.1 (h.seen.kids p hp).1 (by decide) b h1 h2.symm
theorem sum_map_of {α : Type} (f:List Dt → α) (g : α → Nat) (P:List Dt→Prop) (h:∀ r,P r→g (f r)=Dt.bR r):∀ (xs:List (List Dt)),(∀ r ∈ xs,P r)→((xs.map f).map g).sum=(xs.map Dt.bR).sum
 | [],_=>rfl
 | r :: t,hx=>by
  have h1:=sum_map_of f g P h t (fun q hq=>hx q (List.mem_cons_of_mem _ hq))
  have h2:=h r (hx r (List.mem_cons_self ..))
  simp only [List.map_cons,List.sum_cons,h1,h2]
theorem AllR.mem {P:List Dt→Prop} {xs:List (List Dt)} (h:AllR P xs):∀ r ∈ xs,P r:=fun r hr=>by
 obtain ⟨i,hi⟩:=List.getElem?_of_mem hr
 exact h i r hi
theorem bulkS_ints {xs:List (List Dt)} (h:AllR IntR xs):Dt.bS xs=(intsOf xs).length:=by
 have e:=sum_map_of intR (fun _=>0) IntR (fun r hr=>by obtain ⟨z,rfl⟩:=hr; simp [Dt.bR,Dt.bulk]) xs h.mem
 have e0:∀ l:List Int,(l.map (fun _=>(0:Nat))).sum=0:=fun l=>by
  induction l with
  | nil=>rfl
  | cons a l ih=>rw [List.map_cons,List.sum_cons,ih]
 rw [e0] at e
 rw [bulkS_eq,preD,List.take_length,← e]
 unfold intsOf
 rw [List.length_map,Nat.add_zero]
theorem lk_bulk {x9 x10:List (List Dt)} (h9:AllR SentR x9) (h10:AllR SeenR x10) (z7 z8:Int):(lkOf z7 z8 x9 x10).bulk=Dt.bS x9+Dt.bS x10:=by
 have e9:=sum_map_of snOf Sn.bulk SentR (fun r hr=>by obtain ⟨a,b,c,rfl⟩:=hr; simp [Dt.bR,Dt.bulk,Sn.bulk,snOf]) x9 h9.mem
 have e10:=sum_map_of seOf Se.bulk SeenR (fun r hr=>by
  obtain ⟨a,x,rfl,q⟩:=hr
  simp only [Dt.bR,Dt.bulk,Se.bulk,seOf]
  rw [bulkS_ints q]; simp) x10 h10.mem
 unfold Lk.bulk bulkO bulkN preO preN
 rw [bulkS_eq,bulkS_eq,preD,preD,List.take_length,List.take_length,List.take_length,List.take_length,← e9,← e10]
 simp [lkOf]
def peL (r:List Dt):Lk:=match r.drop 7 with | [.int a,.int b,.row x,.row y]=>lkOf a b x y | _=>⟨0,0,[],[]⟩
def PeC (f:FuncId):Prop:=∀ (vs:List Value) (r:List Dt) (S:Nat→Prop) (w:World),PeerR r→FsAt w S vs r→Dt.bR r≤1048576 →
 Calls Tryz.prog f #[.agg vs.toArray] w fun e w'=>∃ (mu:List Value) (m1:Nat) (ov sv:Value) (rs:List (Se×Value)),e = .returned (.agg (mu ++ [.int .i64 (peL r).id,.int .i64 (peL r).next,ov,sv]).toArray)∧w.heap.size+2≤m1∧m1≤w'.heap.size∧OFs w' mu (r.take 7) (Btw (w.heap.size+2) m1)∧LkOwn w' m1 (.agg #[.int .i64 (peL r).id,.int .i64 (peL r).next,ov,sv]) (peL r) ov sv rs∧Below w.heap.size w w'
theorem run_buildPe (a0 a1 a2 a3 a4 a5 a6 a9 a10:Option Addr) (l0 c0 l1 c1 l2 c2 l3 c3 l4 c4 l5 c5 l6 c6 l9 c9 l10 c10:Nat) (z7 z8:Int) (w:World):(Instr.build 51 #[(0,.agg #[.slice a0 l0 c0,.slice a1 l1 c1,.slice a2 l2 c2,.slice a3 l3 c3,.slice a4 l4 c4,.slice a5 l5 c5,.slice a6 l6 c6]),(1,.agg #[.int .i64 z7,.int .i64 z8,.slice a9 l9 c9,.slice a10 l10 c10])]).run Tryz.prog w = .ok (.agg #[.slice a0 l0 c0,.slice a1 l1 c1,.slice a2 l2 c2,.slice a3 l3 c3,.slice a4 l4 c4,.slice a5 l5 c5,.slice a6 l6 c6,.int .i64 z7,.int .i64 z8,.slice a9 l9 c9,.slice a10 l10 c10]) w:=by kernel_rfl
theorem ex_buildPe (e:Operand→Value) (o:Oper) (y0 y1:Operand) (a0 a1 a2 a3 a4 a5 a6 a9 a10:Option Addr) (l0 c0 l1 c1 l2 c2 l3 c3 l4 c4 l5 c5 l6 c6 l9 c9 l10 c10:Nat) (z7 z8:Int) (w:World) (ho:o.op = .build 51 #[(0,y0),(1,y1)]) (h0:e y0 = .agg #[.slice a0 l0 c0,.slice a1 l1 c1,.slice a2 l2 c2,.slice a3 l3 c3,.slice a4 l4 c4,.slice a5 l5 c5,.slice a6 l6 c6]) (h1:e y1 = .agg #[.int .i64 z7,.int .i64 z8,.slice a9 l9 c9,.slice a10 l10 c10]):(execOp e o).run Tryz.prog w = .ok (.value (.agg #[.slice a0 l0 c0,.slice a1 l1 c1,.slice a2 l2 c2,.slice a3 l3 c3,.slice a4 l4 c4,.slice a5 l5 c5,.slice a6 l6 c6,.int .i64 z7,.int .i64 z8,.slice a9 l9 c9,.slice a10 l10 c10])) w:=by
 unfold execOp
 rw [ho]
 simp only [List.map_toArray,List.map_cons,List.map_nil,h0,h1,Sem.run_bind,run_buildPe,Result.andThen_ok,Sem.run_pure]
end Go.Proofs.YtmmadoabejgffaaGreatDoor
