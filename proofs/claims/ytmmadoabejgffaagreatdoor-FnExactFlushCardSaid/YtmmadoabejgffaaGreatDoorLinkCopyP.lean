/-
  Proofs.
-/
import Derived.Test.YtmmadoabejgffaaGreatDoorA
import Derived.Test.YtmmadoabejgffaaGreatDoorLinkClone
import Derived.Test.YtmmadoabejgffaaGreatDoorQ
import Derived.Test.YtmmadoabejgffaaGreatDoorCB
namespace Go.Proofs.YtmmadoabejgffaaGreatDoor
open Go.RowKit Go.Joins
set_option maxRecDepth 100000
theorem set_sameV {xs:List Value} {j:Nat} {u:Value} (h:xs[j]? = some u):xs.set j u=xs:=by
 apply List.ext_getElem?
 intro i
 by_cases hi:i=j
 ·subst hi
  rw [List.getElem?_set_self (List.getElem?_eq_some_iff.1 h).1,h]
 ·rw [List.getElem?_set_ne (by omega)]
theorem rowFrozenC {w:World} {b g cap n size:Nat} {e:TypeId} {xs:List Value} (h:w.ownsRow b e size (.slice (some ⟨g,0,none⟩) n cap) n xs) (i:Nat):w.frozen? ⟨g,i,none⟩=false:=by
 obtain ⟨_,cs,hcs⟩:=own_type h g rfl
 exact unfrozen_of_block hcs _
set_option maxHeartbeats 800000 in
theorem copySent_any (s:Sn) (w:World) (hs:s.body.size≤1048576) :
  Calls Tryz.prog 132 #[.agg #[.int .i64 s.seq,.int .i64 s.dst,.string s.body]] w fun e w'=>e = .returned (.agg #[.int .i64 s.seq,.int .i64 s.dst,.string s.body])∧Below w.heap.size w w':=by
 obtain ⟨W0,hW0⟩:∃ W0,W0=(w.alloc (.cells #[.int .i64 s.seq,.int .i64 s.dst,.string s.body] 93)).alloc (.cells #[.int .i64 0,.int .i64 0,.string ⟨#[]⟩] 93):=⟨_,rfl⟩
 have B0:Below w.heap.size w W0:=by rw [hW0]; exact ((Below.refl _ w).alloc (Nat.le_refl _) _).alloc (by simp) _
 have O0:W0.heap[w.heap.size]? = some (.cells #[.int .i64 s.seq,.int .i64 s.dst,.string s.body] 93):=by
  rw [hW0,Below.heap_alloc _ _ _ (by simp)]; exact (MapKept.heap_alloc w _).1
 have O1:W0.heap[w.heap.size+1]? = some (.cells #[.int .i64 0,.int .i64 0,.string ⟨#[]⟩] 93):=by
  have:=(MapKept.heap_alloc (w.alloc (.cells #[.int .i64 s.seq,.int .i64 s.dst,.string s.body] 93)) (.cells #[.int .i64 0,.int .i64 0,.string ⟨#[]⟩] 93)).1
  rw [hW0]
  simpa using this
 have hs0:w.heap.size+2≤W0.heap.size:=lh O1
 have H0:=(show Hid (_∧_∧_∧_) from ⟨B0,O0,O1,hW0⟩)
 clear B0 O0 O1 hW0
 go_enter Tryz.func132,Tryz.ntmps132
 go_wp2_with fail
 rw [← (show W0=_ from H0.out.2.2.2)]
 refine (strClone_any s.body W0 (by omega)).mono ?_
 rintro e w1 ⟨rfl,b1⟩
 have P0:=(b1.block _ (lh H0.out.2.1)).trans H0.out.2.1
 have P1:=(b1.block _ (lh H0.out.2.2.1)).trans H0.out.2.2.1
 have c0:w1.cell? ⟨w.heap.size,0,none⟩=some (.int .i64 s.seq):=(cell_of_block P0 0).trans rfl
 have c1:w1.cell? ⟨w.heap.size,1,none⟩=some (.int .i64 s.dst):=(cell_of_block P0 1).trans rfl
 have c2:w1.cell? ⟨w.heap.size,2,none⟩=some (.string s.body):=(cell_of_block P0 2).trans rfl
 have f2:=ub P0 2
 have d0:w1.cell? ⟨w.heap.size+1,0,none⟩=some (.int .i64 0):=(cell_of_block P1 0).trans rfl
 have d1:w1.cell? ⟨w.heap.size+1,1,none⟩=some (.int .i64 0):=(cell_of_block P1 1).trans rfl
 have d2:w1.cell? ⟨w.heap.size+1,2,none⟩=some (.string ⟨#[]⟩):=(cell_of_block P1 2).trans rfl
 have g0:=ub P1 0
 have g1:=ub P1 1
 have g2:=ub P1 2
 have HB:=(show Hid (_∧True) from ⟨H0.out.1.trans (b1.mono (by omega)),trivial⟩)
 clear P0 P1 b1 H0
 go_wp2
 refine bodyPost_ret (v:=.agg #[.int .i64 s.seq,.int .i64 s.dst,.string s.body]) (by simp [results,Tryz.results132,go_sem,d0,d1,d2]) rfl ⟨rfl,?_⟩
 exact (((HB.out.1.setCell (p:=⟨w.heap.size,2,none⟩) (by simp) _).setCell (p:=⟨w.heap.size+1,0,none⟩) (by simp) _).setCell (p:=⟨w.heap.size+1,1,none⟩) (by simp) _).setCell (p:=⟨w.heap.size+1,2,none⟩) (by simp) _
set_option maxHeartbeats 1600000 in
theorem copyEachSent_any (v:Value) (es:List Sn) (S:Nat→Prop) (w:World) (h:SentsAt w S v es) (hb:bulkO es≤1048576) :
  Calls Tryz.prog 131 #[v,.func (.func 132) #[] #[]] w fun e w'=>∃ v',e = .returned v'∧SnOwn w' w.heap.size v' es∧Below w.heap.size w w':=by
 have hlen:es.length≤bulkO es:=Nat.le_add_right _ _
 have hBA:=@bulkO_at es
 have hc:=cloneSent_any v es S w h (by omega)
 obtain ⟨a,cap,rfl⟩:=h.form
 have HC:=(show Hid (_∧True) from ⟨hc,trivial⟩)
 clear hc h
 go_enter Tryz.func131,Tryz.ntmps131
 go_wp2_with fail
 refine HC.out.1.mono ?_
 rintro e w1 ⟨v1,rfl,O1,b1⟩
 obtain ⟨a1,c1,rfl⟩:=own_form O1.1
 have H1:=(show Hid (_∧_) from ⟨O1,b1⟩)
 clear HC O1 b1
 go_wp2
 go_loopw [12] (fun i wr=>∃ k:Nat,k≤es.length∧i = .int .i64 k∧SnOwn wr w.heap.size (.slice a1 es.length c1) es∧Below w.heap.size w wr) (fun i _=>es.length - (intOf i).toNat)
 case atStart=>exact ⟨0,Nat.zero_le _,rfl,H1.out.1,H1.out.2⟩
 case round =>
  clear H1
  obtain ⟨k,hk,rfl,hO,hbw⟩:=hrel
  have hsz:=hbw.size
  by_cases hkl:k<es.length
  ·have he:=List.getElem?_eq_getElem hkl
   have hbk:=hBA he
   generalize es[k]=x at *
   obtain ⟨g,gc,hg⟩:=own_some hO.1 (by omega)
   simp only [Value.slice.injEq,true_and] at hg
   obtain ⟨rfl,rfl⟩:=hg
   have hx:∀ r u,r<3→(snCells x)[r]? = some u→(es.flatMap snCells)[k * 3+r]? = some u:=fun r u hr hu=>by
    have hsp:es=es.take k ++ x :: es.drop (k+1):=by
     conv=>lhs; rw [← List.take_append_drop k es,List.drop_eq_getElem_cons hkl,(List.getElem?_eq_some_iff.1 he).2]
    have hm:=sn_mid (es.take k) (es.drop (k+1)) x r hr
    rw [← hsp,List.length_take,Nat.min_eq_left (by omega)] at hm
    exact hm.trans hu
   have x0:=hx 0 _ (by omega) rfl
   have x1:=hx 1 _ (by omega) rfl
   have x2:=hx 2 _ (by omega) rfl
   rw [Nat.add_zero] at x0
   have hgl:=own_lt hO.1 g rfl
   have c0:wr.cell? ⟨g,k * 3,none⟩=some (.int .i64 x.seq):=(hO.1.cellAt _ (by omega)).trans x0
   have c1':wr.cell? ⟨g,k * 3+1,none⟩=some (.int .i64 x.dst):=(hO.1.cellAt _ (by omega)).trans x1
   have c2:wr.cell? ⟨g,k * 3+2,none⟩=some (.string x.body):=(hO.1.cellAt _ (by omega)).trans x2
   have hlt':((k:Nat):Int)<((es.length:Nat):Int):=by omega
   have hbs:x.body.size≤1048576:=by have:=(show x.bulk=x.body.size from rfl); omega
   have HX:=(show Hid (_∧_∧_∧_∧_) from ⟨hO,hbw,x0,x1,x2⟩)
   clear hO hbw hx x0 x1 x2 he hBA
   go_wp2_with fail
   refine (copySent_any x _ hbs).mono ?_
   rintro e w3 ⟨rfl,b3⟩
   have bA:Below wr.heap.size wr w3:=((Below.refl _ wr).alloc (Nat.le_refl _) _).trans (b3.mono (by simp))
   have hO3:=HX.out.1.below bA
   have y0:w3.cell? ⟨g,k * 3,none⟩=some (.int .i64 x.seq):=(bA.cell (p:=⟨g,k * 3,none⟩) hgl).trans c0
   have y1:w3.cell? ⟨g,k * 3+1,none⟩=some (.int .i64 x.dst):=(bA.cell (p:=⟨g,k * 3+1,none⟩) hgl).trans c1'
   have y2:w3.cell? ⟨g,k * 3+2,none⟩=some (.string x.body):=(bA.cell (p:=⟨g,k * 3+2,none⟩) hgl).trans c2
   have f0:=rowFrozenC hO3.1 (k * 3)
   have f1:=rowFrozenC hO3.1 (k * 3+1)
   have f2:=rowFrozenC hO3.1 (k * 3+2)
   have s1:=(hO3.1.stored (k * 3) (.int .i64 x.seq)).1
   rw [set_sameV HX.out.2.2.1] at s1
   have s2:=(s1.stored (k * 3+1) (.int .i64 x.dst)).1
   rw [set_sameV HX.out.2.2.2.1] at s2
   have s3:=(s2.stored (k * 3+2) (.string x.body)).1
   rw [set_sameV HX.out.2.2.2.2] at s3
   have B3:Below w.heap.size w w3:=HX.out.2.1.trans (bA.mono hsz)
   have hgw:w.heap.size≤g:=(own_type HX.out.1.1 g rfl).1
   have HF:=(show Hid (_∧_) from ⟨(⟨s3,HX.out.1.2⟩:SnOwn _ w.heap.size (.slice (some ⟨g,0,none⟩) es.length c1) es),((B3.setCell (p:=⟨g,k * 3,none⟩) hgw (.int .i64 x.seq)).setCell (p:=⟨g,k * 3+1,none⟩) hgw (.int .i64 x.dst)).setCell (p:=⟨g,k * 3+2,none⟩) hgw (.string x.body)⟩)
   clear s1 s2 s3 B3 hO3 bA b3 c0 c1' c2
   go_wp2
   refine ⟨⟨k+1,by omega,by go_num,HF.out.1,HF.out.2⟩,by simp [intOf]; omega⟩
  ·obtain rfl:k=es.length:=by omega
   have HF:=(show Hid (_∧_) from ⟨hO,hbw⟩)
   clear hO hbw
   go_wp2
   go_ret
   exact ⟨_,rfl,HF.out.1,HF.out.2⟩
set_option maxHeartbeats 800000 in
theorem copySeen_any (kv:Value) (x:Se) (S:Nat→Prop) (w:World) (hk:IntsAt w S kv x.ids) (hb:x.bulk≤1048576) :
  Calls Tryz.prog 134 #[.agg #[.int .i64 x.low,kv]] w fun e w'=>∃ kv',e = .returned (.agg #[.int .i64 x.low,kv'])∧w'.ownsRow w.heap.size 3 1 kv' x.ids.length (intVs x.ids)∧Below w.heap.size w w':=by
 have hbe:=(show x.bulk=x.ids.length from rfl)
 obtain ⟨ka,kc,rfl⟩:=hk.form
 obtain ⟨W0,hW0⟩:∃ W0,W0=(w.alloc (.cells #[.int .i64 x.low,.slice ka x.ids.length kc] 147)).alloc (.cells #[.int .i64 0,.slice none 0 0] 147):=⟨_,rfl⟩
 have B0:Below w.heap.size w W0:=by rw [hW0]; exact ((Below.refl _ w).alloc (Nat.le_refl _) _).alloc (by simp) _
 have O0:W0.heap[w.heap.size]? = some (.cells #[.int .i64 x.low,.slice ka x.ids.length kc] 147):=by
  rw [hW0,Below.heap_alloc _ _ _ (by simp)]; exact (MapKept.heap_alloc w _).1
 have O1:W0.heap[w.heap.size+1]? = some (.cells #[.int .i64 0,.slice none 0 0] 147):=by
  have:=(MapKept.heap_alloc (w.alloc (.cells #[.int .i64 x.low,.slice ka x.ids.length kc] 147)) (.cells #[.int .i64 0,.slice none 0 0] 147)).1
  rw [hW0]
  simpa using this
 have hs0:w.heap.size+2≤W0.heap.size:=lh O1
 have H0:=(show Hid (_∧_∧_∧_∧_) from ⟨B0,O0,O1,cloneInt_any _ x.ids S W0 (hk.below B0) (by omega),hW0⟩)
 clear B0 O0 O1 hW0 hk
 go_enter Tryz.func134,Tryz.ntmps134
 go_wp2_with fail
 rw [← (show W0=_ from H0.out.2.2.2.2)]
 refine H0.out.2.2.2.1.mono ?_
 rintro e w1 ⟨v1,rfl,R1,b1⟩
 obtain ⟨va,vc,rfl⟩:=own_form R1
 have P0:=(b1.block _ (lh H0.out.2.1)).trans H0.out.2.1
 have P1:=(b1.block _ (lh H0.out.2.2.1)).trans H0.out.2.2.1
 have c0:w1.cell? ⟨w.heap.size,0,none⟩=some (.int .i64 x.low):=(cell_of_block P0 0).trans rfl
 have c1:w1.cell? ⟨w.heap.size,1,none⟩=some (.slice ka x.ids.length kc):=(cell_of_block P0 1).trans rfl
 have f1:=ub P0 1
 have d0:w1.cell? ⟨w.heap.size+1,0,none⟩=some (.int .i64 0):=(cell_of_block P1 0).trans rfl
 have d1:w1.cell? ⟨w.heap.size+1,1,none⟩=some (.slice none 0 0):=(cell_of_block P1 1).trans rfl
 have g0:=ub P1 0
 have g1:=ub P1 1
 have HB:=(show Hid (_∧_) from ⟨H0.out.1.trans (b1.mono (by omega)),R1⟩)
 clear P0 P1 b1 H0 R1
 go_wp2
 refine bodyPost_ret (v:=.agg #[.int .i64 x.low,.slice va x.ids.length vc]) (by simp [results,Tryz.results134,go_sem,d0,d1]) rfl ⟨_,rfl,?_,?_⟩
 ·have hR:=HB.out.2
  refine own_mono (own_moved hR (fun b hb => ?_)) (by omega)
  have:=(own_type hR b hb).1
  rw [Below.heap_setCell _ _ _ _ (by simp; omega),Below.heap_setCell _ _ _ _ (by simp; omega),Below.heap_setCell _ _ _ _ (by simp; omega)]
 ·exact ((HB.out.1.setCell (p:=⟨w.heap.size,1,none⟩) (by simp) _).setCell (p:=⟨w.heap.size+1,0,none⟩) (by simp) _).setCell (p:=⟨w.heap.size+1,1,none⟩) (by simp) _
structure SeHalf (W:World) (B:Nat) (v:Value) (A D:List (Se×Value)):Prop where
 row:W.ownsRow B 147 2 v (A ++ D).length ((A ++ D).flatMap seCells)
 kids:∀ r ∈ A,W.ownsRow B 3 1 r.2 r.1.ids.length (intVs r.1.ids)∧SeOk r.1
 apart:(A.map Prod.snd).Pairwise AptV
theorem SeHalf.below {W W':World} {B:Nat} {v:Value} {A D:List (Se×Value)} (h:SeHalf W B v A D) (hb:Below W.heap.size W W'):SeHalf W' B v A D :=
 ⟨own_moved h.row (fun g hg=>hb.block g (own_lt h.row g hg)),fun r hr=>⟨own_moved (h.kids r hr).1 (fun g hg=>hb.block g (own_lt (h.kids r hr).1 g hg)),(h.kids r hr).2⟩,h.apart⟩
theorem se_put (A D:List (Se×Value)) (c c':Se×Value):(((A ++ c :: D).flatMap seCells).set (A.length * 2) (.int .i64 c'.1.low)).set (A.length * 2+1) c'.2=((A ++ [c']) ++ D).flatMap seCells:=by
 rw [List.flatMap_append,List.flatMap_cons,List.append_assoc,List.flatMap_append,List.flatMap_append]
 have hl:=se_len A
 have h0:=List.set_append_right (s:=A.flatMap seCells) (t:=seCells c ++ D.flatMap seCells) (A.length * 2) (.int .i64 c'.1.low) (by omega)
 rw [h0,hl,Nat.sub_self]
 have h1:=List.set_append_right (s:=A.flatMap seCells) (t:=(seCells c ++ D.flatMap seCells).set 0 (.int .i64 c'.1.low)) (A.length * 2+1) c'.2 (by omega)
 rw [h1,hl,show A.length * 2+1 - A.length * 2=1 by omega]
 simp [seCells]
theorem SeHalf.next {wr w3:World} {B g cap:Nat} {A D:List (Se×Value)} {c:Se×Value} {kv:Value} (h:SeHalf wr B (.slice (some ⟨g,0,none⟩) (A ++ c :: D).length cap) A (c :: D)) (hb:Below wr.heap.size wr w3)
  (hk:w3.ownsRow wr.heap.size 3 1 kv c.1.ids.length (intVs c.1.ids)) (hok:SeOk c.1) (hB:B≤wr.heap.size) :
  SeHalf ((w3.setCell ⟨g,A.length * 2,none⟩ (.int .i64 c.1.low)).setCell ⟨g,A.length * 2+1,none⟩ kv) B (.slice (some ⟨g,0,none⟩) (A ++ c :: D).length cap) (A ++ [(c.1,kv)]) D:=by
 have h3:=h.below hb
 have s1:=(h3.row.stored (A.length * 2) (.int .i64 c.1.low)).1
 have s2:=(s1.stored (A.length * 2+1) kv).1
 have e:=se_put A D c (c.1,kv)
 rw [e] at s2
 have hl:(A ++ [(c.1,kv)] ++ D).length=(A ++ c :: D).length:=by simp
 have keep:∀ (n:Nat) (v:Value) (xs:List Value) (B':Nat),w3.ownsRow B' 3 1 v n xs→((w3.setCell ⟨g,A.length * 2,none⟩ (.int .i64 c.1.low)).setCell ⟨g,A.length * 2+1,none⟩ kv).ownsRow B' 3 1 v n xs:=fun n v xs B' ho =>
  own_moved ho (fun k hk=>by
   have hne:k≠g:=fun e=>own_ne ho h3.row (by decide) k hk (by rw [e]; rfl)
   rw [Below.heap_setCell _ _ _ k (by simpa using hne),Below.heap_setCell _ _ _ k (by simpa using hne)])
 refine ⟨by rw [hl]; exact s2,fun r hr => ?_,?_⟩
 ·rw [List.mem_append,List.mem_singleton] at hr
  rcases hr with hr | rfl
  ·exact ⟨keep _ _ _ _ (h3.kids r hr).1,(h3.kids r hr).2⟩
  ·exact ⟨own_mono (keep _ _ _ _ hk) hB,hok⟩
 ·rw [List.map_append,List.pairwise_append]
  refine ⟨h.apart,by simp,fun u hu v hv => ?_⟩
  obtain ⟨r,hr,rfl⟩:=List.mem_map.1 hu
  simp at hv
  subst hv
  cases hb':r.2.ownBlock with
  | none=>exact .inl hb'
  | some q =>
   refine .inr fun e => ?_
   have h2:=own_lt (h.kids r hr).1 q hb'
   have h4:=(own_type hk q (e.symm.trans hb')).1
   omega
set_option maxHeartbeats 1600000 in
theorem copyEachSeen_any (v:Value) (es:List Se) (S:Nat→Prop) (w:World) (h:SeensAt w S v es) (hb:bulkN es≤1048576) :
  Calls Tryz.prog 133 #[v,.func (.func 134) #[] #[]] w fun e w'=>∃ v' rs,e = .returned v'∧SeOwn w' w.heap.size v' rs∧rs.map Prod.fst=es∧Below w.heap.size w w':=by
 have hlen:es.length≤bulkN es:=Nat.le_add_right _ _
 have hBA:=@bulkN_at es
 obtain ⟨ds,hds,hkids,a,cap,rfl,hn,hc⟩:=seens_rows h
 have hdl:ds.length=es.length:=by rw [← hds]; simp
 have hone:∀ r ∈ ds,r.2.oneCell'=true:=fun r hr=>by obtain ⟨ka,kc,hk⟩:=(hkids r hr).2.form; rw [hk]; rfl
 have hC:=cloneSeen_any a cap ds w hn hc hone (by omega)
 have HC:=(show Hid (_∧_∧_) from ⟨hC,hds,hkids⟩)
 have hdb:ds.length≤1048576:=by omega
 clear hC h hn hc hone hkids hds hdl
 go_enter Tryz.func133,Tryz.ntmps133
 go_wp2_with fail
 refine HC.out.1.mono ?_
 rintro e w1 ⟨v1,rfl,O1,b1⟩
 obtain ⟨a1,c1,rfl⟩:=own_form O1
 have H1:=(show Hid (_∧_) from ⟨O1,b1⟩)
 clear O1 b1
 go_wp2
 go_loopw [12] (fun i wr=>∃ (k:Nat) (A:List (Se×Value)),k≤ds.length∧i = .int .i64 k∧A.length=k∧A.map Prod.fst=(ds.take k).map Prod.fst∧SeHalf wr w.heap.size (.slice a1 ds.length c1) A (ds.drop k)∧Below w.heap.size w wr) (fun i _=>ds.length - (intOf i).toNat)
 case atStart=>exact ⟨0,[],Nat.zero_le _,rfl,rfl,by simp,⟨H1.out.1,fun r hr=>by simp at hr,by simp⟩,H1.out.2⟩
 case round =>
  clear H1
  obtain ⟨k,A,hk,rfl,hAl,hAm,hO,hbw⟩:=hrel
  have hsz:=hbw.size
  by_cases hkl:k<ds.length
  ·have he:=List.getElem?_eq_getElem hkl
   have hdr:=List.drop_eq_getElem_cons hkl
   have htk:ds.take (k+1)=ds.take k ++ [ds[k]]:=List.take_succ_eq_append_getElem hkl
   generalize ds[k]=x at *
   rw [hdr] at hO
   have hAD:(A ++ x :: ds.drop (k+1)).length=ds.length:=by simp [hAl]; omega
   have hrow:=hO.row
   rw [hAD] at hrow
   obtain ⟨g,gc,hg⟩:=own_some hrow (by omega)
   simp only [Value.slice.injEq,true_and] at hg
   obtain ⟨rfl,rfl⟩:=hg
   have hxk:=HC.out.2.2 x (List.mem_of_getElem? he)
   have hbx:x.1.bulk≤1048576:=by
    have hxe:es[k]? = some x.1:=by rw [← HC.out.2.1,List.getElem?_map,he]; rfl
    have:=hBA hxe
    omega
   obtain ⟨xl,xv⟩:=x
   have hxk:inI64 xl.low∧IntsAt w S xv xl.ids:=hxk
   have hbx:xl.bulk≤1048576:=hbx
   obtain ⟨ka,kc,rfl⟩:=hxk.2.form
   have hgl:=own_lt hrow g rfl
   have c0:wr.cell? ⟨g,k * 2,none⟩=some (.int .i64 xl.low):=by
    have:=se_mid A (ds.drop (k+1)) xl (.slice ka xl.ids.length kc) 0 (by omega)
    rw [hAl,Nat.add_zero] at this
    exact (hrow.cellAt _ (by omega)).trans this
   have c1':wr.cell? ⟨g,k * 2+1,none⟩=some (.slice ka xl.ids.length kc):=by
    have:=se_mid A (ds.drop (k+1)) xl (.slice ka xl.ids.length kc) 1 (by omega)
    rw [hAl] at this
    exact (hrow.cellAt _ (by omega)).trans this
   have hlt':((k:Nat):Int)<((ds.length:Nat):Int):=by omega
   have hcs:=fun (wx:World) (hx:Below w.heap.size w wx)=>copySeen_any (.slice ka xl.ids.length kc) xl S wx (hxk.2.below hx) hbx
   have hokx:SeOk xl:=⟨hxk.1,fun z hz=>by
    obtain ⟨a',c',_,_,hi⟩:=hxk.2
    obtain ⟨j,hj⟩:=List.getElem?_of_mem hz
    obtain ⟨_,_,_,_,_,_,h64⟩:=hi j z hj
    exact h64⟩
   have HX:=(show Hid (_∧_∧_∧_∧_∧_∧_∧_) from ⟨hO,hbw,hcs,hAl,hAm,htk,hAD,hokx⟩)
   clear hO hbw hcs hAl hAm htk he hdr hxk hrow hokx
   go_wp2_with fail
   refine (HX.out.2.2.1 _ (HX.out.2.1.alloc hsz _)).mono ?_
   rintro e w3 ⟨kv',rfl,R3,b3⟩
   obtain ⟨ka',kc',rfl⟩:=own_form R3
   have bA:Below wr.heap.size wr w3:=((Below.refl _ wr).alloc (Nat.le_refl _) _).trans (b3.mono (by simp))
   have R3':=own_mono (B':=wr.heap.size) R3 (by simp)
   have hO2:=HX.out.1
   rw [← HX.out.2.2.2.2.2.2.1] at hO2
   have hN:=SeHalf.next hO2 bA R3' HX.out.2.2.2.2.2.2.2 hsz
   rw [HX.out.2.2.2.2.2.2.1,HX.out.2.2.2.1] at hN
   have hrow3:=(hO2.below bA).row
   have y0:w3.cell? ⟨g,k * 2,none⟩=some (.int .i64 xl.low):=(bA.cell (p:=⟨g,k * 2,none⟩) hgl).trans c0
   have y1:w3.cell? ⟨g,k * 2+1,none⟩=some (.slice ka xl.ids.length kc):=(bA.cell (p:=⟨g,k * 2+1,none⟩) hgl).trans c1'
   have f0:=rowFrozenC hrow3 (k * 2)
   have f1:=rowFrozenC hrow3 (k * 2+1)
   have B3:Below w.heap.size w w3:=HX.out.2.1.trans (bA.mono hsz)
   have hgw:w.heap.size≤g:=(own_type hrow3 g rfl).1
   have HF:=(show Hid (_∧_) from ⟨hN,(B3.setCell (p:=⟨g,k * 2,none⟩) hgw (.int .i64 xl.low)).setCell (p:=⟨g,k * 2+1,none⟩) hgw (.slice ka' xl.ids.length kc')⟩)
   clear hN B3 hrow3 hO2 bA b3 R3 R3' c0 c1'
   go_wp2
   refine ⟨⟨k+1,A ++ [(xl,.slice ka' xl.ids.length kc')],by omega,by go_num,by rw [List.length_append,HX.out.2.2.2.1]; rfl,?_,HF.out.1,HF.out.2⟩,by simp [intOf]; omega⟩
   rw [List.map_append,HX.out.2.2.2.2.1,HX.out.2.2.2.2.2.1,List.map_append]
   rfl
  ·obtain rfl:k=ds.length:=by omega
   rw [List.take_length] at hAm
   rw [List.drop_length] at hO
   have hS:SeOwn wr w.heap.size (.slice a1 ds.length c1) A:=⟨by have:=hO.row; rw [List.append_nil] at this; exact this,hO.kids,hO.apart⟩
   have HF:=(show Hid (_∧_∧_) from ⟨hS,hAm.trans HC.out.2.1,hbw⟩)
   clear hO hbw hS hAm
   go_wp2
   go_ret
   exact ⟨_,A,rfl,HF.out.1,HF.out.2.1,HF.out.2.2⟩
set_option maxHeartbeats 1600000 in
theorem copyLink_any (v:Value) (l:Lk) (S:Nat→Prop) (w:World) (h:LkAt w S v l) (hb:l.bulk≤1048576) :
  Calls Tryz.prog 99 #[v] w fun e w'=>∃ v' ov sv rs,e = .returned v'∧LkOwn w' w.heap.size v' l ov sv rs∧Below w.heap.size w w':=by
 have hfit:inI64 l.id∧inI64 l.next:=by obtain ⟨_,_,_,a,b,_⟩:=h; exact ⟨a,b⟩
 obtain ⟨oa,oc,sa,sc,rfl,h3,h4⟩:=h.form
 clear h
 have hbe:=(show l.bulk=bulkO l.out+bulkN l.seen from rfl)
 obtain ⟨W0,hW0⟩:∃ W0,W0=(w.alloc (.cells (l.row (.slice oa l.out.length oc) (.slice sa l.seen.length sc)) 49)).alloc (.cells #[.int .i64 0,.int .i64 0,.slice none 0 0,.slice none 0 0] 49):=⟨_,rfl⟩
 have B0:Below w.heap.size w W0:=by rw [hW0]; exact ((Below.refl _ w).alloc (Nat.le_refl _) _).alloc (by simp) _
 have O0:W0.heap[w.heap.size]? = some (.cells (l.row (.slice oa l.out.length oc) (.slice sa l.seen.length sc)) 49):=by
  rw [hW0,Below.heap_alloc _ _ _ (by simp)]; exact (MapKept.heap_alloc w _).1
 have O1:W0.heap[w.heap.size+1]? = some (.cells (Lk.row ⟨0,0,[],[]⟩ (.slice none 0 0) (.slice none 0 0)) 49):=by
  have:=(MapKept.heap_alloc (w.alloc (.cells (l.row (.slice oa l.out.length oc) (.slice sa l.seen.length sc)) 49)) (.cells #[.int .i64 0,.int .i64 0,.slice none 0 0,.slice none 0 0] 49)).1
  rw [hW0]
  simpa using this
 have hs0:w.heap.size+2≤W0.heap.size:=lh O1
 have H0:=(show Hid (_∧_∧_∧_∧_∧_∧_) from ⟨h3.below B0,h4,B0,O0,O1,hfit,hW0⟩)
 clear h3 h4 B0 O0 O1 hW0 hfit
 go_enter Tryz.func99,Tryz.ntmps99
 go_wp2_with fail
 rw [← (show W0=_ from H0.out.2.2.2.2.2.2)]
 refine (copyEachSent_any _ l.out S _ H0.out.1 (by omega)).mono ?_
 rintro e w1 ⟨ov,rfl,S1,b1⟩
 obtain ⟨oa1,oc1,rfl⟩:=own_form S1.1
 have hs1:W0.heap.size≤w1.heap.size:=b1.size
 obtain ⟨W1,hW1⟩:∃ W1,W1=w1.setCell ⟨w.heap.size,2,none⟩ (.slice oa1 l.out.length oc1):=⟨_,rfl⟩
 have P0:=(b1.block _ (lh H0.out.2.2.2.1)).trans H0.out.2.2.2.1
 have P1:=(b1.block _ (lh H0.out.2.2.2.2.1)).trans H0.out.2.2.2.2.1
 have Q0:W1.heap[w.heap.size]? = some (.cells (l.row (.slice oa1 l.out.length oc1) (.slice sa l.seen.length sc)) 49):=by
  rw [hW1,block_setCell P0]
  rfl
 have k1:∀ k,k≠w.heap.size→W1.heap[k]? = w1.heap[k]? := fun k hk=>by rw [hW1]; exact Below.heap_setCell _ _ _ k (by simpa using hk)
 have Q1:W1.heap[w.heap.size+1]? = some (.cells (Lk.row ⟨0,0,[],[]⟩ (.slice none 0 0) (.slice none 0 0)) 49):=by rw [k1 _ (by omega)]; exact P1
 have BW1:Below w.heap.size w W1:=by rw [hW1]; exact (H0.out.2.2.1.trans (b1.mono (by omega))).setCell (by simp) _
 have SW1:SnOwn W1 W0.heap.size (.slice oa1 l.out.length oc1) l.out:=S1.moved (fun b hb=>k1 b (by have:=(own_type S1.1 b hb).1; omega))
 have hsW1:w1.heap.size=W1.heap.size:=by rw [hW1]; simp
 have H1:=(show Hid (_∧_∧_∧_∧_∧_∧_) from ⟨H0.out.2.1.below BW1,SW1,BW1,Q0,Q1,H0.out.2.2.2.2.2.1,hW1⟩)
 have hsW1':W0.heap.size≤W1.heap.size:=by omega
 obtain ⟨u0,u1,u2,u3⟩:=lbox P0
 have u2f:=ub P0 2
 clear S1 P0 P1 Q0 Q1 k1 BW1 SW1 hW1 b1 H0
 go_wp2_with fail
 rw [← (show W1=w1.setCell ⟨w.heap.size,2,none⟩ (.slice oa1 l.out.length oc1) from H1.out.2.2.2.2.2.2)]
 clear u0 u1 u2 u3 u2f
 refine (copyEachSeen_any _ l.seen S _ H1.out.1 (by omega)).mono ?_
 rintro e w2 ⟨sv,rs,rfl,S2,his,b2⟩
 have hrl:rs.length=l.seen.length:=by rw [← his]; simp
 obtain ⟨n2,sa2,sc2,hn2,rfl⟩:=own_formN S2.cells
 obtain rfl:n2=l.seen.length:=by omega
 have P0:=(b2.block _ (lh H1.out.2.2.2.1)).trans H1.out.2.2.2.1
 have P1:=(b2.block _ (lh H1.out.2.2.2.2.1)).trans H1.out.2.2.2.2.1
 have hs2:W1.heap.size≤w2.heap.size:=b2.size
 obtain ⟨c10,c11,c12,c13⟩:=lbox P1
 obtain ⟨c20,c21,c22,c23⟩:=lbox P0
 have f10:=ub P1 0
 have f11:=ub P1 1
 have f12:=ub P1 2
 have f13:=ub P1 3
 have f23:=ub P0 3
 have H2:=(show Hid (_∧_∧_∧_∧_) from ⟨S2,his,H1.out.2.1.below b2,H1.out.2.2.1.trans (b2.mono (by omega)),H1.out.2.2.2.2.2.1⟩)
 clear P0 P1 b2 S2 his H1 hrl hn2
 go_wp2
 refine bodyPost_ret (v:=.agg (l.row (.slice oa1 l.out.length oc1) (.slice sa2 l.seen.length sc2))) (by simp [results,Tryz.results99,go_sem,c10,c11,c12,c13]) rfl ⟨_,_,_,rs,rfl,⟨rfl,H2.out.2.2.2.2,?_,?_,H2.out.2.1⟩,?_⟩
 ·have hh:=H2.out.2.2.1
  refine SnOwn.moved (W:=w2) ⟨own_mono hh.1 (by omega),hh.2⟩ (fun b hb => ?_)
  have hb1:=(own_type hh.1 b hb).1
  have e1:∀ (j:Nat) (u:Value) (W:World),(W.setCell ⟨w.heap.size+1,j,none⟩ u).heap[b]? = W.heap[b]? := fun j u W=>Below.heap_setCell W _ u b (by simp; omega)
  have e2:∀ (j:Nat) (u:Value) (W:World),(W.setCell ⟨w.heap.size,j,none⟩ u).heap[b]? = W.heap[b]? := fun j u W=>Below.heap_setCell W _ u b (by simp; omega)
  rw [e1,e1,e1,e1,e2]
 ·have hh:=H2.out.1
  have hm:SeOwn w2 w.heap.size (.slice sa2 l.seen.length sc2) rs:=⟨own_mono hh.cells (by omega),fun r hr=>⟨own_mono (hh.kids r hr).1 (by omega),(hh.kids r hr).2⟩,hh.apart⟩
  refine hm.moved (fun b hb => ?_)
  have hb1:=(hh.own hb).1
  have e1:∀ (j:Nat) (u:Value) (W:World),(W.setCell ⟨w.heap.size+1,j,none⟩ u).heap[b]? = W.heap[b]? := fun j u W=>Below.heap_setCell W _ u b (by simp; omega)
  have e2:∀ (j:Nat) (u:Value) (W:World),(W.setCell ⟨w.heap.size,j,none⟩ u).heap[b]? = W.heap[b]? := fun j u W=>Below.heap_setCell W _ u b (by simp; omega)
  rw [e1,e1,e1,e1,e2]
 ·exact ((((H2.out.2.2.2.1.setCell (p:=⟨w.heap.size,3,none⟩) (by simp) _).setCell (p:=⟨w.heap.size+1,0,none⟩) (by simp) _).setCell (p:=⟨w.heap.size+1,1,none⟩) (by simp) _).setCell (p:=⟨w.heap.size+1,2,none⟩) (by simp) _).setCell (p:=⟨w.heap.size+1,3,none⟩) (by simp) _
end Go.Proofs.YtmmadoabejgffaaGreatDoor
