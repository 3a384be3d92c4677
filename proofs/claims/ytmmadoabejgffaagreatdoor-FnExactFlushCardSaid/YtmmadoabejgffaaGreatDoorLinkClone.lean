/-
  Proofs.
-/
import Derived.Test.YtmmadoabejgffaaGreatDoorCB
import Derived.Test.YtmmadoabejgffaaGreatDoorF
import Derived.Lib.SliceRun
namespace Go.Proofs.YtmmadoabejgffaaGreatDoor
open Go.RowKit Go.Joins
set_option maxRecDepth 100000
theorem made_empty (w:World) (base size:Nat) (e:TypeId) (h:base≤w.heap.size):(w.alloc (.cells #[] e)).ownsRow base e size (.slice (some ⟨w.heap.size,0,none⟩) 0 0) 0 [] :=
 World.ownsRow_made (size:=size) (e:=e) w #[] 0 h (Nat.zero_le _) (by simp)
theorem sn_at {es:List Sn} {j:Nat} {u:Value} (h:(es.flatMap snCells)[j]? = some u):∃ i e r,es[i]? = some e∧r<3∧j=i * 3+r∧(snCells e)[r]? = some u:=by
 have hj:=(List.getElem?_eq_some_iff.1 h).1
 rw [sn_len] at hj
 have hi:j / 3<es.length:=by omega
 have he:=List.getElem?_eq_getElem hi
 refine ⟨j / 3,es[j / 3],j % 3,he,by omega,by omega,?_⟩
 have hsp:es=es.take (j / 3) ++ es[j / 3] :: es.drop (j / 3+1):=by
  conv=>lhs; rw [← List.take_append_drop (j / 3) es,List.drop_eq_getElem_cons hi]
 have hm:=sn_mid (es.take (j / 3)) (es.drop (j / 3+1)) es[j / 3] (j % 3) (by omega)
 rw [← hsp,List.length_take,Nat.min_eq_left (by omega),show j / 3 * 3+j % 3=j by omega] at hm
 exact hm.symm.trans h
theorem se_at {rs:List (Se×Value)} {j:Nat} {u:Value} (h:(rs.flatMap seCells)[j]? = some u):∃ i r q,rs[i]? = some r∧q<2∧j=i * 2+q∧(seCells r)[q]? = some u:=by
 have hj:=(List.getElem?_eq_some_iff.1 h).1
 rw [se_len] at hj
 have hi:j / 2<rs.length:=by omega
 have he:=List.getElem?_eq_getElem hi
 refine ⟨j / 2,rs[j / 2],j % 2,he,by omega,by omega,?_⟩
 have hsp:rs=rs.take (j / 2) ++ (rs[j / 2].1,rs[j / 2].2) :: rs.drop (j / 2+1):=by
  conv=>lhs; rw [← List.take_append_drop (j / 2) rs,List.drop_eq_getElem_cons hi]
 have hm:=se_mid (rs.take (j / 2)) (rs.drop (j / 2+1)) rs[j / 2].1 rs[j / 2].2 (j % 2) (by omega)
 rw [← hsp,List.length_take,Nat.min_eq_left (by omega),show j / 2 * 2+j % 2=j by omega] at hm
 exact hm.symm.trans h
theorem snCells_one (es:List Sn):∀ u ∈ es.flatMap snCells,u.oneCell'=true:=by
 intro u hu
 obtain ⟨s,_,hu⟩:=List.mem_flatMap.1 hu
 simp [snCells] at hu
 rcases hu with rfl | rfl | rfl <;> rfl
set_option maxHeartbeats 800000 in
theorem cloneSent_any (v:Value) (es:List Sn) (S:Nat→Prop) (w:World) (h:SentsAt w S v es) (hb:es.length≤2000000) :
  Calls Tryz.prog 165 #[v] w fun e w'=>∃ v',e = .returned v'∧SnOwn w' w.heap.size v' es∧Below w.heap.size w w':=by
 have qn:∀ (w:World) (a:Option Addr) (n c n' c':Nat),(binOp .eql 46 (.slice a n c) (.slice none n' c')).run Tryz.prog w = .ok (.bool a.isNone) w:=fun w a n c n' c'=>Lib.run_eql_slice_nil w _ _ a n c n' c' Tryz.underlying46
 obtain ⟨i0,hi,hz0,hz1,hz2⟩:=info_parts infoSent
 obtain ⟨a,cap,rfl,hl,hc⟩:=h
 have hok:∀ s ∈ es,SnOk s:=fun s hs=>by
  obtain ⟨i,hi⟩:=List.getElem?_of_mem hs
  obtain ⟨_,_,_,_,_,_,_,_,r⟩:=hc i s hi
  exact r
 cases a with
 | none =>
  obtain rfl:es=[]:=by
   cases es with
   | nil=>rfl
   | cons x es=>obtain ⟨b,off,he,_⟩:=hc 0 x rfl; cases he
  clear hc hok
  go_enter Tryz.func165,Tryz.ntmps165
  go_wp2
  go_ret
  exact ⟨_,rfl,⟨⟨rfl,.inl ⟨rfl,rfl⟩⟩,fun s hs=>by cases hs⟩,Below.refl _ _⟩
 | some ad =>
  have hsrc:∀ j u,(es.flatMap snCells)[j]? = some u→(w.alloc (.cells #[] 93)).cell? (ad.add j)=some u:=fun j u hj=>by
   obtain ⟨i,e,r,he,hr,rfl,hu⟩:=sn_at hj
   obtain ⟨b,off,ha,_,hlt,c0,c1,c2,_⟩:=hc i e he
   cases ha
   rw [addr_addI,World.cell?_of_block (Below.heap_alloc w _ b hlt)]
   have h3:r=0∨r=1∨r=2:=by omega
   rcases h3 with rfl | rfl | rfl
   ·rw [Nat.add_zero]; exact c0.trans hu
   ·rw [← Nat.add_assoc]; exact c1.trans hu
   ·rw [← Nat.add_assoc]; exact c2.trans hu
  have B0:Below w.heap.size w (w.alloc (.cells #[] 93)):=(Below.refl _ w).alloc (Nat.le_refl _) _
  have H0:=(show Hid (_∧_∧_∧_) from ⟨made_empty w w.heap.size 3 93 (Nat.le_refl _),hsrc,B0,hok⟩)
  clear hc hsrc B0 hok
  go_enter Tryz.func165,Tryz.ntmps165
  go_wp2_with (at_builtin; refine wpList_append_own_at _ rfl _ _ 46 rfl w.heap.size 93 i0 (.agg #[.int .i64 0,.int .i64 0,.string ByteArray.empty]) 3 32 Tryz.underlying46 hi hz0 hz1 hz2 rfl (by decide) _ 0 _ rfl H0.out.1 ad es.length cap (es.flatMap snCells) rfl (sn_len es) H0.out.2.1 (snCells_one es) (by unfold maxLen; omega) (by omega) (by simp) ?_; intro v5 w5 hown5 hgrow5 hnil5 hat5; have H5:=(show Hid (_∧_) from ⟨hown5,hgrow5⟩); clear hown5 hgrow5 hnil5 hat5)
  go_ret
  refine ⟨_,rfl,⟨?_,H0.out.2.2.2⟩,Below.grown H0.out.2.2.1 H5.out.2 (hB:=H0.out.2.2.1.size) (hr:=fun b hb=>(own_type H0.out.1 b hb).1)⟩
  have:=H5.out.1
  rw [Nat.zero_add,List.nil_append] at this
  exact this
set_option maxHeartbeats 800000 in
theorem cloneInt_any (v:Value) (ts:List Int) (S:Nat→Prop) (w:World) (h:IntsAt w S v ts) (hb:ts.length≤2000000) :
  Calls Tryz.prog 128 #[v] w fun e w'=>∃ v',e = .returned v'∧w'.ownsRow w.heap.size 3 1 v' ts.length (intVs ts)∧Below w.heap.size w w':=by
 have qn:∀ (w:World) (a:Option Addr) (n c n' c':Nat),(binOp .eql 23 (.slice a n c) (.slice none n' c')).run Tryz.prog w = .ok (.bool a.isNone) w:=fun w a n c n' c'=>Lib.run_eql_slice_nil w _ _ a n c n' c' Tryz.underlying23
 have h':=h
 obtain ⟨a,cap,rfl,hl,hc⟩:=h
 cases a with
 | none =>
  obtain rfl:ts=[]:=by
   cases ts with
   | nil=>rfl
   | cons x ts=>obtain ⟨b,off,he,_⟩:=hc 0 x rfl; cases he
  clear hc
  go_enter Tryz.func128,Tryz.ntmps128
  go_wp2
  go_ret
  exact ⟨_,rfl,⟨rfl,.inl ⟨rfl,rfl⟩⟩,Below.refl _ _⟩
 | some ad =>
  have B0:Below w.heap.size w (w.alloc (.cells #[] 3)):=(Below.refl _ w).alloc (Nat.le_refl _) _
  have H0:=(show Hid (_∧_∧_) from ⟨made_empty w w.heap.size 1 3 (Nat.le_refl _),h'.below B0,B0⟩)
  clear hc h' B0
  go_enter Tryz.func128,Tryz.ntmps128
  go_wp2_with (at_builtin; refine wpList_append_ints rfl _ _ rfl w.heap.size _ 0 [] rfl H0.out.1 _ ts S rfl H0.out.2.1 (by omega) (by simp) ?_; intro v5 w5 hown5 hgrow5 hat5; have H5:=(show Hid (_∧_) from ⟨hown5,hgrow5⟩); clear hown5 hgrow5 hat5)
  go_ret
  refine ⟨_,rfl,?_,Below.grown H0.out.2.2 H5.out.2 (hB:=H0.out.2.2.size) (hr:=fun b hb=>(own_type H0.out.1 b hb).1)⟩
  have:=H5.out.1
  rw [Nat.zero_add,List.nil_append] at this
  exact this
theorem seens_rows {w:World} {S:Nat→Prop} {v:Value} {es:List Se} (h:SeensAt w S v es):∃ ds:List (Se×Value),ds.map Prod.fst=es∧(∀ r ∈ ds,inI64 r.1.low∧IntsAt w S r.2 r.1.ids)∧∃ a cap,v = .slice a ds.length cap∧(a=none→ds=[])∧∀ ad,a=some ad→∀ j u,(ds.flatMap seCells)[j]? = some u→∃ b o,ad.add j=⟨b,o,none⟩∧b<w.heap.size∧w.cell? ⟨b,o,none⟩=some u:=by
 obtain ⟨a,cap,rfl,hl,hc⟩:=h
 have key:∀ i,i<es.length→∃ kv:Value,∃ e,es[i]? = some e∧∃ b off,a=some ⟨b,off,none⟩∧b<w.heap.size∧w.cell? ⟨b,off+i * 2,none⟩=some (.int .i64 e.low)∧w.cell? ⟨b,off+i * 2+1,none⟩=some kv∧inI64 e.low∧IntsAt w S kv e.ids:=fun i hi=>by
  have he:=List.getElem?_eq_getElem hi
  obtain ⟨b,off,kv,ha,_,hlt,c0,c1,r,hk⟩:=hc i _ he
  exact ⟨kv,_,he,b,off,ha,hlt,c0,c1,r,hk⟩
 obtain ⟨f,hf⟩:=Deep.choose_lt key
 refine ⟨(List.range es.length).map (fun i=>(es[i]?.getD ⟨0,[]⟩,f i)),?_,fun r hr => ?_,a,cap,by simp,fun ha => ?_,fun ad ha j u hj => ?_⟩
 ·refine List.ext_getElem? fun i => ?_
  by_cases hi:i<es.length
  ·simp [hi]
  ·rw [List.getElem?_eq_none (by simp; omega),List.getElem?_eq_none (by omega)]
 ·obtain ⟨i,hi,rfl⟩:=List.mem_map.1 hr
  obtain ⟨e,he,b,off,ha,hlt,c0,c1,r,hk⟩:=hf i (List.mem_range.1 hi)
  simp only [he,Option.getD_some]
  exact ⟨r,hk⟩
 ·cases es with
  | nil=>rfl
  | cons x es=>obtain ⟨e,_,b,off,he,_⟩:=hf 0 (by simp); rw [ha] at he; cases he
 ·obtain ⟨i,r,q,hr,hq,rfl,hu⟩:=se_at hj
  rw [List.getElem?_map] at hr
  obtain ⟨i',hi',rfl⟩:=Option.map_eq_some_iff.1 hr
  have hil:i<es.length:=by have:=(List.getElem?_eq_some_iff.1 hi').1; simpa using this
  obtain rfl:i=i':=by rw [List.getElem?_range hil] at hi'; exact Option.some.inj hi'
  obtain ⟨e,he,b,off,ha',hlt,c0,c1,r,hk⟩:=hf i hil
  rw [ha] at ha'
  cases ha'
  simp only [he,Option.getD_some] at hu
  refine ⟨b,off+(i * 2+q),addr_addI _ _ _,hlt,?_⟩
  have h2:q=0∨q=1:=by omega
  rcases h2 with rfl | rfl
  ·rw [Nat.add_zero]; exact c0.trans hu
  ·rw [← Nat.add_assoc]; exact c1.trans hu
set_option maxHeartbeats 800000 in
theorem cloneSeen_any (a:Option Addr) (cap:Nat) (ds:List (Se×Value)) (w:World) (hn:a=none→ds=[]) (hc:∀ ad,a=some ad→∀ j u,(ds.flatMap seCells)[j]? = some u→∃ b o,ad.add j=⟨b,o,none⟩∧b<w.heap.size∧w.cell? ⟨b,o,none⟩=some u) (hone:∀ r ∈ ds,r.2.oneCell'=true) (hb:ds.length≤2000000) :
  Calls Tryz.prog 166 #[.slice a ds.length cap] w fun e w'=>∃ v',e = .returned v'∧w'.ownsRow w.heap.size 147 2 v' ds.length (ds.flatMap seCells)∧Below w.heap.size w w':=by
 have qn:∀ (w:World) (a:Option Addr) (n c n' c':Nat),(binOp .eql 47 (.slice a n c) (.slice none n' c')).run Tryz.prog w = .ok (.bool a.isNone) w:=fun w a n c n' c'=>Lib.run_eql_slice_nil w _ _ a n c n' c' Tryz.underlying47
 obtain ⟨i0,hi,hz0,hz1,hz2⟩:=info_parts infoSeen
 cases a with
 | none =>
  obtain rfl:ds=[]:=hn rfl
  clear hc hn
  go_enter Tryz.func166,Tryz.ntmps166
  go_wp2
  go_ret
  exact ⟨_,rfl,⟨rfl,.inl ⟨rfl,rfl⟩⟩,Below.refl _ _⟩
 | some ad =>
  have hsrc:∀ j u,(ds.flatMap seCells)[j]? = some u→(w.alloc (.cells #[] 147)).cell? (ad.add j)=some u:=fun j u hj=>by
   obtain ⟨b,o,e1,hlt,c0⟩:=hc ad rfl j u hj
   rw [e1,World.cell?_of_block (Below.heap_alloc w _ b hlt)]
   exact c0
  have h1:∀ u ∈ ds.flatMap seCells,u.oneCell'=true:=fun u hu=>by
   obtain ⟨s,hs,hu⟩:=List.mem_flatMap.1 hu
   simp [seCells] at hu
   rcases hu with rfl | rfl
   ·rfl
   ·exact hone s hs
  have B0:Below w.heap.size w (w.alloc (.cells #[] 147)):=(Below.refl _ w).alloc (Nat.le_refl _) _
  have H0:=(show Hid (_∧_∧_∧_) from ⟨made_empty w w.heap.size 2 147 (Nat.le_refl _),hsrc,B0,h1⟩)
  clear hc hsrc B0 h1 hone hn
  go_enter Tryz.func166,Tryz.ntmps166
  go_wp2_with (at_builtin; refine wpList_append_own_at _ rfl _ _ 47 rfl w.heap.size 147 i0 (.agg #[.int .i64 0,.slice none 0 0]) 2 32 Tryz.underlying47 hi hz0 hz1 hz2 rfl (by decide) _ 0 _ rfl H0.out.1 ad ds.length cap (ds.flatMap seCells) rfl (se_len ds) H0.out.2.1 H0.out.2.2.2 (by unfold maxLen; omega) (by omega) (by simp) ?_; intro v5 w5 hown5 hgrow5 hnil5 hat5; have H5:=(show Hid (_∧_) from ⟨hown5,hgrow5⟩); clear hown5 hgrow5 hnil5 hat5)
  go_ret
  refine ⟨_,rfl,?_,Below.grown H0.out.2.2.1 H5.out.2 (hB:=H0.out.2.2.1.size) (hr:=fun b hb=>(own_type H0.out.1 b hb).1)⟩
  have:=H5.out.1
  rw [Nat.zero_add,List.nil_append] at this
  exact this
end Go.Proofs.YtmmadoabejgffaaGreatDoor
