/-
  Proofs.
-/
import Derived.Test.YtljdgmfcgkimoaaGreatDoorJ1
import Derived.Test.YtljdgmfcgkimoaaGreatDoorSpecParse
import Derived.Test.YtljdgmfcgkimoaaGreatDoorProgSet
import Derived.Deep.RegionLawGrows
namespace Go.Proofs.YtljdgmfcgkimoaaGreatDoor
open Go.RowKit Go.Joins Go.Shelf
set_option maxRecDepth 100000
theorem ent_below:∀ args w,(callFunc 25 args).run Tryz.prog w = .ok (.enter 25 args) w:=enters_of Tryz.func25 (by kernel_rfl) rfl
theorem ent_pick:∀ args w,(callFunc 26 args).run Tryz.prog w = .ok (.enter 26 args) w:=enters_of Tryz.func26 (by kernel_rfl) rfl
theorem ent_pickInt:∀ args w,(callFunc 15 args).run Tryz.prog w = .ok (.enter 15 args) w:=enters_of Tryz.func15 (by kernel_rfl) rfl
theorem EV.kn_n {S:Nat→Prop} {w:World} {k n:Int} {t:ByteArray} {kv:Value} (h:EV S w (.agg #[.int .i64 k,.int .i64 n,.string t,kv])):inI64 n:=by
 obtain ⟨d,e,a,hv,h1,h2,h3,h4,h5⟩:=h
 simp only [Value.agg.injEq,Array.mk.injEq,List.cons.injEq,Value.int.injEq,Value.string.injEq,and_true,true_and] at hv
 rw [hv.2.1]; exact h2
theorem EV.kn_k {S:Nat→Prop} {w:World} {k n:Int} {t:ByteArray} {kv:Value} (h:EV S w (.agg #[.int .i64 k,.int .i64 n,.string t,kv])):inI64 k:=by
 obtain ⟨d,e,a,hv,h1,h2,h3,h4,h5⟩:=h
 simp only [Value.agg.injEq,Array.mk.injEq,List.cons.injEq,Value.int.injEq,Value.string.injEq,and_true,true_and] at hv
 rw [hv.1]; exact h1
theorem EV.kn_t {S:Nat→Prop} {w:World} {k n:Int} {t:ByteArray} {kv:Value} (h:EV S w (.agg #[.int .i64 k,.int .i64 n,.string t,kv])):t.size≤maxLen:=by
 obtain ⟨d,e,a,hv,h1,h2,h3,h4,h5⟩:=h
 simp only [Value.agg.injEq,Array.mk.injEq,List.cons.injEq,Value.int.injEq,Value.string.injEq,and_true,true_and] at hv
 rw [hv.2.2.1]; exact h3
theorem EV.kidsRow {S:Nat→Prop} {w:World} {k n:Int} {t:ByteArray} {a:Option Addr} {m:Nat} (h:EV S w (.agg #[.int .i64 k,.int .i64 n,.string t,.slice a m m])) :
  m≤3∧(a=none→m=0)∧∃ us:List Value,us.length=m∧(∀ u ∈ us,∃ d e,ExAt w (fun b=>S b∧Pl w b) d u e)∧(∀ b,a=some b→∀ j u,(us.flatMap cellsE)[j]? = some u→w.cell? (b.add j)=some u):=by
 obtain ⟨d,e,a',hv,h1,h2,h3,h4,h5⟩:=h
 simp only [Value.agg.injEq,Array.mk.injEq,List.cons.injEq,Value.int.injEq,Value.string.injEq,Value.slice.injEq,and_true,true_and] at hv
 obtain ⟨-,-,-,rfl,hm,-⟩:=hv
 rw [← hm] at h4 h5
 refine ⟨h5,fun ha => ?_,kids_row h4⟩
 cases d with
 | zero=>exact absurd h4 id
 | succ d =>
  obtain ⟨a2,c2,hv2,hl,hc⟩:=h4
  simp only [Value.slice.injEq] at hv2
  by_cases h0:0<e.kids.length
  ·obtain ⟨b,off,kv,hb,_⟩:=hc 0 e.kids[0] (List.getElem?_eq_getElem h0)
   rw [← hv2.1,ha] at hb
   cases hb
  ·omega
theorem flat_len {w:World} {T:Nat→Prop}:∀ {us:List Value},(∀ u ∈ us,∃ d e,ExAt w T d u e)→(us.flatMap cellsE).length=us.length * 4
 | [],_=>rfl
 | x :: l,hx=>by
  obtain ⟨d,e,hxx⟩:=hx x (List.mem_cons_self ..)
  rw [List.flatMap_cons,List.length_append,hxx.four,flat_len (fun u hu=>hx u (List.mem_cons_of_mem _ hu)),List.length_cons]
  omega
theorem ex_more {S:Nat→Prop} {w w':World} {us:List Value} {x v':Value} {k n:Int} {t:ByteArray} (hus:∀ u ∈ us,∃ d e,ExAt w (fun b=>S b∧Pl w b) d u e) (hx:EV S w x) (hk:∀ b,S b→b<w.heap.size→w'.heap[b]? = w.heap[b]?) (hs:w.heap.size≤w'.heap.size)
  (own:w'.ownsRow w.heap.size 52 4 v' (us.length+1) (us.flatMap cellsE ++ cellsE x)) (hm:us.length≤3) (h1:inI64 k) (h2:inI64 n) (h3:t.size≤maxLen):∃ d e,ExAt w' (fun b=>(S b∨w.heap.size≤b)∧Pl w' b) d (.agg #[.int .i64 k,.int .i64 n,.string t,v']) e:=by
 have keep:∀ u,(∃ d e,ExAt w (fun b=>S b∧Pl w b) d u e)→∃ d e,ExAt w' (fun b=>(S b∨w.heap.size≤b)∧Pl w' b) d u e:=fun u ⟨d,e,kv,k1,k2,k3,k4,k5⟩=>⟨d,e,kv,k1,k2,k3,k4,k5.kept (fun b hb hlt=>hk b hb.1 hlt) hs (fun b hb hlt=>⟨.inl hb.1,hb.2.of (hk b hb.1 hlt)⟩)⟩
 obtain ⟨g',cap,rfl⟩:=own_some own (by omega)
 obtain ⟨hg1,cs,hg2⟩:=own_type own g' rfl
 have hfl:(us ++ [x]).flatMap cellsE=us.flatMap cellsE ++ cellsE x:=by rw [List.flatMap_append]; simp
 obtain ⟨d,es,e1,e2⟩:=kidsP_of (w:=w') (T:=fun b=>(S b∨w.heap.size≤b)∧Pl w' b) (g:=g') (off:=0) (cap:=cap) (vs:=us ++ [x]) (fun v hv=>by
   rcases List.mem_append.1 hv with hv | hv
   ·exact keep v (hus v hv)
   ·exact keep v ((List.mem_singleton.1 hv) ▸ hx.exAt)) (fun j u hu=>by
   rw [hfl] at hu
   have:=own.cells (g:=g') rfl j u hu
   rw [addr_add] at this
   exact this) (fun _=>⟨⟨.inr hg1,_,_,hg2⟩,lh hg2⟩) (by rw [List.length_append]; unfold maxLen; simp; omega)
 refine ⟨d,.mk k n t es,_,rfl,h1,h2,h3,?_⟩
 rw [List.length_append] at e2
 exact e2
theorem ex_lenE {a:Option Addr} {n c:Nat} (e:Operand→Value) (o:Oper) (x:Operand) (ho:o.op = .call { callee:=.builtin .len,args:=#[x],argTypes:=#[25] }) (hx:e x = .slice a n c) (w:World):(execOp e o).run Tryz.prog w = .ok (.value (.int .i64 n)) w:=by
 obtain ⟨d,op,t,ps,af,g⟩:=o
 cases ho
 simp [hx,go_sem,run_len_slice (P:=Tryz.prog) (w:=w) (t:=25) (ty:=t) (base:=a) (n:=n) (c:=c) (by kernel_rfl)]
theorem unfrozen_own {w:World} {B n size:Nat} {e:TypeId} {v:Value} {xs:List Value} (h:w.ownsRow B e size v n xs) (g:Nat) (hg:v.ownBlock=some g):∀ k,w.frozen? ⟨g,k,none⟩=false:=fun k=>by
 obtain ⟨_,cs,hc⟩:=own_type h g hg
 exact unfrozen_of_block hc k
theorem last_cells {W:World} {B gk n n1 kc m:Nat} {e:TypeId} {A:List Value} {a b c d:Value} (h:W.ownsRow B e 4 (.slice (some ⟨gk,0,none⟩) n1 kc) m (A ++ [a,b,c,d])) (hA:A.length=n * 4) :
  W.cell? ⟨gk,n * 4,none⟩=some a∧W.cell? ⟨gk,n * 4+1,none⟩=some b∧W.cell? ⟨gk,n * 4+2,none⟩=some c∧W.cell? ⟨gk,n * 4+3,none⟩=some d:=by
 have key:∀ j u,[a,b,c,d][j]? = some u→W.cell? ⟨gk,n * 4+j,none⟩=some u:=fun j u hu=>by
  have:=h.cells (g:=gk) rfl (n * 4+j) u (by rw [List.getElem?_append_right (by omega),hA,Nat.add_sub_cancel_left]; exact hu)
  rw [addr_add,Nat.zero_add] at this
  exact this
 exact ⟨key 0 _ rfl,key 1 _ rfl,key 2 _ rfl,key 3 _ rfl⟩
theorem own_last {W:World} {B gk n n1 kc:Nat} {e:TypeId} {A:List Value} {a b c d a' b' c' d':Value} (h:W.ownsRow B e 4 (.slice (some ⟨gk,0,none⟩) n1 kc) n1 (A ++ [a,b,c,d])) (hA:A.length=n * 4) :
  ((((W.setCell ⟨gk,n * 4,none⟩ a').setCell ⟨gk,n * 4+1,none⟩ b').setCell ⟨gk,n * 4+2,none⟩ c').setCell ⟨gk,n * 4+3,none⟩ d').ownsRow B e 4 (.slice (some ⟨gk,0,none⟩) n1 kc) n1 (A ++ [a',b',c',d']) ∧
   W.grownBy ((((W.setCell ⟨gk,n * 4,none⟩ a').setCell ⟨gk,n * 4+1,none⟩ b').setCell ⟨gk,n * 4+2,none⟩ c').setCell ⟨gk,n * 4+3,none⟩ d') (some gk):=by
 have s1:=h.stored (n * 4) a'
 have s2:=s1.1.stored (n * 4+1) b'
 have s3:=s2.1.stored (n * 4+2) c'
 have s4:=s3.1.stored (n * 4+3) d'
 refine ⟨?_,((s1.2.trans s2.2).trans s3.2).trans s4.2⟩
 have hl:((((A ++ [a,b,c,d]).set (n * 4) a').set (n * 4+1) b').set (n * 4+2) c').set (n * 4+3) d'=A ++ [a',b',c',d']:=by
  rw [← hA]
  simp [List.set_append_right]
 rw [hl] at s4
 exact s4.1
theorem wideE {S S':Nat→Prop} {w:World} {u:Value} (h:∃ d e,ExAt w (fun b=>S b∧Pl w b) d u e) (hS:∀ b,S b→S' b):∃ d e,ExAt w (fun b=>S' b∧Pl w b) d u e:=by
 obtain ⟨d,e,kv,k1,k2,k3,k4,k5⟩:=h
 exact ⟨d,e,kv,k1,k2,k3,k4,k5.kept (fun _ _ _=>rfl) (Nat.le_refl _) (fun b hb _=>⟨hS b hb.1,hb.2⟩)⟩
theorem ex_build01 {n:Int} (e:Operand→Value) (o:Oper) {x:Operand} (ho:o.op = .build 52 #[(0,.const (.int .i64 1)),(1,x)]) (hx:e x = .int .i64 n) (w:World) (hc:e (.const (.int .i64 1)) = .int .i64 1:=by rfl):(execOp e o).run Tryz.prog w = .ok (.value (.agg #[.int .i64 1,.int .i64 n,.string ⟨#[]⟩,.slice none 0 0])) w:=by
 unfold execOp
 rw [ho]
 simp only [List.map_toArray,List.map_cons,List.map_nil,hx,hc,Sem.run_bind,show (Instr.build 52 #[(0,.int .i64 1),(1,.int .i64 n)]).run Tryz.prog w = .ok (.agg #[.int .i64 1,.int .i64 n,.string ⟨#[]⟩,.slice none 0 0]) w from by kernel_rfl,Result.andThen_ok,Sem.run_pure]
set_option maxHeartbeats 25600000 in
theorem l02program_dr (B0 g:Nat) (V:Value) (len:Nat) (w:World) (h:Dr B0 w g V len) :
  Calls Tryz.prog 14 #[.pointer (some ⟨g,0,none⟩)] w fun e w'=>∃ v,e = .returned v∧(∃ nv bv,v = .agg #[nv,bv])∧PO B0 g V len w w' v:=by
 have HW:=(show Hid (g<w.heap.size∧B0≤w.heap.size) from ⟨h.glt,h.2.2⟩)
 obtain ⟨W1,hW1⟩:∃ W1,W1=w.alloc (.cells #[.slice none 0 0,.slice none 0 0] 27):=⟨_,rfl⟩
 have b1:Below w.heap.size w W1:=by rw [hW1]; exact (Below.refl _ w).alloc (Nat.le_refl _) _
 have z1:W1.heap.size=w.heap.size+1:=by rw [hW1]; simp
 have x1:W1.heap[w.heap.size]? = some (.cells #[.slice none 0 0,.slice none 0 0] 27):=by rw [hW1]; exact block_new w _
 have H1:=(show Hid (_∧_∧_∧_) from ⟨b1,z1,x1,h.below b1⟩)
 clear b1 z1 x1 h
 go_enter Tryz.func14,Tryz.ntmps14
 go_upto_region 1 with fail
 rw [← hW1]
 clear hW1
 go_wp2_with fail
 refine (program_dr B0 g V len W1 H1.out.2.2.2).mono ?_
 rintro e W2 ⟨t,rfl,ht,d2,g2⟩
 have HT:=(show Hid (_∧_∧_) from ⟨ht,d2,g2⟩)
 clear ht d2 g2
 go_wp2_with fail
 refine (parse_any t W2 (by have:=HT.out.1; omega)).mono ?_
 rintro e W3 ⟨nv,bv,z,rfl,⟨ns,vs,pg3,hl,hv⟩,b3⟩
 obtain ⟨nn,an,cn,hnn,rfl⟩:=own_formN pg3.names
 obtain ⟨nb,ab,cb,hnb,rfl⟩:=own_formN pg3.bodies
 have H3:=(show Hid (PgAt W3 W2.heap.size (.slice an nn cn) (.slice ab nb cb) ns vs∧Below W2.heap.size W2 W3) from ⟨pg3,b3⟩)
 have HS:=(show Hid (ns.length≤2001∧vs.length=ns.length∧nb=vs.length∧nn=ns.length∧nb=vs.length) from ⟨hl,hv,hnb,hnn,hnb⟩)
 clear pg3 b3 hl hv hnb hnn
 go_upto_region 2 with fail
 obtain ⟨W4,e4⟩:∃ W4,W4=W3.alloc (.cells #[.slice an nn cn,.slice ab nb cb] 27):=⟨_,rfl⟩
 have x4:W4.heap[W3.heap.size]? = some (.cells #[.slice an nn cn,.slice ab nb cb] 27):=by rw [e4]; exact block_new _ _
 have b4:Below W3.heap.size W3 W4:=by rw [e4]; exact (Below.refl _ _).alloc (Nat.le_refl _) _
 rw [← e4]
 clear e4
 have hs12:w.heap.size<W2.heap.size:=by have h1:=H1.out.2.1; have h2:=HT.out.2.2.size; omega
 have HX:=(show Hid (LF B0 g w W2.heap.size W3.heap.size) from ⟨HW.out.1,hs12,H3.out.2.size,HW.out.2⟩)
 have l4:LP B0 g V len w W2.heap.size W3.heap.size W4 (.slice an nn cn) (.slice ab nb cb) ns vs:=⟨(HT.out.2.1.below H3.out.2).below b4,(((grown_of_below' H1.out.1).trans HT.out.2.2).trans (grown_of_below' H3.out.2)).trans (grown_of_below' b4),(b4.block _ (by have:=H3.out.2.size; omega)).trans ((H3.out.2.block _ hs12).trans ((HT.out.2.2.block _ (lh H1.out.2.2.1) (fun e=>by have h1:=HW.out.1; cases e; omega)).trans H1.out.2.2.1)),x4,H3.out.1.kb (fun b hB hlt=>b4.block b hlt) b4.size⟩
 have HL:=(show Hid (LP B0 g V len w W2.heap.size W3.heap.size W4 (.slice an nn cn) (.slice ab nb cb) ns vs) from l4)
 clear l4 hs12 x4 b4 H3 HT H1 HW
 generalize W2.heap.size=B at HX HL
 generalize W3.heap.size=q3 at HX HL ⊢
 obtain ⟨y0,y1⟩:=HL.out.cells
 by_cases hb0:nb=0
 ·have hz:(((nb:Nat):Int) == 0)=true:=by simp [hb0]
  clear hb0 y0 y1
  have HN:=(show Hid (Dr B0 W4 g V len∧w.grownBy W4 (some g)∧W4.heap[w.heap.size]? = some (.cells #[.slice none 0 0,.slice none 0 0] 27)∧W4.heap[q3]? = some (.cells #[.slice an nn cn,.slice ab nb cb] 27)) from ⟨HL.out.dr,HL.out.gr,HL.out.box2,HL.out.box3⟩)
  have HP:=(show Hid (PgX W4 B (.slice an nn cn) (.slice ab nb cb) (ns) (vs)) from HL.out.pg.x)
  have f0:=ubk HN.out.2.2.1 0
  have f1:=ubk HN.out.2.2.1 1
  have d0:=cbk HN.out.2.2.1 0 (.slice none 0 0) rfl
  have d1:=cbk HN.out.2.2.1 1 (.slice none 0 0) rfl
  have y0:=cbk HN.out.2.2.2 0 (.slice an nn cn) rfl
  have y1:=cbk HN.out.2.2.2 1 (.slice ab nb cb) rfl
  go_wp2
  refine bodyPost_ret (v:=.agg #[.slice an nn cn,.slice ab nb cb]) (by simp [results,Tryz.results14,go_sem,d0,d1]) rfl ?_
  exact ⟨_,rfl,⟨_,_,rfl⟩,HX.out.fin HN.out.1 HN.out.2.1 HP.out (by first | exact HS.out.1 | (rw [List.length_set]; exact HS.out.1)) (by have h1:=HS.out.1; have h2:=HS.out.2.1; first | omega | (rw [List.length_set]; omega))⟩
 ·have hz:(((nb:Nat):Int) == 0)=false:=by simp [hb0]
  go_wp2_with fail
  refine (below_dr B0 g V len (nb:Int) W4 (by omega) (by have:=HS.out; omega) HL.out.dr).mono ?_
  rintro e W5 ⟨x,rfl,x0,x1,d5,g5⟩
  obtain ⟨i,rfl⟩:∃ i:Nat,x=(i:Int):=⟨x.toNat,by omega⟩
  have HI:=(show Hid (i<nb) from by show i<nb; omega)
  have HL5:=(show Hid (LP B0 g V len w B q3 W5 (.slice an nn cn) (.slice ab nb cb) ns vs) from HL.out.step HX.out d5 g5)
  clear x0 x1 d5 g5 hz hb0 HL y0 y1
  go_wp2_with fail
  refine (below_dr B0 g V len 16 W5 (by omega) (by omega) HL5.out.dr).mono ?_
  rintro e W6 ⟨y,rfl,x0,x1,d6,g6⟩
  have HL:=(show Hid (LP B0 g V len w B q3 W6 (.slice an nn cn) (.slice ab nb cb) ns vs) from HL5.out.step HX.out d6 g6)
  clear d6 g6 HL5
  have hy:y=0∨y=1∨y=2∨y=3∨y=4∨((y == 0)=false∧(y == 1)=false∧(y == 2)=false∧(y == 3)=false∧(y == 4)=false):=by simp only [beq_eq_false_iff_ne]; omega
  clear x0 x1
  rcases hy with rfl | rfl | rfl | rfl | rfl | ⟨k0,k1,k2,k3,k4⟩
  ·obtain ⟨gn,cn',hgn⟩:=own_some HL.out.pg.names (by have h1:=HI.out; have h2:=HS.out; omega)
   simp only [Value.slice.injEq] at hgn
   obtain ⟨rfl,-,-⟩:=hgn
   go_upto_region 7 with fail
   rename_i KA hKA
   have X:=HX.out
   refine wp_region_held_drew (S:=fun Wq=>Wq.cell? ⟨q3,0,none⟩=some (.slice (some ⟨gn,0,none⟩) nn cn)) (by kernel_rfl) (HL.out.cells.1) (fun hS => ?_)
   have bd0:Below W6.heap.size W6 W6.drew:=⟨rfl,rfl,rfl,Nat.le_refl _,fun _ _=>rfl⟩
   generalize W6.drew=W7 at bd0 hS ⊢
   have h7:=HL.out.below X bd0
   have hi':((i:Nat):Int)<(nn:Int):=by have h1:=HI.out; have h2:=HS.out; omega
   have hbn:=HL.out.nne (b:=gn) rfl
   refine wpAnyH_take (i:=0) (v:=.pointer (some ⟨q3,0,none⟩)) rfl (by kernel_rfl) (by kernel_rfl) (by kernel_rfl) (fun _ _ _ h=>h) (Or.inl ⟨by rfl,fun wq hSw => ?_⟩) hS ?_
   ·simp [execOp,Act.eval,go_sem]
   simp only [Act.put,lsk]
   refine wpAnyH_take (i:=1) (v:=.slice (some ⟨gn,0,none⟩) nn cn) rfl (by kernel_rfl) (by kernel_rfl) (by kernel_rfl) (fun _ _ _ h=>h) (Or.inl ⟨by rfl,fun wq hSw => ?_⟩) hS ?_
   ·simp [execOp,Act.eval,go_sem,hSw]
   simp only [Act.put,lsk]
   refine wpAnyH_take (i:=2) (v:=.int .i64 (i:Int)) rfl (by kernel_rfl) (by kernel_rfl) (by kernel_rfl) (fun _ _ _ h=>h) (Or.inl ⟨by rfl,fun wq hSw => ?_⟩) hS ?_
   ·exact ex_move _ _ _ _ rfl (by rfl) _
   simp only [Act.put,lsk]
   refine wpAnyH_take (i:=3) (v:=.pointer (some ⟨g,0,none⟩)) rfl (by kernel_rfl) (by kernel_rfl) (by kernel_rfl) (fun _ _ _ h=>h) (Or.inl ⟨by rfl,fun wq hSw => ?_⟩) hS ?_
   ·exact ex_move _ _ _ _ rfl (by rfl) _
   simp only [Act.put,lsk]
   refine wpAnyH_ready (rs:=[4]) (by kernel_rfl) (by simp) ?_
   refine AllReadyH.cons rfl (fun K hK => ?_) (AllReadyH.nil)
   obtain ⟨W7b,e7b⟩:∃ W',W'=W7.alloc (.cells (([⟨#[105,110,99]⟩,⟨#[]⟩,⟨#[108,101,116]⟩,⟨#[113]⟩]:List ByteArray).map Value.string).toArray 9):=⟨_,rfl⟩
   have b7b:Below W7.heap.size W7 W7b:=by rw [e7b]; exact (Below.refl _ _).alloc (Nat.le_refl _) _
   have h7b:=h7.below X b7b
   have htx:=texts_lit [⟨#[105,110,99]⟩,⟨#[]⟩,⟨#[108,101,116]⟩,⟨#[113]⟩] W7 4 3 g rfl (by omega) (fun t ht=>by simp only [List.mem_cons,List.not_mem_nil,or_false] at ht; rcases ht with rfl | rfl | rfl | rfl <;> decide) h7.dr.glt
   rw [← e7b] at htx
   refine step_run rfl (.slice (some ⟨W7.heap.size,0,none⟩) 4 4) W7b (by rw [e7b]; simp [execOp,Act.eval,go_sem]) ?_
   have hS:(fun Wq:World=>Wq.cell? ⟨q3,0,none⟩=some (.slice (some ⟨gn,0,none⟩) nn cn)) W7b:=h7b.cells.1
   refine hK _ _ hS (fun _ => ?_)
   clear hK K
   simp only [Act.put,lsk]
   refine wpAnyH_ready (rs:=[5]) (by kernel_rfl) (by simp) ?_
   refine AllReadyH.cons rfl (fun K hK => ?_) (AllReadyH.nil)
   refine step_callTwo rfl 26 (.tmp 31) (.tmp 32) _ rfl ent_pick (.pointer (some ⟨g,0,none⟩)) (.slice (some ⟨W7.heap.size,0,none⟩) 4 4) (by rfl) (by rfl) (fun r w'=>∃ t:ByteArray,r = .string t∧t.size≤3∧Dr B0 w' g V len∧W7b.grownBy w' (some g)) ((pick_dr B0 g V len _ 4 3 W7b (by omega) htx h7b.dr).mono (fun e w' ⟨z,he,hh⟩=>⟨_,he,z,rfl,hh⟩)) ?_
   rintro r W8 ⟨t,rfl,ht,d8,g8⟩
   have h8:=h7b.step X d8 g8
   have hS:(fun Wq:World=>Wq.cell? ⟨q3,0,none⟩=some (.slice (some ⟨gn,0,none⟩) nn cn)) W8:=h8.cells.1
   refine hK _ _ hS (fun _ => ?_)
   clear hK K
   simp only [Act.put,lsk]
   refine wpAnyH_take (i:=6) (v:=.pointer (some ⟨gn,i,none⟩)) rfl (by kernel_rfl) (by kernel_rfl) (by kernel_rfl) (fun _ _ _ h=>h) (Or.inl ⟨by rfl,fun wq hSw => ?_⟩) hS ?_
   ·simp [execOp,Act.eval,go_sem,hi']
   simp only [Act.put,lsk]
   obtain ⟨x,hx⟩:∃ x,ns[i]? = some x:=⟨_,List.getElem?_eq_getElem (by have h1:=HI.out; have h2:=HS.out; omega)⟩
   have c0:W8.cell? ⟨gn,i,none⟩=some (.string x):=(by have h9:=h8.pg.names.cells (g:=gn) rfl i (.string x) (by rw [List.getElem?_map,hx]; rfl); rw [addr_add,Nat.zero_add] at h9; exact h9)
   have hfz:=(h8.nne (b:=gn) rfl).2.2.2 i
   have hst:=h8.storeN rfl HS.out.2.2.2.1 i t
   refine wpAnyH_ready (rs:=[7]) (by kernel_rfl) (by simp) ?_
   refine AllReadyH.cons rfl (fun K hK => ?_) (AllReadyH.nil)
   refine step_skip rfl (W8.setCell ⟨gn,i,none⟩ (.string t)) (by simp [execOp,Act.eval,go_sem,hfz,c0]) ?_
   have hch:=h8.changed X hst.2 hbn.1 hbn.2.1
   have hpx:=h8.pg.setName (t:=t) hst.2 hst.1 (by omega)
   have hcx:=cbk hch.2.2.2 0 (.slice (some ⟨gn,0,none⟩) nn cn) rfl
   refine hK _ _ hcx (fun _ => ?_)
   clear hK K
   simp only [Act.put,List.getElem_toArray,List.getElem_cons_zero,List.getElem_cons_succ]
   refine wpAnyH_done (by kernel_rfl) ?_ _
   refine hKA _ _ ?_
   clear hKA KA
   have HN:=(show Hid (_∧_∧_∧_) from hch)
   have HPG:=(show Hid (_) from hpx.x)
   clear hcx hch hpx hst c0 hfz hx h8 g8 d8 ht h7 X bd0 hbn hi' hS e7b b7b h7b htx
   generalize W8.setCell ⟨gn,i,none⟩ (.string t)=WF at HN HPG ⊢
   have HP:=(show Hid (PgX WF B (.slice (some ⟨gn,0,none⟩) nn cn) (.slice ab nb cb) (ns.set i t) (vs)) from HPG.out)
   have f0:=ubk HN.out.2.2.1 0
   have f1:=ubk HN.out.2.2.1 1
   have d0:=cbk HN.out.2.2.1 0 (.slice none 0 0) rfl
   have d1:=cbk HN.out.2.2.1 1 (.slice none 0 0) rfl
   have y0:=cbk HN.out.2.2.2 0 (.slice (some ⟨gn,0,none⟩) nn cn) rfl
   have y1:=cbk HN.out.2.2.2 1 (.slice ab nb cb) rfl
   go_wp2
   refine bodyPost_ret (v:=.agg #[.slice (some ⟨gn,0,none⟩) nn cn,.slice ab nb cb]) (by simp [results,Tryz.results14,go_sem,d0,d1]) rfl ?_
   exact ⟨_,rfl,⟨_,_,rfl⟩,HX.out.fin HN.out.1 HN.out.2.1 HP.out (by first | exact HS.out.1 | (rw [List.length_set]; exact HS.out.1)) (by have h1:=HS.out.1; have h2:=HS.out.2.1; first | omega | (rw [List.length_set]; omega))⟩
  ·obtain ⟨gb,cb',hgb⟩:=own_some HL.out.pg.bodies (by have h1:=HI.out; have h2:=HS.out.2.2.1; omega)
   simp only [Value.slice.injEq] at hgb
   obtain ⟨rfl,-,-⟩:=hgb
   obtain ⟨u,hu⟩:∃ u,vs[i]? = some u:=⟨_,List.getElem?_eq_getElem (by have h1:=HI.out; have h2:=HS.out.2.2.1; omega)⟩
   have hue:=HL.out.pg.ev u (List.mem_of_getElem? hu)
   obtain ⟨uk,un,ut,ua,um,rfl⟩:=hue.form
   have HE:=(show Hid (vs[i]? = some (.agg #[.int .i64 uk,.int .i64 un,.string ut,.slice ua um um])∧EV (fun b=>B≤b∧(Value.slice (some ⟨gb,0,none⟩) nb cb).ownBlock≠some b∧(Value.slice an nn cn).ownBlock≠some b) W6 (.agg #[.int .i64 uk,.int .i64 un,.string ut,.slice ua um um])) from ⟨hu,hue⟩)
   clear hu hue
   go_upto_region 9 with fail
   rename_i KA hKA
   have X:=HX.out
   refine wp_region_held_drew (S:=fun Wq=>Wq.cell? ⟨q3,1,none⟩=some (.slice (some ⟨gb,0,none⟩) nb cb)) (by kernel_rfl) (HL.out.cells.2) (fun hS => ?_)
   have bd0:Below W6.heap.size W6 W6.drew:=⟨rfl,rfl,rfl,Nat.le_refl _,fun _ _=>rfl⟩
   generalize W6.drew=W7 at bd0 hS ⊢
   have h7:=HL.out.below X bd0
   have e7:=HE.out.2.below bd0
   have hi':((i:Nat):Int)<(nb:Int):=by have h1:=HI.out; omega
   have hbn:=HL.out.bne (b:=gb) rfl
   refine wpAnyH_take (i:=0) (v:=.pointer (some ⟨q3,1,none⟩)) rfl (by kernel_rfl) (by kernel_rfl) (by kernel_rfl) (fun _ _ _ h=>h) (Or.inl ⟨by rfl,fun wq hSw => ?_⟩) hS ?_
   ·simp [execOp,Act.eval,go_sem]
   simp only [Act.put,lsk]
   refine wpAnyH_take (i:=1) (v:=.slice (some ⟨gb,0,none⟩) nb cb) rfl (by kernel_rfl) (by kernel_rfl) (by kernel_rfl) (fun _ _ _ h=>h) (Or.inl ⟨by rfl,fun wq hSw => ?_⟩) hS ?_
   ·simp [execOp,Act.eval,go_sem,hSw]
   simp only [Act.put,lsk]
   refine wpAnyH_take (i:=2) (v:=.int .i64 (i:Int)) rfl (by kernel_rfl) (by kernel_rfl) (by kernel_rfl) (fun _ _ _ h=>h) (Or.inl ⟨by rfl,fun wq hSw => ?_⟩) hS ?_
   ·exact ex_move _ _ _ _ rfl (by rfl) _
   simp only [Act.put,lsk]
   refine wpAnyH_take (i:=3) (v:=.pointer (some ⟨g,0,none⟩)) rfl (by kernel_rfl) (by kernel_rfl) (by kernel_rfl) (fun _ _ _ h=>h) (Or.inl ⟨by rfl,fun wq hSw => ?_⟩) hS ?_
   ·exact ex_move _ _ _ _ rfl (by rfl) _
   simp only [Act.put,lsk]
   refine wpAnyH_ready (rs:=[4]) (by kernel_rfl) (by simp) ?_
   refine AllReadyH.cons rfl (fun K hK => ?_) (AllReadyH.nil)
   refine step_callTwo rfl 25 (.tmp 40) (.const (.int .i64 14)) _ rfl ent_below (.pointer (some ⟨g,0,none⟩)) (.int .i64 14) (by rfl) rfl (fun r w'=>∃ z:Int,r = .int .i64 z∧0≤z∧z<14∧Dr B0 w' g V len∧W7.grownBy w' (some g)) ((below_dr B0 g V len 14 W7 (by omega) (by omega) h7.dr).mono (fun e w' ⟨z,he,hh⟩=>⟨_,he,z,rfl,hh⟩)) ?_
   rintro r W8 ⟨z,rfl,z0,z1,d8,g8⟩
   have h8:=h7.step X d8 g8
   have e8:=e7.kept (w':=W8) (fun b hb hlt=>g8.block b hlt (fun e=>by have h1:=X.gw; have h2:=X.wB; have h3:=hb.1; cases e; omega)) g8.size (fun b hb _=>hb)
   have hS:(fun Wq:World=>Wq.cell? ⟨q3,1,none⟩=some (.slice (some ⟨gb,0,none⟩) nb cb)) W8:=h8.cells.2
   refine hK _ _ hS (fun _ => ?_)
   clear hK K
   simp only [Act.put,lsk]
   have hwr:IntKind.i64.wrap (z - 1)=z - 1:=by rw [IntKind.wrap_i64]; omega
   refine wpAnyH_take (i:=5) (v:=.int .i64 (z - 1)) rfl (by kernel_rfl) (by kernel_rfl) (by kernel_rfl) (fun _ _ _ h=>h) (Or.inl ⟨by rfl,fun wq hSw => ?_⟩) hS ?_
   ·simp [execOp,Act.eval,go_sem,hwr]
   simp only [Act.put,lsk]
   refine wpAnyH_take (i:=6) (v:=.pointer (some ⟨gb,i * 4,none⟩)) rfl (by kernel_rfl) (by kernel_rfl) (by kernel_rfl) (fun _ _ _ h=>h) (Or.inl ⟨by rfl,fun wq hSw => ?_⟩) hS ?_
   ·simp [execOp,Act.eval,go_sem,hi']
   simp only [Act.put,lsk]
   refine wpAnyH_take (i:=7) (v:=.pointer (some ⟨gb,i * 4,none⟩)) rfl (by kernel_rfl) (by kernel_rfl) (by kernel_rfl) (fun _ _ _ h=>h) (Or.inl ⟨by rfl,fun wq hSw => ?_⟩) hS ?_
   ·simp [execOp,Act.eval,go_sem]
   simp only [Act.put,lsk]
   have hz:=(EV.kn_n e8)
   obtain ⟨c0,c1,-,-⟩:=h8.body_at (i:=i) rfl HE.out.1
   have hfz:=(h8.bne (b:=gb) rfl).2.2.2 (i * 4)
   have hst:=h8.store (j:=0) (u':=.agg #[.int .i64 (z - 1),.int .i64 un,.string ut,.slice ua um um]) (val:=.int .i64 (z - 1)) rfl HS.out.2.2.1 HE.out.1 (by omega) rfl
   simp only [Nat.add_zero] at hst
   refine wpAnyH_ready (rs:=[8]) (by kernel_rfl) (by simp) ?_
   refine AllReadyH.cons rfl (fun K hK => ?_) (AllReadyH.nil)
   refine step_skip rfl (W8.setCell ⟨gb,i * 4,none⟩ (.int .i64 (z - 1))) (by simp [execOp,Act.eval,go_sem,hfz,c0]) ?_
   have hch:=h8.changed X hst.2 hbn.1 hbn.2.1
   have hpx:=h8.pg.setBody (u':=.agg #[.int .i64 (z - 1),.int .i64 un,.string ut,.slice ua um um]) hst.2 hst.1 (e8.kn ⟨by omega,by omega⟩ hz)
   have hcx:=cbk hch.2.2.2 1 (.slice (some ⟨gb,0,none⟩) nb cb) rfl
   refine hK _ _ hcx (fun _ => ?_)
   clear hK K
   simp only [Act.put,List.getElem_toArray,List.getElem_cons_zero,List.getElem_cons_succ]
   refine wpAnyH_done (by kernel_rfl) ?_ _
   refine hKA _ _ ?_
   clear hKA KA
   have HN:=(show Hid (_∧_∧_∧_) from hch)
   have HPG:=(show Hid (_) from hpx.x)
   clear hcx hch hpx hst c0 c1 hfz e8 h8 g8 d8 hz h7 e7 X bd0 hbn hi' hS z0 z1 hwr
   generalize W8.setCell ⟨gb,i * 4,none⟩ (.int .i64 (z - 1))=WF at HN HPG ⊢
   have HP:=(show Hid (PgX WF B (.slice an nn cn) (.slice (some ⟨gb,0,none⟩) nb cb) (ns) (vs.set i (.agg #[.int .i64 (z - 1),.int .i64 un,.string ut,.slice ua um um]))) from HPG.out)
   have f0:=ubk HN.out.2.2.1 0
   have f1:=ubk HN.out.2.2.1 1
   have d0:=cbk HN.out.2.2.1 0 (.slice none 0 0) rfl
   have d1:=cbk HN.out.2.2.1 1 (.slice none 0 0) rfl
   have y0:=cbk HN.out.2.2.2 0 (.slice an nn cn) rfl
   have y1:=cbk HN.out.2.2.2 1 (.slice (some ⟨gb,0,none⟩) nb cb) rfl
   go_wp2
   refine bodyPost_ret (v:=.agg #[.slice an nn cn,.slice (some ⟨gb,0,none⟩) nb cb]) (by simp [results,Tryz.results14,go_sem,d0,d1]) rfl ?_
   exact ⟨_,rfl,⟨_,_,rfl⟩,HX.out.fin HN.out.1 HN.out.2.1 HP.out (by first | exact HS.out.1 | (rw [List.length_set]; exact HS.out.1)) (by have h1:=HS.out.1; have h2:=HS.out.2.1; first | omega | (rw [List.length_set]; omega))⟩
  ·obtain ⟨gb,cb',hgb⟩:=own_some HL.out.pg.bodies (by have h1:=HI.out; have h2:=HS.out.2.2.1; omega)
   simp only [Value.slice.injEq] at hgb
   obtain ⟨rfl,-,-⟩:=hgb
   obtain ⟨u,hu⟩:∃ u,vs[i]? = some u:=⟨_,List.getElem?_eq_getElem (by have h1:=HI.out; have h2:=HS.out.2.2.1; omega)⟩
   have hue:=HL.out.pg.ev u (List.mem_of_getElem? hu)
   obtain ⟨uk,un,ut,ua,um,rfl⟩:=hue.form
   have HE:=(show Hid (vs[i]? = some (.agg #[.int .i64 uk,.int .i64 un,.string ut,.slice ua um um])∧EV (fun b=>B≤b∧(Value.slice (some ⟨gb,0,none⟩) nb cb).ownBlock≠some b∧(Value.slice an nn cn).ownBlock≠some b) W6 (.agg #[.int .i64 uk,.int .i64 un,.string ut,.slice ua um um])) from ⟨hu,hue⟩)
   clear hu hue
   go_upto_region 11 with fail
   rename_i KA hKA
   have X:=HX.out
   refine wp_region_held_drew (S:=fun Wq=>Wq.cell? ⟨q3,1,none⟩=some (.slice (some ⟨gb,0,none⟩) nb cb)) (by kernel_rfl) (HL.out.cells.2) (fun hS => ?_)
   have bd0:Below W6.heap.size W6 W6.drew:=⟨rfl,rfl,rfl,Nat.le_refl _,fun _ _=>rfl⟩
   generalize W6.drew=W7 at bd0 hS ⊢
   have h7:=HL.out.below X bd0
   have e7:=HE.out.2.below bd0
   have hi':((i:Nat):Int)<(nb:Int):=by have h1:=HI.out; omega
   have hbn:=HL.out.bne (b:=gb) rfl
   refine wpAnyH_take (i:=0) (v:=.pointer (some ⟨q3,1,none⟩)) rfl (by kernel_rfl) (by kernel_rfl) (by kernel_rfl) (fun _ _ _ h=>h) (Or.inl ⟨by rfl,fun wq hSw => ?_⟩) hS ?_
   ·simp [execOp,Act.eval,go_sem]
   simp only [Act.put,lsk]
   refine wpAnyH_take (i:=1) (v:=.slice (some ⟨gb,0,none⟩) nb cb) rfl (by kernel_rfl) (by kernel_rfl) (by kernel_rfl) (fun _ _ _ h=>h) (Or.inl ⟨by rfl,fun wq hSw => ?_⟩) hS ?_
   ·simp [execOp,Act.eval,go_sem,hSw]
   simp only [Act.put,lsk]
   refine wpAnyH_take (i:=2) (v:=.int .i64 (i:Int)) rfl (by kernel_rfl) (by kernel_rfl) (by kernel_rfl) (fun _ _ _ h=>h) (Or.inl ⟨by rfl,fun wq hSw => ?_⟩) hS ?_
   ·exact ex_move _ _ _ _ rfl (by rfl) _
   simp only [Act.put,lsk]
   refine wpAnyH_take (i:=3) (v:=.pointer (some ⟨g,0,none⟩)) rfl (by kernel_rfl) (by kernel_rfl) (by kernel_rfl) (fun _ _ _ h=>h) (Or.inl ⟨by rfl,fun wq hSw => ?_⟩) hS ?_
   ·exact ex_move _ _ _ _ rfl (by rfl) _
   simp only [Act.put,lsk]
   refine wpAnyH_ready (rs:=[4]) (by kernel_rfl) (by simp) ?_
   refine AllReadyH.cons rfl (fun K hK => ?_) (AllReadyH.nil)
   obtain ⟨W7b,e7b⟩:∃ W',W'=W7.alloc (.cells (([7,-1,0,1000000000]:List Int).map (fun z=>Value.int .i64 z)).toArray 3):=⟨_,rfl⟩
   have b7b:Below W7.heap.size W7 W7b:=by rw [e7b]; exact (Below.refl _ _).alloc (Nat.le_refl _) _
   have h7b:=h7.below X b7b
   have e7c:=e7.below b7b
   have hil:=ints_lit [7,-1,0,1000000000] W7
   rw [← e7b] at hil
   refine step_run rfl (.slice (some ⟨W7.heap.size,0,none⟩) 4 4) W7b (by rw [e7b]; simp [execOp,Act.eval,go_sem]) ?_
   have hS:(fun Wq:World=>Wq.cell? ⟨q3,1,none⟩=some (.slice (some ⟨gb,0,none⟩) nb cb)) W7b:=h7b.cells.2
   refine hK _ _ hS (fun _ => ?_)
   clear hK K
   simp only [Act.put,lsk]
   refine wpAnyH_ready (rs:=[5]) (by kernel_rfl) (by simp) ?_
   refine AllReadyH.cons rfl (fun K hK => ?_) (AllReadyH.nil)
   refine step_callTwo rfl 15 (.tmp 50) (.tmp 51) _ rfl ent_pickInt (.pointer (some ⟨g,0,none⟩)) (.slice (some ⟨W7.heap.size,0,none⟩) 4 4) (by rfl) (by rfl) (fun r w'=>∃ z:Int,r = .int .i64 z∧z ∈ ([7,-1,0,1000000000]:List Int)∧Dr B0 w' g V len∧W7b.grownBy w' (some g)) ((pickInt_dr B0 g V len W7.heap.size 4 4 [7,-1,0,1000000000] W7b (by omega) (by omega) rfl (by have:=h7.dr.glt; omega) hil h7b.dr).mono (fun e w' ⟨z,he,hh⟩=>⟨_,he,z,rfl,hh⟩)) ?_
   rintro r W8 ⟨z,rfl,zm,d8,g8⟩
   have h8:=h7b.step X d8 g8
   have e8:=e7c.kept (w':=W8) (fun b hb hlt=>g8.block b hlt (fun e=>by have h1:=X.gw; have h2:=X.wB; have h3:=hb.1; cases e; omega)) g8.size (fun b hb _=>hb)
   have hz:inI64 z:=by simp only [List.mem_cons,List.not_mem_nil,or_false] at zm; unfold inI64; omega
   have hS:(fun Wq:World=>Wq.cell? ⟨q3,1,none⟩=some (.slice (some ⟨gb,0,none⟩) nb cb)) W8:=h8.cells.2
   refine hK _ _ hS (fun _ => ?_)
   clear hK K
   simp only [Act.put,lsk]
   refine wpAnyH_take (i:=6) (v:=.pointer (some ⟨gb,i * 4,none⟩)) rfl (by kernel_rfl) (by kernel_rfl) (by kernel_rfl) (fun _ _ _ h=>h) (Or.inl ⟨by rfl,fun wq hSw => ?_⟩) hS ?_
   ·simp [execOp,Act.eval,go_sem,hi']
   simp only [Act.put,lsk]
   refine wpAnyH_take (i:=7) (v:=.pointer (some ⟨gb,i * 4+1,none⟩)) rfl (by kernel_rfl) (by kernel_rfl) (by kernel_rfl) (fun _ _ _ h=>h) (Or.inl ⟨by rfl,fun wq hSw => ?_⟩) hS ?_
   ·simp [execOp,Act.eval,go_sem]
   simp only [Act.put,lsk]
   obtain ⟨c0,c1,-,-⟩:=h8.body_at (i:=i) rfl HE.out.1
   have hfz:=(h8.bne (b:=gb) rfl).2.2.2 (i * 4+1)
   have hst:=h8.store (j:=1) (u':=.agg #[.int .i64 uk,.int .i64 z,.string ut,.slice ua um um]) (val:=.int .i64 z) rfl HS.out.2.2.1 HE.out.1 (by omega) rfl
   refine wpAnyH_ready (rs:=[8]) (by kernel_rfl) (by simp) ?_
   refine AllReadyH.cons rfl (fun K hK => ?_) (AllReadyH.nil)
   refine step_skip rfl (W8.setCell ⟨gb,i * 4+1,none⟩ (.int .i64 z)) (by simp [execOp,Act.eval,go_sem,hfz,c1]) ?_
   have hch:=h8.changed X hst.2 hbn.1 hbn.2.1
   have hz8:=EV.kn_k e8
   have hpx:=h8.pg.setBody (u':=.agg #[.int .i64 uk,.int .i64 z,.string ut,.slice ua um um]) hst.2 hst.1 (e8.kn hz8 hz)
   have hcx:=cbk hch.2.2.2 1 (.slice (some ⟨gb,0,none⟩) nb cb) rfl
   refine hK _ _ hcx (fun _ => ?_)
   clear hK K
   simp only [Act.put,List.getElem_toArray,List.getElem_cons_zero,List.getElem_cons_succ]
   refine wpAnyH_done (by kernel_rfl) ?_ _
   refine hKA _ _ ?_
   clear hKA KA
   have HN:=(show Hid (_∧_∧_∧_) from hch)
   have HPG:=(show Hid (_) from hpx.x)
   clear hcx hch hpx hst c0 c1 hfz e8 h8 g8 d8 hz h7 e7 X bd0 hbn hi' hS zm hz8 e7b b7b h7b e7c hil
   generalize W8.setCell ⟨gb,i * 4+1,none⟩ (.int .i64 z)=WF at HN HPG ⊢
   have HP:=(show Hid (PgX WF B (.slice an nn cn) (.slice (some ⟨gb,0,none⟩) nb cb) (ns) (vs.set i (.agg #[.int .i64 uk,.int .i64 z,.string ut,.slice ua um um]))) from HPG.out)
   have f0:=ubk HN.out.2.2.1 0
   have f1:=ubk HN.out.2.2.1 1
   have d0:=cbk HN.out.2.2.1 0 (.slice none 0 0) rfl
   have d1:=cbk HN.out.2.2.1 1 (.slice none 0 0) rfl
   have y0:=cbk HN.out.2.2.2 0 (.slice an nn cn) rfl
   have y1:=cbk HN.out.2.2.2 1 (.slice (some ⟨gb,0,none⟩) nb cb) rfl
   go_wp2
   refine bodyPost_ret (v:=.agg #[.slice an nn cn,.slice (some ⟨gb,0,none⟩) nb cb]) (by simp [results,Tryz.results14,go_sem,d0,d1]) rfl ?_
   exact ⟨_,rfl,⟨_,_,rfl⟩,HX.out.fin HN.out.1 HN.out.2.1 HP.out (by first | exact HS.out.1 | (rw [List.length_set]; exact HS.out.1)) (by have h1:=HS.out.1; have h2:=HS.out.2.1; first | omega | (rw [List.length_set]; omega))⟩
  ·obtain ⟨gb,cb',hgb⟩:=own_some HL.out.pg.bodies (by have h1:=HI.out; have h2:=HS.out.2.2.1; omega)
   simp only [Value.slice.injEq] at hgb
   obtain ⟨rfl,-,-⟩:=hgb
   obtain ⟨u,hu⟩:∃ u,vs[i]? = some u:=⟨_,List.getElem?_eq_getElem (by have h1:=HI.out; have h2:=HS.out.2.2.1; omega)⟩
   have hue:=HL.out.pg.ev u (List.mem_of_getElem? hu)
   obtain ⟨uk,un,ut,ua,um,rfl⟩:=hue.form
   have HE6:=(show Hid (vs[i]? = some (.agg #[.int .i64 uk,.int .i64 un,.string ut,.slice ua um um])∧EV (fun b=>B≤b∧(Value.slice (some ⟨gb,0,none⟩) nb cb).ownBlock≠some b∧(Value.slice an nn cn).ownBlock≠some b) W6 (.agg #[.int .i64 uk,.int .i64 un,.string ut,.slice ua um um])) from ⟨hu,hue⟩)
   clear hu hue
   go_upto_region 13 with fail
   rename_i KA hKA
   have X:=HX.out
   refine wp_region_held_drew (S:=fun Wq=>True) (by kernel_rfl) (trivial) (fun hS => ?_)
   have bd0:Below W6.heap.size W6 W6.drew:=⟨rfl,rfl,rfl,Nat.le_refl _,fun _ _=>rfl⟩
   generalize W6.drew=W7 at bd0 hS ⊢
   obtain ⟨W8,e8⟩:∃ W',W'=W7.alloc (.cells #[.bool false] 4):=⟨_,rfl⟩
   have b8:Below W7.heap.size W7 W8:=by rw [e8]; exact (Below.refl _ _).alloc (Nat.le_refl _) _
   have x8:W8.heap[W7.heap.size]? = some (.cells #[.bool false] 4):=by rw [e8]; exact block_new _ _
   refine wpAnyH_ready (rs:=[0]) (by kernel_rfl) (by simp) ?_
   refine AllReadyH.cons rfl (fun K hK => ?_) (AllReadyH.nil)
   refine step_run rfl (.pointer (some ⟨W7.heap.size,0,none⟩)) W8 (by rw [e8]; simp [execOp,go_sem]) ?_
   refine hK _ _ trivial (fun _ => ?_)
   clear hK K e8
   simp only [Act.put,lsk]
   have c8:=cbk x8 0 (.bool false) rfl
   have f8:=ubk x8 0
   refine wpAnyH_ready (rs:=[1,2]) (by kernel_rfl) (by simp) ?_
   refine AllReadyH.cons rfl (fun K hK => ?_) (AllReadyH.cons rfl (fun K hK => ?_) AllReadyH.nil)
   ·have x9:=block_setCell (i:=0) x8 (.bool true)
    have c9:=cbk x9 0 (.bool true) rfl
    have f9:=ubk x9 0
    refine step_skip rfl (W8.setCell ⟨W7.heap.size,0,none⟩ (.bool true)) (by simp [execOp,Act.eval,go_sem,c8,f8]) ?_
    refine hK _ _ trivial (fun _ => ?_)
    clear hK K
    simp only [Act.put,List.getElem_toArray,List.getElem_cons_zero,List.getElem_cons_succ]
    have b9:Below W6.heap.size W6 (W8.setCell ⟨W7.heap.size,0,none⟩ (.bool true)):=(bd0.trans (b8.mono bd0.size)).setCell (p:=⟨W7.heap.size,0,none⟩) bd0.size _
    clear x8 c8 f8 b8
    generalize W8.setCell ⟨W7.heap.size,0,none⟩ (.bool true)=W9 at x9 c9 f9 b9 ⊢
    refine wpAnyH_ready (rs:=[2]) (by kernel_rfl) (by simp) ?_
    refine AllReadyH.cons rfl (fun K hK => ?_) (AllReadyH.nil)
    have x10:=block_setCell (i:=0) x9 (.bool false)
    have c10:=cbk x10 0 (.bool false) rfl
    refine step_skip rfl (W9.setCell ⟨W7.heap.size,0,none⟩ (.bool false)) (by simp [execOp,Act.eval,go_sem,c9,f9]) ?_
    refine hK _ _ trivial (fun _ => ?_)
    clear hK K
    simp only [Act.put,List.getElem_toArray,List.getElem_cons_zero,List.getElem_cons_succ]
    have b10:Below W6.heap.size W6 (W9.setCell ⟨W7.heap.size,0,none⟩ (.bool false)):=b9.setCell (p:=⟨W7.heap.size,0,none⟩) bd0.size _
    clear x9 c9 f9 b9 x10
    generalize W9.setCell ⟨W7.heap.size,0,none⟩ (.bool false)=W10 at c10 b10 ⊢
    refine wpAnyH_ready (rs:=[3]) (by kernel_rfl) (by simp) ?_
    refine AllReadyH.cons rfl (fun K hK => ?_) (AllReadyH.nil)
    refine step_run rfl (.bool false) W10 (by simp [execOp,Act.eval,go_sem,c10]) ?_
    refine hK _ _ trivial (fun _ => ?_)
    clear hK K
    simp only [Act.put,lsk]
    refine wpAnyH_done (by kernel_rfl) ?_ _
    refine hKA _ _ ?_
    clear hKA KA
    have HL10:=(show Hid (LP B0 g V len w B q3 W10 (.slice an nn cn) (.slice (some ⟨gb,0,none⟩) nb cb) ns vs) from HL.out.below X b10)
    have HE:=(show Hid (vs[i]? = some (.agg #[.int .i64 uk,.int .i64 un,.string ut,.slice ua um um])∧EV (fun b=>B≤b∧(Value.slice (some ⟨gb,0,none⟩) nb cb).ownBlock≠some b∧(Value.slice an nn cn).ownBlock≠some b) W10 (.agg #[.int .i64 uk,.int .i64 un,.string ut,.slice ua um um])) from ⟨HE6.out.1,HE6.out.2.below b10⟩)
    clear HL HE6 b10 c10 bd0 X
    go_upto_region 16 with fail
    have X:=HX.out
    refine wp_region_held_drew (S:=fun Wq=>Wq.cell? ⟨q3,1,none⟩=some (.slice (some ⟨gb,0,none⟩) nb cb)) (by kernel_rfl) (HL10.out.cells.2) (fun hS => ?_)
    have bd0:Below W10.heap.size W10 W10.drew:=⟨rfl,rfl,rfl,Nat.le_refl _,fun _ _=>rfl⟩
    generalize W10.drew=W11 at bd0 hS ⊢
    have h11:=HL10.out.below X bd0
    have e11:=HE.out.2.below bd0
    have hi':((i:Nat):Int)<(nb:Int):=by have h1:=HI.out; omega
    have hbn:=h11.bne (b:=gb) rfl
    refine wpAnyH_take (i:=0) (v:=.pointer (some ⟨q3,1,none⟩)) rfl (by kernel_rfl) (by kernel_rfl) (by kernel_rfl) (fun _ _ _ h=>h) (Or.inl ⟨by rfl,fun wq hSw => ?_⟩) hS ?_
    ·simp [execOp,Act.eval,go_sem]
    simp only [Act.put,lsk]
    refine wpAnyH_take (i:=1) (v:=.slice (some ⟨gb,0,none⟩) nb cb) rfl (by kernel_rfl) (by kernel_rfl) (by kernel_rfl) (fun _ _ _ h=>h) (Or.inl ⟨by rfl,fun wq hSw => ?_⟩) hS ?_
    ·simp [execOp,Act.eval,go_sem,hSw]
    simp only [Act.put,lsk]
    refine wpAnyH_take (i:=2) (v:=.int .i64 (i:Int)) rfl (by kernel_rfl) (by kernel_rfl) (by kernel_rfl) (fun _ _ _ h=>h) (Or.inl ⟨by rfl,fun wq hSw => ?_⟩) hS ?_
    ·exact ex_move _ _ _ _ rfl (by rfl) _
    simp only [Act.put,lsk]
    refine wpAnyH_take (i:=3) (v:=.pointer (some ⟨q3,1,none⟩)) rfl (by kernel_rfl) (by kernel_rfl) (by kernel_rfl) (fun _ _ _ h=>h) (Or.inl ⟨by rfl,fun wq hSw => ?_⟩) hS ?_
    ·simp [execOp,Act.eval,go_sem]
    simp only [Act.put,lsk]
    refine wpAnyH_take (i:=4) (v:=.slice (some ⟨gb,0,none⟩) nb cb) rfl (by kernel_rfl) (by kernel_rfl) (by kernel_rfl) (fun _ _ _ h=>h) (Or.inl ⟨by rfl,fun wq hSw => ?_⟩) hS ?_
    ·simp [execOp,Act.eval,go_sem,hSw]
    simp only [Act.put,lsk]
    refine wpAnyH_take (i:=5) (v:=.int .i64 (i:Int)) rfl (by kernel_rfl) (by kernel_rfl) (by kernel_rfl) (fun _ _ _ h=>h) (Or.inl ⟨by rfl,fun wq hSw => ?_⟩) hS ?_
    ·exact ex_move _ _ _ _ rfl (by rfl) _
    simp only [Act.put,lsk]
    refine wpAnyH_take (i:=6) (v:=.pointer (some ⟨gb,i * 4,none⟩)) rfl (by kernel_rfl) (by kernel_rfl) (by kernel_rfl) (fun _ _ _ h=>h) (Or.inl ⟨by rfl,fun wq hSw => ?_⟩) hS ?_
    ·simp [execOp,Act.eval,go_sem,hi']
    simp only [Act.put,lsk]
    refine wpAnyH_take (i:=7) (v:=.pointer (some ⟨gb,i * 4+3,none⟩)) rfl (by kernel_rfl) (by kernel_rfl) (by kernel_rfl) (fun _ _ _ h=>h) (Or.inl ⟨by rfl,fun wq hSw => ?_⟩) hS ?_
    ·simp [execOp,Act.eval,go_sem]
    simp only [Act.put,lsk]
    refine wpAnyH_take (i:=9) (v:=.pointer (some ⟨g,0,none⟩)) rfl (by kernel_rfl) (by kernel_rfl) (by kernel_rfl) (fun _ _ _ h=>h) (Or.inl ⟨by rfl,fun wq hSw => ?_⟩) hS ?_
    ·exact ex_move _ _ _ _ rfl (by rfl) _
    simp only [Act.put,lsk]
    refine wpAnyH_ready (rs:=[8,10]) (by kernel_rfl) (by simp) ?_
    refine AllReadyH.cons rfl (fun K hK => ?_) (AllReadyH.cons rfl (fun K hK => ?_) (AllReadyH.nil))
    ·obtain ⟨-,-,-,k3⟩:=h11.body_at (i:=i) rfl HE.out.1
     refine step_run rfl (.slice ua um um) W11 (by simp [execOp,Act.eval,go_sem,k3]) ?_
     have hS:(fun Wq:World=>Wq.cell? ⟨q3,1,none⟩=some (.slice (some ⟨gb,0,none⟩) nb cb)) W11:=h11.cells.2
     refine hK _ _ hS (fun _ => ?_)
     clear hK K
     simp only [Act.put,lsk]
     clear k3
     refine wpAnyH_ready (rs:=[10]) (by kernel_rfl) (by simp) ?_
     refine AllReadyH.cons rfl (fun K hK => ?_) (AllReadyH.nil)
     refine step_callTwo rfl 25 (.tmp 83) (.const (.int .i64 3)) _ rfl ent_below (.pointer (some ⟨g,0,none⟩)) (.int .i64 3) (by rfl) rfl (fun r w'=>∃ z:Int,r = .int .i64 z∧0≤z∧z<3∧Dr B0 w' g V len∧W11.grownBy w' (some g)) ((below_dr B0 g V len 3 W11 (by omega) (by omega) h11.dr).mono (fun e w' ⟨z,he,hh⟩=>⟨_,he,z,rfl,hh⟩)) ?_
     rintro r V12 ⟨x,rfl,x0,x1,d12,g12⟩
     have h12:=h11.step X d12 g12
     have e12:=e11.kept (w':=V12) (fun b hb hlt=>g12.block b hlt (fun e=>by have h1:=X.gw; have h2:=X.wB; have h3:=hb.1; cases e; omega)) g12.size (fun b hb _=>hb)
     have hxi:inI64 x:=⟨by omega,by omega⟩
     have hS:(fun Wq:World=>Wq.cell? ⟨q3,1,none⟩=some (.slice (some ⟨gb,0,none⟩) nb cb)) V12:=h12.cells.2
     refine hK _ _ hS (fun _ => ?_)
     clear hK K
     simp only [Act.put,lsk]
     refine wpAnyH_take (i:=11) (v:=.agg #[.int .i64 1,.int .i64 x,.string ⟨#[]⟩,.slice none 0 0]) rfl (by kernel_rfl) (by kernel_rfl) (by kernel_rfl) (fun _ _ _ h=>h) (Or.inl ⟨by rfl,fun wq hSw => ?_⟩) hS ?_
     ·exact ex_build01 _ _ rfl (by rfl) _
     simp only [Act.put,lsk]
     refine wpAnyH_ready (rs:=[12]) (by kernel_rfl) (by simp) ?_
     refine AllReadyH.cons rfl (fun K hK => ?_) (AllReadyH.nil)
     obtain ⟨Ra,era⟩:∃ W',W'=V12.alloc (.cells ⟨cellsE (.agg #[.int .i64 1,.int .i64 x,.string ⟨#[]⟩,.slice none 0 0])⟩ 52):=⟨_,rfl⟩
     have bra:Below V12.heap.size V12 Ra:=by rw [era]; exact (Below.refl _ _).alloc (Nat.le_refl _) _
     have xra:Ra.heap[V12.heap.size]? = some (.cells ⟨cellsE (.agg #[.int .i64 1,.int .i64 x,.string ⟨#[]⟩,.slice none 0 0])⟩ 52):=by rw [era]; exact block_new _ _
     have hra:=h12.below X bra
     have eva:=e12.below bra
     refine step_run rfl (.slice (some ⟨V12.heap.size,0,none⟩) 1 1) Ra (by rw [era]; simp [execOp,Act.eval,go_sem,cellsE,cellsV]) ?_
     have hS:(fun Wq:World=>Wq.cell? ⟨q3,1,none⟩=some (.slice (some ⟨gb,0,none⟩) nb cb)) Ra:=hra.cells.2
     refine hK _ _ hS (fun _ => ?_)
     clear hK K
     simp only [Act.put,lsk]
     obtain ⟨hm3,hua,us,hul,hus,huc⟩:=(eva).kidsRow
     obtain ⟨i0,hi0,hz0,hz1,hz2⟩:=info_parts infoE
     refine wpAnyH_ready (rs:=[13]) (by kernel_rfl) (by simp) ?_
     refine AllReadyH.cons rfl (fun K hK => ?_) (AllReadyH.nil)
     refine step_append_grows rfl (.tmp 82) (.tmp 86) 25 rfl 52 i0 _ 4 56 Tryz.underlying25 hi0 hz0 hz1 hz2 rfl (by decide) ua um um (us.flatMap cellsE) (by rfl) (fun e=>⟨hua e,hua e⟩) (by rw [flat_len hus,hul]) huc ⟨V12.heap.size,0,none⟩ 1 1 (cellsE (.agg #[.int .i64 1,.int .i64 x,.string ⟨#[]⟩,.slice none 0 0])) (by rfl) rfl (fun j u hu=>by rw [addr_add,cell_of_block xra,Nat.zero_add]; simpa using hu) (fun u hu=>by simp [cellsE,cellsV] at hu; rcases hu with rfl | rfl | rfl | rfl <;> rfl) (by omega) (by unfold maxLen; omega) (by omega) ?_
     intro kv W18 own18 gr18
     have b18:Below Ra.heap.size Ra W18:=⟨gr18.os,gr18.tape,gr18.output,gr18.size,fun k hk=>gr18.block k hk (by simp)⟩
     have h18:=hra.below X b18
     have hS:(fun Wq:World=>Wq.cell? ⟨q3,1,none⟩=some (.slice (some ⟨gb,0,none⟩) nb cb)) W18:=h18.cells.2
     refine hK _ _ hS (fun _ => ?_)
     clear hK K
     simp only [Act.put,lsk]
     refine wpAnyH_take (i:=14) (v:=.pointer (some ⟨gb,i * 4,none⟩)) rfl (by kernel_rfl) (by kernel_rfl) (by kernel_rfl) (fun _ _ _ h=>h) (Or.inl ⟨by rfl,fun wq hSw => ?_⟩) hS ?_
     ·simp [execOp,Act.eval,go_sem,hi']
     simp only [Act.put,lsk]
     refine wpAnyH_take (i:=15) (v:=.pointer (some ⟨gb,i * 4+3,none⟩)) rfl (by kernel_rfl) (by kernel_rfl) (by kernel_rfl) (fun _ _ _ h=>h) (Or.inl ⟨by rfl,fun wq hSw => ?_⟩) hS ?_
     ·simp [execOp,Act.eval,go_sem]
     simp only [Act.put,lsk]
     obtain ⟨-,-,-,c3⟩:=h18.body_at (i:=i) rfl HE.out.1
     have z3:=(h18.bne (b:=gb) rfl).2.2.2 (i * 4+3)
     obtain ⟨ka,kc,hkv⟩:=own_form own18
     have hst:=h18.store (j:=3) (u':=.agg #[.int .i64 uk,.int .i64 un,.string ut,kv]) (val:=kv) rfl HS.out.2.2.1 HE.out.1 (by omega) rfl
     refine wpAnyH_ready (rs:=[16]) (by kernel_rfl) (by simp) ?_
     refine AllReadyH.cons rfl (fun K hK => ?_) (AllReadyH.nil)
     refine step_skip rfl (W18.setCell ⟨gb,i * 4+3,none⟩ kv) (by subst hkv; simp [execOp,Act.eval,go_sem,z3,c3]) ?_
     have hch:=h18.changed X hst.2 hbn.1 hbn.2.1
     have hcx:=cbk hch.2.2.2 1 (.slice (some ⟨gb,0,none⟩) nb cb) rfl
     refine hK _ _ hcx (fun _ => ?_)
     clear hK K
     simp only [Act.put,List.getElem_toArray,List.getElem_cons_zero,List.getElem_cons_succ]
     refine wpAnyH_done (by kernel_rfl) ?_ _
     have hgk:∀ b,kv.ownBlock=some b→Ra.heap.size≤b∧b<W18.heap.size∧b≠gb:=fun b hb=>⟨(own18.lt b hb).1,(own18.lt b hb).2,fun e=>by have h1:=own_lt hra.pg.bodies gb rfl; have h2:=(own18.lt b hb).1; omega⟩
     have own19:=own_moved (W':=(W18.setCell ⟨gb,i * 4+3,none⟩ kv)) own18 (fun b hb=>Below.heap_setCell _ _ _ b (by show b≠gb; exact (hgk b hb).2.2))
     have kp19:∀ b,b≠gb→b<Ra.heap.size→(W18.setCell ⟨gb,i * 4+3,none⟩ kv).heap[b]? = Ra.heap[b]? := fun b hb hlt=>(Below.heap_setCell _ _ _ b (by show b≠gb; exact hb)).trans (b18.block b hlt)
     have sz19:Ra.heap.size≤(W18.setCell ⟨gb,i * 4+3,none⟩ kv).heap.size:=by simpa using b18.size
     have hxe:=ex_more (x:=.agg #[.int .i64 1,.int .i64 x,.string ⟨#[]⟩,.slice none 0 0]) (k:=uk) (n:=un) (t:=ut) hus (EV.leaf _ _ ⟨by omega,by omega⟩ hxi (Nat.zero_le _)) (fun b hb hlt=>kp19 b (fun e=>hb.2.1 (by rw [e]; rfl)) hlt) sz19 (by rw [hul]; exact own19) (by omega) (eva).kn_k (eva).kn_n (eva).kn_t
     have hpx:=h18.pg.setBodyX (i:=i) (u':=.agg #[.int .i64 uk,.int .i64 un,.string ut,kv]) hst.2 hst.1 (wideE hxe (fun b hb=>by rcases hb with hb | hb; exact hb.1; have h1:=hbn.2.1; have h2:=own_lt hra.pg.bodies gb rfl; omega))
     have HN:=(show Hid (_∧_∧_∧_) from hch)
     have HPG:=(show Hid (_) from hpx)
     generalize (W18.setCell ⟨gb,i * 4+3,none⟩ kv)=WF at HN HPG ⊢
     clear hxe hpx sz19 kp19 own19 hgk hcx hch hst hkv z3 c3 h18 b18 own18 gr18 hua huc hus hul hm3 hi0 hz0 hz1 hz2 hbn hi' X
     have HP:=(show Hid (PgX WF B (.slice an nn cn) (.slice (some ⟨gb,0,none⟩) nb cb) (ns) (vs.set i (.agg #[.int .i64 uk,.int .i64 un,.string ut,kv]))) from HPG.out)
     have f0:=ubk HN.out.2.2.1 0
     have f1:=ubk HN.out.2.2.1 1
     have d0:=cbk HN.out.2.2.1 0 (.slice none 0 0) rfl
     have d1:=cbk HN.out.2.2.1 1 (.slice none 0 0) rfl
     have y0:=cbk HN.out.2.2.2 0 (.slice an nn cn) rfl
     have y1:=cbk HN.out.2.2.2 1 (.slice (some ⟨gb,0,none⟩) nb cb) rfl
     go_wp2
     refine bodyPost_ret (v:=.agg #[.slice an nn cn,.slice (some ⟨gb,0,none⟩) nb cb]) (by simp [results,Tryz.results14,go_sem,d0,d1]) rfl ?_
     exact ⟨_,rfl,⟨_,_,rfl⟩,HX.out.fin HN.out.1 HN.out.2.1 HP.out (by first | exact HS.out.1 | (rw [List.length_set]; exact HS.out.1)) (by have h1:=HS.out.1; have h2:=HS.out.2.1; first | omega | (rw [List.length_set]; omega))⟩
    ·refine step_callTwo rfl 25 (.tmp 83) (.const (.int .i64 3)) _ rfl ent_below (.pointer (some ⟨g,0,none⟩)) (.int .i64 3) (by rfl) rfl (fun r w'=>∃ z:Int,r = .int .i64 z∧0≤z∧z<3∧Dr B0 w' g V len∧W11.grownBy w' (some g)) ((below_dr B0 g V len 3 W11 (by omega) (by omega) h11.dr).mono (fun e w' ⟨z,he,hh⟩=>⟨_,he,z,rfl,hh⟩)) ?_
     rintro r V12 ⟨x,rfl,x0,x1,d12,g12⟩
     have h12:=h11.step X d12 g12
     have e12:=e11.kept (w':=V12) (fun b hb hlt=>g12.block b hlt (fun e=>by have h1:=X.gw; have h2:=X.wB; have h3:=hb.1; cases e; omega)) g12.size (fun b hb _=>hb)
     have hxi:inI64 x:=⟨by omega,by omega⟩
     have hS:(fun Wq:World=>Wq.cell? ⟨q3,1,none⟩=some (.slice (some ⟨gb,0,none⟩) nb cb)) V12:=h12.cells.2
     refine hK _ _ hS (fun _ => ?_)
     clear hK K
     simp only [Act.put,lsk]
     refine wpAnyH_take (i:=11) (v:=.agg #[.int .i64 1,.int .i64 x,.string ⟨#[]⟩,.slice none 0 0]) rfl (by kernel_rfl) (by kernel_rfl) (by kernel_rfl) (fun _ _ _ h=>h) (Or.inl ⟨by rfl,fun wq hSw => ?_⟩) hS ?_
     ·exact ex_build01 _ _ rfl (by rfl) _
     simp only [Act.put,lsk]
     refine wpAnyH_ready (rs:=[8,12]) (by kernel_rfl) (by simp) ?_
     refine AllReadyH.cons rfl (fun K hK => ?_) (AllReadyH.cons rfl (fun K hK => ?_) (AllReadyH.nil))
     ·obtain ⟨-,-,-,k3⟩:=h12.body_at (i:=i) rfl HE.out.1
      refine step_run rfl (.slice ua um um) V12 (by simp [execOp,Act.eval,go_sem,k3]) ?_
      have hS:(fun Wq:World=>Wq.cell? ⟨q3,1,none⟩=some (.slice (some ⟨gb,0,none⟩) nb cb)) V12:=h12.cells.2
      refine hK _ _ hS (fun _ => ?_)
      clear hK K
      simp only [Act.put,lsk]
      clear k3
      refine wpAnyH_ready (rs:=[12]) (by kernel_rfl) (by simp) ?_
      refine AllReadyH.cons rfl (fun K hK => ?_) (AllReadyH.nil)
      obtain ⟨Ra,era⟩:∃ W',W'=V12.alloc (.cells ⟨cellsE (.agg #[.int .i64 1,.int .i64 x,.string ⟨#[]⟩,.slice none 0 0])⟩ 52):=⟨_,rfl⟩
      have bra:Below V12.heap.size V12 Ra:=by rw [era]; exact (Below.refl _ _).alloc (Nat.le_refl _) _
      have xra:Ra.heap[V12.heap.size]? = some (.cells ⟨cellsE (.agg #[.int .i64 1,.int .i64 x,.string ⟨#[]⟩,.slice none 0 0])⟩ 52):=by rw [era]; exact block_new _ _
      have hra:=h12.below X bra
      have eva:=e12.below bra
      refine step_run rfl (.slice (some ⟨V12.heap.size,0,none⟩) 1 1) Ra (by rw [era]; simp [execOp,Act.eval,go_sem,cellsE,cellsV]) ?_
      have hS:(fun Wq:World=>Wq.cell? ⟨q3,1,none⟩=some (.slice (some ⟨gb,0,none⟩) nb cb)) Ra:=hra.cells.2
      refine hK _ _ hS (fun _ => ?_)
      clear hK K
      simp only [Act.put,lsk]
      obtain ⟨hm3,hua,us,hul,hus,huc⟩:=(eva).kidsRow
      obtain ⟨i0,hi0,hz0,hz1,hz2⟩:=info_parts infoE
      refine wpAnyH_ready (rs:=[13]) (by kernel_rfl) (by simp) ?_
      refine AllReadyH.cons rfl (fun K hK => ?_) (AllReadyH.nil)
      refine step_append_grows rfl (.tmp 82) (.tmp 86) 25 rfl 52 i0 _ 4 56 Tryz.underlying25 hi0 hz0 hz1 hz2 rfl (by decide) ua um um (us.flatMap cellsE) (by rfl) (fun e=>⟨hua e,hua e⟩) (by rw [flat_len hus,hul]) huc ⟨V12.heap.size,0,none⟩ 1 1 (cellsE (.agg #[.int .i64 1,.int .i64 x,.string ⟨#[]⟩,.slice none 0 0])) (by rfl) rfl (fun j u hu=>by rw [addr_add,cell_of_block xra,Nat.zero_add]; simpa using hu) (fun u hu=>by simp [cellsE,cellsV] at hu; rcases hu with rfl | rfl | rfl | rfl <;> rfl) (by omega) (by unfold maxLen; omega) (by omega) ?_
      intro kv W18 own18 gr18
      have b18:Below Ra.heap.size Ra W18:=⟨gr18.os,gr18.tape,gr18.output,gr18.size,fun k hk=>gr18.block k hk (by simp)⟩
      have h18:=hra.below X b18
      have hS:(fun Wq:World=>Wq.cell? ⟨q3,1,none⟩=some (.slice (some ⟨gb,0,none⟩) nb cb)) W18:=h18.cells.2
      refine hK _ _ hS (fun _ => ?_)
      clear hK K
      simp only [Act.put,lsk]
      refine wpAnyH_take (i:=14) (v:=.pointer (some ⟨gb,i * 4,none⟩)) rfl (by kernel_rfl) (by kernel_rfl) (by kernel_rfl) (fun _ _ _ h=>h) (Or.inl ⟨by rfl,fun wq hSw => ?_⟩) hS ?_
      ·simp [execOp,Act.eval,go_sem,hi']
      simp only [Act.put,lsk]
      refine wpAnyH_take (i:=15) (v:=.pointer (some ⟨gb,i * 4+3,none⟩)) rfl (by kernel_rfl) (by kernel_rfl) (by kernel_rfl) (fun _ _ _ h=>h) (Or.inl ⟨by rfl,fun wq hSw => ?_⟩) hS ?_
      ·simp [execOp,Act.eval,go_sem]
      simp only [Act.put,lsk]
      obtain ⟨-,-,-,c3⟩:=h18.body_at (i:=i) rfl HE.out.1
      have z3:=(h18.bne (b:=gb) rfl).2.2.2 (i * 4+3)
      obtain ⟨ka,kc,hkv⟩:=own_form own18
      have hst:=h18.store (j:=3) (u':=.agg #[.int .i64 uk,.int .i64 un,.string ut,kv]) (val:=kv) rfl HS.out.2.2.1 HE.out.1 (by omega) rfl
      refine wpAnyH_ready (rs:=[16]) (by kernel_rfl) (by simp) ?_
      refine AllReadyH.cons rfl (fun K hK => ?_) (AllReadyH.nil)
      refine step_skip rfl (W18.setCell ⟨gb,i * 4+3,none⟩ kv) (by subst hkv; simp [execOp,Act.eval,go_sem,z3,c3]) ?_
      have hch:=h18.changed X hst.2 hbn.1 hbn.2.1
      have hcx:=cbk hch.2.2.2 1 (.slice (some ⟨gb,0,none⟩) nb cb) rfl
      refine hK _ _ hcx (fun _ => ?_)
      clear hK K
      simp only [Act.put,List.getElem_toArray,List.getElem_cons_zero,List.getElem_cons_succ]
      refine wpAnyH_done (by kernel_rfl) ?_ _
      have hgk:∀ b,kv.ownBlock=some b→Ra.heap.size≤b∧b<W18.heap.size∧b≠gb:=fun b hb=>⟨(own18.lt b hb).1,(own18.lt b hb).2,fun e=>by have h1:=own_lt hra.pg.bodies gb rfl; have h2:=(own18.lt b hb).1; omega⟩
      have own19:=own_moved (W':=(W18.setCell ⟨gb,i * 4+3,none⟩ kv)) own18 (fun b hb=>Below.heap_setCell _ _ _ b (by show b≠gb; exact (hgk b hb).2.2))
      have kp19:∀ b,b≠gb→b<Ra.heap.size→(W18.setCell ⟨gb,i * 4+3,none⟩ kv).heap[b]? = Ra.heap[b]? := fun b hb hlt=>(Below.heap_setCell _ _ _ b (by show b≠gb; exact hb)).trans (b18.block b hlt)
      have sz19:Ra.heap.size≤(W18.setCell ⟨gb,i * 4+3,none⟩ kv).heap.size:=by simpa using b18.size
      have hxe:=ex_more (x:=.agg #[.int .i64 1,.int .i64 x,.string ⟨#[]⟩,.slice none 0 0]) (k:=uk) (n:=un) (t:=ut) hus (EV.leaf _ _ ⟨by omega,by omega⟩ hxi (Nat.zero_le _)) (fun b hb hlt=>kp19 b (fun e=>hb.2.1 (by rw [e]; rfl)) hlt) sz19 (by rw [hul]; exact own19) (by omega) (eva).kn_k (eva).kn_n (eva).kn_t
      have hpx:=h18.pg.setBodyX (i:=i) (u':=.agg #[.int .i64 uk,.int .i64 un,.string ut,kv]) hst.2 hst.1 (wideE hxe (fun b hb=>by rcases hb with hb | hb; exact hb.1; have h1:=hbn.2.1; have h2:=own_lt hra.pg.bodies gb rfl; omega))
      have HN:=(show Hid (_∧_∧_∧_) from hch)
      have HPG:=(show Hid (_) from hpx)
      generalize (W18.setCell ⟨gb,i * 4+3,none⟩ kv)=WF at HN HPG ⊢
      clear hxe hpx sz19 kp19 own19 hgk hcx hch hst hkv z3 c3 h18 b18 own18 gr18 hua huc hus hul hm3 hi0 hz0 hz1 hz2 hbn hi' X
      have HP:=(show Hid (PgX WF B (.slice an nn cn) (.slice (some ⟨gb,0,none⟩) nb cb) (ns) (vs.set i (.agg #[.int .i64 uk,.int .i64 un,.string ut,kv]))) from HPG.out)
      have f0:=ubk HN.out.2.2.1 0
      have f1:=ubk HN.out.2.2.1 1
      have d0:=cbk HN.out.2.2.1 0 (.slice none 0 0) rfl
      have d1:=cbk HN.out.2.2.1 1 (.slice none 0 0) rfl
      have y0:=cbk HN.out.2.2.2 0 (.slice an nn cn) rfl
      have y1:=cbk HN.out.2.2.2 1 (.slice (some ⟨gb,0,none⟩) nb cb) rfl
      go_wp2
      refine bodyPost_ret (v:=.agg #[.slice an nn cn,.slice (some ⟨gb,0,none⟩) nb cb]) (by simp [results,Tryz.results14,go_sem,d0,d1]) rfl ?_
      exact ⟨_,rfl,⟨_,_,rfl⟩,HX.out.fin HN.out.1 HN.out.2.1 HP.out (by first | exact HS.out.1 | (rw [List.length_set]; exact HS.out.1)) (by have h1:=HS.out.1; have h2:=HS.out.2.1; first | omega | (rw [List.length_set]; omega))⟩
     ·obtain ⟨Ra,era⟩:∃ W',W'=V12.alloc (.cells ⟨cellsE (.agg #[.int .i64 1,.int .i64 x,.string ⟨#[]⟩,.slice none 0 0])⟩ 52):=⟨_,rfl⟩
      have bra:Below V12.heap.size V12 Ra:=by rw [era]; exact (Below.refl _ _).alloc (Nat.le_refl _) _
      have xra:Ra.heap[V12.heap.size]? = some (.cells ⟨cellsE (.agg #[.int .i64 1,.int .i64 x,.string ⟨#[]⟩,.slice none 0 0])⟩ 52):=by rw [era]; exact block_new _ _
      have hra:=h12.below X bra
      have eva:=e12.below bra
      refine step_run rfl (.slice (some ⟨V12.heap.size,0,none⟩) 1 1) Ra (by rw [era]; simp [execOp,Act.eval,go_sem,cellsE,cellsV]) ?_
      have hS:(fun Wq:World=>Wq.cell? ⟨q3,1,none⟩=some (.slice (some ⟨gb,0,none⟩) nb cb)) Ra:=hra.cells.2
      refine hK _ _ hS (fun _ => ?_)
      clear hK K
      simp only [Act.put,lsk]
      refine wpAnyH_ready (rs:=[8]) (by kernel_rfl) (by simp) ?_
      refine AllReadyH.cons rfl (fun K hK => ?_) (AllReadyH.nil)
      obtain ⟨-,-,-,k3⟩:=hra.body_at (i:=i) rfl HE.out.1
      refine step_run rfl (.slice ua um um) Ra (by simp [execOp,Act.eval,go_sem,k3]) ?_
      have hS:(fun Wq:World=>Wq.cell? ⟨q3,1,none⟩=some (.slice (some ⟨gb,0,none⟩) nb cb)) Ra:=hra.cells.2
      refine hK _ _ hS (fun _ => ?_)
      clear hK K
      simp only [Act.put,lsk]
      clear k3
      obtain ⟨hm3,hua,us,hul,hus,huc⟩:=(eva).kidsRow
      obtain ⟨i0,hi0,hz0,hz1,hz2⟩:=info_parts infoE
      refine wpAnyH_ready (rs:=[13]) (by kernel_rfl) (by simp) ?_
      refine AllReadyH.cons rfl (fun K hK => ?_) (AllReadyH.nil)
      refine step_append_grows rfl (.tmp 82) (.tmp 86) 25 rfl 52 i0 _ 4 56 Tryz.underlying25 hi0 hz0 hz1 hz2 rfl (by decide) ua um um (us.flatMap cellsE) (by rfl) (fun e=>⟨hua e,hua e⟩) (by rw [flat_len hus,hul]) huc ⟨V12.heap.size,0,none⟩ 1 1 (cellsE (.agg #[.int .i64 1,.int .i64 x,.string ⟨#[]⟩,.slice none 0 0])) (by rfl) rfl (fun j u hu=>by rw [addr_add,cell_of_block xra,Nat.zero_add]; simpa using hu) (fun u hu=>by simp [cellsE,cellsV] at hu; rcases hu with rfl | rfl | rfl | rfl <;> rfl) (by omega) (by unfold maxLen; omega) (by omega) ?_
      intro kv W18 own18 gr18
      have b18:Below Ra.heap.size Ra W18:=⟨gr18.os,gr18.tape,gr18.output,gr18.size,fun k hk=>gr18.block k hk (by simp)⟩
      have h18:=hra.below X b18
      have hS:(fun Wq:World=>Wq.cell? ⟨q3,1,none⟩=some (.slice (some ⟨gb,0,none⟩) nb cb)) W18:=h18.cells.2
      refine hK _ _ hS (fun _ => ?_)
      clear hK K
      simp only [Act.put,lsk]
      refine wpAnyH_take (i:=14) (v:=.pointer (some ⟨gb,i * 4,none⟩)) rfl (by kernel_rfl) (by kernel_rfl) (by kernel_rfl) (fun _ _ _ h=>h) (Or.inl ⟨by rfl,fun wq hSw => ?_⟩) hS ?_
      ·simp [execOp,Act.eval,go_sem,hi']
      simp only [Act.put,lsk]
      refine wpAnyH_take (i:=15) (v:=.pointer (some ⟨gb,i * 4+3,none⟩)) rfl (by kernel_rfl) (by kernel_rfl) (by kernel_rfl) (fun _ _ _ h=>h) (Or.inl ⟨by rfl,fun wq hSw => ?_⟩) hS ?_
      ·simp [execOp,Act.eval,go_sem]
      simp only [Act.put,lsk]
      obtain ⟨-,-,-,c3⟩:=h18.body_at (i:=i) rfl HE.out.1
      have z3:=(h18.bne (b:=gb) rfl).2.2.2 (i * 4+3)
      obtain ⟨ka,kc,hkv⟩:=own_form own18
      have hst:=h18.store (j:=3) (u':=.agg #[.int .i64 uk,.int .i64 un,.string ut,kv]) (val:=kv) rfl HS.out.2.2.1 HE.out.1 (by omega) rfl
      refine wpAnyH_ready (rs:=[16]) (by kernel_rfl) (by simp) ?_
      refine AllReadyH.cons rfl (fun K hK => ?_) (AllReadyH.nil)
      refine step_skip rfl (W18.setCell ⟨gb,i * 4+3,none⟩ kv) (by subst hkv; simp [execOp,Act.eval,go_sem,z3,c3]) ?_
      have hch:=h18.changed X hst.2 hbn.1 hbn.2.1
      have hcx:=cbk hch.2.2.2 1 (.slice (some ⟨gb,0,none⟩) nb cb) rfl
      refine hK _ _ hcx (fun _ => ?_)
      clear hK K
      simp only [Act.put,List.getElem_toArray,List.getElem_cons_zero,List.getElem_cons_succ]
      refine wpAnyH_done (by kernel_rfl) ?_ _
      have hgk:∀ b,kv.ownBlock=some b→Ra.heap.size≤b∧b<W18.heap.size∧b≠gb:=fun b hb=>⟨(own18.lt b hb).1,(own18.lt b hb).2,fun e=>by have h1:=own_lt hra.pg.bodies gb rfl; have h2:=(own18.lt b hb).1; omega⟩
      have own19:=own_moved (W':=(W18.setCell ⟨gb,i * 4+3,none⟩ kv)) own18 (fun b hb=>Below.heap_setCell _ _ _ b (by show b≠gb; exact (hgk b hb).2.2))
      have kp19:∀ b,b≠gb→b<Ra.heap.size→(W18.setCell ⟨gb,i * 4+3,none⟩ kv).heap[b]? = Ra.heap[b]? := fun b hb hlt=>(Below.heap_setCell _ _ _ b (by show b≠gb; exact hb)).trans (b18.block b hlt)
      have sz19:Ra.heap.size≤(W18.setCell ⟨gb,i * 4+3,none⟩ kv).heap.size:=by simpa using b18.size
      have hxe:=ex_more (x:=.agg #[.int .i64 1,.int .i64 x,.string ⟨#[]⟩,.slice none 0 0]) (k:=uk) (n:=un) (t:=ut) hus (EV.leaf _ _ ⟨by omega,by omega⟩ hxi (Nat.zero_le _)) (fun b hb hlt=>kp19 b (fun e=>hb.2.1 (by rw [e]; rfl)) hlt) sz19 (by rw [hul]; exact own19) (by omega) (eva).kn_k (eva).kn_n (eva).kn_t
      have hpx:=h18.pg.setBodyX (i:=i) (u':=.agg #[.int .i64 uk,.int .i64 un,.string ut,kv]) hst.2 hst.1 (wideE hxe (fun b hb=>by rcases hb with hb | hb; exact hb.1; have h1:=hbn.2.1; have h2:=own_lt hra.pg.bodies gb rfl; omega))
      have HN:=(show Hid (_∧_∧_∧_) from hch)
      have HPG:=(show Hid (_) from hpx)
      generalize (W18.setCell ⟨gb,i * 4+3,none⟩ kv)=WF at HN HPG ⊢
      clear hxe hpx sz19 kp19 own19 hgk hcx hch hst hkv z3 c3 h18 b18 own18 gr18 hua huc hus hul hm3 hi0 hz0 hz1 hz2 hbn hi' X
      have HP:=(show Hid (PgX WF B (.slice an nn cn) (.slice (some ⟨gb,0,none⟩) nb cb) (ns) (vs.set i (.agg #[.int .i64 uk,.int .i64 un,.string ut,kv]))) from HPG.out)
      have f0:=ubk HN.out.2.2.1 0
      have f1:=ubk HN.out.2.2.1 1
      have d0:=cbk HN.out.2.2.1 0 (.slice none 0 0) rfl
      have d1:=cbk HN.out.2.2.1 1 (.slice none 0 0) rfl
      have y0:=cbk HN.out.2.2.2 0 (.slice an nn cn) rfl
      have y1:=cbk HN.out.2.2.2 1 (.slice (some ⟨gb,0,none⟩) nb cb) rfl
      go_wp2
      refine bodyPost_ret (v:=.agg #[.slice an nn cn,.slice (some ⟨gb,0,none⟩) nb cb]) (by simp [results,Tryz.results14,go_sem,d0,d1]) rfl ?_
      exact ⟨_,rfl,⟨_,_,rfl⟩,HX.out.fin HN.out.1 HN.out.2.1 HP.out (by first | exact HS.out.1 | (rw [List.length_set]; exact HS.out.1)) (by have h1:=HS.out.1; have h2:=HS.out.2.1; first | omega | (rw [List.length_set]; omega))⟩
   ·have x9:=block_setCell (i:=0) x8 (.bool false)
    have c9:=cbk x9 0 (.bool false) rfl
    have f9:=ubk x9 0
    refine step_skip rfl (W8.setCell ⟨W7.heap.size,0,none⟩ (.bool false)) (by simp [execOp,Act.eval,go_sem,c8,f8]) ?_
    refine hK _ _ trivial (fun _ => ?_)
    clear hK K
    simp only [Act.put,List.getElem_toArray,List.getElem_cons_zero,List.getElem_cons_succ]
    have b9:Below W6.heap.size W6 (W8.setCell ⟨W7.heap.size,0,none⟩ (.bool false)):=(bd0.trans (b8.mono bd0.size)).setCell (p:=⟨W7.heap.size,0,none⟩) bd0.size _
    clear x8 c8 f8 b8
    generalize W8.setCell ⟨W7.heap.size,0,none⟩ (.bool false)=W9 at x9 c9 f9 b9 ⊢
    refine wpAnyH_ready (rs:=[1]) (by kernel_rfl) (by simp) ?_
    refine AllReadyH.cons rfl (fun K hK => ?_) (AllReadyH.nil)
    have x10:=block_setCell (i:=0) x9 (.bool true)
    have c10:=cbk x10 0 (.bool true) rfl
    refine step_skip rfl (W9.setCell ⟨W7.heap.size,0,none⟩ (.bool true)) (by simp [execOp,Act.eval,go_sem,c9,f9]) ?_
    refine hK _ _ trivial (fun _ => ?_)
    clear hK K
    simp only [Act.put,List.getElem_toArray,List.getElem_cons_zero,List.getElem_cons_succ]
    have b10:Below W6.heap.size W6 (W9.setCell ⟨W7.heap.size,0,none⟩ (.bool true)):=b9.setCell (p:=⟨W7.heap.size,0,none⟩) bd0.size _
    clear x9 c9 f9 b9 x10
    generalize W9.setCell ⟨W7.heap.size,0,none⟩ (.bool true)=W10 at c10 b10 ⊢
    refine wpAnyH_ready (rs:=[3]) (by kernel_rfl) (by simp) ?_
    refine AllReadyH.cons rfl (fun K hK => ?_) (AllReadyH.nil)
    refine step_run rfl (.bool true) W10 (by simp [execOp,Act.eval,go_sem,c10]) ?_
    refine hK _ _ trivial (fun _ => ?_)
    clear hK K
    simp only [Act.put,lsk]
    refine wpAnyH_done (by kernel_rfl) ?_ _
    refine hKA _ _ ?_
    clear hKA KA
    have HL10:=(show Hid (LP B0 g V len w B q3 W10 (.slice an nn cn) (.slice (some ⟨gb,0,none⟩) nb cb) ns vs) from HL.out.below X b10)
    have HE:=(show Hid (vs[i]? = some (.agg #[.int .i64 uk,.int .i64 un,.string ut,.slice ua um um])∧EV (fun b=>B≤b∧(Value.slice (some ⟨gb,0,none⟩) nb cb).ownBlock≠some b∧(Value.slice an nn cn).ownBlock≠some b) W10 (.agg #[.int .i64 uk,.int .i64 un,.string ut,.slice ua um um])) from ⟨HE6.out.1,HE6.out.2.below b10⟩)
    clear HL HE6 b10 c10 bd0 X
    go_upto_region 14 with fail
    rename_i KA hKA
    have X:=HX.out
    refine wp_region_held_drew (S:=fun Wq=>Wq.cell? ⟨q3,1,none⟩=some (.slice (some ⟨gb,0,none⟩) nb cb)) (by kernel_rfl) (HL10.out.cells.2) (fun hS => ?_)
    have bd0:Below W10.heap.size W10 W10.drew:=⟨rfl,rfl,rfl,Nat.le_refl _,fun _ _=>rfl⟩
    generalize W10.drew=W11 at bd0 hS ⊢
    have h11:=HL10.out.below X bd0
    have e11:=HE.out.2.below bd0
    have hi':((i:Nat):Int)<(nb:Int):=by have h1:=HI.out; omega
    have hbn:=h11.bne (b:=gb) rfl
    refine wpAnyH_take (i:=0) (v:=.pointer (some ⟨q3,1,none⟩)) rfl (by kernel_rfl) (by kernel_rfl) (by kernel_rfl) (fun _ _ _ h=>h) (Or.inl ⟨by rfl,fun wq hSw => ?_⟩) hS ?_
    ·simp [execOp,Act.eval,go_sem]
    simp only [Act.put,lsk]
    refine wpAnyH_take (i:=1) (v:=.slice (some ⟨gb,0,none⟩) nb cb) rfl (by kernel_rfl) (by kernel_rfl) (by kernel_rfl) (fun _ _ _ h=>h) (Or.inl ⟨by rfl,fun wq hSw => ?_⟩) hS ?_
    ·simp [execOp,Act.eval,go_sem,hSw]
    simp only [Act.put,lsk]
    refine wpAnyH_take (i:=2) (v:=.int .i64 (i:Int)) rfl (by kernel_rfl) (by kernel_rfl) (by kernel_rfl) (fun _ _ _ h=>h) (Or.inl ⟨by rfl,fun wq hSw => ?_⟩) hS ?_
    ·exact ex_move _ _ _ _ rfl (by rfl) _
    simp only [Act.put,lsk]
    refine wpAnyH_take (i:=3) (v:=.pointer (some ⟨gb,i * 4,none⟩)) rfl (by kernel_rfl) (by kernel_rfl) (by kernel_rfl) (fun _ _ _ h=>h) (Or.inl ⟨by rfl,fun wq hSw => ?_⟩) hS ?_
    ·simp [execOp,Act.eval,go_sem,hi']
    simp only [Act.put,lsk]
    refine wpAnyH_take (i:=4) (v:=.pointer (some ⟨gb,i * 4+3,none⟩)) rfl (by kernel_rfl) (by kernel_rfl) (by kernel_rfl) (fun _ _ _ h=>h) (Or.inl ⟨by rfl,fun wq hSw => ?_⟩) hS ?_
    ·simp [execOp,Act.eval,go_sem]
    simp only [Act.put,lsk]
    refine wpAnyH_take (i:=6) (v:=.pointer (some ⟨g,0,none⟩)) rfl (by kernel_rfl) (by kernel_rfl) (by kernel_rfl) (fun _ _ _ h=>h) (Or.inl ⟨by rfl,fun wq hSw => ?_⟩) hS ?_
    ·exact ex_move _ _ _ _ rfl (by rfl) _
    simp only [Act.put,lsk]
    refine wpAnyH_ready (rs:=[5,7,10]) (by kernel_rfl) (by simp) ?_
    refine AllReadyH.cons rfl (fun K hK => ?_) (AllReadyH.cons rfl (fun K hK => ?_) (AllReadyH.cons rfl (fun K hK => ?_) (AllReadyH.nil)))
    ·obtain ⟨-,-,-,k3⟩:=h11.body_at (i:=i) rfl HE.out.1
     refine step_run rfl (.slice ua um um) W11 (by simp [execOp,Act.eval,go_sem,k3]) ?_
     have hS:(fun Wq:World=>Wq.cell? ⟨q3,1,none⟩=some (.slice (some ⟨gb,0,none⟩) nb cb)) W11:=h11.cells.2
     refine hK _ _ hS (fun _ => ?_)
     clear hK K
     simp only [Act.put,lsk]
     clear k3
     refine wpAnyH_take (i:=9) (v:=.int .i64 (um:Int)) rfl (by kernel_rfl) (by kernel_rfl) (by kernel_rfl) (fun _ _ _ h=>h) (Or.inl ⟨by rfl,fun wq hSw => ?_⟩) hS ?_
     ·exact ex_lenE _ _ (.tmp 64) rfl (by rfl) _
     simp only [Act.put,lsk]
     refine wpAnyH_ready (rs:=[7,10]) (by kernel_rfl) (by simp) ?_
     refine AllReadyH.cons rfl (fun K hK => ?_) (AllReadyH.cons rfl (fun K hK => ?_) (AllReadyH.nil))
     ·refine step_callTwo rfl 25 (.tmp 65) (.const (.int .i64 3)) _ rfl ent_below (.pointer (some ⟨g,0,none⟩)) (.int .i64 3) (by rfl) rfl (fun r w'=>∃ z:Int,r = .int .i64 z∧0≤z∧z<3∧Dr B0 w' g V len∧W11.grownBy w' (some g)) ((below_dr B0 g V len 3 W11 (by omega) (by omega) h11.dr).mono (fun e w' ⟨z,he,hh⟩=>⟨_,he,z,rfl,hh⟩)) ?_
      rintro r V12 ⟨x,rfl,x0,x1,d12,g12⟩
      have h12:=h11.step X d12 g12
      have e12:=e11.kept (w':=V12) (fun b hb hlt=>g12.block b hlt (fun e=>by have h1:=X.gw; have h2:=X.wB; have h3:=hb.1; cases e; omega)) g12.size (fun b hb _=>hb)
      have hxi:inI64 x:=⟨by omega,by omega⟩
      have hS:(fun Wq:World=>Wq.cell? ⟨q3,1,none⟩=some (.slice (some ⟨gb,0,none⟩) nb cb)) V12:=h12.cells.2
      refine hK _ _ hS (fun _ => ?_)
      clear hK K
      simp only [Act.put,lsk]
      refine wpAnyH_take (i:=8) (v:=.agg #[.int .i64 1,.int .i64 x,.string ⟨#[]⟩,.slice none 0 0]) rfl (by kernel_rfl) (by kernel_rfl) (by kernel_rfl) (fun _ _ _ h=>h) (Or.inl ⟨by rfl,fun wq hSw => ?_⟩) hS ?_
      ·exact ex_build01 _ _ rfl (by rfl) _
      simp only [Act.put,lsk]
      refine wpAnyH_ready (rs:=[10]) (by kernel_rfl) (by simp) ?_
      refine AllReadyH.cons rfl (fun K hK => ?_) (AllReadyH.nil)
      obtain ⟨Ra,era⟩:∃ W',W'=V12.alloc (.cells ⟨cellsE (.agg #[.int .i64 0,.int .i64 0,.string ⟨#[]⟩,.slice none 0 0])⟩ 52):=⟨_,rfl⟩
      have bra:Below V12.heap.size V12 Ra:=by rw [era]; exact (Below.refl _ _).alloc (Nat.le_refl _) _
      have xra:Ra.heap[V12.heap.size]? = some (.cells ⟨cellsE (.agg #[.int .i64 0,.int .i64 0,.string ⟨#[]⟩,.slice none 0 0])⟩ 52):=by rw [era]; exact block_new _ _
      have hra:=h12.below X bra
      have eva:=e12.below bra
      refine step_run rfl (.slice (some ⟨V12.heap.size,0,none⟩) 1 1) Ra (by rw [era]; simp [execOp,Act.eval,go_sem,cellsE,cellsV]) ?_
      have hS:(fun Wq:World=>Wq.cell? ⟨q3,1,none⟩=some (.slice (some ⟨gb,0,none⟩) nb cb)) Ra:=hra.cells.2
      refine hK _ _ hS (fun _ => ?_)
      clear hK K
      simp only [Act.put,lsk]
      obtain ⟨hm3,hua,us,hul,hus,huc⟩:=(eva).kidsRow
      obtain ⟨i0,hi0,hz0,hz1,hz2⟩:=info_parts infoE
      refine wpAnyH_ready (rs:=[11]) (by kernel_rfl) (by simp) ?_
      refine AllReadyH.cons rfl (fun K hK => ?_) (AllReadyH.nil)
      refine step_append_grows rfl (.tmp 64) (.tmp 69) 25 rfl 52 i0 _ 4 56 Tryz.underlying25 hi0 hz0 hz1 hz2 rfl (by decide) ua um um (us.flatMap cellsE) (by rfl) (fun e=>⟨hua e,hua e⟩) (by rw [flat_len hus,hul]) huc ⟨V12.heap.size,0,none⟩ 1 1 (cellsE (.agg #[.int .i64 0,.int .i64 0,.string ⟨#[]⟩,.slice none 0 0])) (by rfl) rfl (fun j u hu=>by rw [addr_add,cell_of_block xra,Nat.zero_add]; simpa using hu) (fun u hu=>by simp [cellsE,cellsV] at hu; rcases hu with rfl | rfl | rfl | rfl <;> rfl) (by omega) (by unfold maxLen; omega) (by omega) ?_
      intro kv W18 own18 gr18
      have b18:Below Ra.heap.size Ra W18:=⟨gr18.os,gr18.tape,gr18.output,gr18.size,fun k hk=>gr18.block k hk (by simp)⟩
      have h18:=hra.below X b18
      have hS:(fun Wq:World=>Wq.cell? ⟨q3,1,none⟩=some (.slice (some ⟨gb,0,none⟩) nb cb)) W18:=h18.cells.2
      refine hK _ _ hS (fun _ => ?_)
      clear hK K
      simp only [Act.put,lsk]
      refine wpAnyH_take (i:=12) (v:=.pointer (some ⟨gb,i * 4,none⟩)) rfl (by kernel_rfl) (by kernel_rfl) (by kernel_rfl) (fun _ _ _ h=>h) (Or.inl ⟨by rfl,fun wq hSw => ?_⟩) hS ?_
      ·simp [execOp,Act.eval,go_sem,hi']
      simp only [Act.put,lsk]
      refine wpAnyH_take (i:=13) (v:=.pointer (some ⟨gb,i * 4+3,none⟩)) rfl (by kernel_rfl) (by kernel_rfl) (by kernel_rfl) (fun _ _ _ h=>h) (Or.inl ⟨by rfl,fun wq hSw => ?_⟩) hS ?_
      ·simp [execOp,Act.eval,go_sem]
      simp only [Act.put,lsk]
      obtain ⟨-,-,-,c3⟩:=h18.body_at (i:=i) rfl HE.out.1
      have z3:=(h18.bne (b:=gb) rfl).2.2.2 (i * 4+3)
      obtain ⟨ka,kc,hkv⟩:=own_form own18
      have hst:=h18.store (j:=3) (u':=.agg #[.int .i64 uk,.int .i64 un,.string ut,kv]) (val:=kv) rfl HS.out.2.2.1 HE.out.1 (by omega) rfl
      refine wpAnyH_ready (rs:=[14]) (by kernel_rfl) (by simp) ?_
      refine AllReadyH.cons rfl (fun K hK => ?_) (AllReadyH.nil)
      refine step_skip rfl (W18.setCell ⟨gb,i * 4+3,none⟩ kv) (by subst hkv; simp [execOp,Act.eval,go_sem,z3,c3]) ?_
      have hch:=h18.changed X hst.2 hbn.1 hbn.2.1
      have hcx:=cbk hch.2.2.2 1 (.slice (some ⟨gb,0,none⟩) nb cb) rfl
      refine hK _ _ hcx (fun _ => ?_)
      clear hK K
      simp only [Act.put,List.getElem_toArray,List.getElem_cons_zero,List.getElem_cons_succ]
      refine wpAnyH_done (by kernel_rfl) ?_ _
      refine hKA _ _ ?_
      clear hKA KA
      have hgk:∀ b,kv.ownBlock=some b→Ra.heap.size≤b∧b<W18.heap.size∧b≠gb:=fun b hb=>⟨(own18.lt b hb).1,(own18.lt b hb).2,fun e=>by have h1:=own_lt hra.pg.bodies gb rfl; have h2:=(own18.lt b hb).1; omega⟩
      have own19:=own_moved (W':=(W18.setCell ⟨gb,i * 4+3,none⟩ kv)) own18 (fun b hb=>Below.heap_setCell _ _ _ b (by show b≠gb; exact (hgk b hb).2.2))
      have kp19:∀ b,b≠gb→b<Ra.heap.size→(W18.setCell ⟨gb,i * 4+3,none⟩ kv).heap[b]? = Ra.heap[b]? := fun b hb hlt=>(Below.heap_setCell _ _ _ b (by show b≠gb; exact hb)).trans (b18.block b hlt)
      have sz19:Ra.heap.size≤(W18.setCell ⟨gb,i * 4+3,none⟩ kv).heap.size:=by simpa using b18.size
      have gr19:Ra.grownBy (W18.setCell ⟨gb,i * 4+3,none⟩ kv) (some gb):=(show Ra.grownBy W18 (some gb) from ⟨gr18.os,gr18.tape,gr18.output,gr18.size,fun k hk _=>gr18.block k hk (by simp)⟩).trans hst.2
      have ob19:=hst.1
      clear hcx hkv z3 c3 hst hch
      generalize (W18.setCell ⟨gb,i * 4+3,none⟩ kv)=W19 at own19 kp19 sz19 gr19 ob19 ⊢
      obtain ⟨gk,kc',rfl⟩:=own_some own18 (by omega)
      have hkm:((um:Nat):Int)<((um:Nat):Int)+1:=by omega
      have hgg:=hgk gk rfl
      clear hgk own18
      obtain ⟨own20,gr20⟩:=own_last (a':=.int .i64 1) (b':=.int .i64 x) (c':=.string ⟨#[]⟩) (d':=.slice none 0 0) own19 (by rw [flat_len hus,hul])
      obtain ⟨l0,l1,l2,l3⟩:=last_cells own19 (by rw [flat_len hus,hul])
      have fz:=unfrozen_own own19 gk rfl
      have z0:=fz (um * 4)
      have z1:=fz (um * 4+1)
      have z2:=fz (um * 4+2)
      have z3:=fz (um * 4+3)
      clear fz
      go_upto_region 15 with fail
      refine wp_region_list ?_
      refine wpl_run rfl (.pointer (some ⟨gk,um * 4,none⟩)) W19 (by simp [execOp,Act.eval,go_sem,hkm]) ?_
      simp only [Act.put,List.setIfInBounds_toArray,List.set_cons_zero,List.set_cons_succ]
      refine wpl_skip rfl ((((W19.setCell ⟨gk,um * 4,none⟩ (.int .i64 1)).setCell ⟨gk,um * 4+1,none⟩ (.int .i64 x)).setCell ⟨gk,um * 4+2,none⟩ (.string ⟨#[]⟩)).setCell ⟨gk,um * 4+3,none⟩ (.slice none 0 0)) (by simp [execOp,Act.eval,go_sem,z0,z1,z2,z3,l0,l1,l2,l3]) ?_
      simp only [Act.put]
      refine wpList_nil ?_
      have gr21:Ra.grownBy ((((W19.setCell ⟨gk,um * 4,none⟩ (.int .i64 1)).setCell ⟨gk,um * 4+1,none⟩ (.int .i64 x)).setCell ⟨gk,um * 4+2,none⟩ (.string ⟨#[]⟩)).setCell ⟨gk,um * 4+3,none⟩ (.slice none 0 0)) (some gb):=gr19.andThen gr20 (fun j hj=>by cases hj; exact .inl hgg.1)
      have ob20:=own_moved (W':=((((W19.setCell ⟨gk,um * 4,none⟩ (.int .i64 1)).setCell ⟨gk,um * 4+1,none⟩ (.int .i64 x)).setCell ⟨gk,um * 4+2,none⟩ (.string ⟨#[]⟩)).setCell ⟨gk,um * 4+3,none⟩ (.slice none 0 0))) ob19 (fun b hb=>gr20.block b (own_lt ob19 b hb) (fun e=>by cases e; have e2:=Option.some.inj hb; exact hgg.2.2 e2.symm))
      have kp20:∀ b,b≠gb→b<Ra.heap.size→((((W19.setCell ⟨gk,um * 4,none⟩ (.int .i64 1)).setCell ⟨gk,um * 4+1,none⟩ (.int .i64 x)).setCell ⟨gk,um * 4+2,none⟩ (.string ⟨#[]⟩)).setCell ⟨gk,um * 4+3,none⟩ (.slice none 0 0)).heap[b]? = Ra.heap[b]? := fun b hb hlt=>gr21.block b hlt (fun e=>hb (Option.some.inj e))
      have hxe:=ex_more (x:=.agg #[.int .i64 1,.int .i64 x,.string ⟨#[]⟩,.slice none 0 0]) (k:=uk) (n:=un) (t:=ut) hus (EV.leaf _ _ ⟨by omega,by omega⟩ hxi (Nat.zero_le _)) (fun b hb hlt=>kp20 b (fun e=>hb.2.1 (by rw [e]; rfl)) hlt) gr21.size (by rw [hul]; exact own20) (by omega) (eva).kn_k (eva).kn_n (eva).kn_t
      have hch:=hra.changed X gr21 hbn.1 hbn.2.1
      have hpx:=hra.pg.setBodyX (i:=i) (u':=.agg #[.int .i64 uk,.int .i64 un,.string ut,.slice (some ⟨gk,0,none⟩) (um+1) kc']) gr21 ob20 (wideE hxe (fun b hb=>by rcases hb with hb | hb; exact hb.1; have h1:=hbn.2.1; have h2:=own_lt hra.pg.bodies gb rfl; omega))
      have HN:=(show Hid (_∧_∧_∧_) from hch)
      have HPG:=(show Hid (_) from hpx)
      generalize ((((W19.setCell ⟨gk,um * 4,none⟩ (.int .i64 1)).setCell ⟨gk,um * 4+1,none⟩ (.int .i64 x)).setCell ⟨gk,um * 4+2,none⟩ (.string ⟨#[]⟩)).setCell ⟨gk,um * 4+3,none⟩ (.slice none 0 0))=WF at HN HPG ⊢
      clear hxe hpx hch kp20 ob20 gr21 gr20 own20 l0 l1 l2 l3 z0 z1 z2 z3 ob19 gr19 sz19 kp19 own19 hgg hkm h18 b18 gr18 hua huc hus hul hm3 hi0 hz0 hz1 hz2 hbn hi' X
      have HP:=(show Hid (PgX WF B (.slice an nn cn) (.slice (some ⟨gb,0,none⟩) nb cb) (ns) (vs.set i (.agg #[.int .i64 uk,.int .i64 un,.string ut,.slice (some ⟨gk,0,none⟩) (um+1) kc']))) from HPG.out)
      have f0:=ubk HN.out.2.2.1 0
      have f1:=ubk HN.out.2.2.1 1
      have d0:=cbk HN.out.2.2.1 0 (.slice none 0 0) rfl
      have d1:=cbk HN.out.2.2.1 1 (.slice none 0 0) rfl
      have y0:=cbk HN.out.2.2.2 0 (.slice an nn cn) rfl
      have y1:=cbk HN.out.2.2.2 1 (.slice (some ⟨gb,0,none⟩) nb cb) rfl
      go_wp2
      refine bodyPost_ret (v:=.agg #[.slice an nn cn,.slice (some ⟨gb,0,none⟩) nb cb]) (by simp [results,Tryz.results14,go_sem,d0,d1]) rfl ?_
      exact ⟨_,rfl,⟨_,_,rfl⟩,HX.out.fin HN.out.1 HN.out.2.1 HP.out (by first | exact HS.out.1 | (rw [List.length_set]; exact HS.out.1)) (by have h1:=HS.out.1; have h2:=HS.out.2.1; first | omega | (rw [List.length_set]; omega))⟩
     ·obtain ⟨Ra,era⟩:∃ W',W'=W11.alloc (.cells ⟨cellsE (.agg #[.int .i64 0,.int .i64 0,.string ⟨#[]⟩,.slice none 0 0])⟩ 52):=⟨_,rfl⟩
      have bra:Below W11.heap.size W11 Ra:=by rw [era]; exact (Below.refl _ _).alloc (Nat.le_refl _) _
      have xra:Ra.heap[W11.heap.size]? = some (.cells ⟨cellsE (.agg #[.int .i64 0,.int .i64 0,.string ⟨#[]⟩,.slice none 0 0])⟩ 52):=by rw [era]; exact block_new _ _
      have hra:=h11.below X bra
      have eva:=e11.below bra
      refine step_run rfl (.slice (some ⟨W11.heap.size,0,none⟩) 1 1) Ra (by rw [era]; simp [execOp,Act.eval,go_sem,cellsE,cellsV]) ?_
      have hS:(fun Wq:World=>Wq.cell? ⟨q3,1,none⟩=some (.slice (some ⟨gb,0,none⟩) nb cb)) Ra:=hra.cells.2
      refine hK _ _ hS (fun _ => ?_)
      clear hK K
      simp only [Act.put,lsk]
      refine wpAnyH_ready (rs:=[7]) (by kernel_rfl) (by simp) ?_
      refine AllReadyH.cons rfl (fun K hK => ?_) (AllReadyH.nil)
      refine step_callTwo rfl 25 (.tmp 65) (.const (.int .i64 3)) _ rfl ent_below (.pointer (some ⟨g,0,none⟩)) (.int .i64 3) (by rfl) rfl (fun r w'=>∃ z:Int,r = .int .i64 z∧0≤z∧z<3∧Dr B0 w' g V len∧Ra.grownBy w' (some g)) ((below_dr B0 g V len 3 Ra (by omega) (by omega) hra.dr).mono (fun e w' ⟨z,he,hh⟩=>⟨_,he,z,rfl,hh⟩)) ?_
      rintro r V12 ⟨x,rfl,x0,x1,d12,g12⟩
      have h12:=hra.step X d12 g12
      have e12:=eva.kept (w':=V12) (fun b hb hlt=>g12.block b hlt (fun e=>by have h1:=X.gw; have h2:=X.wB; have h3:=hb.1; cases e; omega)) g12.size (fun b hb _=>hb)
      have hxi:inI64 x:=⟨by omega,by omega⟩
      have hS:(fun Wq:World=>Wq.cell? ⟨q3,1,none⟩=some (.slice (some ⟨gb,0,none⟩) nb cb)) V12:=h12.cells.2
      refine hK _ _ hS (fun _ => ?_)
      clear hK K
      simp only [Act.put,lsk]
      refine wpAnyH_take (i:=8) (v:=.agg #[.int .i64 1,.int .i64 x,.string ⟨#[]⟩,.slice none 0 0]) rfl (by kernel_rfl) (by kernel_rfl) (by kernel_rfl) (fun _ _ _ h=>h) (Or.inl ⟨by rfl,fun wq hSw => ?_⟩) hS ?_
      ·exact ex_build01 _ _ rfl (by rfl) _
      simp only [Act.put,lsk]
      have xrb:=(g12.block _ (lh xra) (fun e=>by have h1:=h11.dr.glt; cases e; omega)).trans xra
      obtain ⟨hm3,hua,us,hul,hus,huc⟩:=(e12).kidsRow
      obtain ⟨i0,hi0,hz0,hz1,hz2⟩:=info_parts infoE
      refine wpAnyH_ready (rs:=[11]) (by kernel_rfl) (by simp) ?_
      refine AllReadyH.cons rfl (fun K hK => ?_) (AllReadyH.nil)
      refine step_append_grows rfl (.tmp 64) (.tmp 69) 25 rfl 52 i0 _ 4 56 Tryz.underlying25 hi0 hz0 hz1 hz2 rfl (by decide) ua um um (us.flatMap cellsE) (by rfl) (fun e=>⟨hua e,hua e⟩) (by rw [flat_len hus,hul]) huc ⟨W11.heap.size,0,none⟩ 1 1 (cellsE (.agg #[.int .i64 0,.int .i64 0,.string ⟨#[]⟩,.slice none 0 0])) (by rfl) rfl (fun j u hu=>by rw [addr_add,cell_of_block xrb,Nat.zero_add]; simpa using hu) (fun u hu=>by simp [cellsE,cellsV] at hu; rcases hu with rfl | rfl | rfl | rfl <;> rfl) (by omega) (by unfold maxLen; omega) (by omega) ?_
      intro kv W18 own18 gr18
      have b18:Below V12.heap.size V12 W18:=⟨gr18.os,gr18.tape,gr18.output,gr18.size,fun k hk=>gr18.block k hk (by simp)⟩
      have h18:=h12.below X b18
      have hS:(fun Wq:World=>Wq.cell? ⟨q3,1,none⟩=some (.slice (some ⟨gb,0,none⟩) nb cb)) W18:=h18.cells.2
      refine hK _ _ hS (fun _ => ?_)
      clear hK K
      simp only [Act.put,lsk]
      refine wpAnyH_take (i:=12) (v:=.pointer (some ⟨gb,i * 4,none⟩)) rfl (by kernel_rfl) (by kernel_rfl) (by kernel_rfl) (fun _ _ _ h=>h) (Or.inl ⟨by rfl,fun wq hSw => ?_⟩) hS ?_
      ·simp [execOp,Act.eval,go_sem,hi']
      simp only [Act.put,lsk]
      refine wpAnyH_take (i:=13) (v:=.pointer (some ⟨gb,i * 4+3,none⟩)) rfl (by kernel_rfl) (by kernel_rfl) (by kernel_rfl) (fun _ _ _ h=>h) (Or.inl ⟨by rfl,fun wq hSw => ?_⟩) hS ?_
      ·simp [execOp,Act.eval,go_sem]
      simp only [Act.put,lsk]
      obtain ⟨-,-,-,c3⟩:=h18.body_at (i:=i) rfl HE.out.1
      have z3:=(h18.bne (b:=gb) rfl).2.2.2 (i * 4+3)
      obtain ⟨ka,kc,hkv⟩:=own_form own18
      have hst:=h18.store (j:=3) (u':=.agg #[.int .i64 uk,.int .i64 un,.string ut,kv]) (val:=kv) rfl HS.out.2.2.1 HE.out.1 (by omega) rfl
      refine wpAnyH_ready (rs:=[14]) (by kernel_rfl) (by simp) ?_
      refine AllReadyH.cons rfl (fun K hK => ?_) (AllReadyH.nil)
      refine step_skip rfl (W18.setCell ⟨gb,i * 4+3,none⟩ kv) (by subst hkv; simp [execOp,Act.eval,go_sem,z3,c3]) ?_
      have hch:=h18.changed X hst.2 hbn.1 hbn.2.1
      have hcx:=cbk hch.2.2.2 1 (.slice (some ⟨gb,0,none⟩) nb cb) rfl
      refine hK _ _ hcx (fun _ => ?_)
      clear hK K
      simp only [Act.put,List.getElem_toArray,List.getElem_cons_zero,List.getElem_cons_succ]
      refine wpAnyH_done (by kernel_rfl) ?_ _
      refine hKA _ _ ?_
      clear hKA KA
      have hgk:∀ b,kv.ownBlock=some b→V12.heap.size≤b∧b<W18.heap.size∧b≠gb:=fun b hb=>⟨(own18.lt b hb).1,(own18.lt b hb).2,fun e=>by have h1:=own_lt h12.pg.bodies gb rfl; have h2:=(own18.lt b hb).1; omega⟩
      have own19:=own_moved (W':=(W18.setCell ⟨gb,i * 4+3,none⟩ kv)) own18 (fun b hb=>Below.heap_setCell _ _ _ b (by show b≠gb; exact (hgk b hb).2.2))
      have kp19:∀ b,b≠gb→b<V12.heap.size→(W18.setCell ⟨gb,i * 4+3,none⟩ kv).heap[b]? = V12.heap[b]? := fun b hb hlt=>(Below.heap_setCell _ _ _ b (by show b≠gb; exact hb)).trans (b18.block b hlt)
      have sz19:V12.heap.size≤(W18.setCell ⟨gb,i * 4+3,none⟩ kv).heap.size:=by simpa using b18.size
      have gr19:V12.grownBy (W18.setCell ⟨gb,i * 4+3,none⟩ kv) (some gb):=(show V12.grownBy W18 (some gb) from ⟨gr18.os,gr18.tape,gr18.output,gr18.size,fun k hk _=>gr18.block k hk (by simp)⟩).trans hst.2
      have ob19:=hst.1
      clear hcx hkv z3 c3 hst hch
      generalize (W18.setCell ⟨gb,i * 4+3,none⟩ kv)=W19 at own19 kp19 sz19 gr19 ob19 ⊢
      obtain ⟨gk,kc',rfl⟩:=own_some own18 (by omega)
      have hkm:((um:Nat):Int)<((um:Nat):Int)+1:=by omega
      have hgg:=hgk gk rfl
      clear hgk own18
      obtain ⟨own20,gr20⟩:=own_last (a':=.int .i64 1) (b':=.int .i64 x) (c':=.string ⟨#[]⟩) (d':=.slice none 0 0) own19 (by rw [flat_len hus,hul])
      obtain ⟨l0,l1,l2,l3⟩:=last_cells own19 (by rw [flat_len hus,hul])
      have fz:=unfrozen_own own19 gk rfl
      have z0:=fz (um * 4)
      have z1:=fz (um * 4+1)
      have z2:=fz (um * 4+2)
      have z3:=fz (um * 4+3)
      clear fz
      go_upto_region 15 with fail
      refine wp_region_list ?_
      refine wpl_run rfl (.pointer (some ⟨gk,um * 4,none⟩)) W19 (by simp [execOp,Act.eval,go_sem,hkm]) ?_
      simp only [Act.put,List.setIfInBounds_toArray,List.set_cons_zero,List.set_cons_succ]
      refine wpl_skip rfl ((((W19.setCell ⟨gk,um * 4,none⟩ (.int .i64 1)).setCell ⟨gk,um * 4+1,none⟩ (.int .i64 x)).setCell ⟨gk,um * 4+2,none⟩ (.string ⟨#[]⟩)).setCell ⟨gk,um * 4+3,none⟩ (.slice none 0 0)) (by simp [execOp,Act.eval,go_sem,z0,z1,z2,z3,l0,l1,l2,l3]) ?_
      simp only [Act.put]
      refine wpList_nil ?_
      have gr21:V12.grownBy ((((W19.setCell ⟨gk,um * 4,none⟩ (.int .i64 1)).setCell ⟨gk,um * 4+1,none⟩ (.int .i64 x)).setCell ⟨gk,um * 4+2,none⟩ (.string ⟨#[]⟩)).setCell ⟨gk,um * 4+3,none⟩ (.slice none 0 0)) (some gb):=gr19.andThen gr20 (fun j hj=>by cases hj; exact .inl hgg.1)
      have ob20:=own_moved (W':=((((W19.setCell ⟨gk,um * 4,none⟩ (.int .i64 1)).setCell ⟨gk,um * 4+1,none⟩ (.int .i64 x)).setCell ⟨gk,um * 4+2,none⟩ (.string ⟨#[]⟩)).setCell ⟨gk,um * 4+3,none⟩ (.slice none 0 0))) ob19 (fun b hb=>gr20.block b (own_lt ob19 b hb) (fun e=>by cases e; have e2:=Option.some.inj hb; exact hgg.2.2 e2.symm))
      have kp20:∀ b,b≠gb→b<V12.heap.size→((((W19.setCell ⟨gk,um * 4,none⟩ (.int .i64 1)).setCell ⟨gk,um * 4+1,none⟩ (.int .i64 x)).setCell ⟨gk,um * 4+2,none⟩ (.string ⟨#[]⟩)).setCell ⟨gk,um * 4+3,none⟩ (.slice none 0 0)).heap[b]? = V12.heap[b]? := fun b hb hlt=>gr21.block b hlt (fun e=>hb (Option.some.inj e))
      have hxe:=ex_more (x:=.agg #[.int .i64 1,.int .i64 x,.string ⟨#[]⟩,.slice none 0 0]) (k:=uk) (n:=un) (t:=ut) hus (EV.leaf _ _ ⟨by omega,by omega⟩ hxi (Nat.zero_le _)) (fun b hb hlt=>kp20 b (fun e=>hb.2.1 (by rw [e]; rfl)) hlt) gr21.size (by rw [hul]; exact own20) (by omega) (e12).kn_k (e12).kn_n (e12).kn_t
      have hch:=h12.changed X gr21 hbn.1 hbn.2.1
      have hpx:=h12.pg.setBodyX (i:=i) (u':=.agg #[.int .i64 uk,.int .i64 un,.string ut,.slice (some ⟨gk,0,none⟩) (um+1) kc']) gr21 ob20 (wideE hxe (fun b hb=>by rcases hb with hb | hb; exact hb.1; have h1:=hbn.2.1; have h2:=own_lt h12.pg.bodies gb rfl; omega))
      have HN:=(show Hid (_∧_∧_∧_) from hch)
      have HPG:=(show Hid (_) from hpx)
      generalize ((((W19.setCell ⟨gk,um * 4,none⟩ (.int .i64 1)).setCell ⟨gk,um * 4+1,none⟩ (.int .i64 x)).setCell ⟨gk,um * 4+2,none⟩ (.string ⟨#[]⟩)).setCell ⟨gk,um * 4+3,none⟩ (.slice none 0 0))=WF at HN HPG ⊢
      clear hxe hpx hch kp20 ob20 gr21 gr20 own20 l0 l1 l2 l3 z0 z1 z2 z3 ob19 gr19 sz19 kp19 own19 hgg hkm h18 b18 gr18 hua huc hus hul hm3 hi0 hz0 hz1 hz2 hbn hi' X
      have HP:=(show Hid (PgX WF B (.slice an nn cn) (.slice (some ⟨gb,0,none⟩) nb cb) (ns) (vs.set i (.agg #[.int .i64 uk,.int .i64 un,.string ut,.slice (some ⟨gk,0,none⟩) (um+1) kc']))) from HPG.out)
      have f0:=ubk HN.out.2.2.1 0
      have f1:=ubk HN.out.2.2.1 1
      have d0:=cbk HN.out.2.2.1 0 (.slice none 0 0) rfl
      have d1:=cbk HN.out.2.2.1 1 (.slice none 0 0) rfl
      have y0:=cbk HN.out.2.2.2 0 (.slice an nn cn) rfl
      have y1:=cbk HN.out.2.2.2 1 (.slice (some ⟨gb,0,none⟩) nb cb) rfl
      go_wp2
      refine bodyPost_ret (v:=.agg #[.slice an nn cn,.slice (some ⟨gb,0,none⟩) nb cb]) (by simp [results,Tryz.results14,go_sem,d0,d1]) rfl ?_
      exact ⟨_,rfl,⟨_,_,rfl⟩,HX.out.fin HN.out.1 HN.out.2.1 HP.out (by first | exact HS.out.1 | (rw [List.length_set]; exact HS.out.1)) (by have h1:=HS.out.1; have h2:=HS.out.2.1; first | omega | (rw [List.length_set]; omega))⟩
    ·refine step_callTwo rfl 25 (.tmp 65) (.const (.int .i64 3)) _ rfl ent_below (.pointer (some ⟨g,0,none⟩)) (.int .i64 3) (by rfl) rfl (fun r w'=>∃ z:Int,r = .int .i64 z∧0≤z∧z<3∧Dr B0 w' g V len∧W11.grownBy w' (some g)) ((below_dr B0 g V len 3 W11 (by omega) (by omega) h11.dr).mono (fun e w' ⟨z,he,hh⟩=>⟨_,he,z,rfl,hh⟩)) ?_
     rintro r V12 ⟨x,rfl,x0,x1,d12,g12⟩
     have h12:=h11.step X d12 g12
     have e12:=e11.kept (w':=V12) (fun b hb hlt=>g12.block b hlt (fun e=>by have h1:=X.gw; have h2:=X.wB; have h3:=hb.1; cases e; omega)) g12.size (fun b hb _=>hb)
     have hxi:inI64 x:=⟨by omega,by omega⟩
     have hS:(fun Wq:World=>Wq.cell? ⟨q3,1,none⟩=some (.slice (some ⟨gb,0,none⟩) nb cb)) V12:=h12.cells.2
     refine hK _ _ hS (fun _ => ?_)
     clear hK K
     simp only [Act.put,lsk]
     refine wpAnyH_take (i:=8) (v:=.agg #[.int .i64 1,.int .i64 x,.string ⟨#[]⟩,.slice none 0 0]) rfl (by kernel_rfl) (by kernel_rfl) (by kernel_rfl) (fun _ _ _ h=>h) (Or.inl ⟨by rfl,fun wq hSw => ?_⟩) hS ?_
     ·exact ex_build01 _ _ rfl (by rfl) _
     simp only [Act.put,lsk]
     refine wpAnyH_ready (rs:=[5,10]) (by kernel_rfl) (by simp) ?_
     refine AllReadyH.cons rfl (fun K hK => ?_) (AllReadyH.cons rfl (fun K hK => ?_) (AllReadyH.nil))
     ·obtain ⟨-,-,-,k3⟩:=h12.body_at (i:=i) rfl HE.out.1
      refine step_run rfl (.slice ua um um) V12 (by simp [execOp,Act.eval,go_sem,k3]) ?_
      have hS:(fun Wq:World=>Wq.cell? ⟨q3,1,none⟩=some (.slice (some ⟨gb,0,none⟩) nb cb)) V12:=h12.cells.2
      refine hK _ _ hS (fun _ => ?_)
      clear hK K
      simp only [Act.put,lsk]
      clear k3
      refine wpAnyH_take (i:=9) (v:=.int .i64 (um:Int)) rfl (by kernel_rfl) (by kernel_rfl) (by kernel_rfl) (fun _ _ _ h=>h) (Or.inl ⟨by rfl,fun wq hSw => ?_⟩) hS ?_
      ·exact ex_lenE _ _ (.tmp 64) rfl (by rfl) _
      simp only [Act.put,lsk]
      refine wpAnyH_ready (rs:=[10]) (by kernel_rfl) (by simp) ?_
      refine AllReadyH.cons rfl (fun K hK => ?_) (AllReadyH.nil)
      obtain ⟨Ra,era⟩:∃ W',W'=V12.alloc (.cells ⟨cellsE (.agg #[.int .i64 0,.int .i64 0,.string ⟨#[]⟩,.slice none 0 0])⟩ 52):=⟨_,rfl⟩
      have bra:Below V12.heap.size V12 Ra:=by rw [era]; exact (Below.refl _ _).alloc (Nat.le_refl _) _
      have xra:Ra.heap[V12.heap.size]? = some (.cells ⟨cellsE (.agg #[.int .i64 0,.int .i64 0,.string ⟨#[]⟩,.slice none 0 0])⟩ 52):=by rw [era]; exact block_new _ _
      have hra:=h12.below X bra
      have eva:=e12.below bra
      refine step_run rfl (.slice (some ⟨V12.heap.size,0,none⟩) 1 1) Ra (by rw [era]; simp [execOp,Act.eval,go_sem,cellsE,cellsV]) ?_
      have hS:(fun Wq:World=>Wq.cell? ⟨q3,1,none⟩=some (.slice (some ⟨gb,0,none⟩) nb cb)) Ra:=hra.cells.2
      refine hK _ _ hS (fun _ => ?_)
      clear hK K
      simp only [Act.put,lsk]
      obtain ⟨hm3,hua,us,hul,hus,huc⟩:=(eva).kidsRow
      obtain ⟨i0,hi0,hz0,hz1,hz2⟩:=info_parts infoE
      refine wpAnyH_ready (rs:=[11]) (by kernel_rfl) (by simp) ?_
      refine AllReadyH.cons rfl (fun K hK => ?_) (AllReadyH.nil)
      refine step_append_grows rfl (.tmp 64) (.tmp 69) 25 rfl 52 i0 _ 4 56 Tryz.underlying25 hi0 hz0 hz1 hz2 rfl (by decide) ua um um (us.flatMap cellsE) (by rfl) (fun e=>⟨hua e,hua e⟩) (by rw [flat_len hus,hul]) huc ⟨V12.heap.size,0,none⟩ 1 1 (cellsE (.agg #[.int .i64 0,.int .i64 0,.string ⟨#[]⟩,.slice none 0 0])) (by rfl) rfl (fun j u hu=>by rw [addr_add,cell_of_block xra,Nat.zero_add]; simpa using hu) (fun u hu=>by simp [cellsE,cellsV] at hu; rcases hu with rfl | rfl | rfl | rfl <;> rfl) (by omega) (by unfold maxLen; omega) (by omega) ?_
      intro kv W18 own18 gr18
      have b18:Below Ra.heap.size Ra W18:=⟨gr18.os,gr18.tape,gr18.output,gr18.size,fun k hk=>gr18.block k hk (by simp)⟩
      have h18:=hra.below X b18
      have hS:(fun Wq:World=>Wq.cell? ⟨q3,1,none⟩=some (.slice (some ⟨gb,0,none⟩) nb cb)) W18:=h18.cells.2
      refine hK _ _ hS (fun _ => ?_)
      clear hK K
      simp only [Act.put,lsk]
      refine wpAnyH_take (i:=12) (v:=.pointer (some ⟨gb,i * 4,none⟩)) rfl (by kernel_rfl) (by kernel_rfl) (by kernel_rfl) (fun _ _ _ h=>h) (Or.inl ⟨by rfl,fun wq hSw => ?_⟩) hS ?_
      ·simp [execOp,Act.eval,go_sem,hi']
      simp only [Act.put,lsk]
      refine wpAnyH_take (i:=13) (v:=.pointer (some ⟨gb,i * 4+3,none⟩)) rfl (by kernel_rfl) (by kernel_rfl) (by kernel_rfl) (fun _ _ _ h=>h) (Or.inl ⟨by rfl,fun wq hSw => ?_⟩) hS ?_
      ·simp [execOp,Act.eval,go_sem]
      simp only [Act.put,lsk]
      obtain ⟨-,-,-,c3⟩:=h18.body_at (i:=i) rfl HE.out.1
      have z3:=(h18.bne (b:=gb) rfl).2.2.2 (i * 4+3)
      obtain ⟨ka,kc,hkv⟩:=own_form own18
      have hst:=h18.store (j:=3) (u':=.agg #[.int .i64 uk,.int .i64 un,.string ut,kv]) (val:=kv) rfl HS.out.2.2.1 HE.out.1 (by omega) rfl
      refine wpAnyH_ready (rs:=[14]) (by kernel_rfl) (by simp) ?_
      refine AllReadyH.cons rfl (fun K hK => ?_) (AllReadyH.nil)
      refine step_skip rfl (W18.setCell ⟨gb,i * 4+3,none⟩ kv) (by subst hkv; simp [execOp,Act.eval,go_sem,z3,c3]) ?_
      have hch:=h18.changed X hst.2 hbn.1 hbn.2.1
      have hcx:=cbk hch.2.2.2 1 (.slice (some ⟨gb,0,none⟩) nb cb) rfl
      refine hK _ _ hcx (fun _ => ?_)
      clear hK K
      simp only [Act.put,List.getElem_toArray,List.getElem_cons_zero,List.getElem_cons_succ]
      refine wpAnyH_done (by kernel_rfl) ?_ _
      refine hKA _ _ ?_
      clear hKA KA
      have hgk:∀ b,kv.ownBlock=some b→Ra.heap.size≤b∧b<W18.heap.size∧b≠gb:=fun b hb=>⟨(own18.lt b hb).1,(own18.lt b hb).2,fun e=>by have h1:=own_lt hra.pg.bodies gb rfl; have h2:=(own18.lt b hb).1; omega⟩
      have own19:=own_moved (W':=(W18.setCell ⟨gb,i * 4+3,none⟩ kv)) own18 (fun b hb=>Below.heap_setCell _ _ _ b (by show b≠gb; exact (hgk b hb).2.2))
      have kp19:∀ b,b≠gb→b<Ra.heap.size→(W18.setCell ⟨gb,i * 4+3,none⟩ kv).heap[b]? = Ra.heap[b]? := fun b hb hlt=>(Below.heap_setCell _ _ _ b (by show b≠gb; exact hb)).trans (b18.block b hlt)
      have sz19:Ra.heap.size≤(W18.setCell ⟨gb,i * 4+3,none⟩ kv).heap.size:=by simpa using b18.size
      have gr19:Ra.grownBy (W18.setCell ⟨gb,i * 4+3,none⟩ kv) (some gb):=(show Ra.grownBy W18 (some gb) from ⟨gr18.os,gr18.tape,gr18.output,gr18.size,fun k hk _=>gr18.block k hk (by simp)⟩).trans hst.2
      have ob19:=hst.1
      clear hcx hkv z3 c3 hst hch
      generalize (W18.setCell ⟨gb,i * 4+3,none⟩ kv)=W19 at own19 kp19 sz19 gr19 ob19 ⊢
      obtain ⟨gk,kc',rfl⟩:=own_some own18 (by omega)
      have hkm:((um:Nat):Int)<((um:Nat):Int)+1:=by omega
      have hgg:=hgk gk rfl
      clear hgk own18
      obtain ⟨own20,gr20⟩:=own_last (a':=.int .i64 1) (b':=.int .i64 x) (c':=.string ⟨#[]⟩) (d':=.slice none 0 0) own19 (by rw [flat_len hus,hul])
      obtain ⟨l0,l1,l2,l3⟩:=last_cells own19 (by rw [flat_len hus,hul])
      have fz:=unfrozen_own own19 gk rfl
      have z0:=fz (um * 4)
      have z1:=fz (um * 4+1)
      have z2:=fz (um * 4+2)
      have z3:=fz (um * 4+3)
      clear fz
      go_upto_region 15 with fail
      refine wp_region_list ?_
      refine wpl_run rfl (.pointer (some ⟨gk,um * 4,none⟩)) W19 (by simp [execOp,Act.eval,go_sem,hkm]) ?_
      simp only [Act.put,List.setIfInBounds_toArray,List.set_cons_zero,List.set_cons_succ]
      refine wpl_skip rfl ((((W19.setCell ⟨gk,um * 4,none⟩ (.int .i64 1)).setCell ⟨gk,um * 4+1,none⟩ (.int .i64 x)).setCell ⟨gk,um * 4+2,none⟩ (.string ⟨#[]⟩)).setCell ⟨gk,um * 4+3,none⟩ (.slice none 0 0)) (by simp [execOp,Act.eval,go_sem,z0,z1,z2,z3,l0,l1,l2,l3]) ?_
      simp only [Act.put]
      refine wpList_nil ?_
      have gr21:Ra.grownBy ((((W19.setCell ⟨gk,um * 4,none⟩ (.int .i64 1)).setCell ⟨gk,um * 4+1,none⟩ (.int .i64 x)).setCell ⟨gk,um * 4+2,none⟩ (.string ⟨#[]⟩)).setCell ⟨gk,um * 4+3,none⟩ (.slice none 0 0)) (some gb):=gr19.andThen gr20 (fun j hj=>by cases hj; exact .inl hgg.1)
      have ob20:=own_moved (W':=((((W19.setCell ⟨gk,um * 4,none⟩ (.int .i64 1)).setCell ⟨gk,um * 4+1,none⟩ (.int .i64 x)).setCell ⟨gk,um * 4+2,none⟩ (.string ⟨#[]⟩)).setCell ⟨gk,um * 4+3,none⟩ (.slice none 0 0))) ob19 (fun b hb=>gr20.block b (own_lt ob19 b hb) (fun e=>by cases e; have e2:=Option.some.inj hb; exact hgg.2.2 e2.symm))
      have kp20:∀ b,b≠gb→b<Ra.heap.size→((((W19.setCell ⟨gk,um * 4,none⟩ (.int .i64 1)).setCell ⟨gk,um * 4+1,none⟩ (.int .i64 x)).setCell ⟨gk,um * 4+2,none⟩ (.string ⟨#[]⟩)).setCell ⟨gk,um * 4+3,none⟩ (.slice none 0 0)).heap[b]? = Ra.heap[b]? := fun b hb hlt=>gr21.block b hlt (fun e=>hb (Option.some.inj e))
      have hxe:=ex_more (x:=.agg #[.int .i64 1,.int .i64 x,.string ⟨#[]⟩,.slice none 0 0]) (k:=uk) (n:=un) (t:=ut) hus (EV.leaf _ _ ⟨by omega,by omega⟩ hxi (Nat.zero_le _)) (fun b hb hlt=>kp20 b (fun e=>hb.2.1 (by rw [e]; rfl)) hlt) gr21.size (by rw [hul]; exact own20) (by omega) (eva).kn_k (eva).kn_n (eva).kn_t
      have hch:=hra.changed X gr21 hbn.1 hbn.2.1
      have hpx:=hra.pg.setBodyX (i:=i) (u':=.agg #[.int .i64 uk,.int .i64 un,.string ut,.slice (some ⟨gk,0,none⟩) (um+1) kc']) gr21 ob20 (wideE hxe (fun b hb=>by rcases hb with hb | hb; exact hb.1; have h1:=hbn.2.1; have h2:=own_lt hra.pg.bodies gb rfl; omega))
      have HN:=(show Hid (_∧_∧_∧_) from hch)
      have HPG:=(show Hid (_) from hpx)
      generalize ((((W19.setCell ⟨gk,um * 4,none⟩ (.int .i64 1)).setCell ⟨gk,um * 4+1,none⟩ (.int .i64 x)).setCell ⟨gk,um * 4+2,none⟩ (.string ⟨#[]⟩)).setCell ⟨gk,um * 4+3,none⟩ (.slice none 0 0))=WF at HN HPG ⊢
      clear hxe hpx hch kp20 ob20 gr21 gr20 own20 l0 l1 l2 l3 z0 z1 z2 z3 ob19 gr19 sz19 kp19 own19 hgg hkm h18 b18 gr18 hua huc hus hul hm3 hi0 hz0 hz1 hz2 hbn hi' X
      have HP:=(show Hid (PgX WF B (.slice an nn cn) (.slice (some ⟨gb,0,none⟩) nb cb) (ns) (vs.set i (.agg #[.int .i64 uk,.int .i64 un,.string ut,.slice (some ⟨gk,0,none⟩) (um+1) kc']))) from HPG.out)
      have f0:=ubk HN.out.2.2.1 0
      have f1:=ubk HN.out.2.2.1 1
      have d0:=cbk HN.out.2.2.1 0 (.slice none 0 0) rfl
      have d1:=cbk HN.out.2.2.1 1 (.slice none 0 0) rfl
      have y0:=cbk HN.out.2.2.2 0 (.slice an nn cn) rfl
      have y1:=cbk HN.out.2.2.2 1 (.slice (some ⟨gb,0,none⟩) nb cb) rfl
      go_wp2
      refine bodyPost_ret (v:=.agg #[.slice an nn cn,.slice (some ⟨gb,0,none⟩) nb cb]) (by simp [results,Tryz.results14,go_sem,d0,d1]) rfl ?_
      exact ⟨_,rfl,⟨_,_,rfl⟩,HX.out.fin HN.out.1 HN.out.2.1 HP.out (by first | exact HS.out.1 | (rw [List.length_set]; exact HS.out.1)) (by have h1:=HS.out.1; have h2:=HS.out.2.1; first | omega | (rw [List.length_set]; omega))⟩
     ·obtain ⟨Ra,era⟩:∃ W',W'=V12.alloc (.cells ⟨cellsE (.agg #[.int .i64 0,.int .i64 0,.string ⟨#[]⟩,.slice none 0 0])⟩ 52):=⟨_,rfl⟩
      have bra:Below V12.heap.size V12 Ra:=by rw [era]; exact (Below.refl _ _).alloc (Nat.le_refl _) _
      have xra:Ra.heap[V12.heap.size]? = some (.cells ⟨cellsE (.agg #[.int .i64 0,.int .i64 0,.string ⟨#[]⟩,.slice none 0 0])⟩ 52):=by rw [era]; exact block_new _ _
      have hra:=h12.below X bra
      have eva:=e12.below bra
      refine step_run rfl (.slice (some ⟨V12.heap.size,0,none⟩) 1 1) Ra (by rw [era]; simp [execOp,Act.eval,go_sem,cellsE,cellsV]) ?_
      have hS:(fun Wq:World=>Wq.cell? ⟨q3,1,none⟩=some (.slice (some ⟨gb,0,none⟩) nb cb)) Ra:=hra.cells.2
      refine hK _ _ hS (fun _ => ?_)
      clear hK K
      simp only [Act.put,lsk]
      refine wpAnyH_ready (rs:=[5]) (by kernel_rfl) (by simp) ?_
      refine AllReadyH.cons rfl (fun K hK => ?_) (AllReadyH.nil)
      obtain ⟨-,-,-,k3⟩:=hra.body_at (i:=i) rfl HE.out.1
      refine step_run rfl (.slice ua um um) Ra (by simp [execOp,Act.eval,go_sem,k3]) ?_
      have hS:(fun Wq:World=>Wq.cell? ⟨q3,1,none⟩=some (.slice (some ⟨gb,0,none⟩) nb cb)) Ra:=hra.cells.2
      refine hK _ _ hS (fun _ => ?_)
      clear hK K
      simp only [Act.put,lsk]
      clear k3
      refine wpAnyH_take (i:=9) (v:=.int .i64 (um:Int)) rfl (by kernel_rfl) (by kernel_rfl) (by kernel_rfl) (fun _ _ _ h=>h) (Or.inl ⟨by rfl,fun wq hSw => ?_⟩) hS ?_
      ·exact ex_lenE _ _ (.tmp 64) rfl (by rfl) _
      simp only [Act.put,lsk]
      obtain ⟨hm3,hua,us,hul,hus,huc⟩:=(eva).kidsRow
      obtain ⟨i0,hi0,hz0,hz1,hz2⟩:=info_parts infoE
      refine wpAnyH_ready (rs:=[11]) (by kernel_rfl) (by simp) ?_
      refine AllReadyH.cons rfl (fun K hK => ?_) (AllReadyH.nil)
      refine step_append_grows rfl (.tmp 64) (.tmp 69) 25 rfl 52 i0 _ 4 56 Tryz.underlying25 hi0 hz0 hz1 hz2 rfl (by decide) ua um um (us.flatMap cellsE) (by rfl) (fun e=>⟨hua e,hua e⟩) (by rw [flat_len hus,hul]) huc ⟨V12.heap.size,0,none⟩ 1 1 (cellsE (.agg #[.int .i64 0,.int .i64 0,.string ⟨#[]⟩,.slice none 0 0])) (by rfl) rfl (fun j u hu=>by rw [addr_add,cell_of_block xra,Nat.zero_add]; simpa using hu) (fun u hu=>by simp [cellsE,cellsV] at hu; rcases hu with rfl | rfl | rfl | rfl <;> rfl) (by omega) (by unfold maxLen; omega) (by omega) ?_
      intro kv W18 own18 gr18
      have b18:Below Ra.heap.size Ra W18:=⟨gr18.os,gr18.tape,gr18.output,gr18.size,fun k hk=>gr18.block k hk (by simp)⟩
      have h18:=hra.below X b18
      have hS:(fun Wq:World=>Wq.cell? ⟨q3,1,none⟩=some (.slice (some ⟨gb,0,none⟩) nb cb)) W18:=h18.cells.2
      refine hK _ _ hS (fun _ => ?_)
      clear hK K
      simp only [Act.put,lsk]
      refine wpAnyH_take (i:=12) (v:=.pointer (some ⟨gb,i * 4,none⟩)) rfl (by kernel_rfl) (by kernel_rfl) (by kernel_rfl) (fun _ _ _ h=>h) (Or.inl ⟨by rfl,fun wq hSw => ?_⟩) hS ?_
      ·simp [execOp,Act.eval,go_sem,hi']
      simp only [Act.put,lsk]
      refine wpAnyH_take (i:=13) (v:=.pointer (some ⟨gb,i * 4+3,none⟩)) rfl (by kernel_rfl) (by kernel_rfl) (by kernel_rfl) (fun _ _ _ h=>h) (Or.inl ⟨by rfl,fun wq hSw => ?_⟩) hS ?_
      ·simp [execOp,Act.eval,go_sem]
      simp only [Act.put,lsk]
      obtain ⟨-,-,-,c3⟩:=h18.body_at (i:=i) rfl HE.out.1
      have z3:=(h18.bne (b:=gb) rfl).2.2.2 (i * 4+3)
      obtain ⟨ka,kc,hkv⟩:=own_form own18
      have hst:=h18.store (j:=3) (u':=.agg #[.int .i64 uk,.int .i64 un,.string ut,kv]) (val:=kv) rfl HS.out.2.2.1 HE.out.1 (by omega) rfl
      refine wpAnyH_ready (rs:=[14]) (by kernel_rfl) (by simp) ?_
      refine AllReadyH.cons rfl (fun K hK => ?_) (AllReadyH.nil)
      refine step_skip rfl (W18.setCell ⟨gb,i * 4+3,none⟩ kv) (by subst hkv; simp [execOp,Act.eval,go_sem,z3,c3]) ?_
      have hch:=h18.changed X hst.2 hbn.1 hbn.2.1
      have hcx:=cbk hch.2.2.2 1 (.slice (some ⟨gb,0,none⟩) nb cb) rfl
      refine hK _ _ hcx (fun _ => ?_)
      clear hK K
      simp only [Act.put,List.getElem_toArray,List.getElem_cons_zero,List.getElem_cons_succ]
      refine wpAnyH_done (by kernel_rfl) ?_ _
      refine hKA _ _ ?_
      clear hKA KA
      have hgk:∀ b,kv.ownBlock=some b→Ra.heap.size≤b∧b<W18.heap.size∧b≠gb:=fun b hb=>⟨(own18.lt b hb).1,(own18.lt b hb).2,fun e=>by have h1:=own_lt hra.pg.bodies gb rfl; have h2:=(own18.lt b hb).1; omega⟩
      have own19:=own_moved (W':=(W18.setCell ⟨gb,i * 4+3,none⟩ kv)) own18 (fun b hb=>Below.heap_setCell _ _ _ b (by show b≠gb; exact (hgk b hb).2.2))
      have kp19:∀ b,b≠gb→b<Ra.heap.size→(W18.setCell ⟨gb,i * 4+3,none⟩ kv).heap[b]? = Ra.heap[b]? := fun b hb hlt=>(Below.heap_setCell _ _ _ b (by show b≠gb; exact hb)).trans (b18.block b hlt)
      have sz19:Ra.heap.size≤(W18.setCell ⟨gb,i * 4+3,none⟩ kv).heap.size:=by simpa using b18.size
      have gr19:Ra.grownBy (W18.setCell ⟨gb,i * 4+3,none⟩ kv) (some gb):=(show Ra.grownBy W18 (some gb) from ⟨gr18.os,gr18.tape,gr18.output,gr18.size,fun k hk _=>gr18.block k hk (by simp)⟩).trans hst.2
      have ob19:=hst.1
      clear hcx hkv z3 c3 hst hch
      generalize (W18.setCell ⟨gb,i * 4+3,none⟩ kv)=W19 at own19 kp19 sz19 gr19 ob19 ⊢
      obtain ⟨gk,kc',rfl⟩:=own_some own18 (by omega)
      have hkm:((um:Nat):Int)<((um:Nat):Int)+1:=by omega
      have hgg:=hgk gk rfl
      clear hgk own18
      obtain ⟨own20,gr20⟩:=own_last (a':=.int .i64 1) (b':=.int .i64 x) (c':=.string ⟨#[]⟩) (d':=.slice none 0 0) own19 (by rw [flat_len hus,hul])
      obtain ⟨l0,l1,l2,l3⟩:=last_cells own19 (by rw [flat_len hus,hul])
      have fz:=unfrozen_own own19 gk rfl
      have z0:=fz (um * 4)
      have z1:=fz (um * 4+1)
      have z2:=fz (um * 4+2)
      have z3:=fz (um * 4+3)
      clear fz
      go_upto_region 15 with fail
      refine wp_region_list ?_
      refine wpl_run rfl (.pointer (some ⟨gk,um * 4,none⟩)) W19 (by simp [execOp,Act.eval,go_sem,hkm]) ?_
      simp only [Act.put,List.setIfInBounds_toArray,List.set_cons_zero,List.set_cons_succ]
      refine wpl_skip rfl ((((W19.setCell ⟨gk,um * 4,none⟩ (.int .i64 1)).setCell ⟨gk,um * 4+1,none⟩ (.int .i64 x)).setCell ⟨gk,um * 4+2,none⟩ (.string ⟨#[]⟩)).setCell ⟨gk,um * 4+3,none⟩ (.slice none 0 0)) (by simp [execOp,Act.eval,go_sem,z0,z1,z2,z3,l0,l1,l2,l3]) ?_
      simp only [Act.put]
      refine wpList_nil ?_
      have gr21:Ra.grownBy ((((W19.setCell ⟨gk,um * 4,none⟩ (.int .i64 1)).setCell ⟨gk,um * 4+1,none⟩ (.int .i64 x)).setCell ⟨gk,um * 4+2,none⟩ (.string ⟨#[]⟩)).setCell ⟨gk,um * 4+3,none⟩ (.slice none 0 0)) (some gb):=gr19.andThen gr20 (fun j hj=>by cases hj; exact .inl hgg.1)
      have ob20:=own_moved (W':=((((W19.setCell ⟨gk,um * 4,none⟩ (.int .i64 1)).setCell ⟨gk,um * 4+1,none⟩ (.int .i64 x)).setCell ⟨gk,um * 4+2,none⟩ (.string ⟨#[]⟩)).setCell ⟨gk,um * 4+3,none⟩ (.slice none 0 0))) ob19 (fun b hb=>gr20.block b (own_lt ob19 b hb) (fun e=>by cases e; have e2:=Option.some.inj hb; exact hgg.2.2 e2.symm))
      have kp20:∀ b,b≠gb→b<Ra.heap.size→((((W19.setCell ⟨gk,um * 4,none⟩ (.int .i64 1)).setCell ⟨gk,um * 4+1,none⟩ (.int .i64 x)).setCell ⟨gk,um * 4+2,none⟩ (.string ⟨#[]⟩)).setCell ⟨gk,um * 4+3,none⟩ (.slice none 0 0)).heap[b]? = Ra.heap[b]? := fun b hb hlt=>gr21.block b hlt (fun e=>hb (Option.some.inj e))
      have hxe:=ex_more (x:=.agg #[.int .i64 1,.int .i64 x,.string ⟨#[]⟩,.slice none 0 0]) (k:=uk) (n:=un) (t:=ut) hus (EV.leaf _ _ ⟨by omega,by omega⟩ hxi (Nat.zero_le _)) (fun b hb hlt=>kp20 b (fun e=>hb.2.1 (by rw [e]; rfl)) hlt) gr21.size (by rw [hul]; exact own20) (by omega) (eva).kn_k (eva).kn_n (eva).kn_t
      have hch:=hra.changed X gr21 hbn.1 hbn.2.1
      have hpx:=hra.pg.setBodyX (i:=i) (u':=.agg #[.int .i64 uk,.int .i64 un,.string ut,.slice (some ⟨gk,0,none⟩) (um+1) kc']) gr21 ob20 (wideE hxe (fun b hb=>by rcases hb with hb | hb; exact hb.1; have h1:=hbn.2.1; have h2:=own_lt hra.pg.bodies gb rfl; omega))
      have HN:=(show Hid (_∧_∧_∧_) from hch)
      have HPG:=(show Hid (_) from hpx)
      generalize ((((W19.setCell ⟨gk,um * 4,none⟩ (.int .i64 1)).setCell ⟨gk,um * 4+1,none⟩ (.int .i64 x)).setCell ⟨gk,um * 4+2,none⟩ (.string ⟨#[]⟩)).setCell ⟨gk,um * 4+3,none⟩ (.slice none 0 0))=WF at HN HPG ⊢
      clear hxe hpx hch kp20 ob20 gr21 gr20 own20 l0 l1 l2 l3 z0 z1 z2 z3 ob19 gr19 sz19 kp19 own19 hgg hkm h18 b18 gr18 hua huc hus hul hm3 hi0 hz0 hz1 hz2 hbn hi' X
      have HP:=(show Hid (PgX WF B (.slice an nn cn) (.slice (some ⟨gb,0,none⟩) nb cb) (ns) (vs.set i (.agg #[.int .i64 uk,.int .i64 un,.string ut,.slice (some ⟨gk,0,none⟩) (um+1) kc']))) from HPG.out)
      have f0:=ubk HN.out.2.2.1 0
      have f1:=ubk HN.out.2.2.1 1
      have d0:=cbk HN.out.2.2.1 0 (.slice none 0 0) rfl
      have d1:=cbk HN.out.2.2.1 1 (.slice none 0 0) rfl
      have y0:=cbk HN.out.2.2.2 0 (.slice an nn cn) rfl
      have y1:=cbk HN.out.2.2.2 1 (.slice (some ⟨gb,0,none⟩) nb cb) rfl
      go_wp2
      refine bodyPost_ret (v:=.agg #[.slice an nn cn,.slice (some ⟨gb,0,none⟩) nb cb]) (by simp [results,Tryz.results14,go_sem,d0,d1]) rfl ?_
      exact ⟨_,rfl,⟨_,_,rfl⟩,HX.out.fin HN.out.1 HN.out.2.1 HP.out (by first | exact HS.out.1 | (rw [List.length_set]; exact HS.out.1)) (by have h1:=HS.out.1; have h2:=HS.out.2.1; first | omega | (rw [List.length_set]; omega))⟩
    ·obtain ⟨Ra,era⟩:∃ W',W'=W11.alloc (.cells ⟨cellsE (.agg #[.int .i64 0,.int .i64 0,.string ⟨#[]⟩,.slice none 0 0])⟩ 52):=⟨_,rfl⟩
     have bra:Below W11.heap.size W11 Ra:=by rw [era]; exact (Below.refl _ _).alloc (Nat.le_refl _) _
     have xra:Ra.heap[W11.heap.size]? = some (.cells ⟨cellsE (.agg #[.int .i64 0,.int .i64 0,.string ⟨#[]⟩,.slice none 0 0])⟩ 52):=by rw [era]; exact block_new _ _
     have hra:=h11.below X bra
     have eva:=e11.below bra
     refine step_run rfl (.slice (some ⟨W11.heap.size,0,none⟩) 1 1) Ra (by rw [era]; simp [execOp,Act.eval,go_sem,cellsE,cellsV]) ?_
     have hS:(fun Wq:World=>Wq.cell? ⟨q3,1,none⟩=some (.slice (some ⟨gb,0,none⟩) nb cb)) Ra:=hra.cells.2
     refine hK _ _ hS (fun _ => ?_)
     clear hK K
     simp only [Act.put,lsk]
     refine wpAnyH_ready (rs:=[5,7]) (by kernel_rfl) (by simp) ?_
     refine AllReadyH.cons rfl (fun K hK => ?_) (AllReadyH.cons rfl (fun K hK => ?_) (AllReadyH.nil))
     ·obtain ⟨-,-,-,k3⟩:=hra.body_at (i:=i) rfl HE.out.1
      refine step_run rfl (.slice ua um um) Ra (by simp [execOp,Act.eval,go_sem,k3]) ?_
      have hS:(fun Wq:World=>Wq.cell? ⟨q3,1,none⟩=some (.slice (some ⟨gb,0,none⟩) nb cb)) Ra:=hra.cells.2
      refine hK _ _ hS (fun _ => ?_)
      clear hK K
      simp only [Act.put,lsk]
      clear k3
      refine wpAnyH_take (i:=9) (v:=.int .i64 (um:Int)) rfl (by kernel_rfl) (by kernel_rfl) (by kernel_rfl) (fun _ _ _ h=>h) (Or.inl ⟨by rfl,fun wq hSw => ?_⟩) hS ?_
      ·exact ex_lenE _ _ (.tmp 64) rfl (by rfl) _
      simp only [Act.put,lsk]
      refine wpAnyH_ready (rs:=[7]) (by kernel_rfl) (by simp) ?_
      refine AllReadyH.cons rfl (fun K hK => ?_) (AllReadyH.nil)
      refine step_callTwo rfl 25 (.tmp 65) (.const (.int .i64 3)) _ rfl ent_below (.pointer (some ⟨g,0,none⟩)) (.int .i64 3) (by rfl) rfl (fun r w'=>∃ z:Int,r = .int .i64 z∧0≤z∧z<3∧Dr B0 w' g V len∧Ra.grownBy w' (some g)) ((below_dr B0 g V len 3 Ra (by omega) (by omega) hra.dr).mono (fun e w' ⟨z,he,hh⟩=>⟨_,he,z,rfl,hh⟩)) ?_
      rintro r V12 ⟨x,rfl,x0,x1,d12,g12⟩
      have h12:=hra.step X d12 g12
      have e12:=eva.kept (w':=V12) (fun b hb hlt=>g12.block b hlt (fun e=>by have h1:=X.gw; have h2:=X.wB; have h3:=hb.1; cases e; omega)) g12.size (fun b hb _=>hb)
      have hxi:inI64 x:=⟨by omega,by omega⟩
      have hS:(fun Wq:World=>Wq.cell? ⟨q3,1,none⟩=some (.slice (some ⟨gb,0,none⟩) nb cb)) V12:=h12.cells.2
      refine hK _ _ hS (fun _ => ?_)
      clear hK K
      simp only [Act.put,lsk]
      refine wpAnyH_take (i:=8) (v:=.agg #[.int .i64 1,.int .i64 x,.string ⟨#[]⟩,.slice none 0 0]) rfl (by kernel_rfl) (by kernel_rfl) (by kernel_rfl) (fun _ _ _ h=>h) (Or.inl ⟨by rfl,fun wq hSw => ?_⟩) hS ?_
      ·exact ex_build01 _ _ rfl (by rfl) _
      simp only [Act.put,lsk]
      have xrb:=(g12.block _ (lh xra) (fun e=>by have h1:=h11.dr.glt; cases e; omega)).trans xra
      obtain ⟨hm3,hua,us,hul,hus,huc⟩:=(e12).kidsRow
      obtain ⟨i0,hi0,hz0,hz1,hz2⟩:=info_parts infoE
      refine wpAnyH_ready (rs:=[11]) (by kernel_rfl) (by simp) ?_
      refine AllReadyH.cons rfl (fun K hK => ?_) (AllReadyH.nil)
      refine step_append_grows rfl (.tmp 64) (.tmp 69) 25 rfl 52 i0 _ 4 56 Tryz.underlying25 hi0 hz0 hz1 hz2 rfl (by decide) ua um um (us.flatMap cellsE) (by rfl) (fun e=>⟨hua e,hua e⟩) (by rw [flat_len hus,hul]) huc ⟨W11.heap.size,0,none⟩ 1 1 (cellsE (.agg #[.int .i64 0,.int .i64 0,.string ⟨#[]⟩,.slice none 0 0])) (by rfl) rfl (fun j u hu=>by rw [addr_add,cell_of_block xrb,Nat.zero_add]; simpa using hu) (fun u hu=>by simp [cellsE,cellsV] at hu; rcases hu with rfl | rfl | rfl | rfl <;> rfl) (by omega) (by unfold maxLen; omega) (by omega) ?_
      intro kv W18 own18 gr18
      have b18:Below V12.heap.size V12 W18:=⟨gr18.os,gr18.tape,gr18.output,gr18.size,fun k hk=>gr18.block k hk (by simp)⟩
      have h18:=h12.below X b18
      have hS:(fun Wq:World=>Wq.cell? ⟨q3,1,none⟩=some (.slice (some ⟨gb,0,none⟩) nb cb)) W18:=h18.cells.2
      refine hK _ _ hS (fun _ => ?_)
      clear hK K
      simp only [Act.put,lsk]
      refine wpAnyH_take (i:=12) (v:=.pointer (some ⟨gb,i * 4,none⟩)) rfl (by kernel_rfl) (by kernel_rfl) (by kernel_rfl) (fun _ _ _ h=>h) (Or.inl ⟨by rfl,fun wq hSw => ?_⟩) hS ?_
      ·simp [execOp,Act.eval,go_sem,hi']
      simp only [Act.put,lsk]
      refine wpAnyH_take (i:=13) (v:=.pointer (some ⟨gb,i * 4+3,none⟩)) rfl (by kernel_rfl) (by kernel_rfl) (by kernel_rfl) (fun _ _ _ h=>h) (Or.inl ⟨by rfl,fun wq hSw => ?_⟩) hS ?_
      ·simp [execOp,Act.eval,go_sem]
      simp only [Act.put,lsk]
      obtain ⟨-,-,-,c3⟩:=h18.body_at (i:=i) rfl HE.out.1
      have z3:=(h18.bne (b:=gb) rfl).2.2.2 (i * 4+3)
      obtain ⟨ka,kc,hkv⟩:=own_form own18
      have hst:=h18.store (j:=3) (u':=.agg #[.int .i64 uk,.int .i64 un,.string ut,kv]) (val:=kv) rfl HS.out.2.2.1 HE.out.1 (by omega) rfl
      refine wpAnyH_ready (rs:=[14]) (by kernel_rfl) (by simp) ?_
      refine AllReadyH.cons rfl (fun K hK => ?_) (AllReadyH.nil)
      refine step_skip rfl (W18.setCell ⟨gb,i * 4+3,none⟩ kv) (by subst hkv; simp [execOp,Act.eval,go_sem,z3,c3]) ?_
      have hch:=h18.changed X hst.2 hbn.1 hbn.2.1
      have hcx:=cbk hch.2.2.2 1 (.slice (some ⟨gb,0,none⟩) nb cb) rfl
      refine hK _ _ hcx (fun _ => ?_)
      clear hK K
      simp only [Act.put,List.getElem_toArray,List.getElem_cons_zero,List.getElem_cons_succ]
      refine wpAnyH_done (by kernel_rfl) ?_ _
      refine hKA _ _ ?_
      clear hKA KA
      have hgk:∀ b,kv.ownBlock=some b→V12.heap.size≤b∧b<W18.heap.size∧b≠gb:=fun b hb=>⟨(own18.lt b hb).1,(own18.lt b hb).2,fun e=>by have h1:=own_lt h12.pg.bodies gb rfl; have h2:=(own18.lt b hb).1; omega⟩
      have own19:=own_moved (W':=(W18.setCell ⟨gb,i * 4+3,none⟩ kv)) own18 (fun b hb=>Below.heap_setCell _ _ _ b (by show b≠gb; exact (hgk b hb).2.2))
      have kp19:∀ b,b≠gb→b<V12.heap.size→(W18.setCell ⟨gb,i * 4+3,none⟩ kv).heap[b]? = V12.heap[b]? := fun b hb hlt=>(Below.heap_setCell _ _ _ b (by show b≠gb; exact hb)).trans (b18.block b hlt)
      have sz19:V12.heap.size≤(W18.setCell ⟨gb,i * 4+3,none⟩ kv).heap.size:=by simpa using b18.size
      have gr19:V12.grownBy (W18.setCell ⟨gb,i * 4+3,none⟩ kv) (some gb):=(show V12.grownBy W18 (some gb) from ⟨gr18.os,gr18.tape,gr18.output,gr18.size,fun k hk _=>gr18.block k hk (by simp)⟩).trans hst.2
      have ob19:=hst.1
      clear hcx hkv z3 c3 hst hch
      generalize (W18.setCell ⟨gb,i * 4+3,none⟩ kv)=W19 at own19 kp19 sz19 gr19 ob19 ⊢
      obtain ⟨gk,kc',rfl⟩:=own_some own18 (by omega)
      have hkm:((um:Nat):Int)<((um:Nat):Int)+1:=by omega
      have hgg:=hgk gk rfl
      clear hgk own18
      obtain ⟨own20,gr20⟩:=own_last (a':=.int .i64 1) (b':=.int .i64 x) (c':=.string ⟨#[]⟩) (d':=.slice none 0 0) own19 (by rw [flat_len hus,hul])
      obtain ⟨l0,l1,l2,l3⟩:=last_cells own19 (by rw [flat_len hus,hul])
      have fz:=unfrozen_own own19 gk rfl
      have z0:=fz (um * 4)
      have z1:=fz (um * 4+1)
      have z2:=fz (um * 4+2)
      have z3:=fz (um * 4+3)
      clear fz
      go_upto_region 15 with fail
      refine wp_region_list ?_
      refine wpl_run rfl (.pointer (some ⟨gk,um * 4,none⟩)) W19 (by simp [execOp,Act.eval,go_sem,hkm]) ?_
      simp only [Act.put,List.setIfInBounds_toArray,List.set_cons_zero,List.set_cons_succ]
      refine wpl_skip rfl ((((W19.setCell ⟨gk,um * 4,none⟩ (.int .i64 1)).setCell ⟨gk,um * 4+1,none⟩ (.int .i64 x)).setCell ⟨gk,um * 4+2,none⟩ (.string ⟨#[]⟩)).setCell ⟨gk,um * 4+3,none⟩ (.slice none 0 0)) (by simp [execOp,Act.eval,go_sem,z0,z1,z2,z3,l0,l1,l2,l3]) ?_
      simp only [Act.put]
      refine wpList_nil ?_
      have gr21:V12.grownBy ((((W19.setCell ⟨gk,um * 4,none⟩ (.int .i64 1)).setCell ⟨gk,um * 4+1,none⟩ (.int .i64 x)).setCell ⟨gk,um * 4+2,none⟩ (.string ⟨#[]⟩)).setCell ⟨gk,um * 4+3,none⟩ (.slice none 0 0)) (some gb):=gr19.andThen gr20 (fun j hj=>by cases hj; exact .inl hgg.1)
      have ob20:=own_moved (W':=((((W19.setCell ⟨gk,um * 4,none⟩ (.int .i64 1)).setCell ⟨gk,um * 4+1,none⟩ (.int .i64 x)).setCell ⟨gk,um * 4+2,none⟩ (.string ⟨#[]⟩)).setCell ⟨gk,um * 4+3,none⟩ (.slice none 0 0))) ob19 (fun b hb=>gr20.block b (own_lt ob19 b hb) (fun e=>by cases e; have e2:=Option.some.inj hb; exact hgg.2.2 e2.symm))
      have kp20:∀ b,b≠gb→b<V12.heap.size→((((W19.setCell ⟨gk,um * 4,none⟩ (.int .i64 1)).setCell ⟨gk,um * 4+1,none⟩ (.int .i64 x)).setCell ⟨gk,um * 4+2,none⟩ (.string ⟨#[]⟩)).setCell ⟨gk,um * 4+3,none⟩ (.slice none 0 0)).heap[b]? = V12.heap[b]? := fun b hb hlt=>gr21.block b hlt (fun e=>hb (Option.some.inj e))
      have hxe:=ex_more (x:=.agg #[.int .i64 1,.int .i64 x,.string ⟨#[]⟩,.slice none 0 0]) (k:=uk) (n:=un) (t:=ut) hus (EV.leaf _ _ ⟨by omega,by omega⟩ hxi (Nat.zero_le _)) (fun b hb hlt=>kp20 b (fun e=>hb.2.1 (by rw [e]; rfl)) hlt) gr21.size (by rw [hul]; exact own20) (by omega) (e12).kn_k (e12).kn_n (e12).kn_t
      have hch:=h12.changed X gr21 hbn.1 hbn.2.1
      have hpx:=h12.pg.setBodyX (i:=i) (u':=.agg #[.int .i64 uk,.int .i64 un,.string ut,.slice (some ⟨gk,0,none⟩) (um+1) kc']) gr21 ob20 (wideE hxe (fun b hb=>by rcases hb with hb | hb; exact hb.1; have h1:=hbn.2.1; have h2:=own_lt h12.pg.bodies gb rfl; omega))
      have HN:=(show Hid (_∧_∧_∧_) from hch)
      have HPG:=(show Hid (_) from hpx)
      generalize ((((W19.setCell ⟨gk,um * 4,none⟩ (.int .i64 1)).setCell ⟨gk,um * 4+1,none⟩ (.int .i64 x)).setCell ⟨gk,um * 4+2,none⟩ (.string ⟨#[]⟩)).setCell ⟨gk,um * 4+3,none⟩ (.slice none 0 0))=WF at HN HPG ⊢
      clear hxe hpx hch kp20 ob20 gr21 gr20 own20 l0 l1 l2 l3 z0 z1 z2 z3 ob19 gr19 sz19 kp19 own19 hgg hkm h18 b18 gr18 hua huc hus hul hm3 hi0 hz0 hz1 hz2 hbn hi' X
      have HP:=(show Hid (PgX WF B (.slice an nn cn) (.slice (some ⟨gb,0,none⟩) nb cb) (ns) (vs.set i (.agg #[.int .i64 uk,.int .i64 un,.string ut,.slice (some ⟨gk,0,none⟩) (um+1) kc']))) from HPG.out)
      have f0:=ubk HN.out.2.2.1 0
      have f1:=ubk HN.out.2.2.1 1
      have d0:=cbk HN.out.2.2.1 0 (.slice none 0 0) rfl
      have d1:=cbk HN.out.2.2.1 1 (.slice none 0 0) rfl
      have y0:=cbk HN.out.2.2.2 0 (.slice an nn cn) rfl
      have y1:=cbk HN.out.2.2.2 1 (.slice (some ⟨gb,0,none⟩) nb cb) rfl
      go_wp2
      refine bodyPost_ret (v:=.agg #[.slice an nn cn,.slice (some ⟨gb,0,none⟩) nb cb]) (by simp [results,Tryz.results14,go_sem,d0,d1]) rfl ?_
      exact ⟨_,rfl,⟨_,_,rfl⟩,HX.out.fin HN.out.1 HN.out.2.1 HP.out (by first | exact HS.out.1 | (rw [List.length_set]; exact HS.out.1)) (by have h1:=HS.out.1; have h2:=HS.out.2.1; first | omega | (rw [List.length_set]; omega))⟩
     ·refine step_callTwo rfl 25 (.tmp 65) (.const (.int .i64 3)) _ rfl ent_below (.pointer (some ⟨g,0,none⟩)) (.int .i64 3) (by rfl) rfl (fun r w'=>∃ z:Int,r = .int .i64 z∧0≤z∧z<3∧Dr B0 w' g V len∧Ra.grownBy w' (some g)) ((below_dr B0 g V len 3 Ra (by omega) (by omega) hra.dr).mono (fun e w' ⟨z,he,hh⟩=>⟨_,he,z,rfl,hh⟩)) ?_
      rintro r V12 ⟨x,rfl,x0,x1,d12,g12⟩
      have h12:=hra.step X d12 g12
      have e12:=eva.kept (w':=V12) (fun b hb hlt=>g12.block b hlt (fun e=>by have h1:=X.gw; have h2:=X.wB; have h3:=hb.1; cases e; omega)) g12.size (fun b hb _=>hb)
      have hxi:inI64 x:=⟨by omega,by omega⟩
      have hS:(fun Wq:World=>Wq.cell? ⟨q3,1,none⟩=some (.slice (some ⟨gb,0,none⟩) nb cb)) V12:=h12.cells.2
      refine hK _ _ hS (fun _ => ?_)
      clear hK K
      simp only [Act.put,lsk]
      refine wpAnyH_take (i:=8) (v:=.agg #[.int .i64 1,.int .i64 x,.string ⟨#[]⟩,.slice none 0 0]) rfl (by kernel_rfl) (by kernel_rfl) (by kernel_rfl) (fun _ _ _ h=>h) (Or.inl ⟨by rfl,fun wq hSw => ?_⟩) hS ?_
      ·exact ex_build01 _ _ rfl (by rfl) _
      simp only [Act.put,lsk]
      have xrb:=(g12.block _ (lh xra) (fun e=>by have h1:=h11.dr.glt; cases e; omega)).trans xra
      refine wpAnyH_ready (rs:=[5]) (by kernel_rfl) (by simp) ?_
      refine AllReadyH.cons rfl (fun K hK => ?_) (AllReadyH.nil)
      obtain ⟨-,-,-,k3⟩:=h12.body_at (i:=i) rfl HE.out.1
      refine step_run rfl (.slice ua um um) V12 (by simp [execOp,Act.eval,go_sem,k3]) ?_
      have hS:(fun Wq:World=>Wq.cell? ⟨q3,1,none⟩=some (.slice (some ⟨gb,0,none⟩) nb cb)) V12:=h12.cells.2
      refine hK _ _ hS (fun _ => ?_)
      clear hK K
      simp only [Act.put,lsk]
      clear k3
      refine wpAnyH_take (i:=9) (v:=.int .i64 (um:Int)) rfl (by kernel_rfl) (by kernel_rfl) (by kernel_rfl) (fun _ _ _ h=>h) (Or.inl ⟨by rfl,fun wq hSw => ?_⟩) hS ?_
      ·exact ex_lenE _ _ (.tmp 64) rfl (by rfl) _
      simp only [Act.put,lsk]
      obtain ⟨hm3,hua,us,hul,hus,huc⟩:=(e12).kidsRow
      obtain ⟨i0,hi0,hz0,hz1,hz2⟩:=info_parts infoE
      refine wpAnyH_ready (rs:=[11]) (by kernel_rfl) (by simp) ?_
      refine AllReadyH.cons rfl (fun K hK => ?_) (AllReadyH.nil)
      refine step_append_grows rfl (.tmp 64) (.tmp 69) 25 rfl 52 i0 _ 4 56 Tryz.underlying25 hi0 hz0 hz1 hz2 rfl (by decide) ua um um (us.flatMap cellsE) (by rfl) (fun e=>⟨hua e,hua e⟩) (by rw [flat_len hus,hul]) huc ⟨W11.heap.size,0,none⟩ 1 1 (cellsE (.agg #[.int .i64 0,.int .i64 0,.string ⟨#[]⟩,.slice none 0 0])) (by rfl) rfl (fun j u hu=>by rw [addr_add,cell_of_block xrb,Nat.zero_add]; simpa using hu) (fun u hu=>by simp [cellsE,cellsV] at hu; rcases hu with rfl | rfl | rfl | rfl <;> rfl) (by omega) (by unfold maxLen; omega) (by omega) ?_
      intro kv W18 own18 gr18
      have b18:Below V12.heap.size V12 W18:=⟨gr18.os,gr18.tape,gr18.output,gr18.size,fun k hk=>gr18.block k hk (by simp)⟩
      have h18:=h12.below X b18
      have hS:(fun Wq:World=>Wq.cell? ⟨q3,1,none⟩=some (.slice (some ⟨gb,0,none⟩) nb cb)) W18:=h18.cells.2
      refine hK _ _ hS (fun _ => ?_)
      clear hK K
      simp only [Act.put,lsk]
      refine wpAnyH_take (i:=12) (v:=.pointer (some ⟨gb,i * 4,none⟩)) rfl (by kernel_rfl) (by kernel_rfl) (by kernel_rfl) (fun _ _ _ h=>h) (Or.inl ⟨by rfl,fun wq hSw => ?_⟩) hS ?_
      ·simp [execOp,Act.eval,go_sem,hi']
      simp only [Act.put,lsk]
      refine wpAnyH_take (i:=13) (v:=.pointer (some ⟨gb,i * 4+3,none⟩)) rfl (by kernel_rfl) (by kernel_rfl) (by kernel_rfl) (fun _ _ _ h=>h) (Or.inl ⟨by rfl,fun wq hSw => ?_⟩) hS ?_
      ·simp [execOp,Act.eval,go_sem]
      simp only [Act.put,lsk]
      obtain ⟨-,-,-,c3⟩:=h18.body_at (i:=i) rfl HE.out.1
      have z3:=(h18.bne (b:=gb) rfl).2.2.2 (i * 4+3)
      obtain ⟨ka,kc,hkv⟩:=own_form own18
      have hst:=h18.store (j:=3) (u':=.agg #[.int .i64 uk,.int .i64 un,.string ut,kv]) (val:=kv) rfl HS.out.2.2.1 HE.out.1 (by omega) rfl
      refine wpAnyH_ready (rs:=[14]) (by kernel_rfl) (by simp) ?_
      refine AllReadyH.cons rfl (fun K hK => ?_) (AllReadyH.nil)
      refine step_skip rfl (W18.setCell ⟨gb,i * 4+3,none⟩ kv) (by subst hkv; simp [execOp,Act.eval,go_sem,z3,c3]) ?_
      have hch:=h18.changed X hst.2 hbn.1 hbn.2.1
      have hcx:=cbk hch.2.2.2 1 (.slice (some ⟨gb,0,none⟩) nb cb) rfl
      refine hK _ _ hcx (fun _ => ?_)
      clear hK K
      simp only [Act.put,List.getElem_toArray,List.getElem_cons_zero,List.getElem_cons_succ]
      refine wpAnyH_done (by kernel_rfl) ?_ _
      refine hKA _ _ ?_
      clear hKA KA
      have hgk:∀ b,kv.ownBlock=some b→V12.heap.size≤b∧b<W18.heap.size∧b≠gb:=fun b hb=>⟨(own18.lt b hb).1,(own18.lt b hb).2,fun e=>by have h1:=own_lt h12.pg.bodies gb rfl; have h2:=(own18.lt b hb).1; omega⟩
      have own19:=own_moved (W':=(W18.setCell ⟨gb,i * 4+3,none⟩ kv)) own18 (fun b hb=>Below.heap_setCell _ _ _ b (by show b≠gb; exact (hgk b hb).2.2))
      have kp19:∀ b,b≠gb→b<V12.heap.size→(W18.setCell ⟨gb,i * 4+3,none⟩ kv).heap[b]? = V12.heap[b]? := fun b hb hlt=>(Below.heap_setCell _ _ _ b (by show b≠gb; exact hb)).trans (b18.block b hlt)
      have sz19:V12.heap.size≤(W18.setCell ⟨gb,i * 4+3,none⟩ kv).heap.size:=by simpa using b18.size
      have gr19:V12.grownBy (W18.setCell ⟨gb,i * 4+3,none⟩ kv) (some gb):=(show V12.grownBy W18 (some gb) from ⟨gr18.os,gr18.tape,gr18.output,gr18.size,fun k hk _=>gr18.block k hk (by simp)⟩).trans hst.2
      have ob19:=hst.1
      clear hcx hkv z3 c3 hst hch
      generalize (W18.setCell ⟨gb,i * 4+3,none⟩ kv)=W19 at own19 kp19 sz19 gr19 ob19 ⊢
      obtain ⟨gk,kc',rfl⟩:=own_some own18 (by omega)
      have hkm:((um:Nat):Int)<((um:Nat):Int)+1:=by omega
      have hgg:=hgk gk rfl
      clear hgk own18
      obtain ⟨own20,gr20⟩:=own_last (a':=.int .i64 1) (b':=.int .i64 x) (c':=.string ⟨#[]⟩) (d':=.slice none 0 0) own19 (by rw [flat_len hus,hul])
      obtain ⟨l0,l1,l2,l3⟩:=last_cells own19 (by rw [flat_len hus,hul])
      have fz:=unfrozen_own own19 gk rfl
      have z0:=fz (um * 4)
      have z1:=fz (um * 4+1)
      have z2:=fz (um * 4+2)
      have z3:=fz (um * 4+3)
      clear fz
      go_upto_region 15 with fail
      refine wp_region_list ?_
      refine wpl_run rfl (.pointer (some ⟨gk,um * 4,none⟩)) W19 (by simp [execOp,Act.eval,go_sem,hkm]) ?_
      simp only [Act.put,List.setIfInBounds_toArray,List.set_cons_zero,List.set_cons_succ]
      refine wpl_skip rfl ((((W19.setCell ⟨gk,um * 4,none⟩ (.int .i64 1)).setCell ⟨gk,um * 4+1,none⟩ (.int .i64 x)).setCell ⟨gk,um * 4+2,none⟩ (.string ⟨#[]⟩)).setCell ⟨gk,um * 4+3,none⟩ (.slice none 0 0)) (by simp [execOp,Act.eval,go_sem,z0,z1,z2,z3,l0,l1,l2,l3]) ?_
      simp only [Act.put]
      refine wpList_nil ?_
      have gr21:V12.grownBy ((((W19.setCell ⟨gk,um * 4,none⟩ (.int .i64 1)).setCell ⟨gk,um * 4+1,none⟩ (.int .i64 x)).setCell ⟨gk,um * 4+2,none⟩ (.string ⟨#[]⟩)).setCell ⟨gk,um * 4+3,none⟩ (.slice none 0 0)) (some gb):=gr19.andThen gr20 (fun j hj=>by cases hj; exact .inl hgg.1)
      have ob20:=own_moved (W':=((((W19.setCell ⟨gk,um * 4,none⟩ (.int .i64 1)).setCell ⟨gk,um * 4+1,none⟩ (.int .i64 x)).setCell ⟨gk,um * 4+2,none⟩ (.string ⟨#[]⟩)).setCell ⟨gk,um * 4+3,none⟩ (.slice none 0 0))) ob19 (fun b hb=>gr20.block b (own_lt ob19 b hb) (fun e=>by cases e; have e2:=Option.some.inj hb; exact hgg.2.2 e2.symm))
      have kp20:∀ b,b≠gb→b<V12.heap.size→((((W19.setCell ⟨gk,um * 4,none⟩ (.int .i64 1)).setCell ⟨gk,um * 4+1,none⟩ (.int .i64 x)).setCell ⟨gk,um * 4+2,none⟩ (.string ⟨#[]⟩)).setCell ⟨gk,um * 4+3,none⟩ (.slice none 0 0)).heap[b]? = V12.heap[b]? := fun b hb hlt=>gr21.block b hlt (fun e=>hb (Option.some.inj e))
      have hxe:=ex_more (x:=.agg #[.int .i64 1,.int .i64 x,.string ⟨#[]⟩,.slice none 0 0]) (k:=uk) (n:=un) (t:=ut) hus (EV.leaf _ _ ⟨by omega,by omega⟩ hxi (Nat.zero_le _)) (fun b hb hlt=>kp20 b (fun e=>hb.2.1 (by rw [e]; rfl)) hlt) gr21.size (by rw [hul]; exact own20) (by omega) (e12).kn_k (e12).kn_n (e12).kn_t
      have hch:=h12.changed X gr21 hbn.1 hbn.2.1
      have hpx:=h12.pg.setBodyX (i:=i) (u':=.agg #[.int .i64 uk,.int .i64 un,.string ut,.slice (some ⟨gk,0,none⟩) (um+1) kc']) gr21 ob20 (wideE hxe (fun b hb=>by rcases hb with hb | hb; exact hb.1; have h1:=hbn.2.1; have h2:=own_lt h12.pg.bodies gb rfl; omega))
      have HN:=(show Hid (_∧_∧_∧_) from hch)
      have HPG:=(show Hid (_) from hpx)
      generalize ((((W19.setCell ⟨gk,um * 4,none⟩ (.int .i64 1)).setCell ⟨gk,um * 4+1,none⟩ (.int .i64 x)).setCell ⟨gk,um * 4+2,none⟩ (.string ⟨#[]⟩)).setCell ⟨gk,um * 4+3,none⟩ (.slice none 0 0))=WF at HN HPG ⊢
      clear hxe hpx hch kp20 ob20 gr21 gr20 own20 l0 l1 l2 l3 z0 z1 z2 z3 ob19 gr19 sz19 kp19 own19 hgg hkm h18 b18 gr18 hua huc hus hul hm3 hi0 hz0 hz1 hz2 hbn hi' X
      have HP:=(show Hid (PgX WF B (.slice an nn cn) (.slice (some ⟨gb,0,none⟩) nb cb) (ns) (vs.set i (.agg #[.int .i64 uk,.int .i64 un,.string ut,.slice (some ⟨gk,0,none⟩) (um+1) kc']))) from HPG.out)
      have f0:=ubk HN.out.2.2.1 0
      have f1:=ubk HN.out.2.2.1 1
      have d0:=cbk HN.out.2.2.1 0 (.slice none 0 0) rfl
      have d1:=cbk HN.out.2.2.1 1 (.slice none 0 0) rfl
      have y0:=cbk HN.out.2.2.2 0 (.slice an nn cn) rfl
      have y1:=cbk HN.out.2.2.2 1 (.slice (some ⟨gb,0,none⟩) nb cb) rfl
      go_wp2
      refine bodyPost_ret (v:=.agg #[.slice an nn cn,.slice (some ⟨gb,0,none⟩) nb cb]) (by simp [results,Tryz.results14,go_sem,d0,d1]) rfl ?_
      exact ⟨_,rfl,⟨_,_,rfl⟩,HX.out.fin HN.out.1 HN.out.2.1 HP.out (by first | exact HS.out.1 | (rw [List.length_set]; exact HS.out.1)) (by have h1:=HS.out.1; have h2:=HS.out.2.1; first | omega | (rw [List.length_set]; omega))⟩
  ·obtain ⟨gb,cb',hgb⟩:=own_some HL.out.pg.bodies (by have h1:=HI.out; have h2:=HS.out.2.2.1; omega)
   simp only [Value.slice.injEq] at hgb
   obtain ⟨rfl,-,-⟩:=hgb
   go_wp2_with fail
   refine (below_dr B0 g V len 10 W6 (by omega) (by omega) HL.out.dr).mono ?_
   rintro e W7 ⟨x,rfl,x0,x1,d7,g7⟩
   have HL7:=(show Hid (LP B0 g V len w B q3 W7 (.slice an nn cn) (.slice (some ⟨gb,0,none⟩) nb cb) ns vs∧vs.length=vs.length) from ⟨HL.out.step HX.out d7 g7,rfl⟩)
   clear d7 g7 HL
   go_wp2_with fail
   go_loopw [7] (fun kv wr=>∃ (k:Nat) (vs':List Value),kv = .int .i64 k∧(k:Int)≤55+x∧Hid (LP B0 g V len w B q3 wr (.slice an nn cn) (.slice (some ⟨gb,0,none⟩) nb cb) ns vs'∧vs'.length=vs.length)) (fun kv _=>(55+x - intOf kv).toNat)
   case atStart=>exact ⟨0,vs,rfl,by omega,(show Hid _ from ⟨HL7.out.1,rfl⟩)⟩
   case round =>
    clear HL7
    obtain ⟨k,vs',rfl,hk,HL⟩:=hrel
    by_cases hlt:(k:Int)<55+x
    ·obtain ⟨u,hu⟩:∃ u,vs'[i]? = some u:=⟨_,List.getElem?_eq_getElem (by have h1:=HI.out; have h2:=HS.out.2.2.1; have h3:=HL.out.2; omega)⟩
     have hue:=HL.out.1.pg.ev u (List.mem_of_getElem? hu)
     obtain ⟨uk,un,ut,ua,um,rfl⟩:=hue.form
     have HE:=(show Hid (vs'[i]? = some (.agg #[.int .i64 uk,.int .i64 un,.string ut,.slice ua um um])∧EV (fun b=>B≤b∧(Value.slice (some ⟨gb,0,none⟩) nb cb).ownBlock≠some b∧(Value.slice an nn cn).ownBlock≠some b) wr (.agg #[.int .i64 uk,.int .i64 un,.string ut,.slice ua um um])) from ⟨hu,hue⟩)
     clear hu hue
     go_upto_region 22 with fail
     have X:=HX.out
     refine wp_region_held_drew (S:=fun Wq=>Wq.cell? ⟨q3,1,none⟩=some (.slice (some ⟨gb,0,none⟩) nb cb)) (by kernel_rfl) (HL.out.1.cells.2) (fun hS => ?_)
     have bd0:Below wr.heap.size wr wr.drew:=⟨rfl,rfl,rfl,Nat.le_refl _,fun _ _=>rfl⟩
     generalize wr.drew=W8 at bd0 hS ⊢
     have h8:=HL.out.1.below X bd0
     have e8:=HE.out.2.below bd0
     have hi':((i:Nat):Int)<(nb:Int):=by have h1:=HI.out; omega
     have hbn:=h8.bne (b:=gb) rfl
     obtain ⟨c0,c1,c2,c3⟩:=h8.body_at (i:=i) rfl HE.out.1
     refine wpAnyH_take (i:=0) (v:=.pointer (some ⟨q3,1,none⟩)) rfl (by kernel_rfl) (by kernel_rfl) (by kernel_rfl) (fun _ _ _ h=>h) (Or.inl ⟨by rfl,fun wq hSw => ?_⟩) hS ?_
     ·simp [execOp,Act.eval,go_sem]
     simp only [Act.put,lsk]
     refine wpAnyH_take (i:=1) (v:=.slice (some ⟨gb,0,none⟩) nb cb) rfl (by kernel_rfl) (by kernel_rfl) (by kernel_rfl) (fun _ _ _ h=>h) (Or.inl ⟨by rfl,fun wq hSw => ?_⟩) hS ?_
     ·simp [execOp,Act.eval,go_sem,hSw]
     simp only [Act.put,lsk]
     refine wpAnyH_take (i:=2) (v:=.int .i64 (i:Int)) rfl (by kernel_rfl) (by kernel_rfl) (by kernel_rfl) (fun _ _ _ h=>h) (Or.inl ⟨by rfl,fun wq hSw => ?_⟩) hS ?_
     ·exact ex_move _ _ _ _ rfl (by rfl) _
     simp only [Act.put,lsk]
     refine wpAnyH_take (i:=3) (v:=.pointer (some ⟨q3,1,none⟩)) rfl (by kernel_rfl) (by kernel_rfl) (by kernel_rfl) (fun _ _ _ h=>h) (Or.inl ⟨by rfl,fun wq hSw => ?_⟩) hS ?_
     ·simp [execOp,Act.eval,go_sem]
     simp only [Act.put,lsk]
     refine wpAnyH_take (i:=4) (v:=.slice (some ⟨gb,0,none⟩) nb cb) rfl (by kernel_rfl) (by kernel_rfl) (by kernel_rfl) (fun _ _ _ h=>h) (Or.inl ⟨by rfl,fun wq hSw => ?_⟩) hS ?_
     ·simp [execOp,Act.eval,go_sem,hSw]
     simp only [Act.put,lsk]
     refine wpAnyH_take (i:=5) (v:=.int .i64 (i:Int)) rfl (by kernel_rfl) (by kernel_rfl) (by kernel_rfl) (fun _ _ _ h=>h) (Or.inl ⟨by rfl,fun wq hSw => ?_⟩) hS ?_
     ·exact ex_move _ _ _ _ rfl (by rfl) _
     simp only [Act.put,lsk]
     refine wpAnyH_take (i:=6) (v:=.pointer (some ⟨gb,i * 4,none⟩)) rfl (by kernel_rfl) (by kernel_rfl) (by kernel_rfl) (fun _ _ _ h=>h) (Or.inl ⟨by rfl,fun wq hSw => ?_⟩) hS ?_
     ·simp [execOp,Act.eval,go_sem,hi']
     simp only [Act.put,lsk]
     refine wpAnyH_ready (rs:=[7]) (by kernel_rfl) (by simp) ?_
     refine AllReadyH.cons rfl (fun K hK => ?_) (AllReadyH.nil)
     refine step_run rfl (.agg #[.int .i64 uk,.int .i64 un,.string ut,.slice ua um um]) W8 (by simp [execOp,Act.eval,go_sem,c0,c1,c2,c3]) ?_
     have hS:(fun Wq:World=>Wq.cell? ⟨q3,1,none⟩=some (.slice (some ⟨gb,0,none⟩) nb cb)) W8:=h8.cells.2
     refine hK _ _ hS (fun _ => ?_)
     clear hK K
     simp only [Act.put,lsk]
     obtain ⟨W9,e9⟩:∃ W',W'=W8.alloc (.cells ⟨[.agg #[.int .i64 uk,.int .i64 un,.string ut,.slice ua um um]].flatMap cellsE⟩ 52):=⟨_,rfl⟩
     have b9:Below W8.heap.size W8 W9:=by rw [e9]; exact (Below.refl _ _).alloc (Nat.le_refl _) _
     have x9:W9.heap[W8.heap.size]? = some (.cells ⟨[.agg #[.int .i64 uk,.int .i64 un,.string ut,.slice ua um um]].flatMap cellsE⟩ 52):=by rw [e9]; exact block_new _ _
     have h9:=h8.below X b9
     have v9:=e8.below b9
     refine wpAnyH_ready (rs:=[8]) (by kernel_rfl) (by simp) ?_
     refine AllReadyH.cons rfl (fun K hK => ?_) (AllReadyH.nil)
     refine step_run rfl (.slice (some ⟨W8.heap.size,0,none⟩) 1 1) W9 (by rw [e9]; exact ex_rowE1 _ _ (.tmp 107) rfl e8 (by rfl) _) ?_
     have hS:(fun Wq:World=>Wq.cell? ⟨q3,1,none⟩=some (.slice (some ⟨gb,0,none⟩) nb cb)) W9:=h9.cells.2
     refine hK _ _ hS (fun _ => ?_)
     clear hK K
     simp only [Act.put,lsk]
     refine wpAnyH_take (i:=9) (v:=.agg #[.int .i64 3,.int .i64 1,.string ⟨#[]⟩,.slice (some ⟨W8.heap.size,0,none⟩) 1 1]) rfl (by kernel_rfl) (by kernel_rfl) (by kernel_rfl) (fun _ _ _ h=>h) (Or.inl ⟨by rfl,fun wq hSw => ?_⟩) hS ?_
     ·exact ex_build013 (x:=.tmp 108) (y:=.const (.int .i64 1)) _ _ rfl (by rfl) rfl _
     simp only [Act.put,lsk]
     refine wpAnyH_take (i:=10) (v:=.pointer (some ⟨gb,i * 4,none⟩)) rfl (by kernel_rfl) (by kernel_rfl) (by kernel_rfl) (fun _ _ _ h=>h) (Or.inl ⟨by rfl,fun wq hSw => ?_⟩) hS ?_
     ·simp [execOp,Act.eval,go_sem,hi']
     simp only [Act.put,lsk]
     have fv:EV (fun b=>B≤b∧(Value.slice (some ⟨gb,0,none⟩) nb cb).ownBlock≠some b∧(Value.slice an nn cn).ownBlock≠some b) W9 (.agg #[.int .i64 3,.int .i64 1,.string ⟨#[]⟩,.slice (some ⟨W8.heap.size,0,none⟩) 1 1]):=EV.over (vs:=[.agg #[.int .i64 uk,.int .i64 un,.string ut,.slice ua um um]]) (by simp) (fun z hz=>by rw [List.mem_singleton.1 hz]; exact v9) x9 ⟨Nat.le_of_lt (Nat.lt_of_le_of_lt hbn.2.1 hbn.2.2.1),fun e=>by have:=own_lt h8.pg.bodies _ e; omega,fun e=>by have:=own_lt h8.pg.names _ e; omega⟩ ⟨by omega,by omega⟩ ⟨by omega,by omega⟩ (Nat.zero_le _)
     obtain ⟨c4,c5,c6,c7⟩:=h9.body_at (i:=i) rfl HE.out.1
     have hfz:=(h9.bne (b:=gb) rfl).2.2.2
     have z0:=hfz (i * 4)
     have z1:=hfz (i * 4+1)
     have z2:=hfz (i * 4+2)
     have z3:=hfz (i * 4+3)
     clear hfz c0 c1 c2 c3
     have hst:=h9.store4 (k':=3) (n':=1) (t':=⟨#[]⟩) (kv':=.slice (some ⟨W8.heap.size,0,none⟩) 1 1) rfl (by have h1:=HS.out.2.2.1; have h2:=HL.out.2; omega) HE.out.1
     refine wpAnyH_ready (rs:=[11]) (by kernel_rfl) (by simp) ?_
     refine AllReadyH.cons rfl (fun K hK => ?_) (AllReadyH.nil)
     refine step_skip rfl ((((W9.setCell ⟨gb,i * 4,none⟩ (.int .i64 3)).setCell ⟨gb,i * 4+1,none⟩ (.int .i64 1)).setCell ⟨gb,i * 4+2,none⟩ (.string ⟨#[]⟩)).setCell ⟨gb,i * 4+3,none⟩ (.slice (some ⟨W8.heap.size,0,none⟩) 1 1)) (by simp [execOp,Act.eval,go_sem,z0,z1,z2,z3,c4,c5,c6,c7]) ?_
     have hch:=h9.changed X hst.2 hbn.1 hbn.2.1
     have hpx:=h9.pg.setBody hst.2 hst.1 fv
     have hcx:=cbk hch.2.2.2 1 (.slice (some ⟨gb,0,none⟩) nb cb) rfl
     refine hK _ _ hcx (fun _ => ?_)
     clear hK K
     simp only [Act.put,List.getElem_toArray,List.getElem_cons_zero,List.getElem_cons_succ]
     refine wpAnyH_done (by kernel_rfl) ?_ _
     have HL9:=(show Hid (LP B0 g V len w B q3 ((((W9.setCell ⟨gb,i * 4,none⟩ (.int .i64 3)).setCell ⟨gb,i * 4+1,none⟩ (.int .i64 1)).setCell ⟨gb,i * 4+2,none⟩ (.string ⟨#[]⟩)).setCell ⟨gb,i * 4+3,none⟩ (.slice (some ⟨W8.heap.size,0,none⟩) 1 1)) (.slice an nn cn) (.slice (some ⟨gb,0,none⟩) nb cb) ns (vs'.set i (.agg #[.int .i64 3,.int .i64 1,.string ⟨#[]⟩,.slice (some ⟨W8.heap.size,0,none⟩) 1 1]))∧(vs'.set i (.agg #[.int .i64 3,.int .i64 1,.string ⟨#[]⟩,.slice (some ⟨W8.heap.size,0,none⟩) 1 1])).length=vs.length) from ⟨⟨hch.1,hch.2.1,hch.2.2.1,hch.2.2.2,hpx⟩,by rw [List.length_set]; exact HL.out.2⟩)
     clear hcx hch hpx hst z0 z1 z2 z3 c4 c5 c6 c7 fv v9 h9 x9 b9 e9 e8 h8 hbn hi' X bd0 hS HE HL
     generalize ((((W9.setCell ⟨gb,i * 4,none⟩ (.int .i64 3)).setCell ⟨gb,i * 4+1,none⟩ (.int .i64 1)).setCell ⟨gb,i * 4+2,none⟩ (.string ⟨#[]⟩)).setCell ⟨gb,i * 4+3,none⟩ (.slice (some ⟨W8.heap.size,0,none⟩) 1 1))=WF at HL9 ⊢
     go_wp2
     go_roundw
     case rel=>exact ⟨k+1,_,by go_num,by omega,HL9⟩
     case measure=>simp [intOf]; omega
    ·have HN:=(show Hid (Dr B0 wr g V len∧w.grownBy wr (some g)∧wr.heap[w.heap.size]? = some (.cells #[.slice none 0 0,.slice none 0 0] 27)∧wr.heap[q3]? = some (.cells #[.slice an nn cn,.slice (some ⟨gb,0,none⟩) nb cb] 27)) from ⟨HL.out.1.dr,HL.out.1.gr,HL.out.1.box2,HL.out.1.box3⟩)
     have HP:=(show Hid (PgX wr B (.slice an nn cn) (.slice (some ⟨gb,0,none⟩) nb cb) (ns) (vs')) from HL.out.1.pg.x)
     have f0:=ubk HN.out.2.2.1 0
     have f1:=ubk HN.out.2.2.1 1
     have d0:=cbk HN.out.2.2.1 0 (.slice none 0 0) rfl
     have d1:=cbk HN.out.2.2.1 1 (.slice none 0 0) rfl
     have y0:=cbk HN.out.2.2.2 0 (.slice an nn cn) rfl
     have y1:=cbk HN.out.2.2.2 1 (.slice (some ⟨gb,0,none⟩) nb cb) rfl
     go_wp2
     refine bodyPost_ret (v:=.agg #[.slice an nn cn,.slice (some ⟨gb,0,none⟩) nb cb]) (by simp [results,Tryz.results14,go_sem,d0,d1]) rfl ?_
     exact ⟨_,rfl,⟨_,_,rfl⟩,HX.out.fin HN.out.1 HN.out.2.1 HP.out (by first | exact HS.out.1 | (rw [List.length_set]; exact HS.out.1)) (by have h1:=HS.out.1; have h2:=HS.out.2.1; have h3:=HL.out.2; first | omega | (rw [List.length_set]; omega))⟩
  ·have HN:=(show Hid (Dr B0 W6 g V len∧w.grownBy W6 (some g)∧W6.heap[w.heap.size]? = some (.cells #[.slice none 0 0,.slice none 0 0] 27)∧W6.heap[q3]? = some (.cells #[.slice an nn cn,.slice ab nb cb] 27)) from ⟨HL.out.dr,HL.out.gr,HL.out.box2,HL.out.box3⟩)
   have HP:=(show Hid (PgX W6 B (.slice an nn cn) (.slice ab nb cb) (ns) (vs)) from HL.out.pg.x)
   have f0:=ubk HN.out.2.2.1 0
   have f1:=ubk HN.out.2.2.1 1
   have d0:=cbk HN.out.2.2.1 0 (.slice none 0 0) rfl
   have d1:=cbk HN.out.2.2.1 1 (.slice none 0 0) rfl
   have y0:=cbk HN.out.2.2.2 0 (.slice an nn cn) rfl
   have y1:=cbk HN.out.2.2.2 1 (.slice ab nb cb) rfl
   go_wp2
   refine bodyPost_ret (v:=.agg #[.slice an nn cn,.slice ab nb cb]) (by simp [results,Tryz.results14,go_sem,d0,d1]) rfl ?_
   exact ⟨_,rfl,⟨_,_,rfl⟩,HX.out.fin HN.out.1 HN.out.2.1 HP.out (by first | exact HS.out.1 | (rw [List.length_set]; exact HS.out.1)) (by have h1:=HS.out.1; have h2:=HS.out.2.1; first | omega | (rw [List.length_set]; omega))⟩
end Go.Proofs.YtljdgmfcgkimoaaGreatDoor
