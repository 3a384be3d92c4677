/-
  Proofs.
-/
import Derived.Test.YtmmadoabejgffaaGreatDoorA
import Derived.Test.YtmmadoabejgffaaGreatDoorLinkClone
import Derived.Test.YtmmadoabejgffaaGreatDoorCB
import Derived.Test.YtmmadoabejgffaaGreatDoorD
import Derived.OrdersHeld
import Derived.Test.YtmmadoabejgffaaGreatDoorResWalk
import Derived.Deep.RegionHeld3
namespace Go.Proofs.YtmmadoabejgffaaGreatDoor
open Go.RowKit Go.Joins
set_option maxRecDepth 100000
theorem infoSentR:(Tryz.prog.info? 93).map (fun i=>(i.zero,i.size,i.bytes))=some (some (.agg #[.int .i64 0,.int .i64 0,.string ByteArray.empty]),3,32):=by kernel_rfl
theorem step_append_sents {ops:Array Oper} {o:Oper} {a:Act} {w:World} {K:Act→World→Prop} {Q:Exit→Act→World→Prop} {E:Prop} (hg:o.guard=none) (s x:Operand)
  (hop:o.op=Op.call { callee:=Callee.builtin Builtin.append,args:=#[s,x],argTypes:=#[46,46] }) (base:Nat) (v:Value) (n:Nat) (xs:List Value) (hs:a.eval s=v) (hown:w.ownsRow base 93 3 v n xs)
  (sv:Value) (es:List Sn) (S:Nat→Prop) (hx:a.eval x=sv) (hsrc:SentsAt w S sv es) (hn:n+es.length≤100000000) (hbase:base≤w.heap.size)
  (hK:∀ v' w',w'.ownsRow base 93 3 v' (n+es.length) (xs ++ es.flatMap snCells)→w.grownBy w' v.ownBlock→(v'.ownBlock=v.ownBlock∨v'.ownBlock=some w.heap.size)→K (a.put o.dst v') w') :
  if Region.wanted o (yielded ops a.tmps)=true then Oper.wp Tryz.prog o a w K Q else E:=by
 obtain ⟨i0,hi,hz0,hz1,hz2⟩:=info_parts infoSentR
 obtain ⟨ad,cap,rfl,hl,hc⟩:=hsrc
 cases ad with
 | none =>
  have hz:es=[]:=by
   cases es with
   | nil=>rfl
   | cons z es=>obtain ⟨b,off,he,_⟩:=hc 0 z rfl; cases he
  subst hz
  have hw:Region.wanted o (yielded ops a.tmps)=true:=by simp [Region.wanted,hg]
  rw [if_pos hw]
  have hrun:=run_append_zero (w:=w) base 46 o.type 93 i0 3 Tryz.underlying46 hi v n cap xs hown
  unfold Oper.wp execOp
  simp only [List.length_nil] at hx
  simp only [hop,resolve,invoke,builtin,Sem.run_bind,Sem.run_pure,Result.andThen_ok,List.map_toArray,List.map_cons,List.map_nil,hs,hx,hrun]
  exact hK v w (by simpa using hown) (World.grownBy.refl _ _) (.inl rfl)
 | some ad =>
  refine step_append_row hg s x 46 hop base 93 i0 _ 3 32 Tryz.underlying46 hi hz0 hz1 hz2 rfl (by decide) v n xs hs hown ad es.length cap (es.flatMap snCells) hx (sn_len es) (fun j u hj => ?_) (snCells_one es) (by unfold maxLen; omega) (by omega) hbase hK
  obtain ⟨i,e,r,he,hr,rfl,hu⟩:=sn_at hj
  obtain ⟨b,off,ha,_,hlt,c0,c1,c2,_⟩:=hc i e he
  cases ha
  rw [addr_addI]
  have h3:r=0∨r=1∨r=2:=by omega
  rcases h3 with rfl | rfl | rfl
  ·rw [Nat.add_zero]; exact c0.trans hu
  ·rw [← Nat.add_assoc]; exact c1.trans hu
  ·rw [← Nat.add_assoc]; exact c2.trans hu
theorem step_append_intsR {ops:Array Oper} {o:Oper} {a:Act} {w:World} {K:Act→World→Prop} {Q:Exit→Act→World→Prop} {E:Prop} (hg:o.guard=none) (s x:Operand)
  (hop:o.op=Op.call { callee:=Callee.builtin Builtin.append,args:=#[s,x],argTypes:=#[23,23] }) (base:Nat) (v:Value) (n:Nat) (xs:List Value) (hs:a.eval s=v) (hown:w.ownsRow base 3 1 v n xs)
  (sv:Value) (zs:List Int) (S:Nat→Prop) (hx:a.eval x=sv) (hsrc:IntsAt w S sv zs) (hn:n+zs.length≤100000000) (hbase:base≤w.heap.size)
  (hK:∀ v' w',w'.ownsRow base 3 1 v' (n+zs.length) (xs ++ intVs zs)→w.grownBy w' v.ownBlock→(v'.ownBlock=v.ownBlock∨v'.ownBlock=some w.heap.size)→K (a.put o.dst v') w') :
  if Region.wanted o (yielded ops a.tmps)=true then Oper.wp Tryz.prog o a w K Q else E:=by
 obtain ⟨i0,hi,hz0,hz1,hz2⟩:=info_parts infoCdI
 obtain ⟨ad,cap,rfl,hl,hc⟩:=hsrc
 cases ad with
 | none =>
  have hz:zs=[]:=by
   cases zs with
   | nil=>rfl
   | cons z zs=>obtain ⟨b,off,he,_⟩:=hc 0 z rfl; cases he
  subst hz
  have hw:Region.wanted o (yielded ops a.tmps)=true:=by simp [Region.wanted,hg]
  rw [if_pos hw]
  have hrun:=run_append_zero (w:=w) base 23 o.type 3 i0 1 Tryz.underlying23 hi v n cap xs hown
  unfold Oper.wp execOp
  simp only [List.length_nil] at hx
  simp only [hop,resolve,invoke,builtin,Sem.run_bind,Sem.run_pure,Result.andThen_ok,List.map_toArray,List.map_cons,List.map_nil,hs,hx,hrun]
  exact hK v w (by simpa using hown) (World.grownBy.refl _ _) (.inl rfl)
 | some ad =>
  refine step_append_row hg s x 23 hop base 3 i0 _ 1 8 Tryz.underlying23 hi hz0 hz1 hz2 rfl (by decide) v n xs hs hown ad zs.length cap (intVs zs) hx (by simp) (fun j u hj => ?_) (ints_one zs) (by unfold maxLen; omega) (by omega) hbase hK
  rw [List.getElem?_map] at hj
  obtain ⟨z,hz,rfl⟩:=Option.map_eq_some_iff.1 hj
  obtain ⟨b,off,he,_,_,hcell,_⟩:=hc j z hz
  cases he
  rw [addr_addI]
  exact hcell
theorem cell_twoS (w:World) (x y:Value) (t:TypeId):∀ j u,[x,y][j]? = some u→(w.alloc (.cells #[x,y] t)).cell? ((⟨w.heap.size,0,none⟩:Addr).add j)=some u:=by
 intro j u hj
 obtain ⟨hl,rfl⟩:=List.getElem?_eq_some_iff.1 hj
 have h2:j=0∨j=1:=by simp at hl; omega
 rcases h2 with rfl | rfl <;> simp [Addr.add]
theorem SeOwn.push {W W':World} {B:Nat} {cv cv' kv:Value} {rs:List (Se×Value)} {x:Se} (h:SeOwn W B cv rs) (hown:W'.ownsRow B 147 2 cv' (rs.length+1) (rs.flatMap seCells ++ [.int .i64 x.low,kv])) (hkeep:∀ r ∈ rs,∀ b,r.2.ownBlock=some b→W'.heap[b]? = W.heap[b]?)
  (hk:W'.ownsRow B 3 1 kv x.ids.length (intVs x.ids)) (hx:SeOk x) (hap:∀ r ∈ rs,AptV r.2 kv):SeOwn W' B cv' (rs ++ [(x,kv)]):=by
 refine ⟨by rw [List.length_append,List.flatMap_append]; exact hown,fun r hr => ?_,?_⟩
 ·rw [List.mem_append,List.mem_singleton] at hr
  rcases hr with hr | rfl
  ·exact ⟨own_moved (h.kids r hr).1 (hkeep r hr),(h.kids r hr).2⟩
  ·exact ⟨hk,hx⟩
 ·rw [List.map_append,List.pairwise_append]
  refine ⟨h.apart,by simp,fun u hu v hv => ?_⟩
  obtain ⟨r,hr,rfl⟩:=List.mem_map.1 hu
  simp at hv
  subst hv
  exact hap r hr
theorem l08Copy_round {w wr w5 w8:World} {lo:Lk} {out:List Sn} {rl rr:Array Value} {ob k:Nat} {qv v8 ov kv:Value} {rs:List (Se×Value)} {x:Se} {WA:World}
  (hSe:SeOwn wr w.heap.size qv rs) (hSn:SnOwn wr w.heap.size ov out) (hO:wr.heap[ob]? = some (.cells (lo.row ov qv) 49)) (hL:wr.heap[w.heap.size]? = some (.cells rl 49)) (hbw:Below w.heap.size w wr) (hrl:rs.length=k) (_:Below wr.heap.size wr WA) (B5:Below wr.heap.size wr w5)
  (hown6:w5.ownsRow wr.heap.size 3 1 kv x.ids.length (intVs x.ids)) (hown8:w8.ownsRow w.heap.size 147 2 v8 (k+1) (rs.flatMap seCells ++ [.int .i64 x.low,kv])) (hgrow8:(w5.alloc (.cells #[.int .i64 x.low,kv] 147)).grownBy w8 qv.ownBlock) (hx:SeOk x) (hsz:w.heap.size≤wr.heap.size) (hobw:w.heap.size+1<ob) (hR:wr.heap[w.heap.size+1]? = some (.cells rr 49)) :
  w8.heap[ob]? = some (.cells (lo.row ov qv) 49)∧w8.heap[w.heap.size]? = some (.cells rl 49)∧Below w.heap.size w w8 ∧
   SeOwn (w8.setCell ⟨ob,3,none⟩ v8) w.heap.size v8 (rs ++ [(x,kv)])∧SnOwn (w8.setCell ⟨ob,3,none⟩ v8) w.heap.size ov out∧(w8.setCell ⟨ob,3,none⟩ v8).heap[ob]? = some (.cells (lo.row ov v8) 49)∧(w8.setCell ⟨ob,3,none⟩ v8).heap[w.heap.size]? = some (.cells rl 49)∧Below w.heap.size w (w8.setCell ⟨ob,3,none⟩ v8)∧(w8.setCell ⟨ob,3,none⟩ v8).heap[w.heap.size+1]? = some (.cells rr 49):=by
 have B6:=B5.alloc B5.size (.cells #[.int .i64 x.low,kv] 147)
 have hq:∀ g,qv.ownBlock=some g→∃ cs,wr.heap[g]? = some (.cells cs 147):=fun g hg=>(own_type hSe.cells g hg).2
 have keep:∀ (g:Nat) (t:TypeId) (cs:Array Value),wr.heap[g]? = some (.cells cs t)→t≠147→w8.heap[g]? = wr.heap[g]? := fun g t cs hg ht=>by
  refine (hgrow8.block g (Nat.lt_of_lt_of_le (lh hg) B6.size) (fun e => ?_)).trans (B6.block g (lh hg))
  obtain ⟨cs',h'⟩:=hq g e.symm
  rw [hg] at h'
  simp at h'
  exact ht h'.2
 have O8:=(keep ob _ _ hO (by decide)).trans hO
 have L8:=(keep _ _ _ hL (by decide)).trans hL
 have R8:=(keep _ _ _ hR (by decide)).trans hR
 have B8:Below w.heap.size w w8:=Below.grown (hbw.trans (B6.mono hsz)) hgrow8 (hB:=(hbw.trans (B6.mono hsz)).size) (hr:=fun b hb=>(own_type hSe.cells b hb).1)
 have k9:∀ g,g≠ob→(w8.setCell ⟨ob,3,none⟩ v8).heap[g]? = w8.heap[g]? := fun g hg=>Below.heap_setCell _ _ _ g (by simpa using hg)
 have nob:∀ (B n size:Nat) (e:TypeId) (v:Value) (xs:List Value),w8.ownsRow B e size v n xs→e≠49→∀ g,v.ownBlock=some g→g≠ob:=fun B n size e v xs ho he g hg hgo=>by
  obtain ⟨_,cs,h2⟩:=own_type ho g hg
  rw [hgo,O8] at h2
  simp at h2
  exact he h2.2.symm
 have kr:∀ r ∈ rs,∀ b,r.2.ownBlock=some b→w8.heap[b]? = wr.heap[b]? := fun r hr b hb=>by
  obtain ⟨_,cs,h2⟩:=own_type (hSe.kids r hr).1 b hb
  exact keep b _ _ h2 (by decide)
 have hk6:w8.ownsRow wr.heap.size 3 1 kv x.ids.length (intVs x.ids):=own_moved hown6 (fun g hg=>by
  have hlt:=own_lt hown6 g hg
  refine (hgrow8.block g (by simp; omega) (fun e => ?_)).trans (Below.heap_alloc _ _ _ hlt)
  have h1:=own_lt hSe.cells g e.symm
  have h2:=(own_type hown6 g hg).1
  omega)
 have hSn8:SnOwn w8 w.heap.size ov out:=hSn.moved (fun b hb=>by
  obtain ⟨_,cs,h2⟩:=own_type hSn.1 b hb
  exact keep b _ _ h2 (by decide))
 refine ⟨O8,L8,B8,?_,hSn8.moved (fun b hb=>k9 b (nob _ _ _ _ _ _ hSn8.1 (by decide) b hb)),?_,(k9 _ (by omega)).trans L8,B8.setCell (p:=⟨ob,3,none⟩) (by simp; omega) _,(k9 _ (by omega)).trans R8⟩
 ·have h8:SeOwn w8 w.heap.size v8 (rs ++ [(x,kv)]):=SeOwn.push hSe (by rw [hrl]; exact hown8) kr (own_mono hk6 hsz) hx (fun r hr=>by
   cases hb':r.2.ownBlock with
   | none=>exact .inl hb'
   | some q =>
    refine .inr fun e => ?_
    have h2:=own_lt (hSe.kids r hr).1 q hb'
    have h4:=(own_type hown6 q (e.symm.trans hb')).1
    omega)
  exact h8.moved (fun b hb=>k9 b (by
   rcases hb with hb | ⟨r,hr,hb⟩
   ·exact nob _ _ _ _ _ _ h8.cells (by decide) b hb
   ·exact nob _ _ _ _ _ _ (h8.kids r hr).1 (by decide) b hb))
 ·rw [block_setCell O8]
  rfl
theorem run_buildLk (x y:Int) (a:Option Addr) (n c:Nat) (w:World):(Instr.build 49 #[(0,.int .i64 x),(1,.int .i64 y),(2,.slice a n c)]).run Tryz.prog w = .ok (.agg #[.int .i64 x,.int .i64 y,.slice a n c,.slice none 0 0]) w:=by kernel_rfl
theorem ex_buildLk (e:Operand→Value) (o:Oper) (x0 x1 x2:Operand) (x y:Int) (a:Option Addr) (n c:Nat) (w:World) (ho:o.op = .build 49 #[(0,x0),(1,x1),(2,x2)]) (h0:e x0 = .int .i64 x) (h1:e x1 = .int .i64 y) (h2:e x2 = .slice a n c):(execOp e o).run Tryz.prog w = .ok (.value (.agg #[.int .i64 x,.int .i64 y,.slice a n c,.slice none 0 0])) w:=by
 unfold execOp
 rw [ho]
 simp only [List.map_toArray,List.map_cons,List.map_nil,h0,h1,h2,Sem.run_bind,run_buildLk,Result.andThen_ok,Sem.run_pure]
def LcR (l:Lk) (lo:Nat):Nat→List Value→Value→(Nat→Prop)→World→Prop:=fun i vs v Y w=>match i with
 | 4=>∃ g,v = .slice (some ⟨g,0,none⟩) 0 0∧w.heap[g]? = some (.cells #[] 93)∧Y g
 | 7=>∃ (a:Option Addr) (c:Nat),v = .slice a l.out.length c∧w.ownsRow lo 93 3 (.slice a l.out.length c) l.out.length (l.out.flatMap snCells)∧∀ b,(Value.slice a l.out.length c).ownBlock=some b→Y b
 | 8=>∃ (a:Option Addr) (c:Nat),v = .agg #[.int .i64 l.id,.int .i64 l.next,.slice a l.out.length c,.slice none 0 0]∧w.ownsRow lo 93 3 (.slice a l.out.length c) l.out.length (l.out.flatMap snCells)∧∀ b,(Value.slice a l.out.length c).ownBlock=some b→Y b
 | 9=>∃ g,v = .pointer (some ⟨g,0,none⟩)∧w.heap[g]? = some (.cells (Lk.row ⟨0,0,[],[]⟩ (.slice none 0 0) (.slice none 0 0)) 49)∧Y g
 | 10=>∃ (g:Nat) (a:Option Addr) (c:Nat),vs[0]? = some (.pointer (some ⟨g,0,none⟩))∧w.heap[g]? = some (.cells (Lk.row ⟨l.id,l.next,l.out,[]⟩ (.slice a l.out.length c) (.slice none 0 0)) 49)∧Y g∧w.ownsRow lo 93 3 (.slice a l.out.length c) l.out.length (l.out.flatMap snCells)∧∀ b,(Value.slice a l.out.length c).ownBlock=some b→Y b
 | _=>False
theorem LcR.stay {l:Lk} {lo:Nat}:∀ (i:Nat) (vs:List Value) (v:Value) (Y:Nat→Prop) (w w':World),LcR l lo i vs v Y w→(∀ b,Y b→b<w.heap.size→w'.heap[b]? = w.heap[b]?)→LcR l lo i vs v Y w':=by
 intro i vs v Y w w' h hs
 unfold LcR at h ⊢
 split at h
 ·obtain ⟨g,e,h,hY⟩:=h; exact ⟨g,e,(hs g hY (lh h)).trans h,hY⟩
 ·obtain ⟨a,c,e,h,hY⟩:=h; exact ⟨a,c,e,own_moved h (fun b hb=>hs b (hY b hb) (own_lt h b hb)),hY⟩
 ·obtain ⟨a,c,e,h,hY⟩:=h; exact ⟨a,c,e,own_moved h (fun b hb=>hs b (hY b hb) (own_lt h b hb)),hY⟩
 ·obtain ⟨g,e,h,hY⟩:=h; exact ⟨g,e,(hs g hY (lh h)).trans h,hY⟩
 ·obtain ⟨g,a,c,e,h,hY,ho,hO⟩:=h; exact ⟨g,a,c,e,(hs g hY (lh h)).trans h,hY,own_moved ho (fun b hb=>hs b (hO b hb) (own_lt ho b hb)),hO⟩
 ·exact h.elim
set_option maxHeartbeats 8000000 in
theorem l08Copy_any (v:Value) (l:Lk) (S:Nat→Prop) (w:World) (h:LkAt w S v l) (hb:l.bulk≤1048576) :
  Calls Tryz.prog 37 #[v] w fun e w'=>∃ v' ov sv rs,e = .returned v'∧LkOwn w' w.heap.size v' l ov sv rs∧Below w.heap.size w w':=by
 have hfit:inI64 l.id∧inI64 l.next:=by obtain ⟨_,_,_,a,b,_⟩:=h; exact ⟨a,b⟩
 obtain ⟨oa,oc,sa,sc,rfl,h3,h4⟩:=h.form
 have hbe:=(show l.bulk=bulkO l.out+bulkN l.seen from rfl)
 have hbo:=(show bulkO l.out=l.out.length+preO l.out l.out.length from rfl)
 obtain ⟨i0,hi,hz0,hz1,hz2⟩:=info_parts infoSeen
 have hbn:=(show bulkN l.seen=l.seen.length+preN l.seen l.seen.length from rfl)
 have hokS:∀ s ∈ l.out,SnOk s:=fun s hs=>by
  obtain ⟨a,cap,_,_,hc⟩:=h3
  obtain ⟨i,hi⟩:=List.getElem?_of_mem hs
  obtain ⟨_,_,_,_,_,_,_,_,r⟩:=hc i s hi
  exact r
 obtain ⟨W0,hW0⟩:∃ W0,W0=(w.alloc (.cells (l.row (.slice oa l.out.length oc) (.slice sa l.seen.length sc)) 49)).alloc (.cells #[.int .i64 0,.int .i64 0,.slice none 0 0,.slice none 0 0] 49):=⟨_,rfl⟩
 have B0:Below w.heap.size w W0:=by rw [hW0]; exact ((Below.refl _ w).alloc (Nat.le_refl _) _).alloc (by simp) _
 have O0:W0.heap[w.heap.size]? = some (.cells (l.row (.slice oa l.out.length oc) (.slice sa l.seen.length sc)) 49):=by
  rw [hW0,Below.heap_alloc _ _ _ (by simp)]; exact (MapKept.heap_alloc w _).1
 have O1:W0.heap[w.heap.size+1]? = some (.cells (Lk.row ⟨0,0,[],[]⟩ (.slice none 0 0) (.slice none 0 0)) 49):=by
  have:=(MapKept.heap_alloc (w.alloc (.cells (l.row (.slice oa l.out.length oc) (.slice sa l.seen.length sc)) 49)) (.cells #[.int .i64 0,.int .i64 0,.slice none 0 0,.slice none 0 0] 49)).1
  rw [hW0]
  simpa using this
 have hs0:w.heap.size+2=W0.heap.size:=by rw [hW0]; simp
 have bD:Below W0.heap.size W0 W0.drew:=(Below.refl _ _).drew
 have hsD:W0.drew.heap.size=W0.heap.size:=rfl
 have E1:(W0.drew.alloc (.cells #[] 93)).ownsRow W0.heap.size 93 3 (.slice (some ⟨W0.heap.size,0,none⟩) 0 0) 0 []:=made_empty W0.drew W0.heap.size 3 93 (Nat.le_refl _)
 have H0:=(show Hid (_∧_∧_∧_∧_∧_∧_) from ⟨B0,O0,O1,E1,h3,hokS,hW0⟩)
 have HF:=(show Hid (_∧_) from ⟨hfit,h4⟩)
 clear B0 O0 O1 hW0 h E1 h3 hokS h4 hfit bD
 go_enter Tryz.func37,Tryz.ntmps37
 go_wp2_with fail
 rw [← (show W0=_ from H0.out.2.2.2.2.2.2)]
 refine wp_region_held_drew (S:=fun w'=>w'.heap[w.heap.size]? = some (.cells (l.row (.slice oa l.out.length oc) (.slice sa l.seen.length sc)) 49)) (by kernel_rfl) H0.out.2.1 (fun hS => ?_)
 refine wpAnyH_take (i:=0) (v:=.pointer (some ⟨w.heap.size,0,none⟩)) rfl (by kernel_rfl) (by kernel_rfl) (by kernel_rfl) (fun _ _ _ h=>h) (Or.inl ⟨by rfl,?_⟩) hS ?_
 ·intro wq hSw
  obtain ⟨q0,q1,q2,q3⟩:=lbox hSw
  go_simp
 simp only [Act.put,ls]
 refine wpAnyH_take (i:=1) (v:=.int .i64 l.id) rfl (by kernel_rfl) (by kernel_rfl) (by kernel_rfl) (fun _ _ _ h=>h) (Or.inl ⟨by rfl,?_⟩) hS ?_
 ·intro wq hSw
  obtain ⟨q0,q1,q2,q3⟩:=lbox hSw
  go_simp
 simp only [Act.put,ls]
 refine wpAnyH_take (i:=2) (v:=.pointer (some ⟨w.heap.size,1,none⟩)) rfl (by kernel_rfl) (by kernel_rfl) (by kernel_rfl) (fun _ _ _ h=>h) (Or.inl ⟨by rfl,?_⟩) hS ?_
 ·intro wq hSw
  obtain ⟨q0,q1,q2,q3⟩:=lbox hSw
  go_simp
 simp only [Act.put,ls]
 refine wpAnyH_take (i:=3) (v:=.int .i64 l.next) rfl (by kernel_rfl) (by kernel_rfl) (by kernel_rfl) (fun _ _ _ h=>h) (Or.inl ⟨by rfl,?_⟩) hS ?_
 ·intro wq hSw
  obtain ⟨q0,q1,q2,q3⟩:=lbox hSw
  go_simp
 simp only [Act.put,ls]
 refine wpAnyH_take (i:=5) (v:=.pointer (some ⟨w.heap.size,2,none⟩)) rfl (by kernel_rfl) (by kernel_rfl) (by kernel_rfl) (fun _ _ _ h=>h) (Or.inl ⟨by rfl,?_⟩) hS ?_
 ·intro wq hSw
  obtain ⟨q0,q1,q2,q3⟩:=lbox hSw
  go_simp
 simp only [Act.put,ls]
 refine wpAnyH_take (i:=6) (v:=.slice oa l.out.length oc) rfl (by kernel_rfl) (by kernel_rfl) (by kernel_rfl) (fun _ _ _ h=>h) (Or.inl ⟨by rfl,?_⟩) hS ?_
 ·intro wq hSw
  obtain ⟨q0,q1,q2,q3⟩:=lbox hSw
  go_simp
 simp only [Act.put,ls]
 have HZ:Hid (∀ wx,Below W0.heap.size W0 wx→wx.heap[w.heap.size]? = some (.cells (l.row (.slice oa l.out.length oc) (.slice sa l.seen.length sc)) 49)):=fun wx hb=>(hb.block _ (lh H0.out.2.1)).trans H0.out.2.1
 refine region_res [⟨4,some 9,[],[]⟩,⟨7,some 12,[4],[4]⟩,⟨8,some 13,[7],[7]⟩,⟨9,some 3,[],[]⟩,⟨10,none,[9,8],[9,8]⟩] (LcR l W0.heap.size) (fun wx=>Below W0.heap.size W0 wx) W0.heap.size (fun _=>undef) (fun _ _=>False) 42 rfl (by kernel_rfl) (fun _ h=>h.size) (Below.refl W0.heap.size W0).drew (fun _ _ h=>h.elim) (fun _ _ _ h=>h.elim) ?_ LcR.stay ?_ ?_
 ·exact ⟨fun h=>absurd h (by decide),fun h=>absurd h (by decide),fun h=>absurd h (by decide),fun h=>absurd h (by decide),fun h=>absurd h (by decide),trivial⟩
 ·refine ⟨?_,?_,?_,?_,?_,trivial⟩
  ·refine .inr ⟨_,rfl,fun val X a wx K hFr hds hT hN hdom hdis hK => ?_⟩
   obtain ⟨tm,df⟩:=a
   obtain rfl:df=[]:=hds
   have bw:Below w.heap.size w wx:=H0.out.1.trans (Below.mono hFr H0.out.1.size)
   have hlo:=hFr.size
   have b1:Below wx.heap.size wx (wx.alloc (.cells #[] 93)):=(Below.refl _ wx).alloc (Nat.le_refl _) _
   have hk:=hK (.slice (some ⟨wx.heap.size,0,none⟩) 0 0) (fun b=>b=wx.heap.size) (wx.alloc (.cells #[] 93)) (hFr.alloc hlo _) (HZ.out _ (hFr.alloc hlo _)) b1.size (fun b j hx _=>b1.block b (hdom j b hx).2) (fun b hb => .inr ⟨by omega,by rw [hb]; simp⟩) ⟨wx.heap.size,rfl,(MapKept.heap_alloc wx _).1,rfl⟩
   clear hK hN hT hdom hdis
   go_simp
   exact hk
  ·refine .inr ⟨_,rfl,fun val X a wx K hFr hds hT hN hdom hdis hK => ?_⟩
   obtain ⟨tm,df⟩:=a
   obtain rfl:df=[]:=hds
   have h4:=hN ⟨4,some 9,[],[]⟩ (by simp) (by simp)
   have bw:Below w.heap.size w wx:=H0.out.1.trans (Below.mono hFr H0.out.1.size)
   have hlo:=hFr.size
   obtain ⟨g,eg,hg,hgY⟩:=h4.2
   have hg0:=(hdom _ g hgY).1
   refine step_append_sents rfl (.tmp 9) (.tmp 11) rfl W0.heap.size (.slice (some ⟨g,0,none⟩) 0 0) 0 [] ((h4.1 9 undef rfl).trans eg) ⟨rfl,.inr ⟨g,0,#[],rfl,hg0,hg,Nat.le_refl _,Nat.zero_le _,rfl,rfl⟩⟩ (.slice oa l.out.length oc) l.out S ((hT 11 undef (by decide)).trans rfl) (H0.out.2.2.2.2.1.below bw) (by omega) hlo ?_
   intro v' w' hown hgr hat
   rw [Nat.zero_add,List.nil_append] at hown
   obtain ⟨a5,c5,rfl⟩:=own_form hown
   have hb':Below W0.heap.size W0 w':=Below.grown hFr hgr (hB:=hlo) (hr:=fun k hk=>by simp [Value.ownBlock] at hk; omega)
   refine hK _ (fun b=>(Value.slice a5 l.out.length c5).ownBlock=some b) w' hb' (HZ.out _ hb') hgr.size (fun b j hx hj=>hgr.block b (hdom j b hx).2 (fun e=>hj (by simp [Value.ownBlock] at e; subst e; rw [hdis j _ _ hx hgY]; simp))) (fun b hb => ?_) ⟨a5,c5,rfl,hown,fun b hb=>hb⟩
   have hlt:=own_lt hown b hb
   rcases hat with hat | hat
   ·rw [hat] at hb; simp [Value.ownBlock] at hb; exact .inl ⟨4,by simp,hb ▸ hgY⟩
   ·rw [hat] at hb; simp at hb; exact .inr ⟨by omega,hlt⟩
  ·refine .inr ⟨_,rfl,fun val X a wx K hFr hds hT hN hdom hdis hK => ?_⟩
   obtain ⟨tm,df⟩:=a
   obtain rfl:df=[]:=hds
   have h7:=hN ⟨7,some 12,[4],[4]⟩ (by simp) (by simp)
   have bw:Below w.heap.size w wx:=H0.out.1.trans (Below.mono hFr H0.out.1.size)
   have hlo:=hFr.size
   obtain ⟨a5,c5,e7,o7,hY7⟩:=h7.2
   have hk:=hK (.agg #[.int .i64 l.id,.int .i64 l.next,.slice a5 l.out.length c5,.slice none 0 0]) (X 7) wx hFr (HZ.out _ hFr) (Nat.le_refl _) (fun _ _ _ _=>rfl) (fun b hb => .inl ⟨7,by simp,hb⟩) ⟨a5,c5,rfl,o7,hY7⟩
   exact step_yields rfl (ex_buildLk _ _ (.tmp 6) (.tmp 8) (.tmp 12) l.id l.next a5 l.out.length c5 wx rfl ((hT 6 undef (by decide)).trans rfl) ((hT 8 undef (by decide)).trans rfl) ((h7.1 12 undef rfl).trans e7)) hk
  ·refine .inr ⟨_,rfl,fun val X a wx K hFr hds hT hN hdom hdis hK => ?_⟩
   obtain ⟨tm,df⟩:=a
   obtain rfl:df=[]:=hds
   have bw:Below w.heap.size w wx:=H0.out.1.trans (Below.mono hFr H0.out.1.size)
   have hlo:=hFr.size
   have b1:Below wx.heap.size wx (wx.alloc (.cells #[.int .i64 0,.int .i64 0,.slice none 0 0,.slice none 0 0] 49)):=(Below.refl _ wx).alloc (Nat.le_refl _) _
   have hk:=hK (.pointer (some ⟨wx.heap.size,0,none⟩)) (fun b=>b=wx.heap.size) (wx.alloc (.cells #[.int .i64 0,.int .i64 0,.slice none 0 0,.slice none 0 0] 49)) (hFr.alloc hlo _) (HZ.out _ (hFr.alloc hlo _)) b1.size (fun b j hx _=>b1.block b (hdom j b hx).2) (fun b hb => .inr ⟨by omega,by rw [hb]; simp⟩) ⟨wx.heap.size,rfl,(MapKept.heap_alloc wx _).1,rfl⟩
   clear hK hN hT hdom hdis
   go_simp
   exact hk
  ·refine .inr ⟨_,rfl,fun val X a wx K hFr hds hT hN hdom hdis hK => ?_⟩
   obtain ⟨tm,df⟩:=a
   obtain rfl:df=[]:=hds
   have h9:=hN ⟨9,some 3,[],[]⟩ (by simp) (by simp)
   have h8:=hN ⟨8,some 13,[7],[7]⟩ (by simp) (by simp)
   have bw:Below w.heap.size w wx:=H0.out.1.trans (Below.mono hFr H0.out.1.size)
   have hlo:=hFr.size
   obtain ⟨g,e9,hg,hgY⟩:=h9.2
   obtain ⟨a5,c5,e8,o8,hY8⟩:=h8.2
   have hg0:=(hdom _ g hgY).1
   have hgl:=lh hg
   obtain ⟨u0,u1,u2,u3⟩:=lbox hg
   have f0:=ub hg 0
   have f1:=ub hg 1
   have f2:=ub hg 2
   have f3:=ub hg 3
   obtain ⟨W1,hW1⟩:∃ W1,W1=((((wx.setCell ⟨g,0,none⟩ (.int .i64 l.id)).setCell ⟨g,1,none⟩ (.int .i64 l.next)).setCell ⟨g,2,none⟩ (.slice a5 l.out.length c5)).setCell ⟨g,3,none⟩ (.slice none 0 0)):=⟨_,rfl⟩
   have eW:∀ b,b≠g→W1.heap[b]? = wx.heap[b]? := fun b hb=>by
    rw [hW1]
    simp only [Below.heap_setCell _ _ _ b (show b≠(⟨g,_,none⟩:Addr).block from hb)]
   have OB:W1.heap[g]? = some (.cells (Lk.row ⟨l.id,l.next,l.out,[]⟩ (.slice a5 l.out.length c5) (.slice none 0 0)) 49):=by
    rw [hW1,block_setCell (block_setCell (block_setCell (block_setCell hg _) _) _) _]
    rfl
   have sW:W1.heap.size=wx.heap.size:=by rw [hW1]; simp
   have BW:Below W0.heap.size W0 W1:=by
    rw [hW1]
    iterate 4 refine Below.setCell ?_ (by simp; omega) _
    exact hFr
   have hng:∀ b,(Value.slice a5 l.out.length c5).ownBlock=some b→b≠g:=fun b hb e=>by subst e; exact absurd (hdis _ _ _ (hY8 _ hb) hgY) (by decide)
   have hk:=hK undef (fun b=>X 8 b∨X 9 b) W1 BW (HZ.out _ BW) (by omega) (fun b j hx hj=>eW b (fun e=>hj (by subst e; rw [hdis j _ _ hx hgY]; simp))) (fun b hb => .inl (hb.elim (fun h=>⟨8,by simp,h⟩) (fun h=>⟨9,by simp,h⟩))) ⟨g,a5,c5,by rw [← e9]; rfl,OB,.inr hgY,own_moved o8 (fun b hb=>eW b (hng b hb)),fun b hb => .inl (hY8 b hb)⟩
   rw [hW1] at hk
   have r3:tm.getD 3 undef = .pointer (some ⟨g,0,none⟩):=(h9.1 3 undef rfl).trans e9
   have r13:tm.getD 13 undef = .agg #[.int .i64 l.id,.int .i64 l.next,.slice a5 l.out.length c5,.slice none 0 0]:=(h8.1 13 undef rfl).trans e8
   clear hK hN hT hdom hdis eW OB sW BW o8 h9 h8 hW1 hng hY8
   go_simp
   exact hk
 ·intro val X W7 BW hdom hdis hres
  obtain ⟨ob,a5,c5,evs,O7,hgY,own7,hO7⟩:=hres ⟨10,none,[9,8],[9,8]⟩ (by simp) (by simp)
  have e9:val 9 = .pointer (some ⟨ob,0,none⟩):=by simpa using evs
  have hg0:=(hdom 10 ob hgY).1
  have hobw:w.heap.size+1<ob:=by omega
  have hne:¬ w.heap.size=ob:=by omega
  have B7:Below w.heap.size w W7:=H0.out.1.trans (Below.mono BW H0.out.1.size)
  have H7:=(show Hid (_∧_∧_∧_∧_) from ⟨O7,HZ.out _ BW,(⟨own_mono own7 (by omega),H0.out.2.2.2.2.2.1⟩:SnOwn W7 w.heap.size (.slice a5 l.out.length c5) l.out),B7,(BW.block _ (lh H0.out.2.2.1)).trans H0.out.2.2.1⟩)
  simp only [fillT,if_true,e9,List.setIfInBounds_toArray,List.set_cons_zero,List.set_cons_succ]
  clear O7 own7 hO7 BW hdom hdis hres hgY evs e9 B7 hS hs0
  go_wp2
  go_loopw [4] (fun i wr=>∃ (k:Nat) (qa:Option Addr) (qc:Nat) (rs:List (Se×Value)),k≤l.seen.length∧i = .int .i64 k∧rs.length=k∧rs.map Prod.fst=l.seen.take k∧SeOwn wr w.heap.size (.slice qa k qc) rs∧SnOwn wr w.heap.size (.slice a5 l.out.length c5) l.out∧wr.heap[w.heap.size]? = some (.cells (l.row (.slice oa l.out.length oc) (.slice sa l.seen.length sc)) 49)∧wr.heap[ob]? = some (.cells (Lk.row ⟨l.id,l.next,l.out,[]⟩ (.slice a5 l.out.length c5) (.slice qa k qc)) 49)∧wr.heap[w.heap.size+1]? = some (.cells (Lk.row ⟨0,0,[],[]⟩ (.slice none 0 0) (.slice none 0 0)) 49)∧Below w.heap.size w wr) (fun i _=>l.seen.length - (intOf i).toNat)
  case atStart=>exact ⟨0,none,0,[],Nat.zero_le _,rfl,rfl,rfl,⟨⟨rfl,.inl ⟨rfl,rfl⟩⟩,(fun r hr=>by cases hr),by simp⟩,H7.out.2.2.1,H7.out.2.1,H7.out.1,H7.out.2.2.2.2,H7.out.2.2.2.1⟩
  case round =>
   clear H7
   obtain ⟨k,qa,qc,rs,hk,rfl,hrl,hrm,hSe,hSn,hL,hO,hR1,hbw⟩:=hrel
   have hsz:=hbw.size
   obtain ⟨q0,q1,q2,q3⟩:=lbox hL
   by_cases hkl:k<l.seen.length
   ·have he:=List.getElem?_eq_getElem hkl
    have hbk:=bulkN_at he
    have htk:l.seen.take (k+1)=l.seen.take k ++ [l.seen[k]]:=(List.take_append_getElem hkl).symm
    generalize l.seen[k]=x at *
    have hxb:=(show x.bulk=x.ids.length from rfl)
    obtain ⟨b,off,kv,hoa,hSb,hlt2,c0,c1,r0,hkk⟩:=(by obtain ⟨a',cap',hv',_,hc'⟩:=HF.out.2; cases hv'; exact hc' k x he:∃ b off kv,sa=some ⟨b,off,none⟩∧S b∧b<w.heap.size∧w.cell? ⟨b,off+k * 2,none⟩=some (.int .i64 x.low)∧w.cell? ⟨b,off+k * 2+1,none⟩=some kv∧inI64 x.low∧IntsAt w S kv x.ids)
    subst hoa
    obtain ⟨ka,kc,rfl⟩:=hkk.form
    have hlt':((k:Nat):Int)<((l.seen.length:Nat):Int):=by omega
    have hSof:∀ W:World,Below w.heap.size w W→W.heap[w.heap.size]? = some (.cells (l.row (.slice oa l.out.length oc) (.slice (some ⟨b,off,none⟩) l.seen.length sc)) 49)→(W.heap[w.heap.size]? = some (.cells (l.row (.slice oa l.out.length oc) (.slice (some ⟨b,off,none⟩) l.seen.length sc)) 49)∧W.cell? ⟨b,off+k * 2,none⟩=some (.int .i64 x.low)∧W.cell? ⟨b,off+k * 2+1,none⟩=some (.slice ka x.ids.length kc)):=fun W hW hWL=>⟨hWL,(hW.cell (p:=⟨b,off+k * 2,none⟩) hlt2).trans c0,(hW.cell (p:=⟨b,off+k * 2+1,none⟩) hlt2).trans c1⟩
    have HX:=(show Hid (_∧_) from ⟨(⟨r0,fun z hz=>by obtain ⟨a,cap,_,_,hc⟩:=hkk; obtain ⟨i,hi⟩:=List.getElem?_of_mem hz; obtain ⟨_,_,_,_,_,_,r⟩:=hc i z hi; exact r⟩:SeOk x),htk⟩)
    have HR:=(show Hid (_∧_∧_∧_∧_∧_∧_∧_) from ⟨hO,hbw,hL,hSe,hSn,hrl,hrm,hR1⟩)
    have HS:=(show Hid (_∧_) from ⟨hSof,hkk⟩)
    clear hSof hkk hO hbw hL hSe hSn hrl hrm hR1 c0 c1 htk he r0 hSb
    go_wp2_with fail
    clear q0 q1 q2 q3
    have hSof:=HS.out.1
    have BA:Below wr.heap.size wr (wr.drew.alloc (.cells #[] 3)):=((Below.refl _ wr).drew).alloc (by simp) _
    have E1:(wr.drew.alloc (.cells #[] 3)).ownsRow wr.heap.size 3 1 (.slice (some ⟨wr.heap.size,0,none⟩) 0 0) 0 []:=made_empty wr.drew wr.heap.size 1 3 (Nat.le_refl _)
    have KA:IntsAt (wr.drew.alloc (.cells #[] 3)) S (.slice ka x.ids.length kc) x.ids:=HS.out.2.below (HR.out.2.1.trans (BA.mono hsz))
    have OA:(wr.alloc (.cells #[] 3)).heap[ob]? = some (.cells (Lk.row ⟨l.id,l.next,l.out,[]⟩ (.slice a5 l.out.length c5) (.slice qa k qc)) 49):=(BA.block _ (lh HR.out.1)).trans HR.out.1
    have SA:=hSof _ (HR.out.2.1.trans (BA.mono hsz)) ((BA.block _ (lh HR.out.2.2.1)).trans HR.out.2.2.1)
    refine wp_region_held_drew (S:=fun w'=>w'.heap[w.heap.size]? = some (.cells (l.row (.slice oa l.out.length oc) (.slice (some ⟨b,off,none⟩) l.seen.length sc)) 49)∧w'.cell? ⟨b,off+k * 2,none⟩=some (.int .i64 x.low)∧w'.cell? ⟨b,off+k * 2+1,none⟩=some (.slice ka x.ids.length kc)) (by kernel_rfl) (hSof _ HR.out.2.1.drew HR.out.2.2.1) (fun hS => ?_)
    refine wpAnyH_take (i:=0) (v:=.pointer (some ⟨ob,3,none⟩)) rfl (by kernel_rfl) (by kernel_rfl) (by kernel_rfl) (fun _ _ _ h=>h) (Or.inl ⟨by rfl,?_⟩) hS ?_
    ·intro wq hSw
     obtain ⟨hq,x0,x1⟩:=hSw
     obtain ⟨q0,q1,q2,q3⟩:=lbox hq
     go_simp
    simp only [Act.put,ls]
    refine wpAnyH_take (i:=2) (v:=.pointer (some ⟨w.heap.size,3,none⟩)) rfl (by kernel_rfl) (by kernel_rfl) (by kernel_rfl) (fun _ _ _ h=>h) (Or.inl ⟨by rfl,?_⟩) hS ?_
    ·intro wq hSw
     obtain ⟨hq,x0,x1⟩:=hSw
     obtain ⟨q0,q1,q2,q3⟩:=lbox hq
     go_simp
    simp only [Act.put,ls]
    refine wpAnyH_take (i:=3) (v:=.slice (some ⟨b,off,none⟩) l.seen.length sc) rfl (by kernel_rfl) (by kernel_rfl) (by kernel_rfl) (fun _ _ _ h=>h) (Or.inl ⟨by rfl,?_⟩) hS ?_
    ·intro wq hSw
     obtain ⟨hq,x0,x1⟩:=hSw
     obtain ⟨q0,q1,q2,q3⟩:=lbox hq
     go_simp
    simp only [Act.put,ls]
    refine wpAnyH_take (i:=4) (v:=.int .i64 k) rfl (by kernel_rfl) (by kernel_rfl) (by kernel_rfl) (fun _ _ _ h=>h) (Or.inl ⟨by rfl,?_⟩) hS ?_
    ·intro wq hSw
     obtain ⟨hq,x0,x1⟩:=hSw
     obtain ⟨q0,q1,q2,q3⟩:=lbox hq
     go_simp
    simp only [Act.put,ls]
    refine wpAnyH_take (i:=5) (v:=.pointer (some ⟨b,off+k * 2,none⟩)) rfl (by kernel_rfl) (by kernel_rfl) (by kernel_rfl) (fun _ _ _ h=>h) (Or.inl ⟨by rfl,?_⟩) hS ?_
    ·intro wq hSw
     obtain ⟨hq,x0,x1⟩:=hSw
     obtain ⟨q0,q1,q2,q3⟩:=lbox hq
     go_simp
    simp only [Act.put,ls]
    refine wpAnyH_take (i:=6) (v:=.pointer (some ⟨b,off+k * 2,none⟩)) rfl (by kernel_rfl) (by kernel_rfl) (by kernel_rfl) (fun _ _ _ h=>h) (Or.inl ⟨by rfl,?_⟩) hS ?_
    ·intro wq hSw
     obtain ⟨hq,x0,x1⟩:=hSw
     obtain ⟨q0,q1,q2,q3⟩:=lbox hq
     go_simp
    simp only [Act.put,ls]
    refine wpAnyH_take (i:=7) (v:=.int .i64 x.low) rfl (by kernel_rfl) (by kernel_rfl) (by kernel_rfl) (fun _ _ _ h=>h) (Or.inl ⟨by rfl,?_⟩) hS ?_
    ·intro wq hSw
     obtain ⟨hq,x0,x1⟩:=hSw
     obtain ⟨q0,q1,q2,q3⟩:=lbox hq
     go_simp
    simp only [Act.put,ls]
    refine wpAnyH_take (i:=9) (v:=.pointer (some ⟨w.heap.size,3,none⟩)) rfl (by kernel_rfl) (by kernel_rfl) (by kernel_rfl) (fun _ _ _ h=>h) (Or.inl ⟨by rfl,?_⟩) hS ?_
    ·intro wq hSw
     obtain ⟨hq,x0,x1⟩:=hSw
     obtain ⟨q0,q1,q2,q3⟩:=lbox hq
     go_simp
    simp only [Act.put,ls]
    refine wpAnyH_take (i:=10) (v:=.slice (some ⟨b,off,none⟩) l.seen.length sc) rfl (by kernel_rfl) (by kernel_rfl) (by kernel_rfl) (fun _ _ _ h=>h) (Or.inl ⟨by rfl,?_⟩) hS ?_
    ·intro wq hSw
     obtain ⟨hq,x0,x1⟩:=hSw
     obtain ⟨q0,q1,q2,q3⟩:=lbox hq
     go_simp
    simp only [Act.put,ls]
    refine wpAnyH_take (i:=11) (v:=.int .i64 k) rfl (by kernel_rfl) (by kernel_rfl) (by kernel_rfl) (fun _ _ _ h=>h) (Or.inl ⟨by rfl,?_⟩) hS ?_
    ·intro wq hSw
     obtain ⟨hq,x0,x1⟩:=hSw
     obtain ⟨q0,q1,q2,q3⟩:=lbox hq
     go_simp
    simp only [Act.put,ls]
    refine wpAnyH_take (i:=12) (v:=.pointer (some ⟨b,off+k * 2,none⟩)) rfl (by kernel_rfl) (by kernel_rfl) (by kernel_rfl) (fun _ _ _ h=>h) (Or.inl ⟨by rfl,?_⟩) hS ?_
    ·intro wq hSw
     obtain ⟨hq,x0,x1⟩:=hSw
     obtain ⟨q0,q1,q2,q3⟩:=lbox hq
     go_simp
    simp only [Act.put,ls]
    refine wpAnyH_take (i:=13) (v:=.pointer (some ⟨b,off+k * 2+1,none⟩)) rfl (by kernel_rfl) (by kernel_rfl) (by kernel_rfl) (fun _ _ _ h=>h) (Or.inl ⟨by rfl,?_⟩) hS ?_
    ·intro wq hSw
     obtain ⟨hq,x0,x1⟩:=hSw
     obtain ⟨q0,q1,q2,q3⟩:=lbox hq
     go_simp
    simp only [Act.put,ls]
    refine wpAnyH_take (i:=14) (v:=.slice ka x.ids.length kc) rfl (by kernel_rfl) (by kernel_rfl) (by kernel_rfl) (fun _ _ _ h=>h) (Or.inl ⟨by rfl,?_⟩) hS ?_
    ·intro wq hSw
     obtain ⟨hq,x0,x1⟩:=hSw
     obtain ⟨q0,q1,q2,q3⟩:=lbox hq
     go_simp
    simp only [Act.put,ls]
    refine wpAnyH_ready (rs:=[1,8]) (by kernel_rfl) (by simp) ?_
    refine AllReadyH.cons rfl (fun K hK => ?_) (AllReadyH.cons rfl (fun K hK => ?_) AllReadyH.nil)
    ·obtain ⟨y0,y1,y2,y3⟩:=lbox HR.out.1
     go_simp
     refine hK.out _ _ hS (fun _ => ?_)
     clear hK K y0 y1 y2 y3
     refine wpAnyH_ready (rs:=[8]) (by kernel_rfl) (by simp) ?_
     refine AllReadyH.cons rfl (fun K hK => ?_) AllReadyH.nil
     go_simp
     refine hK.out _ _ SA (fun _ => ?_)
     clear hK K
     refine wpAnyH_ready (rs:=[15]) (by kernel_rfl) (by simp) ?_
     refine AllReadyH.cons rfl (fun K hK => ?_) AllReadyH.nil
     refine step_append_intsR rfl (.tmp 29) (.tmp 35) rfl wr.heap.size (.slice (some ⟨wr.heap.size,0,none⟩) 0 0) 0 [] (by simp [Act.eval]) (by exact E1) (.slice ka x.ids.length kc) x.ids S (by simp [Act.eval]) (by exact KA) (by omega) (by simp) ?_
     intro v6 w5 hown6 hgrow6 hat6
     rw [Nat.zero_add,List.nil_append] at hown6
     obtain ⟨a6,c6,rfl⟩:=own_form hown6
     have B5:Below wr.heap.size wr w5:=Below.grown BA hgrow6 (hB:=by simp) (hr:=fun b hb=>by simp [Value.ownBlock] at hb; omega)
     have O5:=(B5.block _ (lh HR.out.1)).trans HR.out.1
     have S5:=hSof _ (HR.out.2.1.trans (B5.mono hsz)) ((B5.block _ (lh HR.out.2.2.1)).trans HR.out.2.2.1)
     have B6:=B5.alloc B5.size (.cells #[.int .i64 x.low,.slice a6 x.ids.length c6] 147)
     have O6:=(B6.block _ (lh HR.out.1)).trans HR.out.1
     have S6:=hSof _ (HR.out.2.1.trans (B6.mono hsz)) ((B6.block _ (lh HR.out.2.2.1)).trans HR.out.2.2.1)
     refine hK.out _ _ S5 (fun _ => ?_)
     clear hK K
     simp only [Act.put,ls]
     refine wpAnyH_take (i:=16) (v:=.agg #[.int .i64 x.low,.slice a6 x.ids.length c6]) rfl (by kernel_rfl) (by kernel_rfl) (by kernel_rfl) (fun _ _ _ h=>h) (Or.inl ⟨by rfl,?_⟩) S5 ?_
     ·intro wq hSw
      go_simp
     simp only [Act.put,ls]
     refine wpAnyH_ready (rs:=[17]) (by kernel_rfl) (by simp) ?_
     refine AllReadyH.cons rfl (fun K hK => ?_) AllReadyH.nil
     go_simp
     refine hK.out _ _ S6 (fun _ => ?_)
     clear hK K
     refine wpAnyH_ready (rs:=[18]) (by kernel_rfl) (by simp) ?_
     refine AllReadyH.cons rfl (fun K hK => ?_) AllReadyH.nil
     have R6:=own_moved HR.out.2.2.2.1.cells (fun g hg=>B6.block g (own_lt HR.out.2.2.2.1.cells g hg))
     rw [HR.out.2.2.2.2.2.1] at R6
     refine step_append_row rfl (.tmp 22) (.tmp 38) 47 rfl w.heap.size 147 i0 (.agg #[.int .i64 0,.slice none 0 0]) 2 32 Tryz.underlying47 hi hz0 hz1 hz2 rfl (by decide) (.slice qa k qc) k _ (by simp [Act.eval]) (by exact R6) ⟨w5.heap.size,0,none⟩ 1 1 [.int .i64 x.low,.slice a6 x.ids.length c6] (by simp [Act.eval]) rfl (cell_twoS _ _ _ _) (by simp [Value.oneCell']) (by unfold maxLen; omega) (by omega) (by have:=B6.size; omega) ?_
     intro v8 w8 hown8 hgrow8 hat8
     have hF:=l08Copy_round HR.out.2.2.2.1 HR.out.2.2.2.2.1 HR.out.1 HR.out.2.2.1 HR.out.2.1 HR.out.2.2.2.2.2.1 BA B5 hown6 hown8 hgrow8 HX.out.1 hsz hobw HR.out.2.2.2.2.2.2.2
     obtain ⟨a8,c8,rfl⟩:=own_form hown8
     obtain ⟨O8,L8,B8,F1,F2,F3,F4,F5,F6⟩:=hF
     have S8:=hSof _ B8 L8
     have S9:=hSof _ F5 F4
     refine hK.out _ _ S8 (fun _ => ?_)
     clear hK K
     simp only [Act.put,ls]
     refine wpAnyH_take (i:=19) (v:=.pointer (some ⟨ob,3,none⟩)) rfl (by kernel_rfl) (by kernel_rfl) (by kernel_rfl) (fun _ _ _ h=>h) (Or.inl ⟨by rfl,?_⟩) S8 ?_
     ·intro wq hSw
      go_simp
     simp only [Act.put,ls]
     refine wpAnyH_ready (rs:=[20]) (by kernel_rfl) (by simp) ?_
     refine AllReadyH.cons rfl (fun K hK => ?_) AllReadyH.nil
     obtain ⟨y0,y1,y2,y3⟩:=lbox O8
     have f3:=ub O8 3
     go_simp
     refine hK.out _ _ S9 (fun _ => ?_)
     refine wpAnyH_done (by kernel_rfl) ?_ _
     have HZ:=(show Hid (_∧_∧_∧_∧_∧_∧_) from ⟨F1,F2,F3,F4,F5,True.intro,F6⟩)
     clear hK K y0 y1 y2 y3 f3 O8 L8 B8 F1 F2 F3 F4 F5 F6 S8 S9 S6 S5 O6 O5 OA SA B6 B5 BA R6 hown8 hgrow8 hat8 hown6 hgrow6 hat6 KA E1 hS
     go_wp2
     go_roundw
     case rel =>
      refine ⟨k+1,a8,c8,rs ++ [(x,.slice a6 x.ids.length c6)],by omega,by go_num,by rw [List.length_append,HR.out.2.2.2.2.2.1]; rfl,?_,HZ.out.1,HZ.out.2.1,HZ.out.2.2.2.1,HZ.out.2.2.1,HZ.out.2.2.2.2.2.2,HZ.out.2.2.2.2.1⟩
      rw [List.map_append,HR.out.2.2.2.2.2.2.1,HX.out.2]
      rfl
     case measure=>simp [intOf]; omega
    ·go_simp
     refine hK.out _ _ SA (fun _ => ?_)
     clear hK K
     refine wpAnyH_ready (rs:=[1,15]) (by kernel_rfl) (by simp) ?_
     refine AllReadyH.cons rfl (fun K hK => ?_) (AllReadyH.cons rfl (fun K hK => ?_) AllReadyH.nil)
     ·obtain ⟨y0,y1,y2,y3⟩:=lbox OA
      go_simp
      refine hK.out _ _ SA (fun _ => ?_)
      clear hK K y0 y1 y2 y3
      refine wpAnyH_ready (rs:=[15]) (by kernel_rfl) (by simp) ?_
      refine AllReadyH.cons rfl (fun K hK => ?_) AllReadyH.nil
      refine step_append_intsR rfl (.tmp 29) (.tmp 35) rfl wr.heap.size (.slice (some ⟨wr.heap.size,0,none⟩) 0 0) 0 [] (by simp [Act.eval]) (by exact E1) (.slice ka x.ids.length kc) x.ids S (by simp [Act.eval]) (by exact KA) (by omega) (by simp) ?_
      intro v6 w5 hown6 hgrow6 hat6
      rw [Nat.zero_add,List.nil_append] at hown6
      obtain ⟨a6,c6,rfl⟩:=own_form hown6
      have B5:Below wr.heap.size wr w5:=Below.grown BA hgrow6 (hB:=by simp) (hr:=fun b hb=>by simp [Value.ownBlock] at hb; omega)
      have O5:=(B5.block _ (lh HR.out.1)).trans HR.out.1
      have S5:=hSof _ (HR.out.2.1.trans (B5.mono hsz)) ((B5.block _ (lh HR.out.2.2.1)).trans HR.out.2.2.1)
      have B6:=B5.alloc B5.size (.cells #[.int .i64 x.low,.slice a6 x.ids.length c6] 147)
      have O6:=(B6.block _ (lh HR.out.1)).trans HR.out.1
      have S6:=hSof _ (HR.out.2.1.trans (B6.mono hsz)) ((B6.block _ (lh HR.out.2.2.1)).trans HR.out.2.2.1)
      refine hK.out _ _ S5 (fun _ => ?_)
      clear hK K
      simp only [Act.put,ls]
      refine wpAnyH_take (i:=16) (v:=.agg #[.int .i64 x.low,.slice a6 x.ids.length c6]) rfl (by kernel_rfl) (by kernel_rfl) (by kernel_rfl) (fun _ _ _ h=>h) (Or.inl ⟨by rfl,?_⟩) S5 ?_
      ·intro wq hSw
       go_simp
      simp only [Act.put,ls]
      refine wpAnyH_ready (rs:=[17]) (by kernel_rfl) (by simp) ?_
      refine AllReadyH.cons rfl (fun K hK => ?_) AllReadyH.nil
      go_simp
      refine hK.out _ _ S6 (fun _ => ?_)
      clear hK K
      refine wpAnyH_ready (rs:=[18]) (by kernel_rfl) (by simp) ?_
      refine AllReadyH.cons rfl (fun K hK => ?_) AllReadyH.nil
      have R6:=own_moved HR.out.2.2.2.1.cells (fun g hg=>B6.block g (own_lt HR.out.2.2.2.1.cells g hg))
      rw [HR.out.2.2.2.2.2.1] at R6
      refine step_append_row rfl (.tmp 22) (.tmp 38) 47 rfl w.heap.size 147 i0 (.agg #[.int .i64 0,.slice none 0 0]) 2 32 Tryz.underlying47 hi hz0 hz1 hz2 rfl (by decide) (.slice qa k qc) k _ (by simp [Act.eval]) (by exact R6) ⟨w5.heap.size,0,none⟩ 1 1 [.int .i64 x.low,.slice a6 x.ids.length c6] (by simp [Act.eval]) rfl (cell_twoS _ _ _ _) (by simp [Value.oneCell']) (by unfold maxLen; omega) (by omega) (by have:=B6.size; omega) ?_
      intro v8 w8 hown8 hgrow8 hat8
      have hF:=l08Copy_round HR.out.2.2.2.1 HR.out.2.2.2.2.1 HR.out.1 HR.out.2.2.1 HR.out.2.1 HR.out.2.2.2.2.2.1 BA B5 hown6 hown8 hgrow8 HX.out.1 hsz hobw HR.out.2.2.2.2.2.2.2
      obtain ⟨a8,c8,rfl⟩:=own_form hown8
      obtain ⟨O8,L8,B8,F1,F2,F3,F4,F5,F6⟩:=hF
      have S8:=hSof _ B8 L8
      have S9:=hSof _ F5 F4
      refine hK.out _ _ S8 (fun _ => ?_)
      clear hK K
      simp only [Act.put,ls]
      refine wpAnyH_take (i:=19) (v:=.pointer (some ⟨ob,3,none⟩)) rfl (by kernel_rfl) (by kernel_rfl) (by kernel_rfl) (fun _ _ _ h=>h) (Or.inl ⟨by rfl,?_⟩) S8 ?_
      ·intro wq hSw
       go_simp
      simp only [Act.put,ls]
      refine wpAnyH_ready (rs:=[20]) (by kernel_rfl) (by simp) ?_
      refine AllReadyH.cons rfl (fun K hK => ?_) AllReadyH.nil
      obtain ⟨y0,y1,y2,y3⟩:=lbox O8
      have f3:=ub O8 3
      go_simp
      refine hK.out _ _ S9 (fun _ => ?_)
      refine wpAnyH_done (by kernel_rfl) ?_ _
      have HZ:=(show Hid (_∧_∧_∧_∧_∧_∧_) from ⟨F1,F2,F3,F4,F5,True.intro,F6⟩)
      clear hK K y0 y1 y2 y3 f3 O8 L8 B8 F1 F2 F3 F4 F5 F6 S8 S9 S6 S5 O6 O5 OA SA B6 B5 BA R6 hown8 hgrow8 hat8 hown6 hgrow6 hat6 KA E1 hS
      go_wp2
      go_roundw
      case rel =>
       refine ⟨k+1,a8,c8,rs ++ [(x,.slice a6 x.ids.length c6)],by omega,by go_num,by rw [List.length_append,HR.out.2.2.2.2.2.1]; rfl,?_,HZ.out.1,HZ.out.2.1,HZ.out.2.2.2.1,HZ.out.2.2.1,HZ.out.2.2.2.2.2.2,HZ.out.2.2.2.2.1⟩
       rw [List.map_append,HR.out.2.2.2.2.2.2.1,HX.out.2]
       rfl
      case measure=>simp [intOf]; omega
     ·refine step_append_intsR rfl (.tmp 29) (.tmp 35) rfl wr.heap.size (.slice (some ⟨wr.heap.size,0,none⟩) 0 0) 0 [] (by simp [Act.eval]) (by exact E1) (.slice ka x.ids.length kc) x.ids S (by simp [Act.eval]) (by exact KA) (by omega) (by simp) ?_
      intro v6 w5 hown6 hgrow6 hat6
      rw [Nat.zero_add,List.nil_append] at hown6
      obtain ⟨a6,c6,rfl⟩:=own_form hown6
      have B5:Below wr.heap.size wr w5:=Below.grown BA hgrow6 (hB:=by simp) (hr:=fun b hb=>by simp [Value.ownBlock] at hb; omega)
      have O5:=(B5.block _ (lh HR.out.1)).trans HR.out.1
      have S5:=hSof _ (HR.out.2.1.trans (B5.mono hsz)) ((B5.block _ (lh HR.out.2.2.1)).trans HR.out.2.2.1)
      have B6:=B5.alloc B5.size (.cells #[.int .i64 x.low,.slice a6 x.ids.length c6] 147)
      have O6:=(B6.block _ (lh HR.out.1)).trans HR.out.1
      have S6:=hSof _ (HR.out.2.1.trans (B6.mono hsz)) ((B6.block _ (lh HR.out.2.2.1)).trans HR.out.2.2.1)
      refine hK.out _ _ S5 (fun _ => ?_)
      clear hK K
      simp only [Act.put,ls]
      refine wpAnyH_take (i:=16) (v:=.agg #[.int .i64 x.low,.slice a6 x.ids.length c6]) rfl (by kernel_rfl) (by kernel_rfl) (by kernel_rfl) (fun _ _ _ h=>h) (Or.inl ⟨by rfl,?_⟩) S5 ?_
      ·intro wq hSw
       go_simp
      simp only [Act.put,ls]
      refine wpAnyH_ready (rs:=[1,17]) (by kernel_rfl) (by simp) ?_
      refine AllReadyH.cons rfl (fun K hK => ?_) (AllReadyH.cons rfl (fun K hK => ?_) AllReadyH.nil)
      ·obtain ⟨y0,y1,y2,y3⟩:=lbox O5
       go_simp
       refine hK.out _ _ S5 (fun _ => ?_)
       clear hK K y0 y1 y2 y3
       refine wpAnyH_ready (rs:=[17]) (by kernel_rfl) (by simp) ?_
       refine AllReadyH.cons rfl (fun K hK => ?_) AllReadyH.nil
       go_simp
       refine hK.out _ _ S6 (fun _ => ?_)
       clear hK K
       refine wpAnyH_ready (rs:=[18]) (by kernel_rfl) (by simp) ?_
       refine AllReadyH.cons rfl (fun K hK => ?_) AllReadyH.nil
       have R6:=own_moved HR.out.2.2.2.1.cells (fun g hg=>B6.block g (own_lt HR.out.2.2.2.1.cells g hg))
       rw [HR.out.2.2.2.2.2.1] at R6
       refine step_append_row rfl (.tmp 22) (.tmp 38) 47 rfl w.heap.size 147 i0 (.agg #[.int .i64 0,.slice none 0 0]) 2 32 Tryz.underlying47 hi hz0 hz1 hz2 rfl (by decide) (.slice qa k qc) k _ (by simp [Act.eval]) (by exact R6) ⟨w5.heap.size,0,none⟩ 1 1 [.int .i64 x.low,.slice a6 x.ids.length c6] (by simp [Act.eval]) rfl (cell_twoS _ _ _ _) (by simp [Value.oneCell']) (by unfold maxLen; omega) (by omega) (by have:=B6.size; omega) ?_
       intro v8 w8 hown8 hgrow8 hat8
       have hF:=l08Copy_round HR.out.2.2.2.1 HR.out.2.2.2.2.1 HR.out.1 HR.out.2.2.1 HR.out.2.1 HR.out.2.2.2.2.2.1 BA B5 hown6 hown8 hgrow8 HX.out.1 hsz hobw HR.out.2.2.2.2.2.2.2
       obtain ⟨a8,c8,rfl⟩:=own_form hown8
       obtain ⟨O8,L8,B8,F1,F2,F3,F4,F5,F6⟩:=hF
       have S8:=hSof _ B8 L8
       have S9:=hSof _ F5 F4
       refine hK.out _ _ S8 (fun _ => ?_)
       clear hK K
       simp only [Act.put,ls]
       refine wpAnyH_take (i:=19) (v:=.pointer (some ⟨ob,3,none⟩)) rfl (by kernel_rfl) (by kernel_rfl) (by kernel_rfl) (fun _ _ _ h=>h) (Or.inl ⟨by rfl,?_⟩) S8 ?_
       ·intro wq hSw
        go_simp
       simp only [Act.put,ls]
       refine wpAnyH_ready (rs:=[20]) (by kernel_rfl) (by simp) ?_
       refine AllReadyH.cons rfl (fun K hK => ?_) AllReadyH.nil
       obtain ⟨y0,y1,y2,y3⟩:=lbox O8
       have f3:=ub O8 3
       go_simp
       refine hK.out _ _ S9 (fun _ => ?_)
       refine wpAnyH_done (by kernel_rfl) ?_ _
       have HZ:=(show Hid (_∧_∧_∧_∧_∧_∧_) from ⟨F1,F2,F3,F4,F5,True.intro,F6⟩)
       clear hK K y0 y1 y2 y3 f3 O8 L8 B8 F1 F2 F3 F4 F5 F6 S8 S9 S6 S5 O6 O5 OA SA B6 B5 BA R6 hown8 hgrow8 hat8 hown6 hgrow6 hat6 KA E1 hS
       go_wp2
       go_roundw
       case rel =>
        refine ⟨k+1,a8,c8,rs ++ [(x,.slice a6 x.ids.length c6)],by omega,by go_num,by rw [List.length_append,HR.out.2.2.2.2.2.1]; rfl,?_,HZ.out.1,HZ.out.2.1,HZ.out.2.2.2.1,HZ.out.2.2.1,HZ.out.2.2.2.2.2.2,HZ.out.2.2.2.2.1⟩
        rw [List.map_append,HR.out.2.2.2.2.2.2.1,HX.out.2]
        rfl
       case measure=>simp [intOf]; omega
      ·go_simp
       refine hK.out _ _ S6 (fun _ => ?_)
       clear hK K
       refine wpAnyH_ready (rs:=[1]) (by kernel_rfl) (by simp) ?_
       refine AllReadyH.cons rfl (fun K hK => ?_) AllReadyH.nil
       obtain ⟨y0,y1,y2,y3⟩:=lbox O6
       go_simp
       refine hK.out _ _ S6 (fun _ => ?_)
       clear hK K y0 y1 y2 y3
       refine wpAnyH_ready (rs:=[18]) (by kernel_rfl) (by simp) ?_
       refine AllReadyH.cons rfl (fun K hK => ?_) AllReadyH.nil
       have R6:=own_moved HR.out.2.2.2.1.cells (fun g hg=>B6.block g (own_lt HR.out.2.2.2.1.cells g hg))
       rw [HR.out.2.2.2.2.2.1] at R6
       refine step_append_row rfl (.tmp 22) (.tmp 38) 47 rfl w.heap.size 147 i0 (.agg #[.int .i64 0,.slice none 0 0]) 2 32 Tryz.underlying47 hi hz0 hz1 hz2 rfl (by decide) (.slice qa k qc) k _ (by simp [Act.eval]) (by exact R6) ⟨w5.heap.size,0,none⟩ 1 1 [.int .i64 x.low,.slice a6 x.ids.length c6] (by simp [Act.eval]) rfl (cell_twoS _ _ _ _) (by simp [Value.oneCell']) (by unfold maxLen; omega) (by omega) (by have:=B6.size; omega) ?_
       intro v8 w8 hown8 hgrow8 hat8
       have hF:=l08Copy_round HR.out.2.2.2.1 HR.out.2.2.2.2.1 HR.out.1 HR.out.2.2.1 HR.out.2.1 HR.out.2.2.2.2.2.1 BA B5 hown6 hown8 hgrow8 HX.out.1 hsz hobw HR.out.2.2.2.2.2.2.2
       obtain ⟨a8,c8,rfl⟩:=own_form hown8
       obtain ⟨O8,L8,B8,F1,F2,F3,F4,F5,F6⟩:=hF
       have S8:=hSof _ B8 L8
       have S9:=hSof _ F5 F4
       refine hK.out _ _ S8 (fun _ => ?_)
       clear hK K
       simp only [Act.put,ls]
       refine wpAnyH_take (i:=19) (v:=.pointer (some ⟨ob,3,none⟩)) rfl (by kernel_rfl) (by kernel_rfl) (by kernel_rfl) (fun _ _ _ h=>h) (Or.inl ⟨by rfl,?_⟩) S8 ?_
       ·intro wq hSw
        go_simp
       simp only [Act.put,ls]
       refine wpAnyH_ready (rs:=[20]) (by kernel_rfl) (by simp) ?_
       refine AllReadyH.cons rfl (fun K hK => ?_) AllReadyH.nil
       obtain ⟨y0,y1,y2,y3⟩:=lbox O8
       have f3:=ub O8 3
       go_simp
       refine hK.out _ _ S9 (fun _ => ?_)
       refine wpAnyH_done (by kernel_rfl) ?_ _
       have HZ:=(show Hid (_∧_∧_∧_∧_∧_∧_) from ⟨F1,F2,F3,F4,F5,True.intro,F6⟩)
       clear hK K y0 y1 y2 y3 f3 O8 L8 B8 F1 F2 F3 F4 F5 F6 S8 S9 S6 S5 O6 O5 OA SA B6 B5 BA R6 hown8 hgrow8 hat8 hown6 hgrow6 hat6 KA E1 hS
       go_wp2
       go_roundw
       case rel =>
        refine ⟨k+1,a8,c8,rs ++ [(x,.slice a6 x.ids.length c6)],by omega,by go_num,by rw [List.length_append,HR.out.2.2.2.2.2.1]; rfl,?_,HZ.out.1,HZ.out.2.1,HZ.out.2.2.2.1,HZ.out.2.2.1,HZ.out.2.2.2.2.2.2,HZ.out.2.2.2.2.1⟩
        rw [List.map_append,HR.out.2.2.2.2.2.2.1,HX.out.2]
        rfl
       case measure=>simp [intOf]; omega
   ·obtain rfl:k=l.seen.length:=by omega
    rw [List.take_length] at hrm
    obtain ⟨y0,y1,y2,y3⟩:=lbox hO
    obtain ⟨z0,z1,z2,z3⟩:=lbox hR1
    have f10:=ub hR1 0
    have f11:=ub hR1 1
    have f12:=ub hR1 2
    have f13:=ub hR1 3
    have HZ:=(show Hid (_∧_∧_∧_∧_∧_∧_) from ⟨hrm,hSe,hSn,hbw,hO,hrl,hR1⟩)
    clear hrm hSe hSn hbw hO hL hrl hR1
    go_wp2
    refine bodyPost_ret (v:=.agg (l.row (.slice a5 l.out.length c5) (.slice qa l.seen.length qc))) (by simp [results,Tryz.results37,go_sem,z0,z1,z2,z3]) rfl ⟨_,rfl,⟨.slice a5 l.out.length c5,.slice qa l.seen.length qc,rs,⟨rfl,HF.out.1,?_,?_,HZ.out.1⟩⟩,?_⟩
    ·refine HZ.out.2.2.1.moved (fun g hg => ?_)
     have hgn:¬ g=w.heap.size+1:=fun e=>by
      obtain ⟨_,cs,h2⟩:=own_type HZ.out.2.2.1.1 g hg
      rw [e,HZ.out.2.2.2.2.2.2] at h2
      simp at h2
     rw [Below.heap_setCell _ _ _ _ (by simpa using hgn),Below.heap_setCell _ _ _ _ (by simpa using hgn),Below.heap_setCell _ _ _ _ (by simpa using hgn),Below.heap_setCell _ _ _ _ (by simpa using hgn)]
    ·refine HZ.out.2.1.moved (fun g hg => ?_)
     have hgn:¬ g=w.heap.size+1:=fun e=>by
      rcases hg with hg | ⟨r,hr,hg⟩
      ·obtain ⟨_,cs,h2⟩:=own_type HZ.out.2.1.cells g hg
       rw [e,HZ.out.2.2.2.2.2.2] at h2
       simp at h2
      ·obtain ⟨_,cs,h2⟩:=own_type (HZ.out.2.1.kids r hr).1 g hg
       rw [e,HZ.out.2.2.2.2.2.2] at h2
       simp at h2
     rw [Below.heap_setCell _ _ _ _ (by simpa using hgn),Below.heap_setCell _ _ _ _ (by simpa using hgn),Below.heap_setCell _ _ _ _ (by simpa using hgn),Below.heap_setCell _ _ _ _ (by simpa using hgn)]
    ·exact (((HZ.out.2.2.2.1.setCell (p:=⟨w.heap.size+1,0,none⟩) (by simp) _).setCell (p:=⟨w.heap.size+1,1,none⟩) (by simp) _).setCell (p:=⟨w.heap.size+1,2,none⟩) (by simp) _).setCell (p:=⟨w.heap.size+1,3,none⟩) (by simp) _
end Go.Proofs.YtmmadoabejgffaaGreatDoor
