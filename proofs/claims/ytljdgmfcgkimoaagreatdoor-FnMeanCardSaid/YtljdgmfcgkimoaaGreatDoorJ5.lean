/-
  Proofs.
  Proofs.
  Proofs.
-/
import Derived.Test.YtljdgmfcgkimoaaGreatDoorJ1
import Derived.Test.YtljdgmfcgkimoaaGreatDoorJ4
import Derived.Deep.CutBlock
namespace Go.Proofs.YtljdgmfcgkimoaaGreatDoor
open Go.RowKit Go.Joins Go.Shelf
set_option maxRecDepth 100000
theorem kb4 (W:World) (g:Nat) (v0 v1 v2 v3:Value):KB (· = g) W ((((W.setCell ⟨g,0,none⟩ v0).setCell ⟨g,1,none⟩ v1).setCell ⟨g,2,none⟩ v2).setCell ⟨g,3,none⟩ v3):=by
 have k:∀ (a:World) (o:Nat) (v:Value),KB (· = g) W a→KB (· = g) W (a.setCell ⟨g,o,none⟩ v):=fun a o v h=>KB.setCell (p:=⟨g,o,none⟩) h (show g=g from rfl) v
 exact k _ 3 _ (k _ 2 _ (k _ 1 _ (k _ 0 _ (KB.refl _ W))))
theorem aft_box {q:Ps} {w W W':World} {i:Nat} {bad lost:Bool} (h:ParAt q w i bad lost) (hk:PAft q w W i bad) (k:KB (· = w.heap.size) W W'):PAft q w W' i bad:=by
 have hq:=h.lt
 obtain ⟨k1,i',bad',lost',k2,kb,k3⟩:=hk
 have kk:KB (· = q.P) w W':=⟨k.os.trans k1.os,k.tape.trans k1.tape,k.output.trans k1.output,Nat.le_trans k1.size k.size,fun b hb hx=>(k.block b (Nat.lt_of_lt_of_le hb k1.size) (by omega)).trans (k1.block b hb hx)⟩
 exact ⟨kk,i',bad',lost',k2,kb,h.on kk ((k.block q.P k3.lt (by omega)).trans k3.1) k3.2.1⟩
theorem place_i64 {ts:List ByteArray} (s:ByteArray) (hl:ts.length≤maxLen):inI64 (lastN ts s ts.length):=by
 have:=lastN_range ts s ts.length
 unfold maxLen at hl
 unfold inI64
 omega
set_option maxHeartbeats 1600000 in
theorem var_any (q:Ps) (i:Nat) (bad lost:Bool) (V:Value) (ss:List ByteArray) (s:ByteArray) (w:World) (h:ParAt q w i bad lost) (hs:PsAt w q.P V ss) (hl:ss.length≤100000) :
  Calls Tryz.prog 73 #[.pointer (some ⟨q.P,0,none⟩),V,.string s] w fun r w'=>∃ v,r = .returned v∧EV (fun b=>w.heap.size≤b) w' v∧PAft q w w' i bad:=by
 have hq:=h.lt
 obtain ⟨W1,hW1⟩:∃ W1,W1=w.alloc (.cells #[.int .i64 0,.int .i64 0,.string ⟨#[]⟩,.slice none 0 0] 52):=⟨_,rfl⟩
 have b1:Below w.heap.size w W1:=by rw [hW1]; exact (Below.refl _ w).alloc (Nat.le_refl _) _
 have x1:W1.heap[w.heap.size]? = some (.cells #[.int .i64 0,.int .i64 0,.string ⟨#[]⟩,.slice none 0 0] 52):=by rw [hW1]; exact block_new w _
 have hs1:=(hs.below b1).strs (by unfold maxLen; omega)
 have h1:=h.below b1
 have hp1:=l02Place_any V ss s _ W1 hs1
 have hr1:=place_i64 s (ts:=ss) (by unfold maxLen; omega)
 have hp2:=l02Place_any q.T q.ts s _ W1 h1.2.2.2
 have hr2:inI64 (lastN q.ts s q.ts.length):=place_i64 s (by obtain ⟨a,cap,-,hl,-⟩:=h1.2.2.2; exact hl)
 generalize lastN ss s ss.length=y at *
 generalize lastN q.ts s q.ts.length=z at *
 obtain ⟨-,-,-,c3,c4,f0⟩:=h1.cells
 have f3:=f0 3
 have u0:W1.cell? ⟨w.heap.size,0,none⟩=some (.int .i64 0):=(by rw [cell_of_block x1]; rfl)
 have uf0:=ubk x1 0
 have u1:W1.cell? ⟨w.heap.size,1,none⟩=some (.int .i64 0):=(by rw [cell_of_block x1]; rfl)
 have uf1:=ubk x1 1
 have u2:W1.cell? ⟨w.heap.size,2,none⟩=some (.string ⟨#[]⟩):=(by rw [cell_of_block x1]; rfl)
 have uf2:=ubk x1 2
 have u3:W1.cell? ⟨w.heap.size,3,none⟩=some (.slice none 0 0):=(by rw [cell_of_block x1]; rfl)
 have uf3:=ubk x1 3
 have A1:PAft q w W1 i bad:=⟨KB.of_below b1,i,bad,lost,Nat.le_refl _,fun e=>e,h1⟩
 have HK:=(show Hid (_∧_∧_∧_∧_∧_∧_∧_∧_) from ⟨hp1,hp2,A1,h,h1,hr1,hr2,b1,x1⟩)
 have hne:¬ w.heap.size=q.P:=by omega
 clear hp1 hp2 A1 h h1 hr1 hr2 hs hs1 hl f0 b1 x1 hq
 go_enter Tryz.func73,Tryz.ntmps73
 go_upto_region 1 with fail
 rw [← hW1]
 clear hW1
 go_wp2_with fail
 refine HK.out.1.mono ?_
 rintro r w2 ⟨rfl,e2⟩
 rw [e2]
 clear e2
 by_cases hy:0≤y
 ·have hyb:decide (0≤y)=true:=by simpa using hy
  go_wp2_with fail
  refine bodyPost_ret (v:=.agg #[.int .i64 1,.int .i64 y,.string ⟨#[]⟩,.slice none 0 0]) (by simp [results,Tryz.results73,go_sem,u0,u1,u2,u3]) rfl ?_
  exact ⟨_,rfl,EV.leaf _ _ ⟨by omega,by omega⟩ HK.out.2.2.2.2.2.1 (Nat.zero_le _),aft_box HK.out.2.2.2.1 HK.out.2.2.1 (kb4 _ _ _ _ _ _)⟩
 ·have hyb:decide (0≤y)=false:=by simpa using hy
  clear hy
  go_wp2_with fail
  refine HK.out.2.1.mono ?_
  rintro r w3 ⟨rfl,e3⟩
  rw [e3]
  clear e3
  by_cases hz:z<0
  ·have hzb:decide (z<0)=true:=by simpa using hz
   have kp:KB (· = q.P) W1 (W1.setCell ⟨q.P,3,none⟩ (.bool true)):=kb_cell _ _ _ _
   have p2:ParAt q (W1.setCell ⟨q.P,3,none⟩ (.bool true)) i bad true:=HK.out.2.2.2.2.1.on kp (block_setCell (i:=3) HK.out.2.2.2.2.1.1 _) HK.out.2.2.2.2.1.2.1
   have A2:PAft q w (W1.setCell ⟨q.P,3,none⟩ (.bool true)) i bad:=⟨(KB.of_below HK.out.2.2.2.2.2.2.2.1).trans kp,i,bad,true,Nat.le_refl _,fun e=>e,p2⟩
   have x2:=kp.heap HK.out.2.2.2.2.2.2.2.2 hne
   have HA:=(show Hid (PAft q w (W1.setCell ⟨q.P,3,none⟩ (.bool true)) i bad∧True) from ⟨A2,trivial⟩)
   have hne':¬ q.P=w.heap.size:=fun e=>hne e.symm
   have hx:∀ o o':Nat,¬ ((⟨w.heap.size,o,none⟩:Addr)=⟨q.P,o',none⟩):=fun o o' e=>hne (congrArg Addr.block e)
   have v0:∀ o,(W1.setCell ⟨q.P,3,none⟩ (.bool true)).cell? ⟨w.heap.size,o,none⟩=W1.cell? ⟨w.heap.size,o,none⟩:=fun o=>World.cell?_of_block (kp.block _ (lh HK.out.2.2.2.2.2.2.2.2) hne)
   clear kp p2 x2 A2 hz
   go_wp2_with fail
   refine bodyPost_ret (v:=.agg #[.int .i64 2,.int .i64 0,.string ⟨#[]⟩,.slice none 0 0]) (by simp [results,Tryz.results73,go_sem,u0,u1,u2,u3]) rfl ?_
   exact ⟨_,rfl,EV.leaf _ _ ⟨by omega,by omega⟩ ⟨by omega,by omega⟩ (Nat.zero_le _),aft_box HK.out.2.2.2.1 HA.out.1 (kb4 _ _ _ _ _ _)⟩
  ·have hzb:decide (z<0)=false:=by simpa using hz
   clear hz
   go_wp2_with fail
   refine bodyPost_ret (v:=.agg #[.int .i64 2,.int .i64 z,.string ⟨#[]⟩,.slice none 0 0]) (by simp [results,Tryz.results73,go_sem,u0,u1,u2,u3]) rfl ?_
   exact ⟨_,rfl,EV.leaf _ _ ⟨by omega,by omega⟩ HK.out.2.2.2.2.2.2.1 (Nat.zero_le _),aft_box HK.out.2.2.2.1 HK.out.2.2.1 (kb4 _ _ _ _ _ _)⟩
theorem op_any (S:Nat→Prop) (s:ByteArray) (v u:Value) (w:World) (hs:s.size≤maxLen) (hv:EV S w v) (hu:EV S w u) :
  Calls Tryz.prog 93 #[.string s,v,u] w fun r w'=>∃ x,r = .returned x∧EV (fun b=>S b∨w.heap.size≤b) w' x∧Below w.heap.size w w':=by
 obtain ⟨k1,n1,t1,a1,m1,rfl⟩:=hv.form
 obtain ⟨k2,n2,t2,a2,m2,rfl⟩:=hu.form
 obtain ⟨W1,hW1⟩:∃ W1,W1=((w.alloc (.cells #[.int .i64 k1,.int .i64 n1,.string t1,.slice a1 m1 m1] 52)).alloc (.cells #[.int .i64 k2,.int .i64 n2,.string t2,.slice a2 m2 m2] 52)).alloc (.cells #[.int .i64 0,.int .i64 0,.string ⟨#[]⟩,.slice none 0 0] 52):=⟨_,rfl⟩
 have b1:Below w.heap.size w W1:=by rw [hW1]; exact (((Below.refl _ w).alloc (Nat.le_refl _) _).alloc (by simp) _).alloc (by simp; omega) _
 have z1:W1.heap.size=w.heap.size+3:=by rw [hW1]; simp
 have x1:W1.heap[w.heap.size]? = some (.cells #[.int .i64 k1,.int .i64 n1,.string t1,.slice a1 m1 m1] 52):=by
  rw [hW1,Below.heap_alloc _ _ _ (by simp; omega),Below.heap_alloc _ _ _ (by simp)]; exact block_new w _
 have x2:W1.heap[w.heap.size+1]? = some (.cells #[.int .i64 k2,.int .i64 n2,.string t2,.slice a2 m2 m2] 52):=by
  rw [hW1,Below.heap_alloc _ _ _ (by simp)]
  have:=block_new (w.alloc (.cells #[.int .i64 k1,.int .i64 n1,.string t1,.slice a1 m1 m1] 52)) (.cells #[.int .i64 k2,.int .i64 n2,.string t2,.slice a2 m2 m2] 52)
  simpa using this
 have x3:W1.heap[w.heap.size+2]? = some (.cells zeroE 52):=by
  rw [hW1]
  have:=block_new ((w.alloc (.cells #[.int .i64 k1,.int .i64 n1,.string t1,.slice a1 m1 m1] 52)).alloc (.cells #[.int .i64 k2,.int .i64 n2,.string t2,.slice a2 m2 m2] 52)) (.cells zeroE 52)
  simpa [zeroE] using this
 obtain ⟨W2,hW2⟩:∃ W2,W2=W1.alloc (.cells ⟨[Value.agg #[.int .i64 k1,.int .i64 n1,.string t1,.slice a1 m1 m1],Value.agg #[.int .i64 k2,.int .i64 n2,.string t2,.slice a2 m2 m2]].flatMap cellsE⟩ 52):=⟨_,rfl⟩
 have b2:Below W1.heap.size W1 W2:=by rw [hW2]; exact (Below.refl _ W1).alloc (Nat.le_refl _) _
 have y2:W2.heap[W1.heap.size]? = some (.cells ⟨[Value.agg #[.int .i64 k1,.int .i64 n1,.string t1,.slice a1 m1 m1],Value.agg #[.int .i64 k2,.int .i64 n2,.string t2,.slice a2 m2 m2]].flatMap cellsE⟩ 52):=by rw [hW2]; exact block_new W1 _
 have hv2:EV (fun b=>S b∧b<w.heap.size∨W1.heap.size≤b) W2 _:=((hv.wide (S':=fun b=>S b∧b<w.heap.size) (fun b h1 h2=>⟨h1,h2⟩)).below (b1.trans (b2.mono b1.size))).wide (fun b h _ => .inl h)
 have hu2:EV (fun b=>S b∧b<w.heap.size∨W1.heap.size≤b) W2 _:=((hu.wide (S':=fun b=>S b∧b<w.heap.size) (fun b h1 h2=>⟨h1,h2⟩)).below (b1.trans (b2.mono b1.size))).wide (fun b h _ => .inl h)
 have fv:=EV.over (k:=10) (n:=0) (t:=s) (vs:=[Value.agg #[.int .i64 k1,.int .i64 n1,.string t1,.slice a1 m1 m1],Value.agg #[.int .i64 k2,.int .i64 n2,.string t2,.slice a2 m2 m2]]) (by simp) (fun x hx=>by simp only [List.mem_cons,List.not_mem_nil,or_false] at hx; rcases hx with rfl | rfl <;> assumption) y2 (Or.inr (Nat.le_refl _)) ⟨by omega,by omega⟩ ⟨by omega,by omega⟩ hs
 have x3':=(b2.block _ (by omega)).trans x3
 have kf:=setRow_kb W2 (w.heap.size+2) (cellsV (.agg #[.int .i64 10,.int .i64 0,.string s,.slice (some ⟨W1.heap.size,0,none⟩) 2 2]))
 have fv3:EV (fun b=>S b∨w.heap.size≤b) (W2.setRow (w.heap.size+2) (cellsV (.agg #[.int .i64 10,.int .i64 0,.string s,.slice (some ⟨W1.heap.size,0,none⟩) 2 2]))) _:=fv.kept (fun b hb hlt=>kf.block b hlt (by rcases hb with hb | hb <;> omega)) kf.size (fun b hb _=>hb.elim (fun h=>Or.inl h.1) (fun h=>Or.inr (by omega)))
 have bf:Below w.heap.size w (W2.setRow (w.heap.size+2) (cellsV (.agg #[.int .i64 10,.int .i64 0,.string s,.slice (some ⟨W1.heap.size,0,none⟩) 2 2]))):=(b1.trans (b2.mono b1.size)).trans (kf.below (fun k hk=>by have hk':k=w.heap.size+2:=hk; omega) (by have:=b1.size; have:=b2.size; omega))
 have yf:=setRow_heap W2 (w.heap.size+2) _ (cellsV (.agg #[.int .i64 10,.int .i64 0,.string s,.slice (some ⟨W1.heap.size,0,none⟩) 2 2])) _ _ x3'
 have HF:=(show Hid (_∧_∧_∧_) from ⟨fv3,bf,yf,hs⟩)
 have HX:=(show Hid (_∧_∧_) from ⟨x1,x2,x3'⟩)
 have HV:=(show Hid (_∧_∧_) from ⟨hv,hu,fv⟩)
 have HZ:=(show Hid (_∧True) from ⟨z1,trivial⟩)
 clear fv3 bf yf x1 x2 x3 x3' hv2 hu2 fv kf b1 b2 y2 z1 hs hv hu
 go_enter Tryz.func93,Tryz.ntmps93
 go_upto_region 1 with fail
 rw [← hW1]
 clear hW1
 refine wp_region_list ?_
 refine wpl_run rfl (.string s) W1 (ex_move _ _ _ _ rfl (by first | rfl | (simp [Act.eval]; done) | simp [Act.eval,Act.put]) _) ?_
 simp only [Act.put,List.setIfInBounds_toArray,List.set_cons_zero,List.set_cons_succ]
 refine wpl_run rfl (.agg #[.int .i64 k1,.int .i64 n1,.string t1,.slice a1 m1 m1]) W1 (ex_loadE _ _ (.tmp 4) w.heap.size _ _ rfl rfl W1 HX.out.1 rfl) ?_
 simp only [Act.put,List.setIfInBounds_toArray,List.set_cons_zero,List.set_cons_succ]
 refine wpl_run rfl (.agg #[.int .i64 k2,.int .i64 n2,.string t2,.slice a2 m2 m2]) W1 (ex_loadE _ _ (.tmp 5) (w.heap.size+1) _ _ rfl rfl W1 HX.out.2.1 rfl) ?_
 simp only [Act.put,List.setIfInBounds_toArray,List.set_cons_zero,List.set_cons_succ]
 refine wpl_run rfl (.slice (some ⟨W1.heap.size,0,none⟩) 2 2) W2 (by rw [hW2]; exact ex_rowE2 _ _ (.tmp 8) (.tmp 9) rfl HV.out.1 HV.out.2.1 rfl rfl _) ?_
 simp only [Act.put,List.setIfInBounds_toArray,List.set_cons_zero,List.set_cons_succ]
 refine wpl_run rfl (.agg #[.int .i64 10,.int .i64 0,.string s,.slice (some ⟨W1.heap.size,0,none⟩) 2 2]) W2 (ex_build023 _ _ rfl rfl rfl _) ?_
 simp only [Act.put,List.setIfInBounds_toArray,List.set_cons_zero,List.set_cons_succ]
 refine wpl_skip rfl _ (ex_storeE _ _ (.tmp 6) (.tmp 11) (w.heap.size+2) _ _ _ rfl rfl rfl W2 HX.out.2.2 rfl rfl HV.out.2.2.agg.2.2.1) ?_
 simp only [Act.put]
 refine wpList_nil ?_
 clear hW2 HX HV
 have HG:Hid (EV (fun b=>S b∨w.heap.size≤b) _ _∧Below w.heap.size w _∧_):=⟨HF.out.1,HF.out.2.1,HF.out.2.2.1⟩
 clear HF
 generalize hWF:W2.setRow (w.heap.size+2) (cellsV (.agg #[.int .i64 10,.int .i64 0,.string s,.slice (some ⟨W1.heap.size,0,none⟩) 2 2]))=WF at HG ⊢
 clear hWF
 go_wp2
 refine bodyPost_ret (results_cell_row (p:=6) (ty:=52) rfl _ WF (w.heap.size+2) _ _ (0,0) _ rfl HG.out.2.2 Tryz.underlying52 rfl (by exact sizeE)) rfl ?_
 exact ⟨_,rfl,HG.out.1,HG.out.2.1⟩
end Go.Proofs.YtljdgmfcgkimoaaGreatDoor

namespace Go.Proofs.YtljdgmfcgkimoaaGreatDoor
open Go.RowKit Go.Joins Go.Shelf
set_option maxRecDepth 100000
def leftP (q:Ps) (w:World):Nat:=match w.cell? ⟨q.P,1,none⟩,w.cell? ⟨q.P,2,none⟩ with
 | some (.int _ i),some (.bool b)=>if b then 0 else 1+(q.n - i.toNat)
 | _,_=>0
def leftQ (q:Ps) (w:World):Nat:=match w.cell? ⟨q.P,1,none⟩ with
 | some (.int _ i)=>q.n - i.toNat
 | _=>0
theorem leftP_of {q:Ps} {w:World} {i:Nat} {bad lost:Bool} (h:ParAt q w i bad lost):leftP q w=if bad then 0 else 1+(q.n - i):=by
 obtain ⟨-,c1,c2,-⟩:=h.cells
 unfold leftP
 rw [c1,c2]
 simp
theorem leftQ_of {q:Ps} {w:World} {i:Nat} {bad lost:Bool} (h:ParAt q w i bad lost):leftQ q w=q.n - i:=by
 obtain ⟨-,c1,-⟩:=h.cells
 unfold leftQ
 rw [c1]
 simp
theorem leftP_on {q:Ps} {w w':World} {i i':Nat} {bad' lost lost':Bool} (h:ParAt q w i false lost) (h':ParAt q w' i' bad' lost') (hs:i<i'∨bad'=true):leftP q w'<leftP q w:=by
 rw [leftP_of h,leftP_of h']
 have:=h'.2.1
 cases bad' with
 | true=>simp; omega
 | false=>simp at hs ⊢; omega
set_option maxHeartbeats 1600000 in
theorem begins_any (q:Ps) (w:World) (i:Nat) (bad lost:Bool) (h:ParAt q w i bad lost) :
  Calls Tryz.prog 105 #[.pointer (some ⟨q.P,0,none⟩)] w fun r w'=>Below w.heap.size w w'∧∃ b:Bool,r = .returned (.bool b)∧(b=true→bad=false∧i<q.n):=by
 have HH:=(show Hid (_∧True) from ⟨h,trivial⟩)
 clear h
 go_enter Tryz.func105,Tryz.ntmps105
 go_wp2_with fail
 refine (kind_any q w i bad lost _ HH.out.1).mono ?_
 rintro r w1 ⟨b1,b,rfl,hb⟩
 have h1:=HH.out.1.below b1
 have B1:=(show Hid (_∧_∧_) from ⟨b1,h1,hb⟩)
 clear hb b1 h1
 cases b with
 | true =>
  go_wp2_with fail
  go_ret
  exact ⟨B1.out.1,_,rfl,(by simpa using B1.out.2.2)⟩
 | false =>
  go_wp2_with fail
  refine (kind_any q w1 i bad lost _ B1.out.2.1).mono ?_
  rintro r w2 ⟨b2,b,rfl,hb⟩
  have h2:=B1.out.2.1.below b2
  have B2:=(show Hid (_∧_∧_) from ⟨B1.out.1.trans (b2.mono B1.out.1.size),h2,hb⟩)
  clear hb b2 h2
  cases b with
  | true =>
   go_wp2_with fail
   go_ret
   exact ⟨B2.out.1,_,rfl,(by simpa using B2.out.2.2)⟩
  | false =>
   go_wp2_with fail
   refine (is_any q w2 i bad lost _ B2.out.2.1).mono ?_
   rintro r w3 ⟨b3,b,rfl,hb⟩
   have h3:=B2.out.2.1.below b3
   have B3:=(show Hid (_∧_∧_) from ⟨B2.out.1.trans (b3.mono B2.out.1.size),h3,hb⟩)
   clear hb b3 h3
   cases b with
   | true =>
    go_wp2_with fail
    go_ret
    exact ⟨B3.out.1,_,rfl,(by simpa using B3.out.2.2)⟩
   | false =>
    go_wp2_with fail
    refine (is_any q w3 i bad lost _ B3.out.2.1).mono ?_
    rintro r w4 ⟨b4,b,rfl,hb⟩
    have B4:=(show Hid (_∧_) from ⟨B3.out.1.trans (b4.mono B3.out.1.size),hb⟩)
    clear hb b4
    go_wp2_with fail
    go_ret
    exact ⟨B4.out.1,_,rfl,B4.out.2⟩
end Go.Proofs.YtljdgmfcgkimoaaGreatDoor

namespace Go.Proofs.YtljdgmfcgkimoaaGreatDoor
open Go.RowKit Go.Joins Go.Shelf
set_option maxRecDepth 100000
structure LoopR (q:Ps) (w:World) (i:Nat) (bad:Bool) (wr:World) (g:Nat) (u:Value):Prop where
 kb:KB (· = q.P) w wr
 st:∃ i' bad' lost',i≤i'∧(bad=true→bad'=true)∧(i<i'∨bad'=true)∧ParAt q wr i' bad' lost'
 bx0:wr.heap[w.heap.size]? = some (.cells zeroE 52)
 bx:wr.heap[g]? = some (.cells (cellsV u) 52)
 ev:EV (fun b=>w.heap.size+1≤b∧b≠g) wr u
theorem LoopR.below {q:Ps} {w:World} {i:Nat} {bad:Bool} {wr w':World} {g:Nat} {u:Value} (h:LoopR q w i bad wr g u) (hb:Below wr.heap.size wr w'):LoopR q w i bad w' g u:=by
 obtain ⟨i',bad',lost',h1,h2,h3,h4⟩:=h.st
 exact ⟨h.kb.trans (KB.of_below hb),⟨i',bad',lost',h1,h2,h3,h4.below hb⟩,(hb.block _ (lh h.bx0)).trans h.bx0,(hb.block _ (lh h.bx)).trans h.bx,h.ev.below hb⟩
theorem LoopR.put {q:Ps} {w:World} {i i':Nat} {bad bad' lost lost':Bool} {W:World} {g:Nat} {x:Value} {cs:Array Value} (h0:ParAt q w i bad lost) (kb:KB (· = q.P) w W) (h1:i≤i') (h2:bad=true→bad'=true) (h3:i<i'∨bad'=true) (h4:ParAt q W i' bad' lost')
  (bx0:W.heap[w.heap.size]? = some (.cells zeroE 52)) (bx:W.heap[g]? = some (.cells cs 52)) (ev:EV (fun b=>w.heap.size+1≤b∧b≠g) W x) (hg:w.heap.size+1≤g) :
  LoopR q w i bad (W.setRow g (cellsV x)) g x∧ParAt q (W.setRow g (cellsV x)) i' bad' lost':=by
 have k:=setRow_kb W g (cellsV x)
 have hq:=h0.lt
 have kk:KB (· = q.P) w (W.setRow g (cellsV x)):=⟨k.os.trans kb.os,k.tape.trans kb.tape,k.output.trans kb.output,Nat.le_trans kb.size k.size,fun b hb hx=>(k.block b (Nat.lt_of_lt_of_le hb kb.size) (by omega)).trans (kb.block b hb hx)⟩
 have hp:ParAt q (W.setRow g (cellsV x)) i' bad' lost':=h0.on kk ((k.block q.P h4.lt (by omega)).trans h4.1) h4.2.1
 exact ⟨⟨kk,⟨i',bad',lost',h1,h2,h3,hp⟩,(k.block _ (lh bx0) (by omega)).trans bx0,setRow_heap _ _ _ _ _ _ bx,ev.kept (fun b hb hlt=>k.block b hlt hb.2) k.size (fun _ h _=>h)⟩,hp⟩
theorem LoopR.fin {q:Ps} {w:World} {i:Nat} {bad lost:Bool} {wr:World} {g:Nat} {u:Value} (h:LoopR q w i bad wr g u) (h0:ParAt q w i bad lost) :
  EV (fun b=>w.heap.size≤b) (wr.setRow w.heap.size (cellsV u)) u∧AftS q w (wr.setRow w.heap.size (cellsV u)) i bad∧(wr.setRow w.heap.size (cellsV u)).heap[w.heap.size]? = some (.cells (cellsV u) 52):=by
 obtain ⟨i',bad',lost',h1,h2,h3,h4⟩:=h.st
 exact fin_box h0 ⟨h.kb,i',bad',lost',h1,h2,h3,h4⟩ (h.ev.wide (fun b hb _=>hb.1)) h.bx0
structure Br (q:Ps) (w:World) (i:Nat) (bad:Bool) (W:World) (j:Nat) (c l:Bool):Prop where
 kb:KB (· = q.P) w W
 il:i≤j
 bm:bad=true→c=true
 st:ParAt q W j c l
 bx0:W.heap[w.heap.size]? = some (.cells zeroE 52)
theorem Br.on {q:Ps} {w:World} {i:Nat} {bad:Bool} {W W':World} {j j':Nat} {c l c' l':Bool} (h:Br q w i bad W j c l) (hq:q.P<w.heap.size) (hk:KB (· = q.P) W W') (hj:j≤j') (hc:c=true→c'=true) (hs:ParAt q W' j' c' l'):Br q w i bad W' j' c' l' :=
 ⟨h.kb.trans hk,Nat.le_trans h.il hj,fun e=>hc (h.bm e),hs,hk.heap h.bx0 (by show ¬ _=_; omega)⟩
theorem fin4 {q:Ps} {w W W':World} {i:Nat} {bad lost:Bool} {v:Value} (h:ParAt q w i bad lost) (hk:AftS q w W i bad) (hv:EV (fun b=>w.heap.size+1≤b) W v) (k:KB (· = w.heap.size) W W'):EV (fun b=>w.heap.size≤b) W' v∧AftS q w W' i bad:=by
 have hq:=h.lt
 obtain ⟨k1,i',bad',lost',k2,kb,ks,k3⟩:=hk
 have kk:KB (· = q.P) w W':=⟨k.os.trans k1.os,k.tape.trans k1.tape,k.output.trans k1.output,Nat.le_trans k1.size k.size,fun b hb hx=>(k.block b (Nat.lt_of_lt_of_le hb k1.size) (by omega)).trans (k1.block b hb hx)⟩
 exact ⟨hv.kept (fun b hb hlt=>k.block b hlt (by omega)) k.size (fun b hb _=>by omega),kk,i',bad',lost',k2,kb,ks,h.on kk ((k.block q.P k3.lt (by omega)).trans k3.1) k3.2.1⟩
def CO (q:Ps) (m:Nat) (rk:Int):Prop :=
 ∀ (i:Nat) (bad lost:Bool) (V:Value) (ss:List ByteArray) (w:World),ParAt q w i bad lost→q.n - i<m→PsAt w q.P V ss→ss.length+0+6 * (q.n - i)≤20000 →
  Calls Tryz.prog 74 #[.pointer (some ⟨q.P,0,none⟩),V,.int .i64 rk] w fun r w'=>∃ v,r = .returned v∧EV (fun b=>w.heap.size≤b) w' v∧AftS q w w' i bad
def SgAt (w:World) (b:Nat) (sg:List ByteArray):Prop:=b<w.heap.size∧∀ j s,sg[j]? = some s→w.cell? ⟨b,j,none⟩=some (.string s)
theorem SgAt.block {w w':World} {b:Nat} {sg:List ByteArray} (h:SgAt w b sg) (hs:w.heap.size≤w'.heap.size) (hb:w'.heap[b]? = w.heap[b]?):SgAt w' b sg :=
 ⟨Nat.lt_of_lt_of_le h.1 hs,fun j s hj=>(World.cell?_of_block hb).trans (h.2 j s hj)⟩
theorem SgAt.below {w w':World} {b:Nat} {sg:List ByteArray} (h:SgAt w b sg) (hb:Below w.heap.size w w'):SgAt w' b sg:=h.block hb.size (hb.block b h.1)
theorem SgAt.kb {X:Nat→Prop} {w w':World} {b:Nat} {sg:List ByteArray} (h:SgAt w b sg) (hk:KB X w w') (hx:¬ X b):SgAt w' b sg:=h.block hk.size (hk.block b h.1 hx)
section
variable {P:Program} {ops:Array Oper} {Q:Exit→Act→World→Prop} {S:World→Prop}
theorem step_callThree {o:Oper} {a:Act} {w:World} {K:Act→World→Prop} {E:Prop}
  (hg:o.guard=none) (f:FuncId) (x y z:Operand) (ts:Array TypeId) (hop:o.op=Op.call { callee:=Callee.value (.func f),args:=#[x,y,z],argTypes:=ts }) (hent:∀ args w,(callFunc f args).run P w = .ok (.enter f args) w)
  (u v t:Value) (hx:a.eval x=u) (hy:a.eval y=v) (hz:a.eval z=t) (Post:Value→World→Prop) (hc:Calls P f #[u,v,t] w fun e w'=>∃ r,e = .returned r∧Post r w') (hK:∀ r w',Post r w'→K (a.put o.dst r) w') :
  if Region.wanted o (yielded ops a.tmps)=true then Oper.wp P o a w K Q else E:=by
 have hw:Region.wanted o (yielded ops a.tmps)=true:=by simp [Region.wanted,hg]
 rw [if_pos hw]
 unfold Oper.wp execOp
 have hf:a.eval (.func f) = .func (.func f) #[] #[]:=rfl
 simp [hop,resolve,invoke,hx,hy,hz,hf,hent,Deferred.ofValue]
 refine hc.mono ?_
 rintro e w' ⟨r,rfl,h⟩
 exact hK r w' h
end
theorem ex_inc {r r':Int} (e:Operand→Value) (o:Oper) (x:Operand) (ho:o.op = .binOp .add 3 x (.const (.int .i64 1)) 3) (hx:e x = .int .i64 r) (hr:0≤r∧r≤2) (h:r'=r+1) (w:World) (hc:e (.const (.int .i64 1)) = .int .i64 1:=by rfl):(execOp e o).run Tryz.prog w = .ok (.value (.int .i64 r')) w:=by
 obtain ⟨d,op,t,ps,af,g⟩:=o
 cases ho
 have:r=0∨r=1∨r=2:=by omega
 rcases this with rfl | rfl | rfl <;> subst h <;> simp [execOp,hx,hc,go_sem,IntKind.wrap_i64]
theorem ex_row3 {a b c:Nat} {k l m:Nat} (e:Operand→Value) (o:Oper) (x y z:Operand) (ho:o.op = .buildSlice 167 3 #[(0,x),(1,y),(2,z)]) (hx:e x = .slice (some ⟨a,0,none⟩) k k) (hy:e y = .slice (some ⟨b,0,none⟩) l l) (hz:e z = .slice (some ⟨c,0,none⟩) m m) (w:World) :
  (execOp e o).run Tryz.prog w = .ok (.value (.slice (some ⟨w.heap.size,0,none⟩) 3 3)) (w.alloc (.cells #[.slice (some ⟨a,0,none⟩) k k,.slice (some ⟨b,0,none⟩) l l,.slice (some ⟨c,0,none⟩) m m] 24)):=by
 obtain ⟨d,op,t,ps,af,g⟩:=o
 cases ho
 simp [execOp,hx,hy,hz,go_sem]
theorem ex_indexR {b:Nat} {r:Int} (e:Operand→Value) (o:Oper) (x y:Operand) (ho:o.op = .indexAddr 167 x y) (hx:e x = .slice (some ⟨b,0,none⟩) 3 3) (hy:e y = .int .i64 r) (hr:0≤r∧r≤2) (w:World):(execOp e o).run Tryz.prog w = .ok (.value (.pointer (some ⟨b,r.toNat,none⟩))) w:=by
 obtain ⟨d,op,t,ps,af,g⟩:=o
 cases ho
 have:r=0∨r=1∨r=2:=by omega
 rcases this with rfl | rfl | rfl <;> simp [execOp,hx,hy,go_sem]
theorem ex_loadR {ad:Addr} {u:Value} (e:Operand→Value) (o:Oper) (x:Operand) (ho:o.op = .load 24 x) (hx:e x = .pointer (some ad)) (w:World) (hc:w.cell? ad=some u):(execOp e o).run Tryz.prog w = .ok (.value u) w:=by
 obtain ⟨d,op,t,ps,af,g⟩:=o
 cases ho
 simp [execOp,hx,go_sem,hc]
theorem ex_loadT {ad:Addr} {u:Value} (e:Operand→Value) (o:Oper) (x:Operand) (ho:o.op = .load 9 x) (hx:e x = .pointer (some ad)) (w:World) (hc:w.cell? ad=some u):(execOp e o).run Tryz.prog w = .ok (.value u) w:=by
 obtain ⟨d,op,t,ps,af,g⟩:=o
 cases ho
 simp [execOp,hx,go_sem,hc]
theorem ex_indexS {b n i:Nat} (e:Operand→Value) (o:Oper) (x y:Operand) (ho:o.op = .indexAddr 24 x y) (hx:e x = .slice (some ⟨b,0,none⟩) n n) (hy:e y = .int .i64 i) (hi:i<n) (hn:n≤2) (w:World):(execOp e o).run Tryz.prog w = .ok (.value (.pointer (some ⟨b,i,none⟩))) w:=by
 obtain ⟨d,op,t,ps,af,g⟩:=o
 cases ho
 have:(i=0∨i=1)∧(n=1∨n=2):=by omega
 rcases this with ⟨rfl | rfl,rfl | rfl⟩ <;> first | omega | simp [execOp,hx,hy,go_sem]
end Go.Proofs.YtljdgmfcgkimoaaGreatDoor
