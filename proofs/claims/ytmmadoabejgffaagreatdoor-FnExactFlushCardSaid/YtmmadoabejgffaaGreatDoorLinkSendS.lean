/-
  Proofs.
-/
import Derived.Test.YtmmadoabejgffaaGreatDoorA
import Derived.Test.YtmmadoabejgffaaGreatDoorLinkCopyS
import Derived.Test.YtmmadoabejgffaaGreatDoorSpecLinkOk
import Derived.Test.YtmmadoabejgffaaGreatDoorO
import Derived.Test.YtmmadoabejgffaaGreatDoorH
import Derived.Deep.CutBlock
import Derived.Deep.RegionHeld3
namespace Go.Proofs.YtmmadoabejgffaaGreatDoor
open Go.RowKit Go.Joins
set_option maxRecDepth 100000
def Lk.sendText (l:Lk) (m:Ms):ByteArray:=if l.goes m then ⟨((l.push m).pack (l.sentOf m)).bytes.toArray⟩ else ⟨#[]⟩
structure SdSt (w W:World) (l:Lk) (m:Ms) (lov lsv km:Value) (ob Bc:Nat) (k:Lk) (ov sv:Value) (rs:List (Se×Value)):Prop where
 base:Below w.heap.size w W
 lbx:W.heap[w.heap.size]? = some (.cells (l.row lov lsv) 49)
 mbx:W.heap[w.heap.size+1]? = some (.cells (m.row km) 67)
 res:W.heap[w.heap.size+1+1]? = some (.cells (Lk.row ⟨0,0,[],[]⟩ (.slice none 0 0) (.slice none 0 0)) 49)
 own:LkOwn W Bc (.agg #[.int .i64 k.id,.int .i64 k.next,ov,sv]) k ov sv rs
 apt:∀ b,LkBlk ov sv rs b→b≠ob
 obx:W.heap[ob]? = some (.cells (k.row ov sv) 49)
 ord:w.heap.size+3≤Bc∧Bc≤ob
theorem SdSt.below {w W W':World} {l:Lk} {m:Ms} {lov lsv km:Value} {ob Bc:Nat} {k:Lk} {ov sv:Value} {rs:List (Se×Value)} (h:SdSt w W l m lov lsv km ob Bc k ov sv rs) (hb:Below W.heap.size W W'):SdSt w W' l m lov lsv km ob Bc k ov sv rs :=
 ⟨h.base.trans (hb.mono h.base.size),(hb.block _ (lh h.lbx)).trans h.lbx,(hb.block _ (lh h.mbx)).trans h.mbx,(hb.block _ (lh h.res)).trans h.res,h.own.below hb,h.apt,(hb.block _ (lh h.obx)).trans h.obx,h.ord⟩
theorem own_set4 {W:World} {B B' rb:Nat} {v:Value} {k:Lk} {ov sv:Value} {rs:List (Se×Value)} (hO:LkOwn W B v k ov sv rs) (hr:rb<B) (hB:B'≤B) (a b c d:Value) :
  LkOwn ((((W.setCell ⟨rb,0,none⟩ a).setCell ⟨rb,1,none⟩ b).setCell ⟨rb,2,none⟩ c).setCell ⟨rb,3,none⟩ d) B' v k ov sv rs:=by
 have hO':LkOwn W B' v k ov sv rs:=⟨hO.val,hO.fits,⟨own_mono hO.out.1 hB,hO.out.2⟩,⟨own_mono hO.seen.cells hB,fun r hr=>⟨own_mono (hO.seen.kids r hr).1 hB,(hO.seen.kids r hr).2⟩,hO.seen.apart⟩,hO.is⟩
 refine hO'.moved (fun q hq => ?_)
 have:=(hO.own hq).1
 rw [Below.heap_setCell _ _ _ _ (by simp; omega),Below.heap_setCell _ _ _ _ (by simp; omega),Below.heap_setCell _ _ _ _ (by simp; omega),Below.heap_setCell _ _ _ _ (by simp; omega)]
theorem below_set4 {w W:World} {rb:Nat} (h:Below w.heap.size w W) (hr:w.heap.size≤rb) (a b c d:Value):Below w.heap.size w ((((W.setCell ⟨rb,0,none⟩ a).setCell ⟨rb,1,none⟩ b).setCell ⟨rb,2,none⟩ c).setCell ⟨rb,3,none⟩ d) :=
 (((h.setCell (p:=⟨rb,0,none⟩) hr _).setCell (p:=⟨rb,1,none⟩) hr _).setCell (p:=⟨rb,2,none⟩) hr _).setCell (p:=⟨rb,3,none⟩) hr _
theorem SdSt.fin {w W:World} {l:Lk} {m:Ms} {lov lsv km:Value} {ob Bc:Nat} {k:Lk} {ov sv:Value} {rs:List (Se×Value)} (h:SdSt w W l m lov lsv km ob Bc k ov sv rs) (a b c d:Value) :
  LkOwn ((((W.setCell ⟨w.heap.size+1+1,0,none⟩ a).setCell ⟨w.heap.size+1+1,1,none⟩ b).setCell ⟨w.heap.size+1+1,2,none⟩ c).setCell ⟨w.heap.size+1+1,3,none⟩ d) w.heap.size (.agg #[.int .i64 k.id,.int .i64 k.next,ov,sv]) k ov sv rs ∧
  Below w.heap.size w ((((W.setCell ⟨w.heap.size+1+1,0,none⟩ a).setCell ⟨w.heap.size+1+1,1,none⟩ b).setCell ⟨w.heap.size+1+1,2,none⟩ c).setCell ⟨w.heap.size+1+1,3,none⟩ d):=by
 have hO:=h.own
 have hord:=h.ord
 refine ⟨?_,(((h.base.setCell (p:=⟨w.heap.size+1+1,0,none⟩) (by simp; omega) _).setCell (p:=⟨w.heap.size+1+1,1,none⟩) (by simp; omega) _).setCell (p:=⟨w.heap.size+1+1,2,none⟩) (by simp; omega) _).setCell (p:=⟨w.heap.size+1+1,3,none⟩) (by simp; omega) _⟩
 have hO':LkOwn W w.heap.size (.agg #[.int .i64 k.id,.int .i64 k.next,ov,sv]) k ov sv rs :=
  ⟨rfl,hO.fits,⟨own_mono hO.out.1 (by omega),hO.out.2⟩,⟨own_mono hO.seen.cells (by omega),fun r hr=>⟨own_mono (hO.seen.kids r hr).1 (by omega),(hO.seen.kids r hr).2⟩,hO.seen.apart⟩,hO.is⟩
 refine hO'.moved (fun b hb => ?_)
 have:=(hO.own hb).1
 rw [Below.heap_setCell _ _ _ _ (by simp; omega),Below.heap_setCell _ _ _ _ (by simp; omega),Below.heap_setCell _ _ _ _ (by simp; omega),Below.heap_setCell _ _ _ _ (by simp; omega)]
theorem SdSt.set3 {w W:World} {l:Lk} {m:Ms} {lov lsv km:Value} {ob Bc:Nat} {k:Lk} {ov sv:Value} {rs:List (Se×Value)} (h:SdSt w W l m lov lsv km ob Bc k ov sv rs) {sb:Nat} (hs:ob<sb) (ha:∀ b,LkBlk ov sv rs b→b≠sb) (x y z:Value):SdSt w (((W.setCell ⟨sb,0,none⟩ x).setCell ⟨sb,1,none⟩ y).setCell ⟨sb,2,none⟩ z) l m lov lsv km ob Bc k ov sv rs:=by
 have e:∀ q,q≠sb→(((W.setCell ⟨sb,0,none⟩ x).setCell ⟨sb,1,none⟩ y).setCell ⟨sb,2,none⟩ z).heap[q]? = W.heap[q]? := fun q hq=>by
  rw [Below.heap_setCell _ _ _ _ hq,Below.heap_setCell _ _ _ _ hq,Below.heap_setCell _ _ _ _ hq]
 have ho:=h.ord
 exact ⟨((h.base.setCell (p:=⟨sb,0,none⟩) (by show _≤sb; omega) _).setCell (p:=⟨sb,1,none⟩) (by show _≤sb; omega) _).setCell (p:=⟨sb,2,none⟩) (by show _≤sb; omega) _,
  (e _ (by omega)).trans h.lbx,(e _ (by omega)).trans h.mbx,(e _ (by omega)).trans h.res,h.own.moved (fun b hb=>e b (ha b hb)),h.apt,(e _ (by omega)).trans h.obx,ho⟩
theorem SdSt.grew {w W W':World} {l:Lk} {m:Ms} {lov lsv km:Value} {ob Bc:Nat} {k:Lk} {ov sv:Value} {rs:List (Se×Value)} (h:SdSt w W l m lov lsv km ob Bc k ov sv rs) (hg:W.grownBy W' ov.ownBlock) :
  Below w.heap.size w W'∧W'.heap[w.heap.size]? = some (.cells (l.row lov lsv) 49)∧W'.heap[w.heap.size+1]? = some (.cells (m.row km) 67)∧W'.heap[w.heap.size+1+1]? = some (.cells (Lk.row ⟨0,0,[],[]⟩ (.slice none 0 0) (.slice none 0 0)) 49)∧W'.heap[ob]? = some (.cells (k.row ov sv) 49):=by
 have ho:=h.ord
 have hb:∀ b,ov.ownBlock=some b→Bc≤b∧b≠ob:=fun b hb=>⟨(h.own.own (.inl hb)).1,h.apt b (.inl hb)⟩
 exact ⟨Below.grown h.base hg (hB:=h.base.size) (hr:=fun b hq=>by have:=hb b hq; omega),(hg.block _ (lh h.lbx) (fun e=>by have:=hb _ e.symm; omega)).trans h.lbx,(hg.block _ (lh h.mbx) (fun e=>by have:=hb _ e.symm; omega)).trans h.mbx,(hg.block _ (lh h.res) (fun e=>by have:=hb _ e.symm; omega)).trans h.res,(hg.block _ (lh h.obx) (fun e=>(hb _ e.symm).2 rfl)).trans h.obx⟩
theorem SdSt.pushed {w W W':World} {l:Lk} {m:Ms} {lov lsv km:Value} {ob Bc:Nat} {ov sv v':Value} {rs:List (Se×Value)} {x:Sn} {n':Int} (h:SdSt w W l m lov lsv km ob Bc l ov sv rs) (hg:W.grownBy W' ov.ownBlock)
  (hown:W'.ownsRow Bc 93 3 v' (l.out.length+1) (l.out.flatMap snCells ++ snCells x)) (hat:v'.ownBlock=ov.ownBlock∨v'.ownBlock=some W.heap.size) (hx:SnOk x) (hn:inI64 n') :
  SdSt w ((W'.setCell ⟨ob,2,none⟩ v').setCell ⟨ob,1,none⟩ (.int .i64 n')) l m lov lsv km ob Bc ⟨l.id,n',l.out ++ [x],l.seen⟩ v' sv rs:=by
 have ho:=h.ord
 have hob:=lh h.obx
 obtain ⟨g1,g2,g3,g4,g5⟩:=h.grew hg
 have e:∀ q,q≠ob→((W'.setCell ⟨ob,2,none⟩ v').setCell ⟨ob,1,none⟩ (.int .i64 n')).heap[q]? = W'.heap[q]? := fun q hq=>by
  rw [Below.heap_setCell _ _ _ _ hq,Below.heap_setCell _ _ _ _ hq]
 have hv:∀ b,v'.ownBlock=some b→b≠ob:=fun b hb=>by
  rcases hat with h1 | h1
  ·exact h.apt b (.inl (h1.symm.trans hb))
  ·have:=Option.some.inj (h1.symm.trans hb); omega
 have hse:∀ b,SeBlk sv rs b→some b≠ov.ownBlock:=fun b hb=>by
  rcases hb with hb | ⟨r,hr,hb⟩
  ·exact own_ne h.own.seen.cells h.own.out.1 (by decide) b hb
  ·exact own_ne (h.own.seen.kids r hr).1 h.own.out.1 (by decide) b hb
 have hown':W'.ownsRow Bc 93 3 v' (l.out ++ [x]).length ((l.out ++ [x]).flatMap snCells):=by
  rw [List.length_append,List.flatMap_append]
  simpa using hown
 refine ⟨(g1.setCell (p:=⟨ob,2,none⟩) (by show _≤ob; omega) _).setCell (p:=⟨ob,1,none⟩) (by show _≤ob; omega) _,(e _ (by omega)).trans g2,(e _ (by omega)).trans g3,(e _ (by omega)).trans g4,⟨rfl,⟨h.own.fits.1,hn⟩,⟨own_moved hown' (fun b hb=>e b (hv b hb)),fun s hs => ?_⟩,h.own.seen.moved (fun b hb=>(e b (h.apt b (.inr hb))).trans (hg.block b (h.own.seen.own hb).2 (hse b hb))),h.own.is⟩,fun b hb => ?_,block_setCell (i:=1) (block_setCell (i:=2) g5 _) _,ho⟩
 ·rcases List.mem_append.1 hs with h1 | h1
  ·exact h.own.out.2 s h1
  ·rw [List.mem_singleton] at h1; subst h1; exact hx
 ·rcases hb with hb | hb
  ·exact hv b hb
  ·exact h.apt b (.inr hb)
theorem SdSt.ten {w W:World} {l:Lk} {m:Ms} {lov lsv km:Value} {ob Bc:Nat} {k:Lk} {ov sv:Value} {rs:List (Se×Value)} (h:SdSt w W l m lov lsv km ob Bc k ov sv rs):W.cell? ⟨w.heap.size,1,none⟩=some (.int .i64 l.next)∧W.cell? ⟨w.heap.size+1,0,none⟩=some (.int .i64 m.kind)∧W.cell? ⟨w.heap.size+1,1,none⟩=some (.int .i64 m.frm)∧W.cell? ⟨w.heap.size+1,2,none⟩=some (.int .i64 m.dst)∧W.cell? ⟨w.heap.size+1,3,none⟩=some (.int .i64 m.id)∧W.cell? ⟨w.heap.size+1,4,none⟩=some (.int .i64 m.want)∧W.cell? ⟨w.heap.size+1,5,none⟩=some (.int .i64 m.cell.kind)∧W.cell? ⟨w.heap.size+1,6,none⟩=some (.int .i64 m.cell.n)∧W.cell? ⟨w.heap.size+1,7,none⟩=some (.int .i64 m.cell.pos)∧W.cell? ⟨w.heap.size+1,8,none⟩=some (km) :=
 ⟨(cell_of_block h.lbx 1).trans rfl,(cell_of_block h.mbx 0).trans rfl,(cell_of_block h.mbx 1).trans rfl,(cell_of_block h.mbx 2).trans rfl,(cell_of_block h.mbx 3).trans rfl,(cell_of_block h.mbx 4).trans rfl,(cell_of_block h.mbx 5).trans rfl,(cell_of_block h.mbx 6).trans rfl,(cell_of_block h.mbx 7).trans rfl,(cell_of_block h.mbx 8).trans rfl⟩
theorem snS_ones (x:Sn):∀ u ∈ snCells x,u.oneCell'=true:=by
 intro u hu
 simp [snCells] at hu
 rcases hu with rfl | rfl | rfl <;> rfl
theorem cell_threeS (w:World) (a b c:Value) (t:TypeId):∀ j u,[a,b,c][j]? = some u→(w.alloc (.cells #[a,b,c] t)).cell? ((⟨w.heap.size,0,none⟩:Addr).add j)=some u:=by
 intro j u hj
 have h:=(MapKept.heap_alloc w (.cells #[a,b,c] t)).1
 rw [addr_addI,cell_of_block h,Nat.zero_add]
 simpa using hj
theorem goes_is {l:Lk} {m:Ms} (hl:l.ok=true) (hm:m.ok=true) (hf:m.fits) (hfrm:m.frm=l.id):l.goes m=(l.push m).ok:=by
 rw [push_ok hl hm hf hfrm]
 unfold Lk.goes ownB
 rw [hl,hm,hfrm]
 simp
theorem sum_le {α : Type} (f : α → Nat) (c:Nat):∀ l:List α,(∀ x ∈ l,f x≤c)→(l.map f).sum≤l.length * c
 | [],_=>by simp
 | x :: l,h=>by
  have h1:=sum_le f c l (fun y hy=>h y (by simp [hy]))
  have h2:=h x (by simp)
  simp only [List.map_cons,List.sum_cons,List.length_cons]
  rw [Nat.succ_mul]
  omega
theorem fit_len {l:List UInt8} (h:msgFit l=true):l.length≤1000:=by
 unfold msgFit inB at h
 simp only [Bool.and_eq_true,decide_eq_true_eq] at h
 omega
theorem ok_bulk {l:Lk} (h:l.ok=true):l.bulk≤70000:=by
 obtain ⟨h1,-,h3,h4,-,h6⟩:=Lk.parts h
 have hl:l.out.length≤60:=by have:=of_decide_eq_true h3; omega
 have hn:l.seen.length≤31:=by
  unfold amongB at h1
  simp only [Bool.and_eq_true,decide_eq_true_eq] at h1
  omega
 have hO:(l.out.map Sn.bulk).sum≤l.out.length * 1000:=sum_le _ _ _ fun s hs=>by
  have:=List.all_eq_true.1 h4 s hs
  unfold Sn.fits Sn.fit at this
  simp only [Bool.and_eq_true] at this
  have h7:=fit_len this.1.1
  show s.body.size≤1000
  have:s.body.data.toList.length=s.body.size:=by simp
  omega
 have hS:(l.seen.map Se.bulk).sum≤l.seen.length * 60:=sum_le _ _ _ fun s hs=>by
  have:=List.all_eq_true.1 h6 s hs
  unfold Se.ok at this
  simp only [Bool.and_eq_true,decide_eq_true_eq] at this
  show s.ids.length≤60
  omega
 unfold Lk.bulk bulkO bulkN preO preN
 rw [List.take_length,List.take_length]
 omega
theorem push_bulk {l:Lk} {m:Ms} (h:l.ok=true) (hm:m.ok=true) (hf:m.fits):(l.push m).bulk≤100000:=by
 have h1:=ok_bulk h
 have h2:=fit_len (msg_back_fit hm hf)
 have hb:(l.sentOf m).bulk=m.bytes.length:=by
  show m.bytes.toArray.size=m.bytes.length
  simp
 have e1:bulkO (l.out ++ [l.sentOf m])=bulkO l.out+1+(l.sentOf m).bulk:=by
  unfold bulkO preO
  rw [List.take_length,List.take_length,List.map_append,List.sum_append,List.length_append]
  simp only [List.map_cons,List.map_nil,List.sum_cons,List.sum_nil,List.length_singleton]
  omega
 have e:(l.push m).bulk=l.bulk+1+m.bytes.length:=by
  show bulkO (l.out ++ [l.sentOf m])+bulkN l.seen=bulkO l.out+bulkN l.seen+1+m.bytes.length
  rw [e1,hb]
  omega
 omega
theorem send_yes {l:Lk} {m:Ms} (h:l.goes m=true):l.sendText m=⟨((l.push m).pack (l.sentOf m)).bytes.toArray⟩∧l.goes m=true∧l.send m=l.push m:=by
 unfold Lk.sendText Lk.send
 rw [h]
 exact ⟨rfl,rfl,rfl⟩
theorem ms_fitsS {w:World} {S:Nat→Prop} {v:Value} {m:Ms} (h:MsAt w S v m):m.fits:=by
 obtain ⟨kv,hv,⟨h1,h2,h3,h4,h5⟩,h6,h7,h8,a,c,h9,h10,hk⟩:=h
 refine ⟨h1,h2,h3,h4,h5,h6,h7,h8,fun z hz => ?_⟩
 obtain ⟨i,hi⟩:=List.getElem?_of_mem hz
 obtain ⟨_,_,_,_,_,_,h11⟩:=hk i z hi
 exact h11
theorem far4 {W:World} {rb b j:Nat} {u:Value} (h:W.cell? ⟨b,j,none⟩=some u) (hb:b≠rb) (x y z t:Value):((((W.setCell ⟨rb,0,none⟩ x).setCell ⟨rb,1,none⟩ y).setCell ⟨rb,2,none⟩ z).setCell ⟨rb,3,none⟩ t).cell? ⟨b,j,none⟩=some u:=by
 rw [World.cell?_setCell_far _ _ _ _ (fun e=>hb e.symm),World.cell?_setCell_far _ _ _ _ (fun e=>hb e.symm),World.cell?_setCell_far _ _ _ _ (fun e=>hb e.symm),World.cell?_setCell_far _ _ _ _ (fun e=>hb e.symm)]
 exact h
theorem sd_seven {w W:World} {l:Lk} {m:Ms} {lov lsv km:Value} {ob Bc sb:Nat} {k:Lk} {ov sv a b c:Value} {rs:List (Se×Value)} {t:TypeId} (h:SdSt w W l m lov lsv km ob Bc k ov sv rs) (hs:W.heap[sb]? = some (.cells #[a,b,c] t)):W.cell? ⟨ob,0,none⟩=some (.int .i64 k.id)∧W.cell? ⟨ob,1,none⟩=some (.int .i64 k.next)∧W.cell? ⟨ob,2,none⟩=some ov∧W.cell? ⟨ob,3,none⟩=some sv∧W.cell? ⟨sb,0,none⟩=some a∧W.cell? ⟨sb,1,none⟩=some b∧W.cell? ⟨sb,2,none⟩=some c :=
 ⟨(cell_of_block h.obx 0).trans rfl,(cell_of_block h.obx 1).trans rfl,(cell_of_block h.obx 2).trans rfl,(cell_of_block h.obx 3).trans rfl,(cell_of_block hs 0).trans rfl,(cell_of_block hs 1).trans rfl,(cell_of_block hs 2).trans rfl⟩
theorem send_no {l:Lk} {m:Ms} (h:l.goes m=false):l.sendText m=⟨#[]⟩∧l.goes m=false∧l.send m=l:=by
 unfold Lk.sendText Lk.send
 rw [h]
 exact ⟨rfl,rfl,rfl⟩
set_option maxHeartbeats 1600000 in
theorem specLinkSend_any (v vm:Value) (l:Lk) (m:Ms) (S T:Nat→Prop) (w:World) (h:LkAt w S v l) (hm:MsAt w T vm m) (hb:l.bulk≤1048576) (hk:m.cell.kids.length≤4194304) :
  Calls Tryz.prog 17 #[v,vm] w fun e w'=>∃ v' ov sv rs,e = .returned (.tuple #[v',.string (l.sendText m),.bool (l.goes m)])∧LkOwn w' w.heap.size v' (l.send m) ov sv rs∧Below w.heap.size w w':=by
 have hnot:=ex_not
 obtain ⟨oa,oc,sa,sc,rfl,-,-⟩:=h.form
 obtain ⟨ka,kc,rfl⟩:=hm.form
 obtain ⟨i0,hi,hz0,hz1,hz2⟩:=info_parts infoSent
 obtain ⟨W0,hW0⟩:∃ W0,W0=((w.alloc (.cells (l.row (.slice oa l.out.length oc) (.slice sa l.seen.length sc)) 49)).alloc (.cells (m.row (.slice ka m.cell.kids.length kc)) 67)).alloc (.cells #[.int .i64 0,.int .i64 0,.slice none 0 0,.slice none 0 0] 49):=⟨_,rfl⟩
 have B0:Below w.heap.size w W0:=by rw [hW0]; exact (((Below.refl _ w).alloc (Nat.le_refl _) _).alloc (by simp) _).alloc (by simp; omega) _
 have O0:W0.heap[w.heap.size]? = some (.cells (l.row (.slice oa l.out.length oc) (.slice sa l.seen.length sc)) 49):=by
  rw [hW0,Below.heap_alloc _ _ _ (by simp; omega),Below.heap_alloc _ _ _ (by simp)]; exact (MapKept.heap_alloc w _).1
 have O1:W0.heap[w.heap.size+1]? = some (.cells (m.row (.slice ka m.cell.kids.length kc)) 67):=by
  have:=(MapKept.heap_alloc (w.alloc (.cells (l.row (.slice oa l.out.length oc) (.slice sa l.seen.length sc)) 49)) (.cells (m.row (.slice ka m.cell.kids.length kc)) 67)).1
  rw [hW0,Below.heap_alloc _ _ _ (by simp)]
  simpa using this
 have O2:W0.heap[w.heap.size+1+1]? = some (.cells (Lk.row ⟨0,0,[],[]⟩ (.slice none 0 0) (.slice none 0 0)) 49):=by
  have:=(MapKept.heap_alloc ((w.alloc (.cells (l.row (.slice oa l.out.length oc) (.slice sa l.seen.length sc)) 49)).alloc (.cells (m.row (.slice ka m.cell.kids.length kc)) 67)) (.cells #[.int .i64 0,.int .i64 0,.slice none 0 0,.slice none 0 0] 49)).1
  rw [hW0]
  simpa using this
 have hs0:w.heap.size+3≤W0.heap.size:=lh O2
 have H0:=(show Hid (_∧_∧_∧_∧_) from ⟨B0,O0,O1,O2,hW0⟩)
 have HL:=(show Hid (_∧_) from ⟨h,hm⟩)
 clear B0 O0 O1 O2 hW0 h hm
 go_enter Tryz.func17,Tryz.ntmps17
 go_wp2_with fail
 rw [← (show W0=_ from H0.out.2.2.2.2)]
 refine (l08Copy_any _ l S _ (HL.out.1.below H0.out.1) hb).mono ?_
 rintro e w1 ⟨v1,ov1,sv1,rs1,rfl,A1,b1⟩
 have hv1:=A1.val
 obtain ⟨oa1,oc1,hov1⟩:=own_form A1.out.1
 have hrl1:rs1.length=l.seen.length:=by rw [← A1.is]; simp
 obtain ⟨n1,sa1,sc1,hn1,hsv1⟩:=own_formN A1.seen.cells
 obtain rfl:n1=l.seen.length:=by omega
 subst hov1 hsv1 hv1
 have hs1:W0.heap.size≤w1.heap.size:=b1.size
 obtain ⟨W1,hW1⟩:∃ W1,W1=w1.alloc (.cells (l.row (.slice oa1 l.out.length oc1) (.slice sa1 l.seen.length sc1)) 49):=⟨_,rfl⟩
 have bW1:Below w1.heap.size w1 W1:=by rw [hW1]; exact (Below.refl _ w1).alloc (Nat.le_refl _) _
 have M1:W1.heap[w1.heap.size]? = some (.cells (l.row (.slice oa1 l.out.length oc1) (.slice sa1 l.seen.length sc1)) 49):=by rw [hW1]; exact (MapKept.heap_alloc w1 _).1
 have b1':Below W0.heap.size W0 W1:=b1.trans (bW1.mono hs1)
 have st1:SdSt w W1 l m (.slice oa l.out.length oc) (.slice sa l.seen.length sc) (.slice ka m.cell.kids.length kc) w1.heap.size W0.heap.size l (.slice oa1 l.out.length oc1) (.slice sa1 l.seen.length sc1) rs1 :=
  ⟨H0.out.1.trans (b1'.mono (by omega)),(b1'.block _ (lh H0.out.2.1)).trans H0.out.2.1,(b1'.block _ (lh H0.out.2.2.1)).trans H0.out.2.2.1,(b1'.block _ (lh H0.out.2.2.2.1)).trans H0.out.2.2.2.1,A1.below bW1,fun b hb=>Nat.ne_of_lt (A1.own hb).2,M1,⟨hs0,hs1⟩⟩
 have Q0:=(b1.block _ (lh H0.out.2.1)).trans H0.out.2.1
 have H1:=(show Hid (_∧_) from ⟨st1,hW1⟩)
 clear st1 b1 b1' bW1 M1 hW1 A1 H0 hn1 hrl1
 obtain ⟨q0,q1,q2,q3⟩:=lbox Q0
 have hlt:w.heap.size<w1.heap.size:=by omega
 have hlt1:w.heap.size+1<w1.heap.size:=by omega
 have hlt2:w.heap.size+1+1<w1.heap.size:=by omega
 have C1:Hid (∀ wx:World,Below W1.heap.size W1 wx→Calls Tryz.prog 38 #[.agg #[.int .i64 l.id,.int .i64 l.next,.slice oa l.out.length oc,.slice sa l.seen.length sc]] wx fun e w'=>e = .returned (.bool l.ok)∧Below wx.heap.size wx w'):=fun wx hx=>specLinkOk_any _ l S wx (HL.out.1.below (H1.out.1.base.trans (hx.mono H1.out.1.base.size))) hb
 have C2:Hid (∀ wx:World,Below W1.heap.size W1 wx→Calls Tryz.prog 39 #[.agg (m.row (.slice ka m.cell.kids.length kc))] wx fun e w'=>e = .returned (.bool m.ok)∧Below wx.heap.size wx w'):=fun wx hx=>specMsgOk_any _ m T wx (HL.out.2.below (H1.out.1.base.trans (hx.mono H1.out.1.base.size))) hk
 go_wp2_with fail
 clear q0 q1 q2 q3 Q0
 rw [← (show W1=w1.alloc (.cells #[.int .i64 l.id,.int .i64 l.next,.slice oa1 l.out.length oc1,.slice sa1 l.seen.length sc1] 49) from H1.out.2)]
 refine (C1.out _ (Below.refl _ _)).mono ?_
 rintro e w2 ⟨rfl,b2⟩
 have H2:=(show Hid (_∧_) from ⟨H1.out.1.below b2,b2⟩)
 clear b2
 have hlt3:w1.heap.size<w2.heap.size:=lh H2.out.1.obx
 cases hlo:l.ok with
 | false =>
  have HN:Hid (l.sendText m=⟨#[]⟩∧l.goes m=false∧l.send m=l):=send_no (by unfold Lk.goes; rw [hlo]; rfl)
  clear hlo
  obtain ⟨c10,c11,c12,c13⟩:=lbox H2.out.1.res
  have f10:=ub H2.out.1.res 0
  have f11:=ub H2.out.1.res 1
  have f12:=ub H2.out.1.res 2
  have f13:=ub H2.out.1.res 3
  obtain ⟨p0,p1,p2,p3⟩:=lbox H2.out.1.obx
  go_wp2_with fail
  refine bodyPost_ret (v:=.tuple #[.agg (l.row (.slice oa1 l.out.length oc1) (.slice sa1 l.seen.length sc1)),.string ⟨#[]⟩,.bool false]) (by simp [results,Tryz.results17,go_sem,c10,c11,c12,c13]) rfl ?_
  obtain ⟨z1,z2⟩:=H2.out.1.fin (.int .i64 l.id) (.int .i64 l.next) (.slice oa1 l.out.length oc1) (.slice sa1 l.seen.length sc1)
  rw [HN.out.1,HN.out.2.1,HN.out.2.2]
  exact ⟨_,_,_,rs1,rfl,z1,z2⟩
 | true =>
  have hpq:∀ k,k<9→w2.cell? ⟨w.heap.size+1,k,none⟩=(m.row (.slice ka m.cell.kids.length kc))[k]? := fun k _=>cell_of_block H2.out.1.mbx k
  have m0:=(hpq 0 (by decide)).trans rfl
  have m1:=(hpq 1 (by decide)).trans rfl
  have m2:=(hpq 2 (by decide)).trans rfl
  have m3:=(hpq 3 (by decide)).trans rfl
  have m4:=(hpq 4 (by decide)).trans rfl
  have m5:=(hpq 5 (by decide)).trans rfl
  have m6:=(hpq 6 (by decide)).trans rfl
  have m7:=(hpq 7 (by decide)).trans rfl
  have m8:=(hpq 8 (by decide)).trans rfl
  clear hpq
  go_wp2_with fail
  refine (C2.out _ H2.out.2).mono ?_
  rintro e w3 ⟨rfl,b3⟩
  have H3:=(show Hid (_∧_) from ⟨H2.out.1.below b3,H2.out.2.trans (b3.mono H2.out.2.size)⟩)
  clear b3 H2 m0 m1 m2 m3 m4 m5 m6 m7 m8
  have hlt4:w1.heap.size<w3.heap.size:=lh H3.out.1.obx
  cases hmo:m.ok with
  | false =>
   have HN:Hid (l.sendText m=⟨#[]⟩∧l.goes m=false∧l.send m=l):=send_no (by unfold Lk.goes; rw [hlo,hmo]; rfl)
   clear hlo hmo
   obtain ⟨c10,c11,c12,c13⟩:=lbox H3.out.1.res
   have f10:=ub H3.out.1.res 0
   have f11:=ub H3.out.1.res 1
   have f12:=ub H3.out.1.res 2
   have f13:=ub H3.out.1.res 3
   obtain ⟨p0,p1,p2,p3⟩:=lbox H3.out.1.obx
   go_wp2_with fail
   refine bodyPost_ret (v:=.tuple #[.agg (l.row (.slice oa1 l.out.length oc1) (.slice sa1 l.seen.length sc1)),.string ⟨#[]⟩,.bool false]) (by simp [results,Tryz.results17,go_sem,c10,c11,c12,c13]) rfl ?_
   obtain ⟨z1,z2⟩:=H3.out.1.fin (.int .i64 l.id) (.int .i64 l.next) (.slice oa1 l.out.length oc1) (.slice sa1 l.seen.length sc1)
   rw [HN.out.1,HN.out.2.1,HN.out.2.2]
   exact ⟨_,_,_,rs1,rfl,z1,z2⟩
  | true =>
  have m1:w3.cell? ⟨w.heap.size+1,1,none⟩=some (.int .i64 m.frm):=(cell_of_block H3.out.1.mbx 1).trans rfl
  obtain ⟨q0,q1,q2,q3⟩:=lbox H3.out.1.lbx
  by_cases hfi:m.frm=l.id
  ·have hfb:(m.frm != l.id)=false:=by simp [hfi]
   have HK:=(show Hid (_∧_∧_) from ⟨hlo,hmo,hfi⟩)
   clear hlo hmo hfi
   have C3:Hid (∀ wx:World,Below w3.heap.size w3 wx→Calls Tryz.prog 40 #[.agg (m.row (.slice ka m.cell.kids.length kc))] wx fun e w'=>e = .returned (.string ⟨m.bytes.toArray⟩)∧Below wx.heap.size wx w'):=fun wx hx=>specPutMsg_any _ m T wx (HL.out.2.below (H3.out.1.base.trans (hx.mono H3.out.1.base.size))) hk
   have B3:=(show Hid (_∧_) from ⟨(Below.refl w3.heap.size w3).drew,((Below.refl w3.heap.size w3).alloc (Nat.le_refl _) (.cells #[.int .i64 0,.int .i64 0,.string ⟨#[]⟩] 93)).drew⟩)
   go_wp2_with fail
   clear q0 q1 q2 q3 m1
   obtain ⟨t0,t1,t2,t3,t4,t5,t6,t7,t8,t9⟩:=H3.out.1.ten
   have hap:∀ b,LkBlk (.slice oa1 l.out.length oc1) (.slice sa1 l.seen.length sc1) rs1 b→b≠w3.heap.size:=fun b hb=>Nat.ne_of_lt (H3.out.1.own.own hb).2
   go_cut [8] from 9 (fun pv wc=>∃ sb,pv = .pointer (some ⟨sb,0,none⟩)∧w1.heap.size<sb∧(∀ b,LkBlk (.slice oa1 l.out.length oc1) (.slice sa1 l.seen.length sc1) rs1 b→b≠sb)∧Hid (SdSt w wc l m (.slice oa l.out.length oc) (.slice sa l.seen.length sc) (.slice ka m.cell.kids.length kc) w1.heap.size W0.heap.size l (.slice oa1 l.out.length oc1) (.slice sa1 l.seen.length sc1) rs1∧wc.heap[sb]? = some (.cells #[.int .i64 l.next,.int .i64 m.dst,.string ⟨m.bytes.toArray⟩] 93)∧Below w3.heap.size w3 wc))
   case first =>
    go_region_held3 (fun w'=>w'.cell? ⟨w.heap.size,1,none⟩=some (.int .i64 l.next)∧w'.cell? ⟨w.heap.size+1,0,none⟩=some (.int .i64 m.kind)∧w'.cell? ⟨w.heap.size+1,1,none⟩=some (.int .i64 m.frm)∧w'.cell? ⟨w.heap.size+1,2,none⟩=some (.int .i64 m.dst)∧w'.cell? ⟨w.heap.size+1,3,none⟩=some (.int .i64 m.id)∧w'.cell? ⟨w.heap.size+1,4,none⟩=some (.int .i64 m.want)∧w'.cell? ⟨w.heap.size+1,5,none⟩=some (.int .i64 m.cell.kind)∧w'.cell? ⟨w.heap.size+1,6,none⟩=some (.int .i64 m.cell.n)∧w'.cell? ⟨w.heap.size+1,7,none⟩=some (.int .i64 m.cell.pos)∧w'.cell? ⟨w.heap.size+1,8,none⟩=some (.slice ka m.cell.kids.length kc)) (first | exact H4.out.1.ten | exact (H4.out.1.below ((Below.refl _ w4).alloc (Nat.le_refl _) _)).ten | exact (H4.out.1.set3 hlt4 hap _ _ _).ten | exact H3.out.1.ten | exact (H3.out.1.below B3.out.2).ten | go_keep) (first
     | (go_at_call 40; refine (C3.out _ B3.out.1).mono ?_; rintro e w4 ⟨rfl,b4⟩; have b34:=B3.out.1.trans (b4.mono B3.out.1.size); have H4:=(show Hid (_∧_) from ⟨H3.out.1.below b34,b34⟩); have hl4:w1.heap.size<w4.heap.size:=lh H4.out.1.obx; clear b4 b34)
     | (go_at_call 40; refine (C3.out _ B3.out.2).mono ?_; rintro e w4 ⟨rfl,b4⟩; have b34:=B3.out.2.trans (b4.mono B3.out.2.size); have Z4:=(b4.block w3.heap.size (by simp)).trans (MapKept.heap_alloc w3 (.cells #[.int .i64 0,.int .i64 0,.string ⟨#[]⟩] 93)).1; have H4:=(show Hid (_∧_∧_) from ⟨H3.out.1.below b34,b34,Z4⟩); have y0:w4.cell? ⟨w3.heap.size,0,none⟩=some (.int .i64 0):=(by rw [cell_of_block Z4]; rfl); have f0:w4.frozen? ⟨w3.heap.size,0,none⟩=false:=unfrozen_of_block Z4 0; have y1:w4.cell? ⟨w3.heap.size,1,none⟩=some (.int .i64 0):=(by rw [cell_of_block Z4]; rfl); have f1:w4.frozen? ⟨w3.heap.size,1,none⟩=false:=unfrozen_of_block Z4 1; have y2:w4.cell? ⟨w3.heap.size,2,none⟩=some (.string ⟨#[]⟩):=(by rw [cell_of_block Z4]; rfl); have f2:w4.frozen? ⟨w3.heap.size,2,none⟩=false:=unfrozen_of_block Z4 2; have hl4:w1.heap.size<w4.heap.size:=lh H4.out.1.obx; clear b4 b34 Z4))
    all_goals
     go_wp2_with fail
     go_meet
     first
      | exact ⟨_,rfl,hl4,fun b hb=>Nat.ne_of_lt (H4.out.1.own.own hb).2,H4.out.1.below ((Below.refl _ w4).alloc (Nat.le_refl _) _),(MapKept.heap_alloc w4 _).1,H4.out.2.trans (((Below.refl w4.heap.size w4).alloc (Nat.le_refl _) _).mono H4.out.2.size)⟩
      | exact ⟨_,rfl,hlt4,hap,H4.out.1.set3 hlt4 hap _ _ _,block_setCell (i:=2) (block_setCell (i:=1) (block_setCell (i:=0) H4.out.2.2 _) _) _,((H4.out.2.1.setCell (p:=⟨w3.heap.size,0,none⟩) (Nat.le_refl _) _).setCell (p:=⟨w3.heap.size,1,none⟩) (Nat.le_refl _) _).setCell (p:=⟨w3.heap.size,2,none⟩) (Nat.le_refl _) _⟩
   case rest =>
   obtain ⟨sb,rfl,hsb,hap5,H5⟩:=hcut
   clear t0 t1 t2 t3 t4 t5 t6 t7 t8 t9 C3 B3 hap
   have hfit:=H5.out.1.own.fits
   obtain ⟨p0,p1,p2,p3⟩:=lbox H5.out.1.obx
   obtain ⟨q0,q1,q2,q3⟩:=lbox H5.out.1.lbx
   have s0:wc.cell? ⟨sb,0,none⟩=some (.int .i64 l.next):=(cell_of_block H5.out.2.1 0).trans rfl
   have s1:wc.cell? ⟨sb,1,none⟩=some (.int .i64 m.dst):=(cell_of_block H5.out.2.1 1).trans rfl
   have s2:wc.cell? ⟨sb,2,none⟩=some (.string ⟨m.bytes.toArray⟩):=(cell_of_block H5.out.2.1 2).trans rfl
   have g1:=ub H5.out.1.obx 1
   have g2:=ub H5.out.1.obx 2
   have hl5:w1.heap.size<wc.heap.size:=lh H5.out.1.obx
   have hsb5:sb<wc.heap.size:=lh H5.out.2.1
   have h60:l.out.length≤60:=by
    have:=(Lk.parts HK.out.1).2.2.1
    simp at this
    omega
   have hnx:1≤l.next∧l.next≤999999:=by
    have:=(Lk.parts HK.out.1).2.1
    unfold inB at this
    simpa using this
   have hsz5:W0.heap.size≤wc.heap.size:=by have:=H5.out.1.ord; omega
   go_wp2_with (at_builtin; have HQ:=(show Hid (_∧_) from ⟨H5.out.1.below ((Below.refl _ wc).alloc (Nat.le_refl _) (.cells #[.int .i64 l.next,.int .i64 m.dst,.string ⟨m.bytes.toArray⟩] 93)),(Below.heap_alloc wc (.cells #[.int .i64 l.next,.int .i64 m.dst,.string ⟨m.bytes.toArray⟩] 93) sb hsb5).trans H5.out.2.1⟩); refine wpList_append_own_at _ rfl _ _ 46 rfl W0.heap.size 93 i0 _ 3 32 Tryz.underlying46 hi hz0 hz1 hz2 rfl (by decide) _ l.out.length _ rfl HQ.out.1.own.out.1 ⟨wc.heap.size,0,none⟩ 1 1 (snCells (l.sentOf m)) rfl rfl (cell_threeS _ _ _ _ _) (snS_ones _) (by unfold maxLen; omega) (by omega) (by simp; omega) ?_; intro v6 w6 hown6 hgrow6 hnil6 hat6; have H6:=(show Hid (_∧_∧_∧_) from ⟨hown6,hgrow6,hat6,HQ.out.1.grew hgrow6⟩); clear hown6 hgrow6 hnil6 hat6 p0 p1 p2 p3 q0 q1 q2 q3 s0 s1 s2 g1 g2; obtain ⟨a6,c6,rfl⟩:=own_form H6.out.1; obtain ⟨p0,p1,p2,p3⟩:=lbox H6.out.2.2.2.2.2.2.2; obtain ⟨q0,q1,q2,q3⟩:=lbox H6.out.2.2.2.2.1; have g1:w6.frozen? ⟨w1.heap.size,1,none⟩=false:=unfrozen_of_block H6.out.2.2.2.2.2.2.2 1; have g2:w6.frozen? ⟨w1.heap.size,2,none⟩=false:=unfrozen_of_block H6.out.2.2.2.2.2.2.2 2)
   have hmf:=ms_fitsS HL.out.2
   have hox:SnOk (l.sentOf m):=⟨hfit.2,hmf.2.2.1,by show m.bytes.toArray.size≤maxLen; have:=fit_len (msg_back_fit HK.out.2.1 hmf); unfold maxLen; rw [List.size_toArray]; omega⟩
   have st7:=HQ.out.1.pushed (x:=l.sentOf m) (n':=l.next+1) H6.out.2.1 H6.out.1 H6.out.2.2.1 hox ⟨by omega,by omega⟩
   have hsb6:w6.heap[sb]? = some (.cells #[.int .i64 l.next,.int .i64 m.dst,.string ⟨m.bytes.toArray⟩] 93):=(H6.out.2.1.block sb (lh HQ.out.2) (fun e=>hap5 sb (.inl e.symm) rfl)).trans HQ.out.2
   have hsb7:((w6.setCell ⟨w1.heap.size,2,none⟩ (.slice a6 (l.out.length+1) c6)).setCell ⟨w1.heap.size,1,none⟩ (.int .i64 (l.next+1))).heap[sb]? = some (.cells #[.int .i64 l.next,.int .i64 m.dst,.string ⟨m.bytes.toArray⟩] 93):=by
    rw [Below.heap_setCell _ _ _ _ (by show sb≠w1.heap.size; omega),Below.heap_setCell _ _ _ _ (by show sb≠w1.heap.size; omega)]
    exact hsb6
   have H7:=(show Hid (_∧_) from ⟨st7,hsb7⟩)
   clear hsb6 hsb7
   clear p0 p1 p2 p3 q0 q1 q2 q3 g1 g2 st7
   generalize (w6.setCell ⟨w1.heap.size,2,none⟩ (.slice a6 (l.out.length+1) c6)).setCell ⟨w1.heap.size,1,none⟩ (.int .i64 (l.next+1))=w7 at *
   refine (specLinkOk_any _ (l.push m) _ w7 H7.out.1.own.at (by have:=push_bulk HK.out.1 HK.out.2.1 hmf; omega)).mono ?_
   rintro e w8 ⟨rfl,b8⟩
   have H8:=(show Hid (_∧_∧_) from ⟨H7.out.1.below b8,goes_is HK.out.1 HK.out.2.1 hmf HK.out.2.2,(b8.block _ (lh H7.out.2)).trans H7.out.2⟩)
   cases hpo:(l.push m).ok with
   | false =>
    have HN:Hid (l.sendText m=⟨#[]⟩∧l.goes m=false∧l.send m=l):=send_no (H8.out.2.1.trans hpo)
    clear hpo b8
    obtain ⟨q0,q1,q2,q3⟩:=lbox H8.out.1.lbx
    go_wp2_with fail
    refine (l08Copy_any _ l S w8 (HL.out.1.below H8.out.1.base) hb).mono ?_
    rintro e w9 ⟨v9,ov9,sv9,rs9,rfl,A9,b9⟩
    have R9:=(b9.block _ (lh H8.out.1.res)).trans H8.out.1.res
    have hv9:=A9.val
    obtain ⟨oa9,oc9,hov9⟩:=own_form A9.out.1
    obtain ⟨n9,sa9,sc9,hn9,hsv9⟩:=own_formN A9.seen.cells
    subst hov9 hsv9 hv9
    have hr8:w.heap.size+1+1<w8.heap.size:=lh H8.out.1.res
    have H9:=(show Hid (_∧_∧_) from ⟨A9,H8.out.1.base.trans (b9.mono H8.out.1.base.size),R9⟩)
    clear A9 b9 q0 q1 q2 q3 hn9
    obtain ⟨c10,c11,c12,c13⟩:=lbox H9.out.2.2
    have f10:=ub H9.out.2.2 0
    have f11:=ub H9.out.2.2 1
    have f12:=ub H9.out.2.2 2
    have f13:=ub H9.out.2.2 3
    clear R9
    go_wp2_with fail
    refine bodyPost_ret (v:=.tuple #[.agg #[.int .i64 l.id,.int .i64 l.next,.slice oa9 l.out.length oc9,.slice sa9 n9 sc9],.string ⟨#[]⟩,.bool false]) (by simp [results,Tryz.results17,go_sem,c10,c11,c12,c13]) rfl ?_
    rw [HN.out.1,HN.out.2.1,HN.out.2.2]
    exact ⟨_,_,_,rs9,rfl,own_set4 H9.out.1 (by omega) (by omega) _ _ _ _,below_set4 H9.out.2.1 (by omega) _ _ _ _⟩
   | true =>
    have HY:Hid (l.sendText m=⟨((l.push m).pack (l.sentOf m)).bytes.toArray⟩∧l.goes m=true∧l.send m=l.push m):=send_yes (H8.out.2.1.trans hpo)
    clear hpo b8 H7 H6 HQ
    have hkeep:Hid (∀ wx:World,Below w8.heap.size w8 wx→wx.cell? ⟨w1.heap.size,0,none⟩=some (.int .i64 l.id)∧wx.cell? ⟨w1.heap.size,1,none⟩=some (.int .i64 (l.next+1))∧wx.cell? ⟨w1.heap.size,2,none⟩=some (.slice a6 (l.out.length+1) c6)∧wx.cell? ⟨w1.heap.size,3,none⟩=some (.slice sa1 l.seen.length sc1)∧wx.cell? ⟨sb,0,none⟩=some (.int .i64 l.next)∧wx.cell? ⟨sb,1,none⟩=some (.int .i64 m.dst)∧wx.cell? ⟨sb,2,none⟩=some (.string ⟨m.bytes.toArray⟩)):=fun wx hx=>sd_seven (H8.out.1.below hx) ((hx.block _ (lh H8.out.2.2)).trans H8.out.2.2)
    have B8:=(show Hid (Below w8.heap.size w8 w8.drew) from (Below.refl _ w8).drew)
    obtain ⟨t0,t1,t2,t3,t4,t5,t6⟩:=hkeep.out w8 (Below.refl _ _)
    have hne1:w1.heap.size≠w.heap.size+1+1:=by omega
    have hne2:sb≠w.heap.size+1+1:=by omega
    go_wp2_with fail
    go_region_held3 (fun w'=>w'.cell? ⟨w1.heap.size,0,none⟩=some (.int .i64 l.id)∧w'.cell? ⟨w1.heap.size,1,none⟩=some (.int .i64 (l.next+1))∧w'.cell? ⟨w1.heap.size,2,none⟩=some (.slice a6 (l.out.length+1) c6)∧w'.cell? ⟨w1.heap.size,3,none⟩=some (.slice sa1 l.seen.length sc1)∧w'.cell? ⟨sb,0,none⟩=some (.int .i64 l.next)∧w'.cell? ⟨sb,1,none⟩=some (.int .i64 m.dst)∧w'.cell? ⟨sb,2,none⟩=some (.string ⟨m.bytes.toArray⟩)) (first | exact hkeep.out _ B9.out | exact hkeep.out _ (Below.refl _ _) | (have X:=hkeep.out _ B9.out; exact ⟨far4 X.1 hne1 _ _ _ _,far4 X.2.1 hne1 _ _ _ _,far4 X.2.2.1 hne1 _ _ _ _,far4 X.2.2.2.1 hne1 _ _ _ _,far4 X.2.2.2.2.1 hne2 _ _ _ _,far4 X.2.2.2.2.2.1 hne2 _ _ _ _,far4 X.2.2.2.2.2.2 hne2 _ _ _ _⟩) | go_keep) (first
     | (go_at_call 41; refine (l08Pack_any _ (l.push m) (l.sentOf m) _ _ (H8.out.1.below B8.out).own.at ⟨hfit.2,hmf.2.2.1⟩ (by show m.bytes.toArray.size≤_; have:=fit_len (msg_back_fit HK.out.2.1 hmf); rw [List.size_toArray]; omega)).mono ?_; rintro e w9 ⟨rfl,b9⟩; have B9:=(show Hid (Below w8.heap.size w8 w9) from B8.out.trans (b9.mono B8.out.size)); have H9:=(show Hid (_∧True) from ⟨H8.out.1.below B9.out,trivial⟩); obtain ⟨c10,c11,c12,c13⟩:=lbox H9.out.1.res; have f10:w9.frozen? ⟨w.heap.size+1+1,0,none⟩=false:=unfrozen_of_block H9.out.1.res 0; have f11:w9.frozen? ⟨w.heap.size+1+1,1,none⟩=false:=unfrozen_of_block H9.out.1.res 1; have f12:w9.frozen? ⟨w.heap.size+1+1,2,none⟩=false:=unfrozen_of_block H9.out.1.res 2; have f13:w9.frozen? ⟨w.heap.size+1+1,3,none⟩=false:=unfrozen_of_block H9.out.1.res 3; clear b9))
    all_goals
     go_wp2_with fail
     refine bodyPost_ret (v:=.tuple #[.agg #[.int .i64 l.id,.int .i64 (l.next+1),.slice a6 (l.out.length+1) c6,.slice sa1 l.seen.length sc1],.string ⟨((l.push m).pack (l.sentOf m)).bytes.toArray⟩,.bool true]) (by simp [results,Tryz.results17,go_sem,c10,c11,c12,c13]) rfl ?_
     rw [HY.out.1,HY.out.2.1,HY.out.2.2]
     obtain ⟨z1,z2⟩:=H9.out.1.fin (.int .i64 l.id) (.int .i64 (l.next+1)) (.slice a6 (l.out.length+1) c6) (.slice sa1 l.seen.length sc1)
     exact ⟨_,_,_,rs1,rfl,z1,z2⟩
  ·have hfb:(m.frm != l.id)=true:=by simp [hfi]
   have HN:Hid (l.sendText m=⟨#[]⟩∧l.goes m=false∧l.send m=l):=send_no (by unfold Lk.goes ownB; rw [hlo,hmo,show (m.frm == l.id)=false by simp [hfi]]; rfl)
   clear hlo hmo hfi
   obtain ⟨c10,c11,c12,c13⟩:=lbox H3.out.1.res
   have f10:=ub H3.out.1.res 0
   have f11:=ub H3.out.1.res 1
   have f12:=ub H3.out.1.res 2
   have f13:=ub H3.out.1.res 3
   obtain ⟨p0,p1,p2,p3⟩:=lbox H3.out.1.obx
   go_wp2_with fail
   refine bodyPost_ret (v:=.tuple #[.agg (l.row (.slice oa1 l.out.length oc1) (.slice sa1 l.seen.length sc1)),.string ⟨#[]⟩,.bool false]) (by simp [results,Tryz.results17,go_sem,c10,c11,c12,c13]) rfl ?_
   obtain ⟨z1,z2⟩:=H3.out.1.fin (.int .i64 l.id) (.int .i64 l.next) (.slice oa1 l.out.length oc1) (.slice sa1 l.seen.length sc1)
   rw [HN.out.1,HN.out.2.1,HN.out.2.2]
   exact ⟨_,_,_,rs1,rfl,z1,z2⟩
end Go.Proofs.YtmmadoabejgffaaGreatDoor
