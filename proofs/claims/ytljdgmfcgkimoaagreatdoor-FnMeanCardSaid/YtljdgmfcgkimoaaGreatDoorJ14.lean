/-
  Proofs.
  Proofs.
  Proofs.
-/
import Derived.Test.YtljdgmfcgkimoaaGreatDoorJ1
import Derived.Test.YtljdgmfcgkimoaaGreatDoorJ5
import Derived.Test.YtljdgmfcgkimoaaGreatDoorSpecExp
import Derived.Test.YtljdgmfcgkimoaaGreatDoorSpecLam
import Derived.Test.YtljdgmfcgkimoaaGreatDoorJ8
import Derived.Test.YtljdgmfcgkimoaaGreatDoorSpecCase
import Derived.Test.YtljdgmfcgkimoaaGreatDoorSpecOps0
import Derived.Test.YtljdgmfcgkimoaaGreatDoorSpecOps1
import Derived.Test.YtljdgmfcgkimoaaGreatDoorSpecOps2
import Derived.Test.YtljdgmfcgkimoaaGreatDoorSpecApps
import Derived.Test.YtljdgmfcgkimoaaGreatDoorJ3
namespace Go.Proofs.YtljdgmfcgkimoaaGreatDoor
open Go.RowKit Go.Joins Go.Shelf
set_option maxRecDepth 100000
theorem ex_build1 {n:Int} (e:Operand→Value) (o:Oper) {x:Operand} (ho:o.op = .build 52 #[(1,x)]) (hx:e x = .int .i64 n) (w:World):(execOp e o).run Tryz.prog w = .ok (.value (.agg #[.int .i64 0,.int .i64 n,.string ⟨#[]⟩,.slice none 0 0])) w:=by
 unfold execOp
 rw [ho]
 simp only [List.map_toArray,List.map_cons,List.map_nil,hx,Sem.run_bind,show (Instr.build 52 #[(1,.int .i64 n)]).run Tryz.prog w = .ok (.agg #[.int .i64 0,.int .i64 n,.string ⟨#[]⟩,.slice none 0 0]) w from by kernel_rfl,Result.andThen_ok,Sem.run_pure]
set_option maxHeartbeats 1600000 in
theorem atom_of (q:Ps) (m:Nat) (hE:CC 41 q m 0):CC 104 q (m+1) 0:=by
 intro i bad lost V ss w h hm hs hl
 have hq:=h.lt
 obtain ⟨W1,hW1⟩:∃ W1,W1=w.alloc (.cells zeroE 52):=⟨_,rfl⟩
 have b1:Below w.heap.size w W1:=by rw [hW1]; exact (Below.refl _ w).alloc (Nat.le_refl _) _
 have z1:W1.heap.size=w.heap.size+1:=by rw [hW1]; simp
 have x1:W1.heap[w.heap.size]? = some (.cells zeroE 52):=by rw [hW1]; exact block_new w _
 have hs1:=hs.below b1
 have h1:=h.below b1
 have HC:=(show Hid (KB (· = q.P) w W1∧ParAt q W1 i bad lost∧PsAt W1 q.P V ss∧W1.heap.size=w.heap.size+1∧W1.heap[w.heap.size]? = some (.cells zeroE 52)) from ⟨KB.of_below b1,h1,hs1,z1,x1⟩)
 have HS:=(show Hid (PsAt w q.P V ss) from hs)
 have H0:=(show Hid (ParAt q w i bad lost∧q.n - i<m+1∧ss.length+0+6 * (q.n - i)≤20000∧q.P<w.heap.size) from ⟨h,hm,hl,hq⟩)
 clear h hm hs hl hq b1 z1 x1 hs1 h1
 go_enter Tryz.func104,Tryz.ntmps104
 refine wp_seq_k (fun K hK => ?_)
 refine wp_region_list ?_
 refine wpl_run rfl (.pointer (some ⟨w.heap.size,0,none⟩)) W1 (by rw [hW1]; exact ex_allocE _ _ rfl w) ?_
 simp only [Act.put,List.setIfInBounds_toArray,List.set_cons_zero,List.set_cons_succ]
 refine wpList_nil ?_
 refine hK _ _ ?_
 clear hK K hW1
 have HE:=(show Hid (CC 41 q m 0) from hE)
 clear hE
 have B0:=(show Hid (Br q w i bad W1 i bad lost) from ⟨HC.out.1,Nat.le_refl _,fun e=>e,HC.out.2.1,HC.out.2.2.2.2⟩)
 clear HC
 go_wp2_with fail
 refine (kind_any q W1 i bad lost _ B0.out.st).mono ?_
 rintro r w2 ⟨b2,c,rfl,hc⟩
 have B2:=(show Hid (Br q w i bad w2 i bad lost) from B0.out.on H0.out.2.2.2 (KB.of_below b2) (Nat.le_refl _) (fun e=>e) (B0.out.st.below b2))
 clear b2 B0
 cases c with
 | true =>
  obtain ⟨rfl,hi⟩:=hc rfl
  have h1:=B2.out.st
  have hk:KB (· = q.P) w2 (w2.setCell ⟨q.P,1,none⟩ (.int .i64 ((i:Int)+1))):=kb_cell _ _ _ _
  have h2:ParAt q (w2.setCell ⟨q.P,1,none⟩ (.int .i64 ((i:Int)+1))) (i+1) false lost:=h1.on hk (block_setCell (i:=1) h1.1 _) hi
  obtain ⟨c0,c1,-,-,-,f0⟩:=h1.cells
  have f1:=f0 1
  have hi9:i<2000:=by obtain ⟨_,_,_,h9⟩:=h1.word; omega
  obtain ⟨W3,hW3⟩:∃ W3,W3=w2.setCell ⟨q.P,1,none⟩ (.int .i64 ((i:Int)+1)):=⟨_,rfl⟩
  rw [← hW3] at hk h2
  obtain ⟨d0,d1,-,-,-,-⟩:=h2.cells
  have B3:=(show Hid (Br q w i false W3 (i+1) false lost) from B2.out.on H0.out.2.2.2 hk (Nat.le_succ _) (fun e=>e) h2)
  obtain ⟨a,cap,hV,hn,hcw⟩:=H0.out.1.2.2.1
  obtain ⟨b,off,k,tx,z,l,rfl,hb,hlt,e0,e1,e2,e3,r1,r2⟩:=hcw i hi
  rw [hV] at d0 c0
  have e2':=(World.cell?_of_block (B3.out.kb.block b hlt hb)).trans e2
  have HV:=(show Hid (inI64 z∧W3=w2.setCell ⟨q.P,1,none⟩ (.int .i64 ((i:Int)+1))∧b≠w.heap.size) from ⟨r2,hW3,Nat.ne_of_lt hlt⟩)
  have hin:((i:Nat):Int)<((q.n:Nat):Int):=by omega
  have HD:=(show Hid (_∧_∧_) from ⟨d0,d1,e2'⟩)
  have HI:=(show Hid (i<2000) from hi9)
  clear hb h1 f0 hcw e0 e1 e2 e3 e2' hV hk h2 r1 r2 B2 hc d0 d1 hlt hn c0
  go_upto_region 3 with fail
  rw [← HV.out.2.1]
  clear hW3
  refine wp_region_held_drew (S:=fun Wq=>Wq.cell? ⟨q.P,0,none⟩=some (.slice (some ⟨b,off,none⟩) q.n cap)∧Wq.cell? ⟨q.P,1,none⟩=some (.int .i64 ((i+1:Nat):Int))∧Wq.cell? ⟨b,off+i * 4+2,none⟩=some (.int .i64 z)) (by kernel_rfl) HD.out (fun hS => ?_)
  have bd0:Below W3.heap.size W3 W3.drew:=⟨rfl,rfl,rfl,Nat.le_refl _,fun _ _=>rfl⟩
  generalize W3.drew=W4 at bd0 hS ⊢
  have hwr:IntKind.i64.wrap ((i:Nat):Int)=(i:Int):=by have:=HI.out; rw [IntKind.wrap_i64]; omega
  refine wpAnyH_take (i:=0) (v:=.pointer (some ⟨q.P,0,none⟩)) rfl (by kernel_rfl) (by kernel_rfl) (by kernel_rfl) (fun _ _ _ h=>h) (Or.inl ⟨by rfl,fun wq hSw => ?_⟩) hS ?_
  ·exact ex_move _ _ _ _ rfl (by rfl) _
  simp only [Act.put,lsk]
  refine wpAnyH_take (i:=1) (v:=.pointer (some ⟨q.P,0,none⟩)) rfl (by kernel_rfl) (by kernel_rfl) (by kernel_rfl) (fun _ _ _ h=>h) (Or.inl ⟨by rfl,fun wq hSw => ?_⟩) hS ?_
  ·simp [execOp,Act.eval,go_sem]
  simp only [Act.put,lsk]
  refine wpAnyH_take (i:=2) (v:=.pointer (some ⟨q.P,0,none⟩)) rfl (by kernel_rfl) (by kernel_rfl) (by kernel_rfl) (fun _ _ _ h=>h) (Or.inl ⟨by rfl,fun wq hSw => ?_⟩) hS ?_
  ·simp [execOp,Act.eval,go_sem]
  simp only [Act.put,lsk]
  refine wpAnyH_take (i:=3) (v:=.slice (some ⟨b,off,none⟩) q.n cap) rfl (by kernel_rfl) (by kernel_rfl) (by kernel_rfl) (fun _ _ _ h=>h) (Or.inl ⟨by rfl,fun wq hSw => ?_⟩) hS ?_
  ·simp [execOp,Act.eval,go_sem,hSw.1]
  simp only [Act.put,lsk]
  refine wpAnyH_take (i:=4) (v:=.pointer (some ⟨q.P,0,none⟩)) rfl (by kernel_rfl) (by kernel_rfl) (by kernel_rfl) (fun _ _ _ h=>h) (Or.inl ⟨by rfl,fun wq hSw => ?_⟩) hS ?_
  ·exact ex_move _ _ _ _ rfl (by rfl) _
  simp only [Act.put,lsk]
  refine wpAnyH_take (i:=5) (v:=.pointer (some ⟨q.P,0,none⟩)) rfl (by kernel_rfl) (by kernel_rfl) (by kernel_rfl) (fun _ _ _ h=>h) (Or.inl ⟨by rfl,fun wq hSw => ?_⟩) hS ?_
  ·simp [execOp,Act.eval,go_sem]
  simp only [Act.put,lsk]
  refine wpAnyH_take (i:=6) (v:=.pointer (some ⟨q.P,1,none⟩)) rfl (by kernel_rfl) (by kernel_rfl) (by kernel_rfl) (fun _ _ _ h=>h) (Or.inl ⟨by rfl,fun wq hSw => ?_⟩) hS ?_
  ·simp [execOp,Act.eval,go_sem]
  simp only [Act.put,lsk]
  refine wpAnyH_take (i:=7) (v:=.int .i64 ((i+1:Nat):Int)) rfl (by kernel_rfl) (by kernel_rfl) (by kernel_rfl) (fun _ _ _ h=>h) (Or.inl ⟨by rfl,fun wq hSw => ?_⟩) hS ?_
  ·simp [execOp,Act.eval,go_sem,hSw.2.1]
  simp only [Act.put,lsk]
  refine wpAnyH_take (i:=8) (v:=.int .i64 (i:Int)) rfl (by kernel_rfl) (by kernel_rfl) (by kernel_rfl) (fun _ _ _ h=>h) (Or.inl ⟨by rfl,fun wq hSw => ?_⟩) hS ?_
  ·simp [execOp,Act.eval,go_sem,hwr]
  simp only [Act.put,lsk]
  refine wpAnyH_take (i:=9) (v:=.pointer (some ⟨b,off+i * 4,none⟩)) rfl (by kernel_rfl) (by kernel_rfl) (by kernel_rfl) (fun _ _ _ h=>h) (Or.inl ⟨by rfl,fun wq hSw => ?_⟩) hS ?_
  ·simp [execOp,Act.eval,go_sem,hin]
  simp only [Act.put,lsk]
  refine wpAnyH_take (i:=10) (v:=.pointer (some ⟨b,off+i * 4+2,none⟩)) rfl (by kernel_rfl) (by kernel_rfl) (by kernel_rfl) (fun _ _ _ h=>h) (Or.inl ⟨by rfl,fun wq hSw => ?_⟩) hS ?_
  ·simp [execOp,Act.eval,go_sem]
  simp only [Act.put,lsk]
  refine wpAnyH_take (i:=11) (v:=.int .i64 z) rfl (by kernel_rfl) (by kernel_rfl) (by kernel_rfl) (fun _ _ _ h=>h) (Or.inl ⟨by rfl,fun wq hSw => ?_⟩) hS ?_
  ·simp [execOp,Act.eval,go_sem,hSw.2.2]
  simp only [Act.put,lsk]
  refine wpAnyH_take (i:=12) (v:=.agg #[.int .i64 0,.int .i64 z,.string ⟨#[]⟩,.slice none 0 0]) rfl (by kernel_rfl) (by kernel_rfl) (by kernel_rfl) (fun _ _ _ h=>h) (Or.inl ⟨by rfl,fun wq hSw => ?_⟩) hS ?_
  ·exact ex_build1 _ _ rfl (by rfl) _
  simp only [Act.put,lsk]
  refine wpAnyH_ready (rs:=[13]) (by kernel_rfl) (by simp) ?_
  refine AllReadyH.cons rfl (fun K hK => ?_) AllReadyH.nil
  have fv:EV (fun b=>w.heap.size+1≤b) W4 (.agg #[.int .i64 0,.int .i64 z,.string ⟨#[]⟩,.slice none 0 0]):=EV.leaf _ _ ⟨by omega,by omega⟩ HV.out.1 (Nat.zero_le _)
  have B4:=B3.out.on H0.out.2.2.2 (KB.of_below bd0) (Nat.le_refl _) (fun e=>e) (B3.out.st.below bd0)
  refine step_skip rfl (W4.setRow w.heap.size (cellsV (.agg #[.int .i64 0,.int .i64 z,.string ⟨#[]⟩,.slice none 0 0]))) (ex_storeE _ _ (.tmp 4) (.tmp 28) w.heap.size _ _ _ rfl (by rfl) (by rfl) W4 B4.bx0 rfl fv.agg.2.1 fv.agg.2.2.1) ?_
  have fin:=fin_box (v:=.agg #[.int .i64 0,.int .i64 z,.string ⟨#[]⟩,.slice none 0 0]) H0.out.1 ⟨B4.kb,_,_,_,B4.il,B4.bm,(.inl (Nat.lt_succ_self _)),B4.st⟩ fv B4.bx0
  have hne:q.P≠w.heap.size:=by have:=H0.out.2.2.2; omega
  have hcell:∀ (b' o':Nat) u,b'≠w.heap.size→W4.cell? ⟨b',o',none⟩=some u→(W4.setRow w.heap.size (cellsV (.agg #[.int .i64 0,.int .i64 z,.string ⟨#[]⟩,.slice none 0 0]))).cell? ⟨b',o',none⟩=some u:=fun b' o' u hne hc=>(World.cell?_of_block (setRow_other W4 _ _ _ hne)).trans hc
  refine hK _ _ ⟨hcell _ _ _ hne hS.1,hcell _ _ _ hne hS.2.1,hcell _ _ _ HV.out.2.2 hS.2.2⟩ (fun _ => ?_)
  clear hK K
  simp only [Act.put,List.getElem_toArray,List.getElem_cons_zero,List.getElem_cons_succ]
  refine wpAnyH_done (by kernel_rfl) ?_ _
  have HF:=(show Hid (_∧_∧_) from fin)
  clear fin hcell hne fv B4 hS
  generalize W4.setRow w.heap.size (cellsV (.agg #[.int .i64 0,.int .i64 z,.string ⟨#[]⟩,.slice none 0 0]))=WF at HF ⊢
  clear HV HD B3 HE
  go_wp2
  refine bodyPost_ret (results_cell_row (p:=4) (ty:=52) rfl _ WF w.heap.size _ _ (0,0) _ rfl HF.out.2.2 Tryz.underlying52 rfl (by exact sizeE)) rfl ?_
  exact ⟨_,rfl,HF.out.1,HF.out.2.1⟩
 | false =>
  clear hc
  go_wp2_with fail
  refine (kind_any q w2 i bad lost _ B2.out.st).mono ?_
  rintro r w3 ⟨b3,c,rfl,hc⟩
  have B3:=(show Hid (Br q w i bad w3 i bad lost) from B2.out.on H0.out.2.2.2 (KB.of_below b3) (Nat.le_refl _) (fun e=>e) (B2.out.st.below b3))
  clear b3 B2
  cases c with
  | true =>
   clear hc
   go_upto_region 5 with fail
   obtain ⟨kb1,il1,bm1,h1,bx1⟩:=B3.out
   obtain ⟨h0,hm,hl,hq⟩:=H0.out
   have sc1:=HS.out.kb kb1
   have hp1:¬ (fun b:Nat=>w.heap.size+1≤b) q.P:=fun hx=>by have hx':w.heap.size+1≤q.P:=hx; omega
   have zw:w.heap.size+1≤w3.heap.size:=by have:=lh bx1; omega
   refine wp_region_list ?_
   refine wpl_run rfl (.pointer (some ⟨q.P,0,none⟩)) w3 (ex_move _ _ _ _ rfl (by rfl) _) ?_
   simp only [Act.put,List.setIfInBounds_toArray,List.set_cons_zero,List.set_cons_succ]
   refine wpl_run rfl (V) w3 (ex_move _ _ _ _ rfl (by rfl) _) ?_
   simp only [Act.put,List.setIfInBounds_toArray,List.set_cons_zero,List.set_cons_succ]
   refine wpl_run rfl (.pointer (some ⟨q.P,0,none⟩)) w3 (ex_move _ _ _ _ rfl (by rfl) _) ?_
   simp only [Act.put,List.setIfInBounds_toArray,List.set_cons_zero,List.set_cons_succ]
   refine wpl_call1 rfl 38 (.tmp 34) _ rfl ent_name (.pointer (some ⟨q.P,0,none⟩)) (by rfl) (fun r w'=>∃ t:ByteArray,r = .string t∧t.size≤1048576∧AftS q w3 w' i bad) ((name_any q w3 i bad lost h1).mono (fun e w' ⟨t,he,hh⟩=>⟨_,he,t,rfl,hh⟩)) ?_
   rintro r W21 ⟨t21,rfl,ht21,k21,i21,bad21,lost21,hi21,hb21,hs21,h21⟩
   simp only [Act.put,List.setIfInBounds_toArray,List.set_cons_zero,List.set_cons_succ]
   have il21:i≤i21:=Nat.le_trans il1 hi21
   have st21:i<i21∨bad21=true:=st_new il1 hs21
   have bm21:bad=true→bad21=true:=fun e=>hb21 (bm1 e)
   have kb21:=kb1.trans k21
   have z21:=(k21).size
   have sc_1:PsAt W21 q.P (V) (ss):=sc1.kb k21
   have bx_2:W21.heap[w.heap.size]? = some (.cells (zeroE) 52):=(k21).heap bx1 (by show ¬ _=_; omega)
   refine wpl_call3 rfl 73 (.tmp 32) (.tmp 33) (.tmp 35) _ rfl ent_var (.pointer (some ⟨q.P,0,none⟩)) (V) (.string t21) (by rfl) (by rfl) (by rfl) (fun r w'=>EV (fun b=>W21.heap.size≤b) w' r∧PAft q W21 w' i21 bad21) ((var_any q i21 bad21 lost21 V ss t21 W21 h21 sc_1 (by omega)).mono (fun e w' ⟨v,he,hh⟩=>⟨v,he,hh⟩)) ?_
   rintro v22 W22 ⟨e22,k22,i22,bad22,lost22,hi22,hb22,h22⟩
   simp only [Act.put,List.setIfInBounds_toArray,List.set_cons_zero,List.set_cons_succ]
   have il22:i≤i22:=Nat.le_trans il21 hi22
   have st22:i<i22∨bad22=true:=st_on st21 hi22 hb22
   have bm22:bad=true→bad22=true:=fun e=>hb22 (bm21 e)
   have kb22:=kb21.trans k22
   have z22:=(k22).size
   have sc_3:PsAt W22 q.P (V) (ss):=sc_1.kb k22
   have bx_4:W22.heap[w.heap.size]? = some (.cells (zeroE) 52):=(k22).heap bx_2 (by show ¬ _=_; omega)
   have f22:EV (fun b=>w.heap.size+1≤b) W22 v22:=e22.wide (fun b hb _=>by have hb':W21.heap.size≤b:=hb; have:=kb22.size; show w.heap.size+1≤b; have:=z21; omega)
   refine wpl_skip rfl (W22.setRow w.heap.size (cellsV v22)) (ex_storeE _ _ (.tmp 4) (.tmp 36) w.heap.size _ _ _ rfl (by rfl) ((show _=v22 from (by rfl)).trans f22.agg.1) W22 bx_4 rfl f22.agg.2.1 f22.agg.2.2.1) ?_
   simp only [Act.put]
   refine wpList_nil ?_
   have HF:=(show Hid (_∧_∧_) from fin_box (v:=v22) h0 ⟨kb22,i22,bad22,lost22,il22,bm22,st22,h22⟩ f22 bx_4)
   have HE2:=(show Hid (_∧_) from ⟨f22.agg.1,f22.agg.2.1⟩)
   generalize W22.setRow w.heap.size (cellsV v22)=WF at HF ⊢
   clear H0 HS HE
   go_wp2
   refine bodyPost_ret (results_cell_row (p:=4) (ty:=52) rfl _ WF w.heap.size _ _ (0,0) _ rfl HF.out.2.2 Tryz.underlying52 rfl (by rw [HE2.out.2]; exact sizeE)) rfl ?_
   exact ⟨v22,congrArg Ending.returned HE2.out.1.symm,HF.out.1,HF.out.2.1⟩
  | false =>
   clear hc
   go_wp2_with fail
   refine (may_any q w3 i bad lost ⟨#[91,93]⟩ B3.out.st).mono ?_
   rintro r w4 ⟨c,rfl,⟨k4,hc⟩⟩
   rcases hc with ⟨rfl,h4⟩ | ⟨rfl,hbf,hlt,h4⟩
   ·have B4:=(show Hid (Br q w i bad w4 i bad lost) from B3.out.on H0.out.2.2.2 k4 (Nat.le_refl _) (fun e=>e) h4)
    clear k4 h4 B3
    go_wp2_with fail
    refine (may_any q w4 i bad lost ⟨#[40]⟩ B4.out.st).mono ?_
    rintro r w5 ⟨c,rfl,⟨k5,hc⟩⟩
    rcases hc with ⟨rfl,h5⟩ | ⟨rfl,hbf,hlt,h5⟩
    ·have B5:=B4.out.on H0.out.2.2.2 k5 (Nat.le_refl _) (fun e=>e) h5
     have kp:KB (· = q.P) w5 (w5.setCell ⟨q.P,2,none⟩ (.bool true)):=kb_cell _ _ _ _
     have p6:ParAt q (w5.setCell ⟨q.P,2,none⟩ (.bool true)) i true lost:=h5.on kp (block_setCell (i:=2) h5.1 _) h5.2.1
     have B6:=B5.on H0.out.2.2.2 kp (Nat.le_refl _) (fun _=>rfl) p6
     have f2:=h5.cells.2.2.2.2.2 2
     have hd:=h5.cells.2.2.1
     have x5:=B5.bx0
     have u0:w5.cell? ⟨w.heap.size,0,none⟩=some (.int .i64 0):=(by rw [cell_of_block (show w5.heap[w.heap.size]? = some (.cells #[.int .i64 0,.int .i64 0,.string ⟨#[]⟩,.slice none 0 0] 52) from x5)]; rfl)
     have u1:w5.cell? ⟨w.heap.size,1,none⟩=some (.int .i64 0):=(by rw [cell_of_block (show w5.heap[w.heap.size]? = some (.cells #[.int .i64 0,.int .i64 0,.string ⟨#[]⟩,.slice none 0 0] 52) from x5)]; rfl)
     have u2:w5.cell? ⟨w.heap.size,2,none⟩=some (.string ⟨#[]⟩):=(by rw [cell_of_block (show w5.heap[w.heap.size]? = some (.cells #[.int .i64 0,.int .i64 0,.string ⟨#[]⟩,.slice none 0 0] 52) from x5)]; rfl)
     have u3:w5.cell? ⟨w.heap.size,3,none⟩=some (.slice none 0 0):=(by rw [cell_of_block (show w5.heap[w.heap.size]? = some (.cells #[.int .i64 0,.int .i64 0,.string ⟨#[]⟩,.slice none 0 0] 52) from x5)]; rfl)
     have uf0:=ubk x5 0
     have uf1:=ubk x5 1
     have uf2:=ubk x5 2
     have uf3:=ubk x5 3
     have hne:¬ w.heap.size=q.P:=by have:=H0.out.2.2.2; omega
     have hne':¬ q.P=w.heap.size:=fun e=>hne e.symm
     have v0:∀ o,(w5.setCell ⟨q.P,2,none⟩ (.bool true)).cell? ⟨w.heap.size,o,none⟩=w5.cell? ⟨w.heap.size,o,none⟩:=fun o=>World.cell?_of_block (kp.block _ (lh x5) hne)
     have HA:=(show Hid (AftS q w (w5.setCell ⟨q.P,2,none⟩ (.bool true)) i bad) from ⟨B6.kb,i,true,lost,Nat.le_refl _,fun _=>rfl,.inr rfl,p6⟩)
     clear B4 B5 B6 kp p6 x5 h5 k5 HE HS
     go_wp2_with fail
     refine bodyPost_ret (v:=.agg #[.int .i64 0,.int .i64 0,.string ⟨#[]⟩,.slice none 0 0]) (by simp [results,Tryz.results104,go_sem,u0,u1,u2,u3]) rfl ?_
     exact ⟨_,rfl,fin4 H0.out.1 HA.out (EV.leaf _ _ ⟨by omega,by omega⟩ ⟨by omega,by omega⟩ (Nat.zero_le _)) (kb4 _ _ _ _ _ _)⟩
    ·have HB:=(show Hid (Br q w i bad w5 (i+1) false lost) from B4.out.on H0.out.2.2.2 k5 (Nat.le_succ _) (fun e=>by rw [hbf] at e; exact e) h5)
     have HM:=(show Hid (i<q.n) from hlt)
     clear k5 hbf hlt h5 B4
     go_upto_region 11 with fail
     rename_i KK hKK
     obtain ⟨kb1,il1,bm1,h1,bx1⟩:=HB.out
     obtain ⟨h0,hm,hl,hq⟩:=H0.out
     have sc1:=HS.out.kb kb1
     have hp1:¬ (fun b:Nat=>w.heap.size+1≤b) q.P:=fun hx=>by have hx':w.heap.size+1≤q.P:=hx; omega
     have zw:w.heap.size+1≤w5.heap.size:=by have:=lh bx1; omega
     have hlt:=HM.out
     have hm2:q.n - (i+1)<m:=by omega
     have hl2:ss.length+6+6 * (q.n - (i+1))≤20000:=by omega
     clear hm hl
     have hm:=hm2
     have hl:=hl2
     have hE:=HE.out
     have il0:i+1≤i+1:=Nat.le_refl _
     refine wp_region_list ?_
     refine wpl_run rfl (.pointer (some ⟨q.P,0,none⟩)) w5 (ex_move _ _ _ _ rfl (by rfl) _) ?_
     simp only [Act.put,List.setIfInBounds_toArray,List.set_cons_zero,List.set_cons_succ]
     refine wpl_run rfl (V) w5 (ex_move _ _ _ _ rfl (by rfl) _) ?_
     simp only [Act.put,List.setIfInBounds_toArray,List.set_cons_zero,List.set_cons_succ]
     refine wpl_call2 rfl 41 (.tmp 48) (.tmp 49) _ rfl ent_exp (.pointer (some ⟨q.P,0,none⟩)) (V) (by rfl) (by rfl) (fun r w'=>EV (fun b=>w5.heap.size≤b) w' r∧AftS q w5 w' (i+1) false) ((hE (i+1) false lost (V) (ss) w5 h1 (lt_on hm il0) sc1 (len_on hl (Nat.zero_le _) il0)).mono (fun e w' ⟨v,he,hh⟩=>⟨v,he,hh⟩)) ?_
     rintro v21 W21 ⟨e21,k21,i21,bad21,lost21,hi21,hb21,hs21,h21⟩
     simp only [Act.put,List.setIfInBounds_toArray,List.set_cons_zero,List.set_cons_succ]
     have il21:i≤i21:=Nat.le_trans il1 hi21
     have st21:i<i21∨bad21=true:=st_new il1 hs21
     have bm21:bad=true→bad21=true:=fun e=>hb21 (bm1 e)
     have kb21:=kb1.trans k21
     have z21:=(k21).size
     have sc_1:PsAt W21 q.P (V) (ss):=sc1.kb k21
     have bx_2:W21.heap[w.heap.size]? = some (.cells (zeroE) 52):=(k21).heap bx1 (by show ¬ _=_; omega)
     have f21:EV (fun b=>w.heap.size+1≤b) W21 v21:=e21.wide (fun b hb _=>by have:=kb21.size; show w.heap.size+1≤b; have hb':w5.heap.size≤b:=hb; omega)
     refine wpl_box 5 (.tmp 50) rfl rfl rfl rfl rfl rfl f21 (by rfl) (by rfl) ?_
     intro W22 y22 b22 x22
     simp only [Act.put,List.setIfInBounds_toArray,List.set_cons_zero,List.set_cons_succ]
     have kk_3:KB (· = q.P) W21 W22:=KB.of_below b22
     have hh_4:=h21.below b22
     have kb22:=kb21.trans kk_3
     have z22:=(kk_3).size
     have sc_5:PsAt W22 q.P (V) (ss):=sc_1.kb kk_3
     have bx_6:W22.heap[w.heap.size]? = some (.cells (zeroE) 52):=(kk_3).heap bx_2 (by show ¬ _=_; omega)
     have ev_7:EV (fun b=>w.heap.size+1≤b) W22 v21:=f21.kb kk_3 hp1
     refine wpList_nil ?_
     refine hKK _ _ ?_
     refine wp_seq_k (fun K hK => ?_)
     refine wp_region_list ?_
     refine wpl_run rfl (.pointer (some ⟨q.P,0,none⟩)) W22 (ex_move _ _ _ _ rfl (by rfl) _) ?_
     simp only [Act.put,List.setIfInBounds_toArray,List.set_cons_zero,List.set_cons_succ]
     refine wpl_call2 rfl 40 (.tmp 51) _ _ rfl ent_take (.pointer (some ⟨q.P,0,none⟩)) (.string ⟨#[41]⟩) (by rfl) rfl (fun r w'=>PAft q W22 w' i21 bad21) ((take_any q W22 i21 bad21 lost21 _ hh_4).mono (fun e w' ⟨he,hh⟩=>⟨_,he,hh⟩)) ?_
     rintro r W23 ⟨k23,i23,bad23,lost23,hi23,hb23,h23⟩
     simp only [Act.put,List.setIfInBounds_toArray,List.set_cons_zero,List.set_cons_succ]
     have il23:i≤i23:=Nat.le_trans il21 hi23
     have st23:i<i23∨bad23=true:=st_on st21 hi23 hb23
     have bm23:bad=true→bad23=true:=fun e=>hb23 (bm21 e)
     have kb23:=kb22.trans k23
     have z23:=(k23).size
     have sc_8:PsAt W23 q.P (V) (ss):=sc_5.kb k23
     have bx_9:W23.heap[w.heap.size]? = some (.cells (zeroE) 52):=(k23).heap bx_6 (by show ¬ _=_; omega)
     have bx_10:W23.heap[W21.heap.size]? = some (.cells (cellsV v21) 52):=(k23).heap x22 (by show ¬ _=_; omega)
     have ev_11:EV (fun b=>w.heap.size+1≤b) W23 v21:=ev_7.kb k23 hp1
     refine wpList_nil ?_
     refine hK _ _ ?_
     clear hK K
     refine wp_seq_k (fun K hK => ?_)
     refine wp_region_list ?_
     refine wpl_run rfl (.agg (cellsV v21)) W23 (ex_loadE _ _ (.tmp 5) (W21.heap.size) _ _ rfl (by rfl) W23 bx_10 ev_11.agg.2.1) ?_
     simp only [Act.put,List.setIfInBounds_toArray,List.set_cons_zero,List.set_cons_succ]
     refine wpl_skip rfl (W23.setRow w.heap.size (cellsV v21)) (ex_storeE _ _ (.tmp 4) (.tmp 53) w.heap.size _ _ _ rfl (by rfl) (by rfl) W23 bx_9 rfl ev_11.agg.2.1 ev_11.agg.2.2.1) ?_
     simp only [Act.put]
     refine wpList_nil ?_
     refine hK _ _ ?_
     clear hK K
     have HF:=(show Hid (_∧_∧_) from fin_box (v:=v21) h0 ⟨kb23,i23,bad23,lost23,il23,bm23,st23,h23⟩ ev_11 bx_9)
     have HE2:=(show Hid (_∧_) from ⟨ev_11.agg.1,ev_11.agg.2.1⟩)
     generalize W23.setRow w.heap.size (cellsV v21)=WF at HF ⊢
     clear H0 HS HE
     go_wp2
     refine bodyPost_ret (results_cell_row (p:=4) (ty:=52) rfl _ WF w.heap.size _ _ (0,0) _ rfl HF.out.2.2 Tryz.underlying52 rfl (by rw [HE2.out.2]; exact sizeE)) rfl ?_
     exact ⟨v21,congrArg Ending.returned HE2.out.1.symm,HF.out.1,HF.out.2.1⟩
   ·have B4:=B3.out.on H0.out.2.2.2 k4 (Nat.le_succ _) (fun e=>by rw [hbf] at e; exact e) h4
    have x4:=B4.bx0
    have u0:w4.cell? ⟨w.heap.size,0,none⟩=some (.int .i64 0):=(by rw [cell_of_block (show w4.heap[w.heap.size]? = some (.cells #[.int .i64 0,.int .i64 0,.string ⟨#[]⟩,.slice none 0 0] 52) from x4)]; rfl)
    have u1:w4.cell? ⟨w.heap.size,1,none⟩=some (.int .i64 0):=(by rw [cell_of_block (show w4.heap[w.heap.size]? = some (.cells #[.int .i64 0,.int .i64 0,.string ⟨#[]⟩,.slice none 0 0] 52) from x4)]; rfl)
    have u2:w4.cell? ⟨w.heap.size,2,none⟩=some (.string ⟨#[]⟩):=(by rw [cell_of_block (show w4.heap[w.heap.size]? = some (.cells #[.int .i64 0,.int .i64 0,.string ⟨#[]⟩,.slice none 0 0] 52) from x4)]; rfl)
    have u3:w4.cell? ⟨w.heap.size,3,none⟩=some (.slice none 0 0):=(by rw [cell_of_block (show w4.heap[w.heap.size]? = some (.cells #[.int .i64 0,.int .i64 0,.string ⟨#[]⟩,.slice none 0 0] 52) from x4)]; rfl)
    have uf0:=ubk x4 0
    have uf1:=ubk x4 1
    have uf2:=ubk x4 2
    have uf3:=ubk x4 3
    have HA:=(show Hid (AftS q w w4 i bad) from ⟨B4.kb,i+1,false,lost,Nat.le_succ _,B4.bm,.inl (Nat.lt_succ_self _),h4⟩)
    clear B3 B4 x4 h4 k4 hbf hlt HE HS
    go_wp2_with fail
    refine bodyPost_ret (v:=.agg #[.int .i64 7,.int .i64 0,.string ⟨#[]⟩,.slice none 0 0]) (by simp [results,Tryz.results104,go_sem,u0,u1,u2,u3]) rfl ?_
    exact ⟨_,rfl,fin4 H0.out.1 HA.out (EV.leaf _ _ ⟨by omega,by omega⟩ ⟨by omega,by omega⟩ (Nat.zero_le _)) (kb4 _ _ _ _ _ _)⟩
end Go.Proofs.YtljdgmfcgkimoaaGreatDoor

namespace Go.Proofs.YtljdgmfcgkimoaaGreatDoor
open Go.RowKit Go.Joins Go.Shelf
set_option maxRecDepth 100000
set_option maxHeartbeats 1600000 in
theorem ops3_of (q:Ps) (m:Nat) (hA:CC 92 q m 0):CO q m 3:=by
 intro i bad lost V ss w h hm hs hl
 have hq:=h.lt
 obtain ⟨W1,hW1⟩:∃ W1,W1=w.alloc (.cells zeroE 52):=⟨_,rfl⟩
 have b1:Below w.heap.size w W1:=by rw [hW1]; exact (Below.refl _ w).alloc (Nat.le_refl _) _
 have z1:W1.heap.size=w.heap.size+1:=by rw [hW1]; simp
 have x1:W1.heap[w.heap.size]? = some (.cells zeroE 52):=by rw [hW1]; exact block_new w _
 have hs1:=hs.below b1
 have h1:=h.below b1
 have HC:=(show Hid (KB (· = q.P) w W1∧ParAt q W1 i bad lost∧PsAt W1 q.P V ss∧W1.heap.size=w.heap.size+1∧W1.heap[w.heap.size]? = some (.cells zeroE 52)) from ⟨KB.of_below b1,h1,hs1,z1,x1⟩)
 have HS:=(show Hid (PsAt w q.P V ss) from hs)
 have H0:=(show Hid (ParAt q w i bad lost∧q.n - i<m∧ss.length+0+6 * (q.n - i)≤20000∧q.P<w.heap.size) from ⟨h,hm,hl,hq⟩)
 clear h hm hs hl hq b1 z1 x1 hs1 h1
 go_enter Tryz.func74,Tryz.ntmps74
 refine wp_seq_k (fun K hK => ?_)
 refine wp_region_list ?_
 refine wpl_run rfl (.pointer (some ⟨w.heap.size,0,none⟩)) W1 (by rw [hW1]; exact ex_allocE _ _ rfl w) ?_
 simp only [Act.put,List.setIfInBounds_toArray,List.set_cons_zero,List.set_cons_succ]
 refine wpList_nil ?_
 refine hK _ _ ?_
 clear hK K hW1
 have HA:=(show Hid (CC 92 q m 0) from hA)
 clear hA
 have B0:=(show Hid (Br q w i bad W1 i bad lost) from ⟨HC.out.1,Nat.le_refl _,fun e=>e,HC.out.2.1,HC.out.2.2.2.2⟩)
 clear HC
 go_upto_region 2 with fail
 obtain ⟨kb1,il1,bm1,h1,bx1⟩:=B0.out
 obtain ⟨h0,hm,hl,hq⟩:=H0.out
 have sc1:=HS.out.kb kb1
 have hp1:¬ (fun b:Nat=>w.heap.size+1≤b) q.P:=fun hx=>by have hx':w.heap.size+1≤q.P:=hx; omega
 have zw:w.heap.size+1≤W1.heap.size:=by have:=lh bx1; omega
 have hA:=HA.out
 refine wp_region_list ?_
 refine wpl_run rfl (.pointer (some ⟨q.P,0,none⟩)) W1 (ex_move _ _ _ _ rfl (by rfl) _) ?_
 simp only [Act.put,List.setIfInBounds_toArray,List.set_cons_zero,List.set_cons_succ]
 refine wpl_run rfl (V) W1 (ex_move _ _ _ _ rfl (by rfl) _) ?_
 simp only [Act.put,List.setIfInBounds_toArray,List.set_cons_zero,List.set_cons_succ]
 refine wpl_call2 rfl 92 (.tmp 12) (.tmp 13) _ rfl ent_apps (.pointer (some ⟨q.P,0,none⟩)) (V) (by rfl) (by rfl) (fun r w'=>EV (fun b=>W1.heap.size≤b) w' r∧AftS q W1 w' i bad) ((hA i bad lost (V) (ss) W1 h1 (lt_on hm il1) sc1 (len_on hl (Nat.le_refl _) il1)).mono (fun e w' ⟨v,he,hh⟩=>⟨v,he,hh⟩)) ?_
 rintro v21 W21 ⟨e21,k21,i21,bad21,lost21,hi21,hb21,hs21,h21⟩
 simp only [Act.put,List.setIfInBounds_toArray,List.set_cons_zero,List.set_cons_succ]
 have il21:i≤i21:=Nat.le_trans il1 hi21
 have st21:i<i21∨bad21=true:=st_new il1 hs21
 have bm21:bad=true→bad21=true:=fun e=>hb21 (bm1 e)
 have kb21:=kb1.trans k21
 have z21:=(k21).size
 have sc_1:PsAt W21 q.P (V) (ss):=sc1.kb k21
 have bx_2:W21.heap[w.heap.size]? = some (.cells (zeroE) 52):=(k21).heap bx1 (by show ¬ _=_; omega)
 have f21:EV (fun b=>w.heap.size+1≤b) W21 v21:=e21.wide (fun b hb _=>by have:=kb21.size; show w.heap.size+1≤b; have hb':W1.heap.size≤b:=hb; omega)
 refine wpl_skip rfl (W21.setRow w.heap.size (cellsV v21)) (ex_storeE _ _ (.tmp 6) (.tmp 14) w.heap.size _ _ _ rfl (by rfl) ((show _=v21 from (by rfl)).trans f21.agg.1) W21 bx_2 rfl f21.agg.2.1 f21.agg.2.2.1) ?_
 simp only [Act.put]
 refine wpList_nil ?_
 have HF:=(show Hid (_∧_∧_) from fin_box (v:=v21) h0 ⟨kb21,i21,bad21,lost21,il21,bm21,st21,h21⟩ f21 bx_2)
 have HE2:=(show Hid (_∧_) from ⟨f21.agg.1,f21.agg.2.1⟩)
 generalize W21.setRow w.heap.size (cellsV v21)=WF at HF ⊢
 clear H0 HS HA
 go_wp2
 refine bodyPost_ret (results_cell_row (p:=6) (ty:=52) rfl _ WF w.heap.size _ _ (0,0) _ rfl HF.out.2.2 Tryz.underlying52 rfl (by rw [HE2.out.2]; exact sizeE)) rfl ?_
 exact ⟨v21,congrArg Ending.returned HE2.out.1.symm,HF.out.1,HF.out.2.1⟩
theorem cc_zero (f:FuncId) (q:Ps) (k:Nat):CC f q 0 k:=fun i bad lost V ss w h hm=>absurd hm (by omega)
theorem exp_any (q:Ps):∀ m,CC 41 q m 0
 | 0=>cc_zero _ q 0
 | m+1=>by
  have hE:=exp_any q m
  exact exp_of q m (lam_of q m hE) (let_of q m hE) (if_of q m hE) (case_of q m hE) hE (ops0_of q (m+1) (ops1_of q (m+1) (ops2_of q (m+1) (ops3_of q (m+1) (apps_of q (m+1) (atom_of q m hE))))))
end Go.Proofs.YtljdgmfcgkimoaaGreatDoor

namespace Go.Proofs.YtljdgmfcgkimoaaGreatDoor
open Go.RowKit Go.Maps Go.Joins Go.WideMaps
set_option maxRecDepth 100000
def among (ss:List ByteArray) (s:ByteArray):Bool:=ss.any (fun x=>x.toList == s.toList)
theorem among_take_succ (ss:List ByteArray) (s:ByteArray) (k:Nat) (h:k<ss.length):among (ss.take (k+1)) s=(among (ss.take k) s || (ss.getD k ByteArray.empty).toList == s.toList):=by
 unfold among
 rw [List.take_succ_eq_append_getElem h,List.any_append]
 simp [List.getD,List.getElem?_eq_getElem h]
theorem among_of_take {ss:List ByteArray} {s:ByteArray} {k:Nat} (h:among (ss.take k) s=true):among ss s=true:=by
 unfold among at *
 rw [List.any_eq_true] at *
 obtain ⟨x,hx,h⟩:=h
 exact ⟨x,List.mem_of_mem_take hx,h⟩
theorem ret_bool {a b:Bool} (h:b=a):Ending.returned (.bool a) = .returned (.bool b):=by rw [h]
set_option maxHeartbeats 400000 in
theorem has_any (g n cap:Nat) (ss:List ByteArray) (s:ByteArray) (w:World) (hn:n=ss.length) (hm:n≤maxLen)
  (hc:∀ j,j<n→w.cell? ⟨g,j,none⟩=some (.string (ss.getD j ByteArray.empty))) :
  Calls Tryz.prog 39 #[.slice (some ⟨g,0,none⟩) n cap,.string s] w fun e w'=>e = .returned (.bool (among ss s))∧w'=w:=by
 unfold maxLen at hm
 have HN:Hid (n=ss.length):=hn
 clear hn
 go_enter Tryz.func39,Tryz.ntmps39
 go_wp2
 go_loop [5] (fun i=>∃ k:Nat,k≤n∧i = .int .i64 k∧among (ss.take k) s=false) (fun i=>n - (intOf i).toNat)
 case atStart=>exact ⟨0,Nat.zero_le _,rfl,rfl⟩
 case round =>
  obtain ⟨k,hk,rfl,hno⟩:=hrel
  by_cases hlt:k<n
  ·have hck:=hc k hlt
   have hst:=among_take_succ ss s k (by rw [← HN.out]; exact hlt)
   rw [hno,Bool.false_or] at hst
   have HS:Hid (among (ss.take (k+1)) s=((ss.getD k ByteArray.empty).toList == s.toList)):=hst
   clear hst hno hc
   generalize ss.getD k ByteArray.empty=x at hck HS
   cases hx:(x.toList == s.toList)
   ·go_wp2
    go_round
    case rel=>exact ⟨k+1,by omega,by go_num,by rw [HS.out]; exact hx⟩
    case measure=>simp [intOf]; omega
   ·go_wp2
    go_ret
    exact ⟨ret_bool (among_of_take (HS.out.trans hx)),rfl⟩
  ·have hno':among ss s=false:=by rw [List.take_of_length_le (by have:=HN.out; omega)] at hno; exact hno
   have HF:Hid (among ss s=false):=hno'
   clear hno' hno
   go_wp2
   go_ret
   exact ⟨ret_bool HF.out,rfl⟩
end Go.Proofs.YtljdgmfcgkimoaaGreatDoor
