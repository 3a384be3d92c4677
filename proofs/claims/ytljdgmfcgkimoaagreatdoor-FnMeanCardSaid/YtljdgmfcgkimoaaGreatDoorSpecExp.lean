/-
  Proofs.
-/
import Derived.Test.YtljdgmfcgkimoaaGreatDoorJ1
import Derived.Test.YtljdgmfcgkimoaaGreatDoorJ5
namespace Go.Proofs.YtljdgmfcgkimoaaGreatDoor
open Go.RowKit Go.Joins Go.Shelf
set_option maxRecDepth 100000
set_option maxHeartbeats 1600000 in
theorem exp_of (q:Ps) (m:Nat) (hL:CC 69 q m 6) (hT:CC 70 q m 6) (hI:CC 71 q m 6) (hC:CC 72 q m 6) (hE:CC 41 q m 0) (hO:CO q (m+1) 0):CC 41 q (m+1) 0:=by
 intro i bad lost V ss w h hm hs hl
 have hq:=h.lt
 obtain ⟨W1,hW1⟩:∃ W1,W1=w.alloc (.cells zeroE 52):=⟨_,rfl⟩
 have b1:Below w.heap.size w W1:=by rw [hW1]; exact (Below.refl _ w).alloc (Nat.le_refl _) _
 have z1:W1.heap.size=w.heap.size+1:=by rw [hW1]; simp
 have x1:W1.heap[w.heap.size]? = some (.cells zeroE 52):=by rw [hW1]; exact block_new w _
 have hs1:=hs.below b1
 have h1:=h.below b1
 have HC:=(show Hid (KB (· = q.P) w W1∧ParAt q W1 i bad lost∧PsAt W1 q.P V ss∧W1.heap.size=w.heap.size+1∧W1.heap[w.heap.size]? = some (.cells zeroE 52)) from ⟨KB.of_below b1,h1,hs1,z1,x1⟩)
 have HS:=(show Hid (PsAt w q.P V ss) from hs)
 have H0:=(show Hid (ParAt q w i bad lost∧q.n - i<m+1∧ss.length+0+6 * (q.n - i)≤20000∧q.P<w.heap.size) from ⟨h,hm,hl,hq⟩)
 clear h hm hs hl hq b1 z1 x1 hs1 h1
 go_enter Tryz.func41,Tryz.ntmps41
 refine wp_seq_k (fun K hK => ?_)
 refine wp_region_list ?_
 refine wpl_run rfl (.pointer (some ⟨w.heap.size,0,none⟩)) W1 (by rw [hW1]; exact ex_allocE _ _ rfl w) ?_
 simp only [Act.put,List.setIfInBounds_toArray,List.set_cons_zero,List.set_cons_succ]
 refine wpList_nil ?_
 refine hK _ _ ?_
 clear hK K hW1
 have HL:=(show Hid (CC 69 q m 6) from hL)
 have HT:=(show Hid (CC 70 q m 6) from hT)
 have HI:=(show Hid (CC 71 q m 6) from hI)
 have HC4:=(show Hid (CC 72 q m 6) from hC)
 have HX:=(show Hid (CC 41 q m 0∧CO q (m+1) 0) from ⟨hE,hO⟩)
 clear hL hT hI hC hE hO
 have B0:=(show Hid (Br q w i bad W1 i bad lost) from ⟨HC.out.1,Nat.le_refl _,fun e=>e,HC.out.2.1,HC.out.2.2.2.2⟩)
 clear HC
 go_wp2_with fail
 refine (may_any q W1 i bad lost ⟨#[92]⟩ B0.out.st).mono ?_
 rintro r w2 ⟨c,rfl,⟨k2,hc⟩⟩
 rcases hc with ⟨rfl,h2⟩ | ⟨rfl,hbf,hlt,h2⟩
 ·have B10:=(show Hid (Br q w i bad w2 i bad lost) from B0.out.on H0.out.2.2.2 k2 (Nat.le_refl _) (fun e=>e) h2)
  clear k2 h2 B0
  go_wp2_with fail
  refine (may_any q w2 i bad lost ⟨#[108,101,116]⟩ B10.out.st).mono ?_
  rintro r w3 ⟨c,rfl,⟨k3,hc⟩⟩
  rcases hc with ⟨rfl,h2⟩ | ⟨rfl,hbf,hlt,h2⟩
  ·have B11:=(show Hid (Br q w i bad w3 i bad lost) from B10.out.on H0.out.2.2.2 k3 (Nat.le_refl _) (fun e=>e) h2)
   clear k3 h2 B10
   go_wp2_with fail
   refine (may_any q w3 i bad lost ⟨#[105,102]⟩ B11.out.st).mono ?_
   rintro r w4 ⟨c,rfl,⟨k4,hc⟩⟩
   rcases hc with ⟨rfl,h2⟩ | ⟨rfl,hbf,hlt,h2⟩
   ·have B12:=(show Hid (Br q w i bad w4 i bad lost) from B11.out.on H0.out.2.2.2 k4 (Nat.le_refl _) (fun e=>e) h2)
    clear k4 h2 B11
    go_wp2_with fail
    refine (may_any q w4 i bad lost ⟨#[99,97,115,101]⟩ B12.out.st).mono ?_
    rintro r w5 ⟨c,rfl,⟨k5,hc⟩⟩
    rcases hc with ⟨rfl,h2⟩ | ⟨rfl,hbf,hlt,h2⟩
    ·have B13:=(show Hid (Br q w i bad w5 i bad lost) from B12.out.on H0.out.2.2.2 k5 (Nat.le_refl _) (fun e=>e) h2)
     clear k5 h2 B12
     go_wp2_with fail
     refine (may_any q w5 i bad lost ⟨#[112,97,114]⟩ B13.out.st).mono ?_
     rintro r w6 ⟨c,rfl,⟨k6,hc⟩⟩
     rcases hc with ⟨rfl,h2⟩ | ⟨rfl,hbf,hlt,h2⟩
     ·have B14:=(show Hid (Br q w i bad w6 i bad lost) from B13.out.on H0.out.2.2.2 k6 (Nat.le_refl _) (fun e=>e) h2)
      clear k6 h2 B13
      clear HL HT HI HC4
      go_upto_region 13 with fail
      rename_i KK hKK
      obtain ⟨kb1,il1,bm1,h1,bx1⟩:=B14.out
      obtain ⟨h0,hm,hl,hq⟩:=H0.out
      have sc1:=HS.out.kb kb1
      have hp1:¬ (fun b:Nat=>w.heap.size+1≤b) q.P:=fun hx=>by have hx':w.heap.size+1≤q.P:=hx; omega
      have zw:w.heap.size+1≤w6.heap.size:=by have:=lh bx1; omega
      refine wp_region_list ?_
      refine wpl_run rfl (.pointer (some ⟨q.P,0,none⟩)) w6 (ex_move _ _ _ _ rfl (by rfl) _) ?_
      simp only [Act.put,List.setIfInBounds_toArray,List.set_cons_zero,List.set_cons_succ]
      refine wpl_run rfl (V) w6 (ex_move _ _ _ _ rfl (by rfl) _) ?_
      simp only [Act.put,List.setIfInBounds_toArray,List.set_cons_zero,List.set_cons_succ]
      refine wpl_call3 rfl 74 (.tmp 47) (.tmp 48) (.const (.int .i64 0)) _ rfl ent_ops (.pointer (some ⟨q.P,0,none⟩)) (V) (.int .i64 0) (by rfl) (by rfl) rfl (fun r w'=>EV (fun b=>w6.heap.size≤b) w' r∧AftS q w6 w' i bad) ((HX.out.2 i bad lost V ss w6 h1 hm sc1 hl).mono (fun e w' ⟨v,he,hh⟩=>⟨v,he,hh⟩)) ?_
      rintro v21 W21 ⟨e21,k21,i21,bad21,lost21,hi21,hb21,hs21,h21⟩
      simp only [Act.put,List.setIfInBounds_toArray,List.set_cons_zero,List.set_cons_succ]
      have il21:i≤i21:=Nat.le_trans il1 hi21
      have st21:i<i21∨bad21=true:=st_new il1 hs21
      have bm21:bad=true→bad21=true:=fun e=>hb21 (bm1 e)
      have kb21:=kb1.trans k21
      have z21:=(k21).size
      have sc_1:PsAt W21 q.P (V) (ss):=sc1.kb k21
      have bx_2:W21.heap[w.heap.size]? = some (.cells (zeroE) 52):=(k21).heap bx1 (by show ¬ _=_; omega)
      have f21:EV (fun b=>w.heap.size+1≤b) W21 v21:=e21.wide (fun b hb _=>by have hb':w6.heap.size≤b:=hb; show w.heap.size+1≤b; omega)
      refine wpl_box 6 (.tmp 49) rfl rfl rfl rfl rfl rfl f21 (by rfl) (by rfl) ?_
      intro W22 y22 b22 x22
      simp only [Act.put,List.setIfInBounds_toArray,List.set_cons_zero,List.set_cons_succ]
      have kk_3:KB (· = q.P) W21 W22:=KB.of_below b22
      have hh_4:=h21.below b22
      have kb22:=kb21.trans kk_3
      have z22:=(kk_3).size
      have sc_5:PsAt W22 q.P (V) (ss):=sc_1.kb kk_3
      have bx_6:W22.heap[w.heap.size]? = some (.cells (zeroE) 52):=(kk_3).heap bx_2 (by show ¬ _=_; omega)
      have ev_7:EV (fun b=>w.heap.size+1≤b) W22 v21:=f21.kb kk_3 hp1
      refine wpList_nil ?_
      refine hKK _ _ ?_
      have BO:=(show Hid (Br q w i bad W22 i21 bad21 lost21∧(i<i21∨bad21=true)∧W22.heap[W21.heap.size]? = some (.cells (cellsV v21) 52)∧EV (fun b=>w.heap.size+1≤b) W22 v21∧w.heap.size+1≤W21.heap.size) from ⟨⟨kb22,il21,bm21,hh_4,bx_6⟩,st21,x22,ev_7,by omega⟩)
      clear bm1 bm21 bx1 bx_2 bx_6 e21 ev_7 f21 h0 h1 h21 hb21 hh_4 hi21 hl hm hp1 hq hs21 il1 il21 k21 kb1 kb21 kb22 kk_3 sc1 sc_1 sc_5 st21 z21 z22 zw y22 b22 x22 B14
      generalize W21.heap.size=g6 at BO ⊢
      go_wp2_with fail
      refine (may_any q W22 i21 bad21 lost21 ⟨#[58]⟩ BO.out.1.st).mono ?_
      rintro r w8 ⟨c,rfl,⟨k8,hc⟩⟩
      have bx6:=k8.heap BO.out.2.2.1 (by show ¬ _=_; have:=BO.out.2.2.2.2; have:=H0.out.2.2.2; omega)
      have ev6:=BO.out.2.2.2.1.kb k8 (fun hx=>by have hx':w.heap.size+1≤q.P:=hx; have:=H0.out.2.2.2; omega)
      rcases hc with ⟨rfl,h2⟩ | ⟨rfl,hbf,hlt,h2⟩
      ·have BR:=BO.out.1.on H0.out.2.2.2 k8 (Nat.le_refl _) (fun e=>e) h2
       have st8:=BO.out.2.1
       go_upto_region 16 with fail
       refine wp_region_list ?_
       refine wpl_run rfl (.agg (cellsV v21)) w8 (ex_loadE _ _ (.tmp 6) g6 _ _ rfl rfl w8 bx6 ev6.agg.2.1) ?_
       simp only [Act.put,List.setIfInBounds_toArray,List.set_cons_zero,List.set_cons_succ]
       refine wpl_skip rfl (w8.setRow w.heap.size (cellsV v21)) (ex_storeE _ _ (.tmp 4) (.tmp 58) w.heap.size _ _ _ rfl rfl rfl w8 BR.bx0 rfl ev6.agg.2.1 ev6.agg.2.2.1) ?_
       simp only [Act.put]
       refine wpList_nil ?_
       have HF:=(show Hid (_∧_∧_) from fin_box (v:=v21) H0.out.1 ⟨BR.kb,_,_,_,BR.il,BR.bm,st8,BR.st⟩ ev6 BR.bx0)
       have HE:=(show Hid (_∧_) from ⟨ev6.agg.1,ev6.agg.2.1⟩)
       generalize w8.setRow w.heap.size (cellsV v21)=WF at HF ⊢
       clear BR st8 bx6 ev6 k8 h2 BO HX H0 HS
       go_wp2
       refine bodyPost_ret (results_cell_row (p:=4) (ty:=52) rfl _ WF w.heap.size _ _ (0,0) _ rfl HF.out.2.2 Tryz.underlying52 rfl (by rw [HE.out.2]; exact sizeE)) rfl ?_
       exact ⟨v21,congrArg Ending.returned HE.out.1.symm,HF.out.1,HF.out.2.1⟩
      ·have HB:=(show Hid (Br q w i bad w8 (i21+1) false lost21) from BO.out.1.on H0.out.2.2.2 k8 (Nat.le_succ _) (fun e=>by rw [hbf] at e; exact e) h2)
       have HM:=(show Hid (i21<q.n∧w8.heap[g6]? = some (.cells (cellsV v21) 52)∧EV (fun b=>w.heap.size+1≤b) w8 v21∧w.heap.size+1≤g6∧i≤i21) from ⟨hlt,bx6,ev6,BO.out.2.2.2.2,BO.out.1.il⟩)
       clear k8 hbf hlt h2 bx6 ev6 BO
       go_upto_region 15 with fail
       obtain ⟨kb1,il1,bm1,h1,bx1⟩:=HB.out
       obtain ⟨h0,hm,hl,hq⟩:=H0.out
       have sc1:=HS.out.kb kb1
       have hp1:¬ (fun b:Nat=>w.heap.size+1≤b) q.P:=fun hx=>by have hx':w.heap.size+1≤q.P:=hx; omega
       have zw:w.heap.size+1≤w8.heap.size:=by have:=lh bx1; omega
       obtain ⟨hlt,bx6,ev6,hg6,hil⟩:=HM.out
       have hm2:q.n - (i21+1)<m:=by omega
       have hl2:ss.length+6+6 * (q.n - (i21+1))≤20000:=by omega
       clear hm hl
       have hm:=hm2
       have hl:=hl2
       have hx:=HX.out.1
       have il0:i21+1≤i21+1:=Nat.le_refl _
       have bd0:Below w8.heap.size w8 w8.drew:=⟨rfl,rfl,rfl,Nat.le_refl _,fun _ _=>rfl⟩
       refine wp_region_held_drew (S:=fun Wq=>Wq.heap[g6]? = some (.cells (cellsV v21) 52)∧True) (by kernel_rfl) ⟨bx6,trivial⟩ (fun hS => ?_)
       obtain ⟨W21,hWd⟩:∃ W',W'=w8.drew:=⟨_,rfl⟩
       rw [← hWd] at hS bd0 ⊢
       clear hWd
       have kk_1:KB (· = q.P) w8 W21:=KB.of_below bd0
       have hh_2:=h1.below bd0
       have kb21:=kb1.trans kk_1
       have z21:=(kk_1).size
       have sc_3:PsAt W21 q.P (V) (ss):=sc1.kb kk_1
       have bx_4:W21.heap[w.heap.size]? = some (.cells (zeroE) 52):=(kk_1).heap bx1 (by show ¬ _=_; omega)
       have bx_5:W21.heap[g6]? = some (.cells (cellsV v21) 52):=(kk_1).heap bx6 (by show ¬ _=_; omega)
       have ev_6:EV (fun b=>w.heap.size+1≤b) W21 v21:=ev6.kb kk_1 hp1
       refine wpAnyH_take (i:=0) (v:=.agg (cellsV v21)) rfl (by kernel_rfl) (by kernel_rfl) (by kernel_rfl) (fun _ _ _ h=>h) (Or.inl ⟨by rfl,fun wq hSw => ?_⟩) hS ?_
       ·exact ex_loadE _ _ (.tmp 6) (g6) _ _ rfl (by rfl) wq hSw.1 (ev_6.agg.2.1)
       simp only [Act.put,lsk]
       refine wpAnyH_take (i:=1) (v:=.pointer (some ⟨q.P,0,none⟩)) rfl (by kernel_rfl) (by kernel_rfl) (by kernel_rfl) (fun _ _ _ h=>h) (Or.inl ⟨by rfl,fun wq hSw => ?_⟩) hS ?_
       ·exact ex_move _ _ _ _ rfl (by rfl) _
       simp only [Act.put,lsk]
       refine wpAnyH_take (i:=2) (v:=V) rfl (by kernel_rfl) (by kernel_rfl) (by kernel_rfl) (fun _ _ _ h=>h) (Or.inl ⟨by rfl,fun wq hSw => ?_⟩) hS ?_
       ·exact ex_move _ _ _ _ rfl (by rfl) _
       simp only [Act.put,lsk]
       refine wpAnyH_ready (rs:=[3]) (by kernel_rfl) (by simp) ?_
       refine AllReadyH.cons rfl (fun K hK => ?_) AllReadyH.nil
       refine step_callTwo rfl 41 (.tmp 53) (.tmp 54) _ rfl ent_exp (.pointer (some ⟨q.P,0,none⟩)) (V) (by rfl) (by rfl) (fun r w'=>EV (fun b=>W21.heap.size≤b) w' r∧AftS q W21 w' (i21+1) false) ((hx (i21+1) false lost21 (V) (ss) W21 hh_2 (lt_on hm il0) sc_3 (len_on hl (Nat.zero_le _) il0)).mono (fun e w' ⟨v,he,hh⟩=>⟨v,he,hh⟩)) ?_
       rintro v22 W22 ⟨e22,k22,i22,bad22,lost22,hi22,hb22,hs22,h22⟩
       have il22:i≤i22:=Nat.le_trans il1 hi22
       have st22:i<i22∨bad22=true:=st_new il1 hs22
       have bm22:bad=true→bad22=true:=fun e=>hb22 (bm1 e)
       have kb22:=kb21.trans k22
       have z22:=(k22).size
       have sc_7:PsAt W22 q.P (V) (ss):=sc_3.kb k22
       have bx_8:W22.heap[w.heap.size]? = some (.cells (zeroE) 52):=(k22).heap bx_4 (by show ¬ _=_; omega)
       have bx_9:W22.heap[g6]? = some (.cells (cellsV v21) 52):=(k22).heap bx_5 (by show ¬ _=_; omega)
       have ev_10:EV (fun b=>w.heap.size+1≤b) W22 v21:=ev_6.kb k22 hp1
       have f22:EV (fun b=>w.heap.size+1≤b) W22 v22:=e22.wide (fun b hb _=>by have:=kb22.size; show w.heap.size+1≤b; have hb':W21.heap.size≤b:=hb; omega)
       have hS:(fun Wq:World=>Wq.heap[g6]? = some (.cells (cellsV v21) 52)∧True) W22:=⟨bx_9,trivial⟩
       refine hK _ _ hS (fun _ => ?_)
       clear hK K
       simp only [Act.put,lsk]
       refine wpAnyH_ready (rs:=[4]) (by kernel_rfl) (by simp) ?_
       refine AllReadyH.cons rfl (fun K hK => ?_) AllReadyH.nil
       obtain ⟨W23,e23⟩:∃ W',W'=W22.alloc (.cells ⟨[v21,v22].flatMap cellsE⟩ 52):=⟨_,rfl⟩
       have b23:Below W22.heap.size W22 W23:=by rw [e23]; exact (Below.refl _ _).alloc (Nat.le_refl _) _
       have x23:W23.heap[W22.heap.size]? = some (.cells ⟨[v21,v22].flatMap cellsE⟩ 52):=by rw [e23]; exact block_new _ _
       refine step_run rfl (.slice (some ⟨W22.heap.size,0,none⟩) 2 2) W23 (by rw [e23]; exact ex_rowE2 _ _ (.tmp 52) (.tmp 55) rfl ev_10 f22 (EV.aggR ev_10 (by rfl)) (by rfl) _) ?_
       have kk_11:KB (· = q.P) W22 W23:=KB.of_below b23
       have hh_12:=h22.below b23
       have kb23:=kb22.trans kk_11
       have z23:=(kk_11).size
       have sc_13:PsAt W23 q.P (V) (ss):=sc_7.kb kk_11
       have bx_14:W23.heap[w.heap.size]? = some (.cells (zeroE) 52):=(kk_11).heap bx_8 (by show ¬ _=_; omega)
       have bx_15:W23.heap[g6]? = some (.cells (cellsV v21) 52):=(kk_11).heap bx_9 (by show ¬ _=_; omega)
       have ev_16:EV (fun b=>w.heap.size+1≤b) W23 v21:=ev_10.kb kk_11 hp1
       have ev_17:EV (fun b=>w.heap.size+1≤b) W23 v22:=f22.kb kk_11 hp1
       have fv:EV (fun b=>w.heap.size+1≤b) W23 (.agg #[.int .i64 8,.int .i64 0,.string ⟨#[]⟩,.slice (some ⟨W22.heap.size,0,none⟩) 2 2]):=EV.over (vs:=[v21,v22]) (by simp) (fun u hu=>by simp only [List.mem_cons,List.not_mem_nil,or_false] at hu; rcases hu with rfl | rfl <;> assumption) x23 (by have:=kb23.size; show w.heap.size+1≤W22.heap.size; omega) ⟨by omega,by omega⟩ ⟨by omega,by omega⟩ (Nat.zero_le _)
       have hS:(fun Wq:World=>Wq.heap[g6]? = some (.cells (cellsV v21) 52)∧True) W23:=⟨bx_15,trivial⟩
       refine hK _ _ hS (fun _ => ?_)
       clear hK K
       simp only [Act.put,lsk]
       refine wpAnyH_ready (rs:=[5]) (by kernel_rfl) (by simp) ?_
       refine AllReadyH.cons rfl (fun K hK => ?_) AllReadyH.nil
       refine step_run rfl (.agg #[.int .i64 8,.int .i64 0,.string ⟨#[]⟩,.slice (some ⟨W22.heap.size,0,none⟩) 2 2]) W23 (ex_build03 _ _ rfl (by rfl) _) ?_
       have hS:(fun Wq:World=>Wq.heap[g6]? = some (.cells (cellsV v21) 52)∧True) W23:=⟨bx_15,trivial⟩
       refine hK _ _ hS (fun _ => ?_)
       clear hK K
       simp only [Act.put,lsk]
       refine wpAnyH_ready (rs:=[6]) (by kernel_rfl) (by simp) ?_
       refine AllReadyH.cons rfl (fun K hK => ?_) AllReadyH.nil
       refine step_skip rfl (W23.setRow w.heap.size (cellsV (.agg #[.int .i64 8,.int .i64 0,.string ⟨#[]⟩,.slice (some ⟨W22.heap.size,0,none⟩) 2 2]))) (ex_storeE _ _ (.tmp 4) (.tmp 57) w.heap.size _ _ _ rfl (by rfl) (by rfl) W23 bx_14 rfl fv.agg.2.1 fv.agg.2.2.1) ?_
       have fin:=fin_box (v:=.agg #[.int .i64 8,.int .i64 0,.string ⟨#[]⟩,.slice (some ⟨W22.heap.size,0,none⟩) 2 2]) h0 ⟨kb23,i22,bad22,lost22,il22,bm22,st22,hh_12⟩ fv bx_14
       refine hK _ _ (⟨((setRow_kb _ _ _).heap bx_15 (by show ¬ _=_; omega)),trivial⟩) (fun _ => ?_)
       clear hK K
       simp only [Act.put,List.getElem_toArray,List.getElem_cons_zero,List.getElem_cons_succ]
       refine wpAnyH_done (by kernel_rfl) ?_ _
       have HF:=(show Hid (_∧_∧_) from fin)
       generalize W23.setRow w.heap.size (cellsV (.agg #[.int .i64 8,.int .i64 0,.string ⟨#[]⟩,.slice (some ⟨W22.heap.size,0,none⟩) 2 2]))=WF at HF ⊢
       clear H0
       go_wp2
       refine bodyPost_ret (results_cell_row (p:=4) (ty:=52) rfl _ WF w.heap.size _ _ (0,0) _ rfl HF.out.2.2 Tryz.underlying52 rfl (by exact sizeE)) rfl ?_
       exact ⟨_,rfl,HF.out.1,HF.out.2.1⟩
     ·have B2:=(show Hid (Br q w i bad w6 (i+1) false lost∧i<q.n) from ⟨B13.out.on H0.out.2.2.2 k6 (Nat.le_succ _) (fun e=>by rw [hbf] at e; exact e) h2,hlt⟩)
      clear k6 hbf hlt h2 B13
      have hlt:=B2.out.2
      have HB:=(show Hid (Br q w i bad w6 (i+1) false lost) from B2.out.1)
      have HM:=(show Hid (i<q.n) from hlt)
      clear B2 hlt
      go_upto_region 10 with fail
      rename_i KK hKK
      obtain ⟨kb1,il1,bm1,h1,bx1⟩:=HB.out
      obtain ⟨h0,hm,hl,hq⟩:=H0.out
      have sc1:=HS.out.kb kb1
      have hp1:¬ (fun b:Nat=>w.heap.size+1≤b) q.P:=fun hx=>by have hx':w.heap.size+1≤q.P:=hx; omega
      have zw:w.heap.size+1≤w6.heap.size:=by have:=lh bx1; omega
      have hlt:=HM.out
      have hm2:q.n - (i+1)<m:=by omega
      have hl2:ss.length+6+6 * (q.n - (i+1))≤20000:=by omega
      refine wp_region_list ?_
      refine wpl_run rfl (.pointer (some ⟨q.P,0,none⟩)) w6 (ex_move _ _ _ _ rfl (by rfl) _) ?_
      simp only [Act.put,List.setIfInBounds_toArray,List.set_cons_zero,List.set_cons_succ]
      refine wpl_run rfl (V) w6 (ex_move _ _ _ _ rfl (by rfl) _) ?_
      simp only [Act.put,List.setIfInBounds_toArray,List.set_cons_zero,List.set_cons_succ]
      refine wpl_run rfl (.pointer (some ⟨q.P,0,none⟩)) w6 (ex_move _ _ _ _ rfl (by rfl) _) ?_
      simp only [Act.put,List.setIfInBounds_toArray,List.set_cons_zero,List.set_cons_succ]
      refine wpl_call1 rfl 38 (.tmp 36) _ rfl ent_name (.pointer (some ⟨q.P,0,none⟩)) (by rfl) (fun r w'=>∃ t:ByteArray,r = .string t∧t.size≤1048576∧AftS q w6 w' (i+1) false) ((name_any q w6 (i+1) false lost h1).mono (fun e w' ⟨t,he,hh⟩=>⟨_,he,t,rfl,hh⟩)) ?_
      rintro r W21 ⟨t21,rfl,ht21,k21,i21,bad21,lost21,hi21,hb21,hs21,h21⟩
      simp only [Act.put,List.setIfInBounds_toArray,List.set_cons_zero,List.set_cons_succ]
      have il21:i≤i21:=Nat.le_trans il1 hi21
      have st21:i<i21∨bad21=true:=st_new il1 hs21
      have bm21:bad=true→bad21=true:=fun e=>hb21 (bm1 e)
      have kb21:=kb1.trans k21
      have z21:=(k21).size
      have sc_1:PsAt W21 q.P (V) (ss):=sc1.kb k21
      have bx_2:W21.heap[w.heap.size]? = some (.cells (zeroE) 52):=(k21).heap bx1 (by show ¬ _=_; omega)
      refine wpl_call3 rfl 73 (.tmp 34) (.tmp 35) (.tmp 37) _ rfl ent_var (.pointer (some ⟨q.P,0,none⟩)) (V) (.string t21) (by rfl) (by rfl) (by rfl) (fun r w'=>EV (fun b=>W21.heap.size≤b) w' r∧PAft q W21 w' i21 bad21) ((var_any q i21 bad21 lost21 V ss t21 W21 h21 sc_1 (by omega)).mono (fun e w' ⟨v,he,hh⟩=>⟨v,he,hh⟩)) ?_
      rintro v22 W22 ⟨e22,k22,i22,bad22,lost22,hi22,hb22,h22⟩
      simp only [Act.put,List.setIfInBounds_toArray,List.set_cons_zero,List.set_cons_succ]
      have il22:i≤i22:=Nat.le_trans il21 hi22
      have st22:i<i22∨bad22=true:=st_on st21 hi22 hb22
      have bm22:bad=true→bad22=true:=fun e=>hb22 (bm21 e)
      have kb22:=kb21.trans k22
      have z22:=(k22).size
      have sc_3:PsAt W22 q.P (V) (ss):=sc_1.kb k22
      have bx_4:W22.heap[w.heap.size]? = some (.cells (zeroE) 52):=(k22).heap bx_2 (by show ¬ _=_; omega)
      have f22:EV (fun b=>w.heap.size+1≤b) W22 v22:=e22.wide (fun b hb _=>by have hb':W21.heap.size≤b:=hb; have:=kb22.size; show w.heap.size+1≤b; have:=z21; omega)
      refine wpl_box 5 (.tmp 38) rfl rfl rfl rfl rfl rfl f22 (by rfl) (by rfl) ?_
      intro W23 y23 b23 x23
      simp only [Act.put,List.setIfInBounds_toArray,List.set_cons_zero,List.set_cons_succ]
      have kk_5:KB (· = q.P) W22 W23:=KB.of_below b23
      have hh_6:=h22.below b23
      have kb23:=kb22.trans kk_5
      have z23:=(kk_5).size
      have sc_7:PsAt W23 q.P (V) (ss):=sc_3.kb kk_5
      have bx_8:W23.heap[w.heap.size]? = some (.cells (zeroE) 52):=(kk_5).heap bx_4 (by show ¬ _=_; omega)
      have ev_9:EV (fun b=>w.heap.size+1≤b) W23 v22:=f22.kb kk_5 hp1
      refine wpList_nil ?_
      refine hKK _ _ ?_
      refine wp_seq_k (fun K hK => ?_)
      refine wp_region_list ?_
      refine wpl_run rfl (.pointer (some ⟨q.P,0,none⟩)) W23 (ex_move _ _ _ _ rfl (by rfl) _) ?_
      simp only [Act.put,List.setIfInBounds_toArray,List.set_cons_zero,List.set_cons_succ]
      refine wpl_call2 rfl 40 (.tmp 39) _ _ rfl ent_take (.pointer (some ⟨q.P,0,none⟩)) (.string ⟨#[105,110]⟩) (by rfl) rfl (fun r w'=>PAft q W23 w' i22 bad22) ((take_any q W23 i22 bad22 lost22 _ hh_6).mono (fun e w' ⟨he,hh⟩=>⟨_,he,hh⟩)) ?_
      rintro r W24 ⟨k24,i24,bad24,lost24,hi24,hb24,h24⟩
      simp only [Act.put,List.setIfInBounds_toArray,List.set_cons_zero,List.set_cons_succ]
      have il24:i≤i24:=Nat.le_trans il22 hi24
      have st24:i<i24∨bad24=true:=st_on st22 hi24 hb24
      have bm24:bad=true→bad24=true:=fun e=>hb24 (bm22 e)
      have kb24:=kb23.trans k24
      have z24:=(k24).size
      have sc_10:PsAt W24 q.P (V) (ss):=sc_7.kb k24
      have bx_11:W24.heap[w.heap.size]? = some (.cells (zeroE) 52):=(k24).heap bx_8 (by show ¬ _=_; omega)
      have bx_12:W24.heap[W22.heap.size]? = some (.cells (cellsV v22) 52):=(k24).heap x23 (by show ¬ _=_; omega)
      have ev_13:EV (fun b=>w.heap.size+1≤b) W24 v22:=ev_9.kb k24 hp1
      refine wpList_nil ?_
      refine hK _ _ ?_
      clear hK K
      have hm:=hm2
      have hl:=hl2
      have hx:=HX.out.1
      have il0:i+1≤i24:=by omega
      refine wp_seq_k (fun K0 hK0 => ?_)
      have bd0:Below W24.heap.size W24 W24.drew:=⟨rfl,rfl,rfl,Nat.le_refl _,fun _ _=>rfl⟩
      refine wp_region_held_drew (S:=fun Wq=>Wq.heap[W22.heap.size]? = some (.cells (cellsV v22) 52)∧True) (by kernel_rfl) ⟨bx_12,trivial⟩ (fun hS => ?_)
      obtain ⟨W25,hWd⟩:∃ W',W'=W24.drew:=⟨_,rfl⟩
      rw [← hWd] at hS bd0 ⊢
      clear hWd
      have kk_14:KB (· = q.P) W24 W25:=KB.of_below bd0
      have hh_15:=h24.below bd0
      have kb25:=kb24.trans kk_14
      have z25:=(kk_14).size
      have sc_16:PsAt W25 q.P (V) (ss):=sc_10.kb kk_14
      have bx_17:W25.heap[w.heap.size]? = some (.cells (zeroE) 52):=(kk_14).heap bx_11 (by show ¬ _=_; omega)
      have bx_18:W25.heap[W22.heap.size]? = some (.cells (cellsV v22) 52):=(kk_14).heap bx_12 (by show ¬ _=_; omega)
      have ev_19:EV (fun b=>w.heap.size+1≤b) W25 v22:=ev_13.kb kk_14 hp1
      refine wpAnyH_take (i:=0) (v:=.agg (cellsV v22)) rfl (by kernel_rfl) (by kernel_rfl) (by kernel_rfl) (fun _ _ _ h=>h) (Or.inl ⟨by rfl,fun wq hSw => ?_⟩) hS ?_
      ·exact ex_loadE _ _ (.tmp 5) (W22.heap.size) _ _ rfl (by rfl) wq hSw.1 (ev_19.agg.2.1)
      simp only [Act.put,lsk]
      refine wpAnyH_take (i:=1) (v:=.pointer (some ⟨q.P,0,none⟩)) rfl (by kernel_rfl) (by kernel_rfl) (by kernel_rfl) (fun _ _ _ h=>h) (Or.inl ⟨by rfl,fun wq hSw => ?_⟩) hS ?_
      ·exact ex_move _ _ _ _ rfl (by rfl) _
      simp only [Act.put,lsk]
      refine wpAnyH_take (i:=2) (v:=V) rfl (by kernel_rfl) (by kernel_rfl) (by kernel_rfl) (fun _ _ _ h=>h) (Or.inl ⟨by rfl,fun wq hSw => ?_⟩) hS ?_
      ·exact ex_move _ _ _ _ rfl (by rfl) _
      simp only [Act.put,lsk]
      refine wpAnyH_ready (rs:=[3]) (by kernel_rfl) (by simp) ?_
      refine AllReadyH.cons rfl (fun K hK => ?_) AllReadyH.nil
      refine step_callTwo rfl 41 (.tmp 42) (.tmp 43) _ rfl ent_exp (.pointer (some ⟨q.P,0,none⟩)) (V) (by rfl) (by rfl) (fun r w'=>EV (fun b=>W25.heap.size≤b) w' r∧AftS q W25 w' i24 bad24) ((hx i24 bad24 lost24 (V) (ss) W25 hh_15 (lt_on hm il0) sc_16 (len_on hl (Nat.zero_le _) il0)).mono (fun e w' ⟨v,he,hh⟩=>⟨v,he,hh⟩)) ?_
      rintro v26 W26 ⟨e26,k26,i26,bad26,lost26,hi26,hb26,hs26,h26⟩
      have il26:i≤i26:=Nat.le_trans il24 hi26
      have st26:i<i26∨bad26=true:=st_new il24 hs26
      have bm26:bad=true→bad26=true:=fun e=>hb26 (bm24 e)
      have kb26:=kb25.trans k26
      have z26:=(k26).size
      have sc_20:PsAt W26 q.P (V) (ss):=sc_16.kb k26
      have bx_21:W26.heap[w.heap.size]? = some (.cells (zeroE) 52):=(k26).heap bx_17 (by show ¬ _=_; omega)
      have bx_22:W26.heap[W22.heap.size]? = some (.cells (cellsV v22) 52):=(k26).heap bx_18 (by show ¬ _=_; omega)
      have ev_23:EV (fun b=>w.heap.size+1≤b) W26 v22:=ev_19.kb k26 hp1
      have f26:EV (fun b=>w.heap.size+1≤b) W26 v26:=e26.wide (fun b hb _=>by have:=kb26.size; show w.heap.size+1≤b; have hb':W25.heap.size≤b:=hb; omega)
      have hS:(fun Wq:World=>Wq.heap[W22.heap.size]? = some (.cells (cellsV v22) 52)∧True) W26:=⟨bx_22,trivial⟩
      refine hK _ _ hS (fun _ => ?_)
      clear hK K
      simp only [Act.put,lsk]
      refine wpAnyH_ready (rs:=[4]) (by kernel_rfl) (by simp) ?_
      refine AllReadyH.cons rfl (fun K hK => ?_) AllReadyH.nil
      obtain ⟨W27,e27⟩:∃ W',W'=W26.alloc (.cells ⟨[v22,v26].flatMap cellsE⟩ 52):=⟨_,rfl⟩
      have b27:Below W26.heap.size W26 W27:=by rw [e27]; exact (Below.refl _ _).alloc (Nat.le_refl _) _
      have x27:W27.heap[W26.heap.size]? = some (.cells ⟨[v22,v26].flatMap cellsE⟩ 52):=by rw [e27]; exact block_new _ _
      refine step_run rfl (.slice (some ⟨W26.heap.size,0,none⟩) 2 2) W27 (by rw [e27]; exact ex_rowE2 _ _ (.tmp 41) (.tmp 44) rfl ev_23 f26 (EV.aggR ev_23 (by rfl)) (by rfl) _) ?_
      have kk_24:KB (· = q.P) W26 W27:=KB.of_below b27
      have hh_25:=h26.below b27
      have kb27:=kb26.trans kk_24
      have z27:=(kk_24).size
      have sc_26:PsAt W27 q.P (V) (ss):=sc_20.kb kk_24
      have bx_27:W27.heap[w.heap.size]? = some (.cells (zeroE) 52):=(kk_24).heap bx_21 (by show ¬ _=_; omega)
      have bx_28:W27.heap[W22.heap.size]? = some (.cells (cellsV v22) 52):=(kk_24).heap bx_22 (by show ¬ _=_; omega)
      have ev_29:EV (fun b=>w.heap.size+1≤b) W27 v22:=ev_23.kb kk_24 hp1
      have ev_30:EV (fun b=>w.heap.size+1≤b) W27 v26:=f26.kb kk_24 hp1
      have fv:EV (fun b=>w.heap.size+1≤b) W27 (.agg #[.int .i64 11,.int .i64 0,.string ⟨#[]⟩,.slice (some ⟨W26.heap.size,0,none⟩) 2 2]):=EV.over (vs:=[v22,v26]) (by simp) (fun u hu=>by simp only [List.mem_cons,List.not_mem_nil,or_false] at hu; rcases hu with rfl | rfl <;> assumption) x27 (by have:=kb27.size; show w.heap.size+1≤W26.heap.size; omega) ⟨by omega,by omega⟩ ⟨by omega,by omega⟩ (Nat.zero_le _)
      have hS:(fun Wq:World=>Wq.heap[W22.heap.size]? = some (.cells (cellsV v22) 52)∧True) W27:=⟨bx_28,trivial⟩
      refine hK _ _ hS (fun _ => ?_)
      clear hK K
      simp only [Act.put,lsk]
      refine wpAnyH_ready (rs:=[5]) (by kernel_rfl) (by simp) ?_
      refine AllReadyH.cons rfl (fun K hK => ?_) AllReadyH.nil
      refine step_run rfl (.agg #[.int .i64 11,.int .i64 0,.string ⟨#[]⟩,.slice (some ⟨W26.heap.size,0,none⟩) 2 2]) W27 (ex_build03 _ _ rfl (by rfl) _) ?_
      have hS:(fun Wq:World=>Wq.heap[W22.heap.size]? = some (.cells (cellsV v22) 52)∧True) W27:=⟨bx_28,trivial⟩
      refine hK _ _ hS (fun _ => ?_)
      clear hK K
      simp only [Act.put,lsk]
      refine wpAnyH_ready (rs:=[6]) (by kernel_rfl) (by simp) ?_
      refine AllReadyH.cons rfl (fun K hK => ?_) AllReadyH.nil
      refine step_skip rfl (W27.setRow w.heap.size (cellsV (.agg #[.int .i64 11,.int .i64 0,.string ⟨#[]⟩,.slice (some ⟨W26.heap.size,0,none⟩) 2 2]))) (ex_storeE _ _ (.tmp 4) (.tmp 46) w.heap.size _ _ _ rfl (by rfl) (by rfl) W27 bx_27 rfl fv.agg.2.1 fv.agg.2.2.1) ?_
      have fin:=fin_box (v:=.agg #[.int .i64 11,.int .i64 0,.string ⟨#[]⟩,.slice (some ⟨W26.heap.size,0,none⟩) 2 2]) h0 ⟨kb27,i26,bad26,lost26,il26,bm26,st26,hh_25⟩ fv bx_27
      refine hK _ _ (⟨((setRow_kb _ _ _).heap bx_28 (by show ¬ _=_; omega)),trivial⟩) (fun _ => ?_)
      clear hK K
      simp only [Act.put,List.getElem_toArray,List.getElem_cons_zero,List.getElem_cons_succ]
      refine wpAnyH_done (by kernel_rfl) ?_ _
      refine hK0 _ _ ?_
      clear hK0 K0
      have HF:=(show Hid (_∧_∧_) from fin)
      generalize W27.setRow w.heap.size (cellsV (.agg #[.int .i64 11,.int .i64 0,.string ⟨#[]⟩,.slice (some ⟨W26.heap.size,0,none⟩) 2 2]))=WF at HF ⊢
      clear H0
      go_wp2
      refine bodyPost_ret (results_cell_row (p:=4) (ty:=52) rfl _ WF w.heap.size _ _ (0,0) _ rfl HF.out.2.2 Tryz.underlying52 rfl (by exact sizeE)) rfl ?_
      exact ⟨_,rfl,HF.out.1,HF.out.2.1⟩
    ·have B2:=(show Hid (Br q w i bad w5 (i+1) false lost∧i<q.n) from ⟨B12.out.on H0.out.2.2.2 k5 (Nat.le_succ _) (fun e=>by rw [hbf] at e; exact e) h2,hlt⟩)
     clear k5 hbf hlt h2 B12
     go_wp2_with fail
     have B3:=B2.out.1
     have H3:=H0.out
     have hlt:=B2.out.2
     have hls:=H0.out.2.2.1
     have hm:=H0.out.2.1
     refine (HC4.out (i+1) false lost V ss w5 B3.st (by omega) (HS.out.kb B3.kb) (by omega)).mono ?_
     rintro r w9 ⟨v,rfl,e9,k9,i9,bad9,lost9,hi9,hb9,hs9,h9⟩
     obtain ⟨kk,n,tx,a,mm,rfl⟩:=e9.form
     have x9:=k9.heap B3.bx0 (by show ¬ _=_; have:=H3.2.2.2; omega)
     have u0:w9.cell? ⟨w.heap.size,0,none⟩=some (.int .i64 0):=(by rw [cell_of_block (show w9.heap[w.heap.size]? = some (.cells #[.int .i64 0,.int .i64 0,.string ⟨#[]⟩,.slice none 0 0] 52) from x9)]; rfl)
     have u1:w9.cell? ⟨w.heap.size,1,none⟩=some (.int .i64 0):=(by rw [cell_of_block (show w9.heap[w.heap.size]? = some (.cells #[.int .i64 0,.int .i64 0,.string ⟨#[]⟩,.slice none 0 0] 52) from x9)]; rfl)
     have u2:w9.cell? ⟨w.heap.size,2,none⟩=some (.string ⟨#[]⟩):=(by rw [cell_of_block (show w9.heap[w.heap.size]? = some (.cells #[.int .i64 0,.int .i64 0,.string ⟨#[]⟩,.slice none 0 0] 52) from x9)]; rfl)
     have u3:w9.cell? ⟨w.heap.size,3,none⟩=some (.slice none 0 0):=(by rw [cell_of_block (show w9.heap[w.heap.size]? = some (.cells #[.int .i64 0,.int .i64 0,.string ⟨#[]⟩,.slice none 0 0] 52) from x9)]; rfl)
     have uf0:=ubk x9 0
     have uf1:=ubk x9 1
     have uf2:=ubk x9 2
     have uf3:=ubk x9 3
     have A9:AftS q w w9 i bad:=⟨B3.kb.trans k9,i9,bad9,lost9,Nat.le_trans B3.il hi9,fun e=>hb9 (B3.bm e),st_new B3.il hs9,h9⟩
     have HA:=(show Hid (_∧_) from ⟨A9,e9.wide (S':=fun b=>w.heap.size+1≤b) (fun b hb _=>by have:=lh B3.bx0; have hb':w5.heap.size≤b:=hb; show w.heap.size+1≤b; omega)⟩)
     clear A9 x9 e9 k9 hi9 hb9 hs9 h9 B3 H3 hlt hls hm B2
     go_wp2_with fail
     refine bodyPost_ret (v:=.agg #[.int .i64 kk,.int .i64 n,.string tx,.slice a mm mm]) (by simp [results,Tryz.results41,go_sem,u0,u1,u2,u3]) rfl ?_
     exact ⟨_,rfl,fin4 H0.out.1 HA.out.1 HA.out.2 (kb4 _ _ _ _ _ _)⟩
   ·have B2:=(show Hid (Br q w i bad w4 (i+1) false lost∧i<q.n) from ⟨B11.out.on H0.out.2.2.2 k4 (Nat.le_succ _) (fun e=>by rw [hbf] at e; exact e) h2,hlt⟩)
    clear k4 hbf hlt h2 B11
    go_wp2_with fail
    have B3:=B2.out.1
    have H3:=H0.out
    have hlt:=B2.out.2
    have hls:=H0.out.2.2.1
    have hm:=H0.out.2.1
    refine (HI.out (i+1) false lost V ss w4 B3.st (by omega) (HS.out.kb B3.kb) (by omega)).mono ?_
    rintro r w9 ⟨v,rfl,e9,k9,i9,bad9,lost9,hi9,hb9,hs9,h9⟩
    obtain ⟨kk,n,tx,a,mm,rfl⟩:=e9.form
    have x9:=k9.heap B3.bx0 (by show ¬ _=_; have:=H3.2.2.2; omega)
    have u0:w9.cell? ⟨w.heap.size,0,none⟩=some (.int .i64 0):=(by rw [cell_of_block (show w9.heap[w.heap.size]? = some (.cells #[.int .i64 0,.int .i64 0,.string ⟨#[]⟩,.slice none 0 0] 52) from x9)]; rfl)
    have u1:w9.cell? ⟨w.heap.size,1,none⟩=some (.int .i64 0):=(by rw [cell_of_block (show w9.heap[w.heap.size]? = some (.cells #[.int .i64 0,.int .i64 0,.string ⟨#[]⟩,.slice none 0 0] 52) from x9)]; rfl)
    have u2:w9.cell? ⟨w.heap.size,2,none⟩=some (.string ⟨#[]⟩):=(by rw [cell_of_block (show w9.heap[w.heap.size]? = some (.cells #[.int .i64 0,.int .i64 0,.string ⟨#[]⟩,.slice none 0 0] 52) from x9)]; rfl)
    have u3:w9.cell? ⟨w.heap.size,3,none⟩=some (.slice none 0 0):=(by rw [cell_of_block (show w9.heap[w.heap.size]? = some (.cells #[.int .i64 0,.int .i64 0,.string ⟨#[]⟩,.slice none 0 0] 52) from x9)]; rfl)
    have uf0:=ubk x9 0
    have uf1:=ubk x9 1
    have uf2:=ubk x9 2
    have uf3:=ubk x9 3
    have A9:AftS q w w9 i bad:=⟨B3.kb.trans k9,i9,bad9,lost9,Nat.le_trans B3.il hi9,fun e=>hb9 (B3.bm e),st_new B3.il hs9,h9⟩
    have HA:=(show Hid (_∧_) from ⟨A9,e9.wide (S':=fun b=>w.heap.size+1≤b) (fun b hb _=>by have:=lh B3.bx0; have hb':w4.heap.size≤b:=hb; show w.heap.size+1≤b; omega)⟩)
    clear A9 x9 e9 k9 hi9 hb9 hs9 h9 B3 H3 hlt hls hm B2
    go_wp2_with fail
    refine bodyPost_ret (v:=.agg #[.int .i64 kk,.int .i64 n,.string tx,.slice a mm mm]) (by simp [results,Tryz.results41,go_sem,u0,u1,u2,u3]) rfl ?_
    exact ⟨_,rfl,fin4 H0.out.1 HA.out.1 HA.out.2 (kb4 _ _ _ _ _ _)⟩
  ·have B2:=(show Hid (Br q w i bad w3 (i+1) false lost∧i<q.n) from ⟨B10.out.on H0.out.2.2.2 k3 (Nat.le_succ _) (fun e=>by rw [hbf] at e; exact e) h2,hlt⟩)
   clear k3 hbf hlt h2 B10
   go_wp2_with fail
   have B3:=B2.out.1
   have H3:=H0.out
   have hlt:=B2.out.2
   have hls:=H0.out.2.2.1
   have hm:=H0.out.2.1
   refine (HT.out (i+1) false lost V ss w3 B3.st (by omega) (HS.out.kb B3.kb) (by omega)).mono ?_
   rintro r w9 ⟨v,rfl,e9,k9,i9,bad9,lost9,hi9,hb9,hs9,h9⟩
   obtain ⟨kk,n,tx,a,mm,rfl⟩:=e9.form
   have x9:=k9.heap B3.bx0 (by show ¬ _=_; have:=H3.2.2.2; omega)
   have u0:w9.cell? ⟨w.heap.size,0,none⟩=some (.int .i64 0):=(by rw [cell_of_block (show w9.heap[w.heap.size]? = some (.cells #[.int .i64 0,.int .i64 0,.string ⟨#[]⟩,.slice none 0 0] 52) from x9)]; rfl)
   have u1:w9.cell? ⟨w.heap.size,1,none⟩=some (.int .i64 0):=(by rw [cell_of_block (show w9.heap[w.heap.size]? = some (.cells #[.int .i64 0,.int .i64 0,.string ⟨#[]⟩,.slice none 0 0] 52) from x9)]; rfl)
   have u2:w9.cell? ⟨w.heap.size,2,none⟩=some (.string ⟨#[]⟩):=(by rw [cell_of_block (show w9.heap[w.heap.size]? = some (.cells #[.int .i64 0,.int .i64 0,.string ⟨#[]⟩,.slice none 0 0] 52) from x9)]; rfl)
   have u3:w9.cell? ⟨w.heap.size,3,none⟩=some (.slice none 0 0):=(by rw [cell_of_block (show w9.heap[w.heap.size]? = some (.cells #[.int .i64 0,.int .i64 0,.string ⟨#[]⟩,.slice none 0 0] 52) from x9)]; rfl)
   have uf0:=ubk x9 0
   have uf1:=ubk x9 1
   have uf2:=ubk x9 2
   have uf3:=ubk x9 3
   have A9:AftS q w w9 i bad:=⟨B3.kb.trans k9,i9,bad9,lost9,Nat.le_trans B3.il hi9,fun e=>hb9 (B3.bm e),st_new B3.il hs9,h9⟩
   have HA:=(show Hid (_∧_) from ⟨A9,e9.wide (S':=fun b=>w.heap.size+1≤b) (fun b hb _=>by have:=lh B3.bx0; have hb':w3.heap.size≤b:=hb; show w.heap.size+1≤b; omega)⟩)
   clear A9 x9 e9 k9 hi9 hb9 hs9 h9 B3 H3 hlt hls hm B2
   go_wp2_with fail
   refine bodyPost_ret (v:=.agg #[.int .i64 kk,.int .i64 n,.string tx,.slice a mm mm]) (by simp [results,Tryz.results41,go_sem,u0,u1,u2,u3]) rfl ?_
   exact ⟨_,rfl,fin4 H0.out.1 HA.out.1 HA.out.2 (kb4 _ _ _ _ _ _)⟩
 ·have B2:=(show Hid (Br q w i bad w2 (i+1) false lost∧i<q.n) from ⟨B0.out.on H0.out.2.2.2 k2 (Nat.le_succ _) (fun e=>by rw [hbf] at e; exact e) h2,hlt⟩)
  clear k2 hbf hlt h2 B0
  go_wp2_with fail
  have B3:=B2.out.1
  have H3:=H0.out
  have hlt:=B2.out.2
  have hls:=H0.out.2.2.1
  have hm:=H0.out.2.1
  refine (HL.out (i+1) false lost V ss w2 B3.st (by omega) (HS.out.kb B3.kb) (by omega)).mono ?_
  rintro r w9 ⟨v,rfl,e9,k9,i9,bad9,lost9,hi9,hb9,hs9,h9⟩
  obtain ⟨kk,n,tx,a,mm,rfl⟩:=e9.form
  have x9:=k9.heap B3.bx0 (by show ¬ _=_; have:=H3.2.2.2; omega)
  have u0:w9.cell? ⟨w.heap.size,0,none⟩=some (.int .i64 0):=(by rw [cell_of_block (show w9.heap[w.heap.size]? = some (.cells #[.int .i64 0,.int .i64 0,.string ⟨#[]⟩,.slice none 0 0] 52) from x9)]; rfl)
  have u1:w9.cell? ⟨w.heap.size,1,none⟩=some (.int .i64 0):=(by rw [cell_of_block (show w9.heap[w.heap.size]? = some (.cells #[.int .i64 0,.int .i64 0,.string ⟨#[]⟩,.slice none 0 0] 52) from x9)]; rfl)
  have u2:w9.cell? ⟨w.heap.size,2,none⟩=some (.string ⟨#[]⟩):=(by rw [cell_of_block (show w9.heap[w.heap.size]? = some (.cells #[.int .i64 0,.int .i64 0,.string ⟨#[]⟩,.slice none 0 0] 52) from x9)]; rfl)
  have u3:w9.cell? ⟨w.heap.size,3,none⟩=some (.slice none 0 0):=(by rw [cell_of_block (show w9.heap[w.heap.size]? = some (.cells #[.int .i64 0,.int .i64 0,.string ⟨#[]⟩,.slice none 0 0] 52) from x9)]; rfl)
  have uf0:=ubk x9 0
  have uf1:=ubk x9 1
  have uf2:=ubk x9 2
  have uf3:=ubk x9 3
  have A9:AftS q w w9 i bad:=⟨B3.kb.trans k9,i9,bad9,lost9,Nat.le_trans B3.il hi9,fun e=>hb9 (B3.bm e),st_new B3.il hs9,h9⟩
  have HA:=(show Hid (_∧_) from ⟨A9,e9.wide (S':=fun b=>w.heap.size+1≤b) (fun b hb _=>by have:=lh B3.bx0; have hb':w2.heap.size≤b:=hb; show w.heap.size+1≤b; omega)⟩)
  clear A9 x9 e9 k9 hi9 hb9 hs9 h9 B3 H3 hlt hls hm B2
  go_wp2_with fail
  refine bodyPost_ret (v:=.agg #[.int .i64 kk,.int .i64 n,.string tx,.slice a mm mm]) (by simp [results,Tryz.results41,go_sem,u0,u1,u2,u3]) rfl ?_
  exact ⟨_,rfl,fin4 H0.out.1 HA.out.1 HA.out.2 (kb4 _ _ _ _ _ _)⟩
end Go.Proofs.YtljdgmfcgkimoaaGreatDoor
