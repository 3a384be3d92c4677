/-
  Proofs.
  Proofs.
-/
import Derived.Test.YtljdgmfcgkimoaaGreatDoorJ1
import Derived.Test.YtljdgmfcgkimoaaGreatDoorJ4
namespace Go.Proofs.YtljdgmfcgkimoaaGreatDoor
open Go.RowKit Go.Joins Go.Shelf
set_option maxRecDepth 100000
set_option maxHeartbeats 800000 in
theorem let_of (q:Ps) (m:Nat) (hE:CC 41 q m 0):CC 70 q m 6:=by
 intro i bad lost V ss w h hm hs hl
 have hq:=h.lt
 obtain ⟨W1,hW1⟩:∃ W1,W1=w.alloc (.cells zeroE 52):=⟨_,rfl⟩
 have b1:Below w.heap.size w W1:=by rw [hW1]; exact (Below.refl _ w).alloc (Nat.le_refl _) _
 have z1:W1.heap.size=w.heap.size+1:=by rw [hW1]; simp
 have x1:W1.heap[w.heap.size]? = some (.cells zeroE 52):=by rw [hW1]; exact block_new w _
 have hs1:=hs.below b1
 have h1:=h.below b1
 have HC:=(show Hid (KB (· = q.P) w W1∧ParAt q W1 i bad lost∧PsAt W1 q.P V ss∧W1.heap.size=w.heap.size+1∧W1.heap[w.heap.size]? = some (.cells zeroE 52)) from ⟨KB.of_below b1,h1,hs1,z1,x1⟩)
 have HS:=(show Hid (PsAt w q.P V ss) from hs)
 have H0:=(show Hid (ParAt q w i bad lost∧q.n - i<m∧ss.length+6+6 * (q.n - i)≤20000∧q.P<w.heap.size) from ⟨h,hm,hl,hq⟩)
 clear h hm hs hl hq b1 z1 x1 hs1 h1
 go_enter Tryz.func70,Tryz.ntmps70
 refine wp_seq_k (fun K hK => ?_)
 refine wp_region_list ?_
 refine wpl_run rfl (.pointer (some ⟨w.heap.size,0,none⟩)) W1 (by rw [hW1]; exact ex_allocE _ _ rfl w) ?_
 simp only [Act.put,List.setIfInBounds_toArray,List.set_cons_zero,List.set_cons_succ]
 refine wpList_nil ?_
 refine hK _ _ ?_
 clear hK K hW1
 obtain ⟨kb1,h1,sc1,z1,bx1⟩:=HC.out
 obtain ⟨h0,hm,hl,hq⟩:=H0.out
 have hp1:¬ (fun b:Nat=>w.heap.size+1≤b) q.P:=fun hx=>by have hx':w.heap.size+1≤q.P:=hx; omega
 have il1:i≤i:=Nat.le_refl i
 have bm1:bad=true→bad=true:=fun e=>e
 refine wp_seq_k (fun K hK => ?_)
 refine wp_region_list ?_
 refine wpl_run rfl (V) W1 (ex_move _ _ _ _ rfl (by rfl) _) ?_
 simp only [Act.put,List.setIfInBounds_toArray,List.set_cons_zero,List.set_cons_succ]
 refine wpl_run rfl (.pointer (some ⟨q.P,0,none⟩)) W1 (ex_move _ _ _ _ rfl (by rfl) _) ?_
 simp only [Act.put,List.setIfInBounds_toArray,List.set_cons_zero,List.set_cons_succ]
 refine wpl_call1 rfl 38 (.tmp 8) _ rfl ent_name (.pointer (some ⟨q.P,0,none⟩)) (by rfl) (fun r w'=>∃ t:ByteArray,r = .string t∧t.size≤1048576∧AftS q W1 w' i bad) ((name_any q W1 i bad lost h1).mono (fun e w' ⟨t,he,hh⟩=>⟨_,he,t,rfl,hh⟩)) ?_
 rintro r W2 ⟨t2,rfl,ht2,k2,i2,bad2,lost2,hi2,hb2,hs2,h2⟩
 simp only [Act.put,List.setIfInBounds_toArray,List.set_cons_zero,List.set_cons_succ]
 have il2:i≤i2:=Nat.le_trans il1 hi2
 have st2:i<i2∨bad2=true:=st_new il1 hs2
 have bm2:bad=true→bad2=true:=fun e=>hb2 (bm1 e)
 have kb2:=kb1.trans k2
 have z2:=(k2).size
 have sc_1:PsAt W2 q.P (V) (ss):=sc1.kb k2
 have bx_2:W2.heap[w.heap.size]? = some (.cells (zeroE) 52):=(k2).heap bx1 (by show ¬ _=_; omega)
 obtain ⟨W3,e3⟩:∃ W',W'=W2.alloc (.cells #[.string t2] 9):=⟨_,rfl⟩
 have b3:Below W2.heap.size W2 W3:=by rw [e3]; exact (Below.refl _ _).alloc (Nat.le_refl _) _
 refine wpl_run rfl (.slice (some ⟨W2.heap.size,0,none⟩) 1 1) W3 (by rw [e3]; exact ex_strs1 _ _ (.tmp 9) (t2) rfl (by rfl) _) ?_
 simp only [Act.put,List.setIfInBounds_toArray,List.set_cons_zero,List.set_cons_succ]
 have sl3:PsAt W3 q.P (.slice (some ⟨W2.heap.size,0,none⟩) 1 1) [t2]:=by rw [e3]; exact strs1_at W2 q.P ht2 (by have:=kb2.size; omega)
 have kk_3:KB (· = q.P) W2 W3:=KB.of_below b3
 have hh_4:=h2.below b3
 have kb3:=kb2.trans kk_3
 have z3:=(kk_3).size
 have sc_5:PsAt W3 q.P (V) (ss):=sc_1.kb kk_3
 have bx_6:W3.heap[w.heap.size]? = some (.cells (zeroE) 52):=(kk_3).heap bx_2 (by show ¬ _=_; omega)
 refine wpl_call2 rfl 91 (.tmp 7) (.tmp 10) _ rfl ent_with (V) (.slice (some ⟨W2.heap.size,0,none⟩) 1 1) (by rfl) (by rfl) (fun r w'=>PsAt w' q.P r (ss ++ [t2])∧Below W3.heap.size W3 w') ((pwith_any q.P _ _ (ss) ([t2]) W3 (by have:=kb3.size; omega) sc_5 sl3 (by first | omega | (simp only [List.length_cons,List.length_nil]; omega))).mono (fun e w' ⟨v,he,hh⟩=>⟨v,he,hh⟩)) ?_
 rintro V4 W4 ⟨sw4,b4⟩
 simp only [Act.put,List.setIfInBounds_toArray,List.set_cons_zero,List.set_cons_succ]
 have kk_7:KB (· = q.P) W3 W4:=KB.of_below b4
 have hh_8:=hh_4.below b4
 have kb4:=kb3.trans kk_7
 have z4:=(kk_7).size
 have sc_9:PsAt W4 q.P (V) (ss):=sc_5.kb kk_7
 have bx_10:W4.heap[w.heap.size]? = some (.cells (zeroE) 52):=(kk_7).heap bx_6 (by show ¬ _=_; omega)
 refine wpl_run rfl (V4) W4 (ex_assign _ _ _ _ rfl (by rfl) _) ?_
 simp only [Act.put,List.setIfInBounds_toArray,List.set_cons_zero,List.set_cons_succ]
 refine wpList_nil ?_
 refine hK _ _ ?_
 clear hK K
 refine wp_seq_k (fun K hK => ?_)
 refine wp_region_list ?_
 refine wpl_run rfl (.pointer (some ⟨q.P,0,none⟩)) W4 (ex_move _ _ _ _ rfl (by rfl) _) ?_
 simp only [Act.put,List.setIfInBounds_toArray,List.set_cons_zero,List.set_cons_succ]
 refine wpl_call2 rfl 40 (.tmp 12) _ _ rfl ent_take (.pointer (some ⟨q.P,0,none⟩)) (.string ⟨#[61]⟩) (by rfl) rfl (fun r w'=>PAft q W4 w' i2 bad2) ((take_any q W4 i2 bad2 lost2 _ hh_8).mono (fun e w' ⟨he,hh⟩=>⟨_,he,hh⟩)) ?_
 rintro r W5 ⟨k5,i5,bad5,lost5,hi5,hb5,h5⟩
 simp only [Act.put,List.setIfInBounds_toArray,List.set_cons_zero,List.set_cons_succ]
 have il5:i≤i5:=Nat.le_trans il2 hi5
 have st5:i<i5∨bad5=true:=st_on st2 hi5 hb5
 have bm5:bad=true→bad5=true:=fun e=>hb5 (bm2 e)
 have kb5:=kb4.trans k5
 have z5:=(k5).size
 have sc_11:PsAt W5 q.P (V) (ss):=sc_9.kb k5
 have sc_12:PsAt W5 q.P (V4) (ss ++ [t2]):=sw4.kb k5
 have bx_13:W5.heap[w.heap.size]? = some (.cells (zeroE) 52):=(k5).heap bx_10 (by show ¬ _=_; omega)
 refine wpList_nil ?_
 refine hK _ _ ?_
 clear hK K
 refine wp_seq_k (fun K hK => ?_)
 refine wp_region_list ?_
 refine wpl_run rfl (.pointer (some ⟨q.P,0,none⟩)) W5 (ex_move _ _ _ _ rfl (by rfl) _) ?_
 simp only [Act.put,List.setIfInBounds_toArray,List.set_cons_zero,List.set_cons_succ]
 refine wpl_run rfl (V4) W5 (ex_move _ _ _ _ rfl (by rfl) _) ?_
 simp only [Act.put,List.setIfInBounds_toArray,List.set_cons_zero,List.set_cons_succ]
 refine wpl_call2 rfl 41 (.tmp 14) (.tmp 15) _ rfl ent_exp (.pointer (some ⟨q.P,0,none⟩)) (V4) (by rfl) (by rfl) (fun r w'=>EV (fun b=>W5.heap.size≤b) w' r∧AftS q W5 w' i5 bad5) ((hE i5 bad5 lost5 (V4) (ss ++ [t2]) W5 h5 (lt_on hm il5) sc_12 (len_more hl (by simp) il5)).mono (fun e w' ⟨v,he,hh⟩=>⟨v,he,hh⟩)) ?_
 rintro v6 W6 ⟨e6,k6,i6,bad6,lost6,hi6,hb6,hs6,h6⟩
 simp only [Act.put,List.setIfInBounds_toArray,List.set_cons_zero,List.set_cons_succ]
 have il6:i≤i6:=Nat.le_trans il5 hi6
 have st6:i<i6∨bad6=true:=st_new il5 hs6
 have bm6:bad=true→bad6=true:=fun e=>hb6 (bm5 e)
 have kb6:=kb5.trans k6
 have z6:=(k6).size
 have sc_14:PsAt W6 q.P (V) (ss):=sc_11.kb k6
 have sc_15:PsAt W6 q.P (V4) (ss ++ [t2]):=sc_12.kb k6
 have bx_16:W6.heap[w.heap.size]? = some (.cells (zeroE) 52):=(k6).heap bx_13 (by show ¬ _=_; omega)
 have f6:EV (fun b=>w.heap.size+1≤b) W6 v6:=e6.wide (fun b hb _=>by have:=kb6.size; show w.heap.size+1≤b; have hb':W5.heap.size≤b:=hb; omega)
 refine wpl_box 6 (.tmp 16) rfl rfl rfl rfl rfl rfl f6 (by rfl) (by rfl) ?_
 intro W7 y7 b7 x7
 simp only [Act.put,List.setIfInBounds_toArray,List.set_cons_zero,List.set_cons_succ]
 have kk_17:KB (· = q.P) W6 W7:=KB.of_below b7
 have hh_18:=h6.below b7
 have kb7:=kb6.trans kk_17
 have z7:=(kk_17).size
 have sc_19:PsAt W7 q.P (V) (ss):=sc_14.kb kk_17
 have sc_20:PsAt W7 q.P (V4) (ss ++ [t2]):=sc_15.kb kk_17
 have bx_21:W7.heap[w.heap.size]? = some (.cells (zeroE) 52):=(kk_17).heap bx_16 (by show ¬ _=_; omega)
 have ev_22:EV (fun b=>w.heap.size+1≤b) W7 v6:=f6.kb kk_17 hp1
 refine wpList_nil ?_
 refine hK _ _ ?_
 clear hK K
 refine wp_seq_k (fun K hK => ?_)
 refine wp_region_list ?_
 refine wpl_run rfl (.pointer (some ⟨q.P,0,none⟩)) W7 (ex_move _ _ _ _ rfl (by rfl) _) ?_
 simp only [Act.put,List.setIfInBounds_toArray,List.set_cons_zero,List.set_cons_succ]
 refine wpl_call2 rfl 40 (.tmp 17) _ _ rfl ent_take (.pointer (some ⟨q.P,0,none⟩)) (.string ⟨#[105,110]⟩) (by rfl) rfl (fun r w'=>PAft q W7 w' i6 bad6) ((take_any q W7 i6 bad6 lost6 _ hh_18).mono (fun e w' ⟨he,hh⟩=>⟨_,he,hh⟩)) ?_
 rintro r W8 ⟨k8,i8,bad8,lost8,hi8,hb8,h8⟩
 simp only [Act.put,List.setIfInBounds_toArray,List.set_cons_zero,List.set_cons_succ]
 have il8:i≤i8:=Nat.le_trans il6 hi8
 have st8:i<i8∨bad8=true:=st_on st6 hi8 hb8
 have bm8:bad=true→bad8=true:=fun e=>hb8 (bm6 e)
 have kb8:=kb7.trans k8
 have z8:=(k8).size
 have sc_23:PsAt W8 q.P (V) (ss):=sc_19.kb k8
 have sc_24:PsAt W8 q.P (V4) (ss ++ [t2]):=sc_20.kb k8
 have bx_25:W8.heap[w.heap.size]? = some (.cells (zeroE) 52):=(k8).heap bx_21 (by show ¬ _=_; omega)
 have bx_26:W8.heap[W6.heap.size]? = some (.cells (cellsV v6) 52):=(k8).heap x7 (by show ¬ _=_; omega)
 have ev_27:EV (fun b=>w.heap.size+1≤b) W8 v6:=ev_22.kb k8 hp1
 refine wpList_nil ?_
 refine hK _ _ ?_
 clear hK K
 refine wp_seq_k (fun K0 hK0 => ?_)
 have bd0:Below W8.heap.size W8 W8.drew:=⟨rfl,rfl,rfl,Nat.le_refl _,fun _ _=>rfl⟩
 refine wp_region_held_drew (S:=fun Wq=>Wq.heap[W6.heap.size]? = some (.cells (cellsV v6) 52)∧True) (by kernel_rfl) ⟨bx_26,trivial⟩ (fun hS => ?_)
 obtain ⟨W9,hWd⟩:∃ W',W'=W8.drew:=⟨_,rfl⟩
 rw [← hWd] at hS bd0 ⊢
 clear hWd
 have kk_28:KB (· = q.P) W8 W9:=KB.of_below bd0
 have hh_29:=h8.below bd0
 have kb9:=kb8.trans kk_28
 have z9:=(kk_28).size
 have sc_30:PsAt W9 q.P (V) (ss):=sc_23.kb kk_28
 have sc_31:PsAt W9 q.P (V4) (ss ++ [t2]):=sc_24.kb kk_28
 have bx_32:W9.heap[w.heap.size]? = some (.cells (zeroE) 52):=(kk_28).heap bx_25 (by show ¬ _=_; omega)
 have bx_33:W9.heap[W6.heap.size]? = some (.cells (cellsV v6) 52):=(kk_28).heap bx_26 (by show ¬ _=_; omega)
 have ev_34:EV (fun b=>w.heap.size+1≤b) W9 v6:=ev_27.kb kk_28 hp1
 refine wpAnyH_take (i:=0) (v:=.agg (cellsV v6)) rfl (by kernel_rfl) (by kernel_rfl) (by kernel_rfl) (fun _ _ _ h=>h) (Or.inl ⟨by rfl,fun wq hSw => ?_⟩) hS ?_
 ·exact ex_loadE _ _ (.tmp 6) (W6.heap.size) _ _ rfl (by rfl) wq hSw.1 (ev_34.agg.2.1)
 simp only [Act.put,lsk]
 refine wpAnyH_take (i:=1) (v:=.pointer (some ⟨q.P,0,none⟩)) rfl (by kernel_rfl) (by kernel_rfl) (by kernel_rfl) (fun _ _ _ h=>h) (Or.inl ⟨by rfl,fun wq hSw => ?_⟩) hS ?_
 ·exact ex_move _ _ _ _ rfl (by rfl) _
 simp only [Act.put,lsk]
 refine wpAnyH_take (i:=2) (v:=V4) rfl (by kernel_rfl) (by kernel_rfl) (by kernel_rfl) (fun _ _ _ h=>h) (Or.inl ⟨by rfl,fun wq hSw => ?_⟩) hS ?_
 ·exact ex_move _ _ _ _ rfl (by rfl) _
 simp only [Act.put,lsk]
 refine wpAnyH_ready (rs:=[3]) (by kernel_rfl) (by simp) ?_
 refine AllReadyH.cons rfl (fun K hK => ?_) AllReadyH.nil
 refine step_callTwo rfl 41 (.tmp 20) (.tmp 21) _ rfl ent_exp (.pointer (some ⟨q.P,0,none⟩)) (V4) (by rfl) (by rfl) (fun r w'=>EV (fun b=>W9.heap.size≤b) w' r∧AftS q W9 w' i8 bad8) ((hE i8 bad8 lost8 (V4) (ss ++ [t2]) W9 hh_29 (lt_on hm il8) sc_31 (len_more hl (by simp) il8)).mono (fun e w' ⟨v,he,hh⟩=>⟨v,he,hh⟩)) ?_
 rintro v10 W10 ⟨e10,k10,i10,bad10,lost10,hi10,hb10,hs10,h10⟩
 have il10:i≤i10:=Nat.le_trans il8 hi10
 have st10:i<i10∨bad10=true:=st_new il8 hs10
 have bm10:bad=true→bad10=true:=fun e=>hb10 (bm8 e)
 have kb10:=kb9.trans k10
 have z10:=(k10).size
 have sc_35:PsAt W10 q.P (V) (ss):=sc_30.kb k10
 have sc_36:PsAt W10 q.P (V4) (ss ++ [t2]):=sc_31.kb k10
 have bx_37:W10.heap[w.heap.size]? = some (.cells (zeroE) 52):=(k10).heap bx_32 (by show ¬ _=_; omega)
 have bx_38:W10.heap[W6.heap.size]? = some (.cells (cellsV v6) 52):=(k10).heap bx_33 (by show ¬ _=_; omega)
 have ev_39:EV (fun b=>w.heap.size+1≤b) W10 v6:=ev_34.kb k10 hp1
 have f10:EV (fun b=>w.heap.size+1≤b) W10 v10:=e10.wide (fun b hb _=>by have:=kb10.size; show w.heap.size+1≤b; have hb':W9.heap.size≤b:=hb; omega)
 have hS:(fun Wq:World=>Wq.heap[W6.heap.size]? = some (.cells (cellsV v6) 52)∧True) W10:=⟨bx_38,trivial⟩
 refine hK _ _ hS (fun _ => ?_)
 clear hK K
 simp only [Act.put,lsk]
 refine wpAnyH_ready (rs:=[4]) (by kernel_rfl) (by simp) ?_
 refine AllReadyH.cons rfl (fun K hK => ?_) AllReadyH.nil
 obtain ⟨W11,e11⟩:∃ W',W'=W10.alloc (.cells ⟨[v6,v10].flatMap cellsE⟩ 52):=⟨_,rfl⟩
 have b11:Below W10.heap.size W10 W11:=by rw [e11]; exact (Below.refl _ _).alloc (Nat.le_refl _) _
 have x11:W11.heap[W10.heap.size]? = some (.cells ⟨[v6,v10].flatMap cellsE⟩ 52):=by rw [e11]; exact block_new _ _
 refine step_run rfl (.slice (some ⟨W10.heap.size,0,none⟩) 2 2) W11 (by rw [e11]; exact ex_rowE2 _ _ (.tmp 19) (.tmp 22) rfl ev_39 f10 (EV.aggR ev_39 (by rfl)) (by rfl) _) ?_
 have kk_40:KB (· = q.P) W10 W11:=KB.of_below b11
 have hh_41:=h10.below b11
 have kb11:=kb10.trans kk_40
 have z11:=(kk_40).size
 have sc_42:PsAt W11 q.P (V) (ss):=sc_35.kb kk_40
 have sc_43:PsAt W11 q.P (V4) (ss ++ [t2]):=sc_36.kb kk_40
 have bx_44:W11.heap[w.heap.size]? = some (.cells (zeroE) 52):=(kk_40).heap bx_37 (by show ¬ _=_; omega)
 have bx_45:W11.heap[W6.heap.size]? = some (.cells (cellsV v6) 52):=(kk_40).heap bx_38 (by show ¬ _=_; omega)
 have ev_46:EV (fun b=>w.heap.size+1≤b) W11 v6:=ev_39.kb kk_40 hp1
 have ev_47:EV (fun b=>w.heap.size+1≤b) W11 v10:=f10.kb kk_40 hp1
 have fv:EV (fun b=>w.heap.size+1≤b) W11 (.agg #[.int .i64 5,.int .i64 0,.string ⟨#[]⟩,.slice (some ⟨W10.heap.size,0,none⟩) 2 2]):=EV.over (vs:=[v6,v10]) (by simp) (fun u hu=>by simp only [List.mem_cons,List.not_mem_nil,or_false] at hu; rcases hu with rfl | rfl <;> assumption) x11 (by have:=kb11.size; show w.heap.size+1≤W10.heap.size; omega) ⟨by omega,by omega⟩ ⟨by omega,by omega⟩ (Nat.zero_le _)
 have hS:(fun Wq:World=>Wq.heap[W6.heap.size]? = some (.cells (cellsV v6) 52)∧True) W11:=⟨bx_45,trivial⟩
 refine hK _ _ hS (fun _ => ?_)
 clear hK K
 simp only [Act.put,lsk]
 refine wpAnyH_ready (rs:=[5]) (by kernel_rfl) (by simp) ?_
 refine AllReadyH.cons rfl (fun K hK => ?_) AllReadyH.nil
 refine step_run rfl (.agg #[.int .i64 5,.int .i64 0,.string ⟨#[]⟩,.slice (some ⟨W10.heap.size,0,none⟩) 2 2]) W11 (ex_build03 _ _ rfl (by rfl) _) ?_
 have hS:(fun Wq:World=>Wq.heap[W6.heap.size]? = some (.cells (cellsV v6) 52)∧True) W11:=⟨bx_45,trivial⟩
 refine hK _ _ hS (fun _ => ?_)
 clear hK K
 simp only [Act.put,lsk]
 refine wpAnyH_ready (rs:=[6]) (by kernel_rfl) (by simp) ?_
 refine AllReadyH.cons rfl (fun K hK => ?_) AllReadyH.nil
 refine step_skip rfl (W11.setRow w.heap.size (cellsV (.agg #[.int .i64 5,.int .i64 0,.string ⟨#[]⟩,.slice (some ⟨W10.heap.size,0,none⟩) 2 2]))) (ex_storeE _ _ (.tmp 4) (.tmp 24) w.heap.size _ _ _ rfl (by rfl) (by rfl) W11 bx_44 rfl fv.agg.2.1 fv.agg.2.2.1) ?_
 have fin:=fin_box (v:=.agg #[.int .i64 5,.int .i64 0,.string ⟨#[]⟩,.slice (some ⟨W10.heap.size,0,none⟩) 2 2]) h0 ⟨kb11,i10,bad10,lost10,il10,bm10,st10,hh_41⟩ fv bx_44
 refine hK _ _ (⟨((setRow_kb _ _ _).heap bx_45 (by show ¬ _=_; omega)),trivial⟩) (fun _ => ?_)
 clear hK K
 simp only [Act.put,List.getElem_toArray,List.getElem_cons_zero,List.getElem_cons_succ]
 refine wpAnyH_done (by kernel_rfl) ?_ _
 refine hK0 _ _ ?_
 clear hK0 K0
 have HF:=(show Hid (_∧_∧_) from fin)
 generalize W11.setRow w.heap.size (cellsV (.agg #[.int .i64 5,.int .i64 0,.string ⟨#[]⟩,.slice (some ⟨W10.heap.size,0,none⟩) 2 2]))=WF at HF ⊢
 clear HC H0
 go_wp2
 refine bodyPost_ret (results_cell_row (p:=4) (ty:=52) rfl _ WF w.heap.size _ _ (0,0) _ rfl HF.out.2.2 Tryz.underlying52 rfl (by exact sizeE)) rfl ?_
 exact ⟨_,rfl,HF.out.1,HF.out.2.1⟩
end Go.Proofs.YtljdgmfcgkimoaaGreatDoor

namespace Go.Proofs.YtljdgmfcgkimoaaGreatDoor
open Go.RowKit Go.Joins Go.Shelf
set_option maxRecDepth 100000
set_option maxHeartbeats 800000 in
theorem if_of (q:Ps) (m:Nat) (hE:CC 41 q m 0):CC 71 q m 6:=by
 intro i bad lost V ss w h hm hs hl
 have hq:=h.lt
 obtain ⟨W1,hW1⟩:∃ W1,W1=w.alloc (.cells zeroE 52):=⟨_,rfl⟩
 have b1:Below w.heap.size w W1:=by rw [hW1]; exact (Below.refl _ w).alloc (Nat.le_refl _) _
 have z1:W1.heap.size=w.heap.size+1:=by rw [hW1]; simp
 have x1:W1.heap[w.heap.size]? = some (.cells zeroE 52):=by rw [hW1]; exact block_new w _
 have hs1:=hs.below b1
 have h1:=h.below b1
 have HC:=(show Hid (KB (· = q.P) w W1∧ParAt q W1 i bad lost∧PsAt W1 q.P V ss∧W1.heap.size=w.heap.size+1∧W1.heap[w.heap.size]? = some (.cells zeroE 52)) from ⟨KB.of_below b1,h1,hs1,z1,x1⟩)
 have HS:=(show Hid (PsAt w q.P V ss) from hs)
 have H0:=(show Hid (ParAt q w i bad lost∧q.n - i<m∧ss.length+6+6 * (q.n - i)≤20000∧q.P<w.heap.size) from ⟨h,hm,hl,hq⟩)
 clear h hm hs hl hq b1 z1 x1 hs1 h1
 go_enter Tryz.func71,Tryz.ntmps71
 refine wp_seq_k (fun K hK => ?_)
 refine wp_region_list ?_
 refine wpl_run rfl (.pointer (some ⟨w.heap.size,0,none⟩)) W1 (by rw [hW1]; exact ex_allocE _ _ rfl w) ?_
 simp only [Act.put,List.setIfInBounds_toArray,List.set_cons_zero,List.set_cons_succ]
 refine wpList_nil ?_
 refine hK _ _ ?_
 clear hK K hW1
 obtain ⟨kb1,h1,sc1,z1,bx1⟩:=HC.out
 obtain ⟨h0,hm,hl,hq⟩:=H0.out
 have hp1:¬ (fun b:Nat=>w.heap.size+1≤b) q.P:=fun hx=>by have hx':w.heap.size+1≤q.P:=hx; omega
 have il1:i≤i:=Nat.le_refl i
 have bm1:bad=true→bad=true:=fun e=>e
 refine wp_seq_k (fun K hK => ?_)
 refine wp_region_list ?_
 refine wpl_run rfl (.pointer (some ⟨q.P,0,none⟩)) W1 (ex_move _ _ _ _ rfl (by rfl) _) ?_
 simp only [Act.put,List.setIfInBounds_toArray,List.set_cons_zero,List.set_cons_succ]
 refine wpl_run rfl (V) W1 (ex_move _ _ _ _ rfl (by rfl) _) ?_
 simp only [Act.put,List.setIfInBounds_toArray,List.set_cons_zero,List.set_cons_succ]
 refine wpl_call2 rfl 41 (.tmp 7) (.tmp 8) _ rfl ent_exp (.pointer (some ⟨q.P,0,none⟩)) (V) (by rfl) (by rfl) (fun r w'=>EV (fun b=>W1.heap.size≤b) w' r∧AftS q W1 w' i bad) ((hE i bad lost (V) (ss) W1 h1 (lt_on hm il1) sc1 (len_on hl (Nat.zero_le _) il1)).mono (fun e w' ⟨v,he,hh⟩=>⟨v,he,hh⟩)) ?_
 rintro v2 W2 ⟨e2,k2,i2,bad2,lost2,hi2,hb2,hs2,h2⟩
 simp only [Act.put,List.setIfInBounds_toArray,List.set_cons_zero,List.set_cons_succ]
 have il2:i≤i2:=Nat.le_trans il1 hi2
 have st2:i<i2∨bad2=true:=st_new il1 hs2
 have bm2:bad=true→bad2=true:=fun e=>hb2 (bm1 e)
 have kb2:=kb1.trans k2
 have z2:=(k2).size
 have sc_1:PsAt W2 q.P (V) (ss):=sc1.kb k2
 have bx_2:W2.heap[w.heap.size]? = some (.cells (zeroE) 52):=(k2).heap bx1 (by show ¬ _=_; omega)
 have f2:EV (fun b=>w.heap.size+1≤b) W2 v2:=e2.wide (fun b hb _=>by have:=kb2.size; show w.heap.size+1≤b; have hb':W1.heap.size≤b:=hb; omega)
 refine wpl_box 5 (.tmp 9) rfl rfl rfl rfl rfl rfl f2 (by rfl) (by rfl) ?_
 intro W3 y3 b3 x3
 simp only [Act.put,List.setIfInBounds_toArray,List.set_cons_zero,List.set_cons_succ]
 have kk_3:KB (· = q.P) W2 W3:=KB.of_below b3
 have hh_4:=h2.below b3
 have kb3:=kb2.trans kk_3
 have z3:=(kk_3).size
 have sc_5:PsAt W3 q.P (V) (ss):=sc_1.kb kk_3
 have bx_6:W3.heap[w.heap.size]? = some (.cells (zeroE) 52):=(kk_3).heap bx_2 (by show ¬ _=_; omega)
 have ev_7:EV (fun b=>w.heap.size+1≤b) W3 v2:=f2.kb kk_3 hp1
 refine wpList_nil ?_
 refine hK _ _ ?_
 clear hK K
 refine wp_seq_k (fun K hK => ?_)
 refine wp_region_list ?_
 refine wpl_run rfl (.pointer (some ⟨q.P,0,none⟩)) W3 (ex_move _ _ _ _ rfl (by rfl) _) ?_
 simp only [Act.put,List.setIfInBounds_toArray,List.set_cons_zero,List.set_cons_succ]
 refine wpl_call2 rfl 40 (.tmp 10) _ _ rfl ent_take (.pointer (some ⟨q.P,0,none⟩)) (.string ⟨#[116,104,101,110]⟩) (by rfl) rfl (fun r w'=>PAft q W3 w' i2 bad2) ((take_any q W3 i2 bad2 lost2 _ hh_4).mono (fun e w' ⟨he,hh⟩=>⟨_,he,hh⟩)) ?_
 rintro r W4 ⟨k4,i4,bad4,lost4,hi4,hb4,h4⟩
 simp only [Act.put,List.setIfInBounds_toArray,List.set_cons_zero,List.set_cons_succ]
 have il4:i≤i4:=Nat.le_trans il2 hi4
 have st4:i<i4∨bad4=true:=st_on st2 hi4 hb4
 have bm4:bad=true→bad4=true:=fun e=>hb4 (bm2 e)
 have kb4:=kb3.trans k4
 have z4:=(k4).size
 have sc_8:PsAt W4 q.P (V) (ss):=sc_5.kb k4
 have bx_9:W4.heap[w.heap.size]? = some (.cells (zeroE) 52):=(k4).heap bx_6 (by show ¬ _=_; omega)
 have bx_10:W4.heap[W2.heap.size]? = some (.cells (cellsV v2) 52):=(k4).heap x3 (by show ¬ _=_; omega)
 have ev_11:EV (fun b=>w.heap.size+1≤b) W4 v2:=ev_7.kb k4 hp1
 refine wpList_nil ?_
 refine hK _ _ ?_
 clear hK K
 refine wp_seq_k (fun K hK => ?_)
 refine wp_region_list ?_
 refine wpl_run rfl (.pointer (some ⟨q.P,0,none⟩)) W4 (ex_move _ _ _ _ rfl (by rfl) _) ?_
 simp only [Act.put,List.setIfInBounds_toArray,List.set_cons_zero,List.set_cons_succ]
 refine wpl_run rfl (V) W4 (ex_move _ _ _ _ rfl (by rfl) _) ?_
 simp only [Act.put,List.setIfInBounds_toArray,List.set_cons_zero,List.set_cons_succ]
 refine wpl_call2 rfl 41 (.tmp 12) (.tmp 13) _ rfl ent_exp (.pointer (some ⟨q.P,0,none⟩)) (V) (by rfl) (by rfl) (fun r w'=>EV (fun b=>W4.heap.size≤b) w' r∧AftS q W4 w' i4 bad4) ((hE i4 bad4 lost4 (V) (ss) W4 h4 (lt_on hm il4) sc_8 (len_on hl (Nat.zero_le _) il4)).mono (fun e w' ⟨v,he,hh⟩=>⟨v,he,hh⟩)) ?_
 rintro v5 W5 ⟨e5,k5,i5,bad5,lost5,hi5,hb5,hs5,h5⟩
 simp only [Act.put,List.setIfInBounds_toArray,List.set_cons_zero,List.set_cons_succ]
 have il5:i≤i5:=Nat.le_trans il4 hi5
 have st5:i<i5∨bad5=true:=st_new il4 hs5
 have bm5:bad=true→bad5=true:=fun e=>hb5 (bm4 e)
 have kb5:=kb4.trans k5
 have z5:=(k5).size
 have sc_12:PsAt W5 q.P (V) (ss):=sc_8.kb k5
 have bx_13:W5.heap[w.heap.size]? = some (.cells (zeroE) 52):=(k5).heap bx_9 (by show ¬ _=_; omega)
 have bx_14:W5.heap[W2.heap.size]? = some (.cells (cellsV v2) 52):=(k5).heap bx_10 (by show ¬ _=_; omega)
 have ev_15:EV (fun b=>w.heap.size+1≤b) W5 v2:=ev_11.kb k5 hp1
 have f5:EV (fun b=>w.heap.size+1≤b) W5 v5:=e5.wide (fun b hb _=>by have:=kb5.size; show w.heap.size+1≤b; have hb':W4.heap.size≤b:=hb; omega)
 refine wpl_box 6 (.tmp 14) rfl rfl rfl rfl rfl rfl f5 (by rfl) (by rfl) ?_
 intro W6 y6 b6 x6
 simp only [Act.put,List.setIfInBounds_toArray,List.set_cons_zero,List.set_cons_succ]
 have kk_16:KB (· = q.P) W5 W6:=KB.of_below b6
 have hh_17:=h5.below b6
 have kb6:=kb5.trans kk_16
 have z6:=(kk_16).size
 have sc_18:PsAt W6 q.P (V) (ss):=sc_12.kb kk_16
 have bx_19:W6.heap[w.heap.size]? = some (.cells (zeroE) 52):=(kk_16).heap bx_13 (by show ¬ _=_; omega)
 have bx_20:W6.heap[W2.heap.size]? = some (.cells (cellsV v2) 52):=(kk_16).heap bx_14 (by show ¬ _=_; omega)
 have ev_21:EV (fun b=>w.heap.size+1≤b) W6 v2:=ev_15.kb kk_16 hp1
 have ev_22:EV (fun b=>w.heap.size+1≤b) W6 v5:=f5.kb kk_16 hp1
 refine wpList_nil ?_
 refine hK _ _ ?_
 clear hK K
 refine wp_seq_k (fun K hK => ?_)
 refine wp_region_list ?_
 refine wpl_run rfl (.pointer (some ⟨q.P,0,none⟩)) W6 (ex_move _ _ _ _ rfl (by rfl) _) ?_
 simp only [Act.put,List.setIfInBounds_toArray,List.set_cons_zero,List.set_cons_succ]
 refine wpl_call2 rfl 40 (.tmp 15) _ _ rfl ent_take (.pointer (some ⟨q.P,0,none⟩)) (.string ⟨#[101,108,115,101]⟩) (by rfl) rfl (fun r w'=>PAft q W6 w' i5 bad5) ((take_any q W6 i5 bad5 lost5 _ hh_17).mono (fun e w' ⟨he,hh⟩=>⟨_,he,hh⟩)) ?_
 rintro r W7 ⟨k7,i7,bad7,lost7,hi7,hb7,h7⟩
 simp only [Act.put,List.setIfInBounds_toArray,List.set_cons_zero,List.set_cons_succ]
 have il7:i≤i7:=Nat.le_trans il5 hi7
 have st7:i<i7∨bad7=true:=st_on st5 hi7 hb7
 have bm7:bad=true→bad7=true:=fun e=>hb7 (bm5 e)
 have kb7:=kb6.trans k7
 have z7:=(k7).size
 have sc_23:PsAt W7 q.P (V) (ss):=sc_18.kb k7
 have bx_24:W7.heap[w.heap.size]? = some (.cells (zeroE) 52):=(k7).heap bx_19 (by show ¬ _=_; omega)
 have bx_25:W7.heap[W2.heap.size]? = some (.cells (cellsV v2) 52):=(k7).heap bx_20 (by show ¬ _=_; omega)
 have bx_26:W7.heap[W5.heap.size]? = some (.cells (cellsV v5) 52):=(k7).heap x6 (by show ¬ _=_; omega)
 have ev_27:EV (fun b=>w.heap.size+1≤b) W7 v2:=ev_21.kb k7 hp1
 have ev_28:EV (fun b=>w.heap.size+1≤b) W7 v5:=ev_22.kb k7 hp1
 refine wpList_nil ?_
 refine hK _ _ ?_
 clear hK K
 refine wp_seq_k (fun K0 hK0 => ?_)
 have bd0:Below W7.heap.size W7 W7.drew:=⟨rfl,rfl,rfl,Nat.le_refl _,fun _ _=>rfl⟩
 refine wp_region_held_drew (S:=fun Wq=>Wq.heap[W2.heap.size]? = some (.cells (cellsV v2) 52)∧Wq.heap[W5.heap.size]? = some (.cells (cellsV v5) 52)∧True) (by kernel_rfl) ⟨bx_25,bx_26,trivial⟩ (fun hS => ?_)
 obtain ⟨W8,hWd⟩:∃ W',W'=W7.drew:=⟨_,rfl⟩
 rw [← hWd] at hS bd0 ⊢
 clear hWd
 have kk_29:KB (· = q.P) W7 W8:=KB.of_below bd0
 have hh_30:=h7.below bd0
 have kb8:=kb7.trans kk_29
 have z8:=(kk_29).size
 have sc_31:PsAt W8 q.P (V) (ss):=sc_23.kb kk_29
 have bx_32:W8.heap[w.heap.size]? = some (.cells (zeroE) 52):=(kk_29).heap bx_24 (by show ¬ _=_; omega)
 have bx_33:W8.heap[W2.heap.size]? = some (.cells (cellsV v2) 52):=(kk_29).heap bx_25 (by show ¬ _=_; omega)
 have bx_34:W8.heap[W5.heap.size]? = some (.cells (cellsV v5) 52):=(kk_29).heap bx_26 (by show ¬ _=_; omega)
 have ev_35:EV (fun b=>w.heap.size+1≤b) W8 v2:=ev_27.kb kk_29 hp1
 have ev_36:EV (fun b=>w.heap.size+1≤b) W8 v5:=ev_28.kb kk_29 hp1
 refine wpAnyH_take (i:=0) (v:=.agg (cellsV v2)) rfl (by kernel_rfl) (by kernel_rfl) (by kernel_rfl) (fun _ _ _ h=>h) (Or.inl ⟨by rfl,fun wq hSw => ?_⟩) hS ?_
 ·exact ex_loadE _ _ (.tmp 5) (W2.heap.size) _ _ rfl (by rfl) wq hSw.1 (ev_35.agg.2.1)
 simp only [Act.put,lsk]
 refine wpAnyH_take (i:=1) (v:=.agg (cellsV v5)) rfl (by kernel_rfl) (by kernel_rfl) (by kernel_rfl) (fun _ _ _ h=>h) (Or.inl ⟨by rfl,fun wq hSw => ?_⟩) hS ?_
 ·exact ex_loadE _ _ (.tmp 6) (W5.heap.size) _ _ rfl (by rfl) wq hSw.2.1 (ev_36.agg.2.1)
 simp only [Act.put,lsk]
 refine wpAnyH_take (i:=2) (v:=.pointer (some ⟨q.P,0,none⟩)) rfl (by kernel_rfl) (by kernel_rfl) (by kernel_rfl) (fun _ _ _ h=>h) (Or.inl ⟨by rfl,fun wq hSw => ?_⟩) hS ?_
 ·exact ex_move _ _ _ _ rfl (by rfl) _
 simp only [Act.put,lsk]
 refine wpAnyH_take (i:=3) (v:=V) rfl (by kernel_rfl) (by kernel_rfl) (by kernel_rfl) (fun _ _ _ h=>h) (Or.inl ⟨by rfl,fun wq hSw => ?_⟩) hS ?_
 ·exact ex_move _ _ _ _ rfl (by rfl) _
 simp only [Act.put,lsk]
 refine wpAnyH_ready (rs:=[4]) (by kernel_rfl) (by simp) ?_
 refine AllReadyH.cons rfl (fun K hK => ?_) AllReadyH.nil
 refine step_callTwo rfl 41 (.tmp 19) (.tmp 20) _ rfl ent_exp (.pointer (some ⟨q.P,0,none⟩)) (V) (by rfl) (by rfl) (fun r w'=>EV (fun b=>W8.heap.size≤b) w' r∧AftS q W8 w' i7 bad7) ((hE i7 bad7 lost7 (V) (ss) W8 hh_30 (lt_on hm il7) sc_31 (len_on hl (Nat.zero_le _) il7)).mono (fun e w' ⟨v,he,hh⟩=>⟨v,he,hh⟩)) ?_
 rintro v9 W9 ⟨e9,k9,i9,bad9,lost9,hi9,hb9,hs9,h9⟩
 have il9:i≤i9:=Nat.le_trans il7 hi9
 have st9:i<i9∨bad9=true:=st_new il7 hs9
 have bm9:bad=true→bad9=true:=fun e=>hb9 (bm7 e)
 have kb9:=kb8.trans k9
 have z9:=(k9).size
 have sc_37:PsAt W9 q.P (V) (ss):=sc_31.kb k9
 have bx_38:W9.heap[w.heap.size]? = some (.cells (zeroE) 52):=(k9).heap bx_32 (by show ¬ _=_; omega)
 have bx_39:W9.heap[W2.heap.size]? = some (.cells (cellsV v2) 52):=(k9).heap bx_33 (by show ¬ _=_; omega)
 have bx_40:W9.heap[W5.heap.size]? = some (.cells (cellsV v5) 52):=(k9).heap bx_34 (by show ¬ _=_; omega)
 have ev_41:EV (fun b=>w.heap.size+1≤b) W9 v2:=ev_35.kb k9 hp1
 have ev_42:EV (fun b=>w.heap.size+1≤b) W9 v5:=ev_36.kb k9 hp1
 have f9:EV (fun b=>w.heap.size+1≤b) W9 v9:=e9.wide (fun b hb _=>by have:=kb9.size; show w.heap.size+1≤b; have hb':W8.heap.size≤b:=hb; omega)
 have hS:(fun Wq:World=>Wq.heap[W2.heap.size]? = some (.cells (cellsV v2) 52)∧Wq.heap[W5.heap.size]? = some (.cells (cellsV v5) 52)∧True) W9:=⟨bx_39,bx_40,trivial⟩
 refine hK _ _ hS (fun _ => ?_)
 clear hK K
 simp only [Act.put,lsk]
 refine wpAnyH_ready (rs:=[5]) (by kernel_rfl) (by simp) ?_
 refine AllReadyH.cons rfl (fun K hK => ?_) AllReadyH.nil
 obtain ⟨W10,e10⟩:∃ W',W'=W9.alloc (.cells ⟨[v2,v5,v9].flatMap cellsE⟩ 52):=⟨_,rfl⟩
 have b10:Below W9.heap.size W9 W10:=by rw [e10]; exact (Below.refl _ _).alloc (Nat.le_refl _) _
 have x10:W10.heap[W9.heap.size]? = some (.cells ⟨[v2,v5,v9].flatMap cellsE⟩ 52):=by rw [e10]; exact block_new _ _
 refine step_run rfl (.slice (some ⟨W9.heap.size,0,none⟩) 3 3) W10 (by rw [e10]; exact ex_rowE3 _ _ (.tmp 17) (.tmp 18) (.tmp 21) rfl ev_41 ev_42 f9 (EV.aggR ev_41 (by rfl)) (EV.aggR ev_42 (by rfl)) (by rfl) _) ?_
 have kk_43:KB (· = q.P) W9 W10:=KB.of_below b10
 have hh_44:=h9.below b10
 have kb10:=kb9.trans kk_43
 have z10:=(kk_43).size
 have sc_45:PsAt W10 q.P (V) (ss):=sc_37.kb kk_43
 have bx_46:W10.heap[w.heap.size]? = some (.cells (zeroE) 52):=(kk_43).heap bx_38 (by show ¬ _=_; omega)
 have bx_47:W10.heap[W2.heap.size]? = some (.cells (cellsV v2) 52):=(kk_43).heap bx_39 (by show ¬ _=_; omega)
 have bx_48:W10.heap[W5.heap.size]? = some (.cells (cellsV v5) 52):=(kk_43).heap bx_40 (by show ¬ _=_; omega)
 have ev_49:EV (fun b=>w.heap.size+1≤b) W10 v2:=ev_41.kb kk_43 hp1
 have ev_50:EV (fun b=>w.heap.size+1≤b) W10 v5:=ev_42.kb kk_43 hp1
 have ev_51:EV (fun b=>w.heap.size+1≤b) W10 v9:=f9.kb kk_43 hp1
 have fv:EV (fun b=>w.heap.size+1≤b) W10 (.agg #[.int .i64 6,.int .i64 0,.string ⟨#[]⟩,.slice (some ⟨W9.heap.size,0,none⟩) 3 3]):=EV.over (vs:=[v2,v5,v9]) (by simp) (fun u hu=>by simp only [List.mem_cons,List.not_mem_nil,or_false] at hu; rcases hu with rfl | rfl | rfl <;> assumption) x10 (by have:=kb10.size; show w.heap.size+1≤W9.heap.size; omega) ⟨by omega,by omega⟩ ⟨by omega,by omega⟩ (Nat.zero_le _)
 have hS:(fun Wq:World=>Wq.heap[W2.heap.size]? = some (.cells (cellsV v2) 52)∧Wq.heap[W5.heap.size]? = some (.cells (cellsV v5) 52)∧True) W10:=⟨bx_47,bx_48,trivial⟩
 refine hK _ _ hS (fun _ => ?_)
 clear hK K
 simp only [Act.put,lsk]
 refine wpAnyH_ready (rs:=[6]) (by kernel_rfl) (by simp) ?_
 refine AllReadyH.cons rfl (fun K hK => ?_) AllReadyH.nil
 refine step_run rfl (.agg #[.int .i64 6,.int .i64 0,.string ⟨#[]⟩,.slice (some ⟨W9.heap.size,0,none⟩) 3 3]) W10 (ex_build03 _ _ rfl (by rfl) _) ?_
 have hS:(fun Wq:World=>Wq.heap[W2.heap.size]? = some (.cells (cellsV v2) 52)∧Wq.heap[W5.heap.size]? = some (.cells (cellsV v5) 52)∧True) W10:=⟨bx_47,bx_48,trivial⟩
 refine hK _ _ hS (fun _ => ?_)
 clear hK K
 simp only [Act.put,lsk]
 refine wpAnyH_ready (rs:=[7]) (by kernel_rfl) (by simp) ?_
 refine AllReadyH.cons rfl (fun K hK => ?_) AllReadyH.nil
 refine step_skip rfl (W10.setRow w.heap.size (cellsV (.agg #[.int .i64 6,.int .i64 0,.string ⟨#[]⟩,.slice (some ⟨W9.heap.size,0,none⟩) 3 3]))) (ex_storeE _ _ (.tmp 4) (.tmp 23) w.heap.size _ _ _ rfl (by rfl) (by rfl) W10 bx_46 rfl fv.agg.2.1 fv.agg.2.2.1) ?_
 have fin:=fin_box (v:=.agg #[.int .i64 6,.int .i64 0,.string ⟨#[]⟩,.slice (some ⟨W9.heap.size,0,none⟩) 3 3]) h0 ⟨kb10,i9,bad9,lost9,il9,bm9,st9,hh_44⟩ fv bx_46
 refine hK _ _ (⟨((setRow_kb _ _ _).heap bx_47 (by show ¬ _=_; omega)),((setRow_kb _ _ _).heap bx_48 (by show ¬ _=_; omega)),trivial⟩) (fun _ => ?_)
 clear hK K
 simp only [Act.put,List.getElem_toArray,List.getElem_cons_zero,List.getElem_cons_succ]
 refine wpAnyH_done (by kernel_rfl) ?_ _
 refine hK0 _ _ ?_
 clear hK0 K0
 have HF:=(show Hid (_∧_∧_) from fin)
 generalize W10.setRow w.heap.size (cellsV (.agg #[.int .i64 6,.int .i64 0,.string ⟨#[]⟩,.slice (some ⟨W9.heap.size,0,none⟩) 3 3]))=WF at HF ⊢
 clear HC H0
 go_wp2
 refine bodyPost_ret (results_cell_row (p:=4) (ty:=52) rfl _ WF w.heap.size _ _ (0,0) _ rfl HF.out.2.2 Tryz.underlying52 rfl (by exact sizeE)) rfl ?_
 exact ⟨_,rfl,HF.out.1,HF.out.2.1⟩
end Go.Proofs.YtljdgmfcgkimoaaGreatDoor
