/-
  Proofs.
-/
import Derived.Test.YtljdgmfcgkimoaaGreatDoorJ1
import Derived.Test.YtljdgmfcgkimoaaGreatDoorJ4
namespace Go.Proofs.YtljdgmfcgkimoaaGreatDoor
open Go.RowKit Go.Joins Go.Shelf
set_option maxRecDepth 100000
set_option maxHeartbeats 800000 in
theorem case_of (q:Ps) (m:Nat) (hE:CC 41 q m 0):CC 72 q m 6:=by
 intro i bad lost V ss w h hm hs hl
 have hq:=h.lt
 obtain ⟨W1,hW1⟩:∃ W1,W1=w.alloc (.cells zeroE 52):=⟨_,rfl⟩
 have b1:Below w.heap.size w W1:=by rw [hW1]; exact (Below.refl _ w).alloc (Nat.le_refl _) _
 have z1:W1.heap.size=w.heap.size+1:=by rw [hW1]; simp
 have x1:W1.heap[w.heap.size]? = some (.cells zeroE 52):=by rw [hW1]; exact block_new w _
 have hs1:=hs.below b1
 have h1:=h.below b1
 have HC:=(show Hid (KB (· = q.P) w W1∧ParAt q W1 i bad lost∧PsAt W1 q.P V ss∧W1.heap.size=w.heap.size+1∧W1.heap[w.heap.size]? = some (.cells zeroE 52)) from ⟨KB.of_below b1,h1,hs1,z1,x1⟩)
 have HS:=(show Hid (PsAt w q.P V ss) from hs)
 have H0:=(show Hid (ParAt q w i bad lost∧q.n - i<m∧ss.length+6+6 * (q.n - i)≤20000∧q.P<w.heap.size) from ⟨h,hm,hl,hq⟩)
 clear h hm hs hl hq b1 z1 x1 hs1 h1
 go_enter Tryz.func72,Tryz.ntmps72
 refine wp_seq_k (fun K hK => ?_)
 refine wp_region_list ?_
 refine wpl_run rfl (.pointer (some ⟨w.heap.size,0,none⟩)) W1 (by rw [hW1]; exact ex_allocE _ _ rfl w) ?_
 simp only [Act.put,List.setIfInBounds_toArray,List.set_cons_zero,List.set_cons_succ]
 refine wpList_nil ?_
 refine hK _ _ ?_
 clear hK K hW1
 obtain ⟨kb1,h1,sc1,z1,bx1⟩:=HC.out
 obtain ⟨h0,hm,hl,hq⟩:=H0.out
 have hp1:¬ (fun b:Nat=>w.heap.size+1≤b) q.P:=fun hx=>by have hx':w.heap.size+1≤q.P:=hx; omega
 have il1:i≤i:=Nat.le_refl i
 have bm1:bad=true→bad=true:=fun e=>e
 refine wp_seq_k (fun K hK => ?_)
 refine wp_region_list ?_
 refine wpl_run rfl (.pointer (some ⟨q.P,0,none⟩)) W1 (ex_move _ _ _ _ rfl (by rfl) _) ?_
 simp only [Act.put,List.setIfInBounds_toArray,List.set_cons_zero,List.set_cons_succ]
 refine wpl_run rfl (V) W1 (ex_move _ _ _ _ rfl (by rfl) _) ?_
 simp only [Act.put,List.setIfInBounds_toArray,List.set_cons_zero,List.set_cons_succ]
 refine wpl_call2 rfl 41 (.tmp 9) (.tmp 10) _ rfl ent_exp (.pointer (some ⟨q.P,0,none⟩)) (V) (by rfl) (by rfl) (fun r w'=>EV (fun b=>W1.heap.size≤b) w' r∧AftS q W1 w' i bad) ((hE i bad lost (V) (ss) W1 h1 (lt_on hm il1) sc1 (len_on hl (Nat.zero_le _) il1)).mono (fun e w' ⟨v,he,hh⟩=>⟨v,he,hh⟩)) ?_
 rintro v2 W2 ⟨e2,k2,i2,bad2,lost2,hi2,hb2,hs2,h2⟩
 simp only [Act.put,List.setIfInBounds_toArray,List.set_cons_zero,List.set_cons_succ]
 have il2:i≤i2:=Nat.le_trans il1 hi2
 have st2:i<i2∨bad2=true:=st_new il1 hs2
 have bm2:bad=true→bad2=true:=fun e=>hb2 (bm1 e)
 have kb2:=kb1.trans k2
 have z2:=(k2).size
 have sc_1:PsAt W2 q.P (V) (ss):=sc1.kb k2
 have bx_2:W2.heap[w.heap.size]? = some (.cells (zeroE) 52):=(k2).heap bx1 (by show ¬ _=_; omega)
 have f2:EV (fun b=>w.heap.size+1≤b) W2 v2:=e2.wide (fun b hb _=>by have:=kb2.size; show w.heap.size+1≤b; have hb':W1.heap.size≤b:=hb; omega)
 refine wpl_box 5 (.tmp 11) rfl rfl rfl rfl rfl rfl f2 (by rfl) (by rfl) ?_
 intro W3 y3 b3 x3
 simp only [Act.put,List.setIfInBounds_toArray,List.set_cons_zero,List.set_cons_succ]
 have kk_3:KB (· = q.P) W2 W3:=KB.of_below b3
 have hh_4:=h2.below b3
 have kb3:=kb2.trans kk_3
 have z3:=(kk_3).size
 have sc_5:PsAt W3 q.P (V) (ss):=sc_1.kb kk_3
 have bx_6:W3.heap[w.heap.size]? = some (.cells (zeroE) 52):=(kk_3).heap bx_2 (by show ¬ _=_; omega)
 have ev_7:EV (fun b=>w.heap.size+1≤b) W3 v2:=f2.kb kk_3 hp1
 refine wpList_nil ?_
 refine hK _ _ ?_
 clear hK K
 refine wp_seq_k (fun K hK => ?_)
 refine wp_region_list ?_
 refine wpl_run rfl (.pointer (some ⟨q.P,0,none⟩)) W3 (ex_move _ _ _ _ rfl (by rfl) _) ?_
 simp only [Act.put,List.setIfInBounds_toArray,List.set_cons_zero,List.set_cons_succ]
 refine wpl_call2 rfl 40 (.tmp 12) _ _ rfl ent_take (.pointer (some ⟨q.P,0,none⟩)) (.string ⟨#[111,102]⟩) (by rfl) rfl (fun r w'=>PAft q W3 w' i2 bad2) ((take_any q W3 i2 bad2 lost2 _ hh_4).mono (fun e w' ⟨he,hh⟩=>⟨_,he,hh⟩)) ?_
 rintro r W4 ⟨k4,i4,bad4,lost4,hi4,hb4,h4⟩
 simp only [Act.put,List.setIfInBounds_toArray,List.set_cons_zero,List.set_cons_succ]
 have il4:i≤i4:=Nat.le_trans il2 hi4
 have st4:i<i4∨bad4=true:=st_on st2 hi4 hb4
 have bm4:bad=true→bad4=true:=fun e=>hb4 (bm2 e)
 have kb4:=kb3.trans k4
 have z4:=(k4).size
 have sc_8:PsAt W4 q.P (V) (ss):=sc_5.kb k4
 have bx_9:W4.heap[w.heap.size]? = some (.cells (zeroE) 52):=(k4).heap bx_6 (by show ¬ _=_; omega)
 have bx_10:W4.heap[W2.heap.size]? = some (.cells (cellsV v2) 52):=(k4).heap x3 (by show ¬ _=_; omega)
 have ev_11:EV (fun b=>w.heap.size+1≤b) W4 v2:=ev_7.kb k4 hp1
 refine wpList_nil ?_
 refine hK _ _ ?_
 clear hK K
 refine wp_seq_k (fun K hK => ?_)
 refine wp_region_list ?_
 refine wpl_run rfl (.pointer (some ⟨q.P,0,none⟩)) W4 (ex_move _ _ _ _ rfl (by rfl) _) ?_
 simp only [Act.put,List.setIfInBounds_toArray,List.set_cons_zero,List.set_cons_succ]
 refine wpl_call2 rfl 40 (.tmp 14) _ _ rfl ent_take (.pointer (some ⟨q.P,0,none⟩)) (.string ⟨#[91,93]⟩) (by rfl) rfl (fun r w'=>PAft q W4 w' i4 bad4) ((take_any q W4 i4 bad4 lost4 _ h4).mono (fun e w' ⟨he,hh⟩=>⟨_,he,hh⟩)) ?_
 rintro r W5 ⟨k5,i5,bad5,lost5,hi5,hb5,h5⟩
 simp only [Act.put,List.setIfInBounds_toArray,List.set_cons_zero,List.set_cons_succ]
 have il5:i≤i5:=Nat.le_trans il4 hi5
 have st5:i<i5∨bad5=true:=st_on st4 hi5 hb5
 have bm5:bad=true→bad5=true:=fun e=>hb5 (bm4 e)
 have kb5:=kb4.trans k5
 have z5:=(k5).size
 have sc_12:PsAt W5 q.P (V) (ss):=sc_8.kb k5
 have bx_13:W5.heap[w.heap.size]? = some (.cells (zeroE) 52):=(k5).heap bx_9 (by show ¬ _=_; omega)
 have bx_14:W5.heap[W2.heap.size]? = some (.cells (cellsV v2) 52):=(k5).heap bx_10 (by show ¬ _=_; omega)
 have ev_15:EV (fun b=>w.heap.size+1≤b) W5 v2:=ev_11.kb k5 hp1
 refine wpList_nil ?_
 refine hK _ _ ?_
 clear hK K
 refine wp_seq_k (fun K hK => ?_)
 refine wp_region_list ?_
 refine wpl_run rfl (.pointer (some ⟨q.P,0,none⟩)) W5 (ex_move _ _ _ _ rfl (by rfl) _) ?_
 simp only [Act.put,List.setIfInBounds_toArray,List.set_cons_zero,List.set_cons_succ]
 refine wpl_call2 rfl 40 (.tmp 16) _ _ rfl ent_take (.pointer (some ⟨q.P,0,none⟩)) (.string ⟨#[45,62]⟩) (by rfl) rfl (fun r w'=>PAft q W5 w' i5 bad5) ((take_any q W5 i5 bad5 lost5 _ h5).mono (fun e w' ⟨he,hh⟩=>⟨_,he,hh⟩)) ?_
 rintro r W6 ⟨k6,i6,bad6,lost6,hi6,hb6,h6⟩
 simp only [Act.put,List.setIfInBounds_toArray,List.set_cons_zero,List.set_cons_succ]
 have il6:i≤i6:=Nat.le_trans il5 hi6
 have st6:i<i6∨bad6=true:=st_on st5 hi6 hb6
 have bm6:bad=true→bad6=true:=fun e=>hb6 (bm5 e)
 have kb6:=kb5.trans k6
 have z6:=(k6).size
 have sc_16:PsAt W6 q.P (V) (ss):=sc_12.kb k6
 have bx_17:W6.heap[w.heap.size]? = some (.cells (zeroE) 52):=(k6).heap bx_13 (by show ¬ _=_; omega)
 have bx_18:W6.heap[W2.heap.size]? = some (.cells (cellsV v2) 52):=(k6).heap bx_14 (by show ¬ _=_; omega)
 have ev_19:EV (fun b=>w.heap.size+1≤b) W6 v2:=ev_15.kb k6 hp1
 refine wpList_nil ?_
 refine hK _ _ ?_
 clear hK K
 refine wp_seq_k (fun K hK => ?_)
 refine wp_region_list ?_
 refine wpl_run rfl (.pointer (some ⟨q.P,0,none⟩)) W6 (ex_move _ _ _ _ rfl (by rfl) _) ?_
 simp only [Act.put,List.setIfInBounds_toArray,List.set_cons_zero,List.set_cons_succ]
 refine wpl_run rfl (V) W6 (ex_move _ _ _ _ rfl (by rfl) _) ?_
 simp only [Act.put,List.setIfInBounds_toArray,List.set_cons_zero,List.set_cons_succ]
 refine wpl_call2 rfl 41 (.tmp 18) (.tmp 19) _ rfl ent_exp (.pointer (some ⟨q.P,0,none⟩)) (V) (by rfl) (by rfl) (fun r w'=>EV (fun b=>W6.heap.size≤b) w' r∧AftS q W6 w' i6 bad6) ((hE i6 bad6 lost6 (V) (ss) W6 h6 (lt_on hm il6) sc_16 (len_on hl (Nat.zero_le _) il6)).mono (fun e w' ⟨v,he,hh⟩=>⟨v,he,hh⟩)) ?_
 rintro v7 W7 ⟨e7,k7,i7,bad7,lost7,hi7,hb7,hs7,h7⟩
 simp only [Act.put,List.setIfInBounds_toArray,List.set_cons_zero,List.set_cons_succ]
 have il7:i≤i7:=Nat.le_trans il6 hi7
 have st7:i<i7∨bad7=true:=st_new il6 hs7
 have bm7:bad=true→bad7=true:=fun e=>hb7 (bm6 e)
 have kb7:=kb6.trans k7
 have z7:=(k7).size
 have sc_20:PsAt W7 q.P (V) (ss):=sc_16.kb k7
 have bx_21:W7.heap[w.heap.size]? = some (.cells (zeroE) 52):=(k7).heap bx_17 (by show ¬ _=_; omega)
 have bx_22:W7.heap[W2.heap.size]? = some (.cells (cellsV v2) 52):=(k7).heap bx_18 (by show ¬ _=_; omega)
 have ev_23:EV (fun b=>w.heap.size+1≤b) W7 v2:=ev_19.kb k7 hp1
 have f7:EV (fun b=>w.heap.size+1≤b) W7 v7:=e7.wide (fun b hb _=>by have:=kb7.size; show w.heap.size+1≤b; have hb':W6.heap.size≤b:=hb; omega)
 refine wpl_box 6 (.tmp 20) rfl rfl rfl rfl rfl rfl f7 (by rfl) (by rfl) ?_
 intro W8 y8 b8 x8
 simp only [Act.put,List.setIfInBounds_toArray,List.set_cons_zero,List.set_cons_succ]
 have kk_24:KB (· = q.P) W7 W8:=KB.of_below b8
 have hh_25:=h7.below b8
 have kb8:=kb7.trans kk_24
 have z8:=(kk_24).size
 have sc_26:PsAt W8 q.P (V) (ss):=sc_20.kb kk_24
 have bx_27:W8.heap[w.heap.size]? = some (.cells (zeroE) 52):=(kk_24).heap bx_21 (by show ¬ _=_; omega)
 have bx_28:W8.heap[W2.heap.size]? = some (.cells (cellsV v2) 52):=(kk_24).heap bx_22 (by show ¬ _=_; omega)
 have ev_29:EV (fun b=>w.heap.size+1≤b) W8 v2:=ev_23.kb kk_24 hp1
 have ev_30:EV (fun b=>w.heap.size+1≤b) W8 v7:=f7.kb kk_24 hp1
 refine wpList_nil ?_
 refine hK _ _ ?_
 clear hK K
 refine wp_seq_k (fun K hK => ?_)
 refine wp_region_list ?_
 refine wpl_run rfl (.pointer (some ⟨q.P,0,none⟩)) W8 (ex_move _ _ _ _ rfl (by rfl) _) ?_
 simp only [Act.put,List.setIfInBounds_toArray,List.set_cons_zero,List.set_cons_succ]
 refine wpl_call2 rfl 40 (.tmp 21) _ _ rfl ent_take (.pointer (some ⟨q.P,0,none⟩)) (.string ⟨#[124]⟩) (by rfl) rfl (fun r w'=>PAft q W8 w' i7 bad7) ((take_any q W8 i7 bad7 lost7 _ hh_25).mono (fun e w' ⟨he,hh⟩=>⟨_,he,hh⟩)) ?_
 rintro r W9 ⟨k9,i9,bad9,lost9,hi9,hb9,h9⟩
 simp only [Act.put,List.setIfInBounds_toArray,List.set_cons_zero,List.set_cons_succ]
 have il9:i≤i9:=Nat.le_trans il7 hi9
 have st9:i<i9∨bad9=true:=st_on st7 hi9 hb9
 have bm9:bad=true→bad9=true:=fun e=>hb9 (bm7 e)
 have kb9:=kb8.trans k9
 have z9:=(k9).size
 have sc_31:PsAt W9 q.P (V) (ss):=sc_26.kb k9
 have bx_32:W9.heap[w.heap.size]? = some (.cells (zeroE) 52):=(k9).heap bx_27 (by show ¬ _=_; omega)
 have bx_33:W9.heap[W2.heap.size]? = some (.cells (cellsV v2) 52):=(k9).heap bx_28 (by show ¬ _=_; omega)
 have bx_34:W9.heap[W7.heap.size]? = some (.cells (cellsV v7) 52):=(k9).heap x8 (by show ¬ _=_; omega)
 have ev_35:EV (fun b=>w.heap.size+1≤b) W9 v2:=ev_29.kb k9 hp1
 have ev_36:EV (fun b=>w.heap.size+1≤b) W9 v7:=ev_30.kb k9 hp1
 refine wpList_nil ?_
 refine hK _ _ ?_
 clear hK K
 refine wp_seq_k (fun K hK => ?_)
 refine wp_region_list ?_
 refine wpl_run rfl (.pointer (some ⟨q.P,0,none⟩)) W9 (ex_move _ _ _ _ rfl (by rfl) _) ?_
 simp only [Act.put,List.setIfInBounds_toArray,List.set_cons_zero,List.set_cons_succ]
 refine wpl_call1 rfl 38 (.tmp 23) _ rfl ent_name (.pointer (some ⟨q.P,0,none⟩)) (by rfl) (fun r w'=>∃ t:ByteArray,r = .string t∧t.size≤1048576∧AftS q W9 w' i9 bad9) ((name_any q W9 i9 bad9 lost9 h9).mono (fun e w' ⟨t,he,hh⟩=>⟨_,he,t,rfl,hh⟩)) ?_
 rintro r W10 ⟨t10,rfl,ht10,k10,i10,bad10,lost10,hi10,hb10,hs10,h10⟩
 simp only [Act.put,List.setIfInBounds_toArray,List.set_cons_zero,List.set_cons_succ]
 have il10:i≤i10:=Nat.le_trans il9 hi10
 have st10:i<i10∨bad10=true:=st_new il9 hs10
 have bm10:bad=true→bad10=true:=fun e=>hb10 (bm9 e)
 have kb10:=kb9.trans k10
 have z10:=(k10).size
 have sc_37:PsAt W10 q.P (V) (ss):=sc_31.kb k10
 have bx_38:W10.heap[w.heap.size]? = some (.cells (zeroE) 52):=(k10).heap bx_32 (by show ¬ _=_; omega)
 have bx_39:W10.heap[W2.heap.size]? = some (.cells (cellsV v2) 52):=(k10).heap bx_33 (by show ¬ _=_; omega)
 have bx_40:W10.heap[W7.heap.size]? = some (.cells (cellsV v7) 52):=(k10).heap bx_34 (by show ¬ _=_; omega)
 have ev_41:EV (fun b=>w.heap.size+1≤b) W10 v2:=ev_35.kb k10 hp1
 have ev_42:EV (fun b=>w.heap.size+1≤b) W10 v7:=ev_36.kb k10 hp1
 refine wpl_run rfl (.string t10) W10 (ex_assign _ _ _ _ rfl (by rfl) _) ?_
 simp only [Act.put,List.setIfInBounds_toArray,List.set_cons_zero,List.set_cons_succ]
 refine wpList_nil ?_
 refine hK _ _ ?_
 clear hK K
 refine wp_seq_k (fun K hK => ?_)
 refine wp_region_list ?_
 refine wpl_run rfl (.pointer (some ⟨q.P,0,none⟩)) W10 (ex_move _ _ _ _ rfl (by rfl) _) ?_
 simp only [Act.put,List.setIfInBounds_toArray,List.set_cons_zero,List.set_cons_succ]
 refine wpl_call2 rfl 40 (.tmp 25) _ _ rfl ent_take (.pointer (some ⟨q.P,0,none⟩)) (.string ⟨#[58]⟩) (by rfl) rfl (fun r w'=>PAft q W10 w' i10 bad10) ((take_any q W10 i10 bad10 lost10 _ h10).mono (fun e w' ⟨he,hh⟩=>⟨_,he,hh⟩)) ?_
 rintro r W11 ⟨k11,i11,bad11,lost11,hi11,hb11,h11⟩
 simp only [Act.put,List.setIfInBounds_toArray,List.set_cons_zero,List.set_cons_succ]
 have il11:i≤i11:=Nat.le_trans il10 hi11
 have st11:i<i11∨bad11=true:=st_on st10 hi11 hb11
 have bm11:bad=true→bad11=true:=fun e=>hb11 (bm10 e)
 have kb11:=kb10.trans k11
 have z11:=(k11).size
 have sc_43:PsAt W11 q.P (V) (ss):=sc_37.kb k11
 have bx_44:W11.heap[w.heap.size]? = some (.cells (zeroE) 52):=(k11).heap bx_38 (by show ¬ _=_; omega)
 have bx_45:W11.heap[W2.heap.size]? = some (.cells (cellsV v2) 52):=(k11).heap bx_39 (by show ¬ _=_; omega)
 have bx_46:W11.heap[W7.heap.size]? = some (.cells (cellsV v7) 52):=(k11).heap bx_40 (by show ¬ _=_; omega)
 have ev_47:EV (fun b=>w.heap.size+1≤b) W11 v2:=ev_41.kb k11 hp1
 have ev_48:EV (fun b=>w.heap.size+1≤b) W11 v7:=ev_42.kb k11 hp1
 refine wpList_nil ?_
 refine hK _ _ ?_
 clear hK K
 refine wp_seq_k (fun K hK => ?_)
 refine wp_region_list ?_
 refine wpl_run rfl (.pointer (some ⟨q.P,0,none⟩)) W11 (ex_move _ _ _ _ rfl (by rfl) _) ?_
 simp only [Act.put,List.setIfInBounds_toArray,List.set_cons_zero,List.set_cons_succ]
 refine wpl_call1 rfl 38 (.tmp 27) _ rfl ent_name (.pointer (some ⟨q.P,0,none⟩)) (by rfl) (fun r w'=>∃ t:ByteArray,r = .string t∧t.size≤1048576∧AftS q W11 w' i11 bad11) ((name_any q W11 i11 bad11 lost11 h11).mono (fun e w' ⟨t,he,hh⟩=>⟨_,he,t,rfl,hh⟩)) ?_
 rintro r W12 ⟨t12,rfl,ht12,k12,i12,bad12,lost12,hi12,hb12,hs12,h12⟩
 simp only [Act.put,List.setIfInBounds_toArray,List.set_cons_zero,List.set_cons_succ]
 have il12:i≤i12:=Nat.le_trans il11 hi12
 have st12:i<i12∨bad12=true:=st_new il11 hs12
 have bm12:bad=true→bad12=true:=fun e=>hb12 (bm11 e)
 have kb12:=kb11.trans k12
 have z12:=(k12).size
 have sc_49:PsAt W12 q.P (V) (ss):=sc_43.kb k12
 have bx_50:W12.heap[w.heap.size]? = some (.cells (zeroE) 52):=(k12).heap bx_44 (by show ¬ _=_; omega)
 have bx_51:W12.heap[W2.heap.size]? = some (.cells (cellsV v2) 52):=(k12).heap bx_45 (by show ¬ _=_; omega)
 have bx_52:W12.heap[W7.heap.size]? = some (.cells (cellsV v7) 52):=(k12).heap bx_46 (by show ¬ _=_; omega)
 have ev_53:EV (fun b=>w.heap.size+1≤b) W12 v2:=ev_47.kb k12 hp1
 have ev_54:EV (fun b=>w.heap.size+1≤b) W12 v7:=ev_48.kb k12 hp1
 refine wpl_run rfl (.string t12) W12 (ex_assign _ _ _ _ rfl (by rfl) _) ?_
 simp only [Act.put,List.setIfInBounds_toArray,List.set_cons_zero,List.set_cons_succ]
 refine wpList_nil ?_
 refine hK _ _ ?_
 clear hK K
 refine wp_seq_k (fun K hK => ?_)
 refine wp_region_list ?_
 refine wpl_run rfl (.pointer (some ⟨q.P,0,none⟩)) W12 (ex_move _ _ _ _ rfl (by rfl) _) ?_
 simp only [Act.put,List.setIfInBounds_toArray,List.set_cons_zero,List.set_cons_succ]
 refine wpl_call2 rfl 40 (.tmp 29) _ _ rfl ent_take (.pointer (some ⟨q.P,0,none⟩)) (.string ⟨#[45,62]⟩) (by rfl) rfl (fun r w'=>PAft q W12 w' i12 bad12) ((take_any q W12 i12 bad12 lost12 _ h12).mono (fun e w' ⟨he,hh⟩=>⟨_,he,hh⟩)) ?_
 rintro r W13 ⟨k13,i13,bad13,lost13,hi13,hb13,h13⟩
 simp only [Act.put,List.setIfInBounds_toArray,List.set_cons_zero,List.set_cons_succ]
 have il13:i≤i13:=Nat.le_trans il12 hi13
 have st13:i<i13∨bad13=true:=st_on st12 hi13 hb13
 have bm13:bad=true→bad13=true:=fun e=>hb13 (bm12 e)
 have kb13:=kb12.trans k13
 have z13:=(k13).size
 have sc_55:PsAt W13 q.P (V) (ss):=sc_49.kb k13
 have bx_56:W13.heap[w.heap.size]? = some (.cells (zeroE) 52):=(k13).heap bx_50 (by show ¬ _=_; omega)
 have bx_57:W13.heap[W2.heap.size]? = some (.cells (cellsV v2) 52):=(k13).heap bx_51 (by show ¬ _=_; omega)
 have bx_58:W13.heap[W7.heap.size]? = some (.cells (cellsV v7) 52):=(k13).heap bx_52 (by show ¬ _=_; omega)
 have ev_59:EV (fun b=>w.heap.size+1≤b) W13 v2:=ev_53.kb k13 hp1
 have ev_60:EV (fun b=>w.heap.size+1≤b) W13 v7:=ev_54.kb k13 hp1
 refine wpList_nil ?_
 refine hK _ _ ?_
 clear hK K
 refine wp_seq_k (fun K0 hK0 => ?_)
 have bd0:Below W13.heap.size W13 W13.drew:=⟨rfl,rfl,rfl,Nat.le_refl _,fun _ _=>rfl⟩
 refine wp_region_held_drew (S:=fun Wq=>Wq.heap[W2.heap.size]? = some (.cells (cellsV v2) 52)∧Wq.heap[W7.heap.size]? = some (.cells (cellsV v7) 52)∧True) (by kernel_rfl) ⟨bx_57,bx_58,trivial⟩ (fun hS => ?_)
 obtain ⟨W14,hWd⟩:∃ W',W'=W13.drew:=⟨_,rfl⟩
 rw [← hWd] at hS bd0 ⊢
 clear hWd
 have kk_61:KB (· = q.P) W13 W14:=KB.of_below bd0
 have hh_62:=h13.below bd0
 have kb14:=kb13.trans kk_61
 have z14:=(kk_61).size
 have sc_63:PsAt W14 q.P (V) (ss):=sc_55.kb kk_61
 have bx_64:W14.heap[w.heap.size]? = some (.cells (zeroE) 52):=(kk_61).heap bx_56 (by show ¬ _=_; omega)
 have bx_65:W14.heap[W2.heap.size]? = some (.cells (cellsV v2) 52):=(kk_61).heap bx_57 (by show ¬ _=_; omega)
 have bx_66:W14.heap[W7.heap.size]? = some (.cells (cellsV v7) 52):=(kk_61).heap bx_58 (by show ¬ _=_; omega)
 have ev_67:EV (fun b=>w.heap.size+1≤b) W14 v2:=ev_59.kb kk_61 hp1
 have ev_68:EV (fun b=>w.heap.size+1≤b) W14 v7:=ev_60.kb kk_61 hp1
 refine wpAnyH_take (i:=0) (v:=.agg (cellsV v2)) rfl (by kernel_rfl) (by kernel_rfl) (by kernel_rfl) (fun _ _ _ h=>h) (Or.inl ⟨by rfl,fun wq hSw => ?_⟩) hS ?_
 ·exact ex_loadE _ _ (.tmp 5) (W2.heap.size) _ _ rfl (by rfl) wq hSw.1 (ev_67.agg.2.1)
 simp only [Act.put,lsk]
 refine wpAnyH_take (i:=1) (v:=.agg (cellsV v7)) rfl (by kernel_rfl) (by kernel_rfl) (by kernel_rfl) (fun _ _ _ h=>h) (Or.inl ⟨by rfl,fun wq hSw => ?_⟩) hS ?_
 ·exact ex_loadE _ _ (.tmp 6) (W7.heap.size) _ _ rfl (by rfl) wq hSw.2.1 (ev_68.agg.2.1)
 simp only [Act.put,lsk]
 refine wpAnyH_take (i:=2) (v:=.pointer (some ⟨q.P,0,none⟩)) rfl (by kernel_rfl) (by kernel_rfl) (by kernel_rfl) (fun _ _ _ h=>h) (Or.inl ⟨by rfl,fun wq hSw => ?_⟩) hS ?_
 ·exact ex_move _ _ _ _ rfl (by rfl) _
 simp only [Act.put,lsk]
 refine wpAnyH_take (i:=3) (v:=V) rfl (by kernel_rfl) (by kernel_rfl) (by kernel_rfl) (fun _ _ _ h=>h) (Or.inl ⟨by rfl,fun wq hSw => ?_⟩) hS ?_
 ·exact ex_move _ _ _ _ rfl (by rfl) _
 simp only [Act.put,lsk]
 refine wpAnyH_take (i:=4) (v:=.string t10) rfl (by kernel_rfl) (by kernel_rfl) (by kernel_rfl) (fun _ _ _ h=>h) (Or.inl ⟨by rfl,fun wq hSw => ?_⟩) hS ?_
 ·exact ex_move _ _ _ _ rfl (by rfl) _
 simp only [Act.put,lsk]
 refine wpAnyH_take (i:=5) (v:=.string t12) rfl (by kernel_rfl) (by kernel_rfl) (by kernel_rfl) (fun _ _ _ h=>h) (Or.inl ⟨by rfl,fun wq hSw => ?_⟩) hS ?_
 ·exact ex_move _ _ _ _ rfl (by rfl) _
 simp only [Act.put,lsk]
 refine wpAnyH_ready (rs:=[6]) (by kernel_rfl) (by simp) ?_
 refine AllReadyH.cons rfl (fun K hK => ?_) AllReadyH.nil
 obtain ⟨W15,e15⟩:∃ W',W'=W14.alloc (.cells #[.string t10,.string t12] 9):=⟨_,rfl⟩
 have b15:Below W14.heap.size W14 W15:=by rw [e15]; exact (Below.refl _ _).alloc (Nat.le_refl _) _
 refine step_run rfl (.slice (some ⟨W14.heap.size,0,none⟩) 2 2) W15 (by rw [e15]; exact ex_strs2 _ _ (.tmp 35) (.tmp 36) (t10) (t12) rfl (by rfl) (by rfl) _) ?_
 have sl15:PsAt W15 q.P (.slice (some ⟨W14.heap.size,0,none⟩) 2 2) [t10,t12]:=by rw [e15]; exact strs2_at W14 q.P ht10 ht12 (by have:=kb14.size; omega)
 have kk_69:KB (· = q.P) W14 W15:=KB.of_below b15
 have hh_70:=hh_62.below b15
 have kb15:=kb14.trans kk_69
 have z15:=(kk_69).size
 have sc_71:PsAt W15 q.P (V) (ss):=sc_63.kb kk_69
 have bx_72:W15.heap[w.heap.size]? = some (.cells (zeroE) 52):=(kk_69).heap bx_64 (by show ¬ _=_; omega)
 have bx_73:W15.heap[W2.heap.size]? = some (.cells (cellsV v2) 52):=(kk_69).heap bx_65 (by show ¬ _=_; omega)
 have bx_74:W15.heap[W7.heap.size]? = some (.cells (cellsV v7) 52):=(kk_69).heap bx_66 (by show ¬ _=_; omega)
 have ev_75:EV (fun b=>w.heap.size+1≤b) W15 v2:=ev_67.kb kk_69 hp1
 have ev_76:EV (fun b=>w.heap.size+1≤b) W15 v7:=ev_68.kb kk_69 hp1
 have hS:(fun Wq:World=>Wq.heap[W2.heap.size]? = some (.cells (cellsV v2) 52)∧Wq.heap[W7.heap.size]? = some (.cells (cellsV v7) 52)∧True) W15:=⟨bx_73,bx_74,trivial⟩
 refine hK _ _ hS (fun _ => ?_)
 clear hK K
 simp only [Act.put,lsk]
 refine wpAnyH_ready (rs:=[7]) (by kernel_rfl) (by simp) ?_
 refine AllReadyH.cons rfl (fun K hK => ?_) AllReadyH.nil
 refine step_callTwo rfl 91 (.tmp 34) (.tmp 37) _ rfl ent_with (V) (.slice (some ⟨W14.heap.size,0,none⟩) 2 2) (by rfl) (by rfl) (fun r w'=>PsAt w' q.P r (ss ++ [t10,t12])∧Below W15.heap.size W15 w') ((pwith_any q.P _ _ (ss) ([t10,t12]) W15 (by have:=kb15.size; omega) sc_71 sl15 (by first | omega | (simp only [List.length_cons,List.length_nil]; omega))).mono (fun e w' ⟨v,he,hh⟩=>⟨v,he,hh⟩)) ?_
 rintro V16 W16 ⟨sw16,b16⟩
 have kk_77:KB (· = q.P) W15 W16:=KB.of_below b16
 have hh_78:=hh_70.below b16
 have kb16:=kb15.trans kk_77
 have z16:=(kk_77).size
 have sc_79:PsAt W16 q.P (V) (ss):=sc_71.kb kk_77
 have bx_80:W16.heap[w.heap.size]? = some (.cells (zeroE) 52):=(kk_77).heap bx_72 (by show ¬ _=_; omega)
 have bx_81:W16.heap[W2.heap.size]? = some (.cells (cellsV v2) 52):=(kk_77).heap bx_73 (by show ¬ _=_; omega)
 have bx_82:W16.heap[W7.heap.size]? = some (.cells (cellsV v7) 52):=(kk_77).heap bx_74 (by show ¬ _=_; omega)
 have ev_83:EV (fun b=>w.heap.size+1≤b) W16 v2:=ev_75.kb kk_77 hp1
 have ev_84:EV (fun b=>w.heap.size+1≤b) W16 v7:=ev_76.kb kk_77 hp1
 have hS:(fun Wq:World=>Wq.heap[W2.heap.size]? = some (.cells (cellsV v2) 52)∧Wq.heap[W7.heap.size]? = some (.cells (cellsV v7) 52)∧True) W16:=⟨bx_81,bx_82,trivial⟩
 refine hK _ _ hS (fun _ => ?_)
 clear hK K
 simp only [Act.put,lsk]
 refine wpAnyH_ready (rs:=[8]) (by kernel_rfl) (by simp) ?_
 refine AllReadyH.cons rfl (fun K hK => ?_) AllReadyH.nil
 refine step_callTwo rfl 41 (.tmp 33) (.tmp 38) _ rfl ent_exp (.pointer (some ⟨q.P,0,none⟩)) (V16) (by rfl) (by rfl) (fun r w'=>EV (fun b=>W16.heap.size≤b) w' r∧AftS q W16 w' i13 bad13) ((hE i13 bad13 lost13 (V16) (ss ++ [t10,t12]) W16 hh_78 (lt_on hm il13) sw16 (len_more hl (by simp) il13)).mono (fun e w' ⟨v,he,hh⟩=>⟨v,he,hh⟩)) ?_
 rintro v17 W17 ⟨e17,k17,i17,bad17,lost17,hi17,hb17,hs17,h17⟩
 have il17:i≤i17:=Nat.le_trans il13 hi17
 have st17:i<i17∨bad17=true:=st_new il13 hs17
 have bm17:bad=true→bad17=true:=fun e=>hb17 (bm13 e)
 have kb17:=kb16.trans k17
 have z17:=(k17).size
 have sc_85:PsAt W17 q.P (V) (ss):=sc_79.kb k17
 have sc_86:PsAt W17 q.P (V16) (ss ++ [t10,t12]):=sw16.kb k17
 have bx_87:W17.heap[w.heap.size]? = some (.cells (zeroE) 52):=(k17).heap bx_80 (by show ¬ _=_; omega)
 have bx_88:W17.heap[W2.heap.size]? = some (.cells (cellsV v2) 52):=(k17).heap bx_81 (by show ¬ _=_; omega)
 have bx_89:W17.heap[W7.heap.size]? = some (.cells (cellsV v7) 52):=(k17).heap bx_82 (by show ¬ _=_; omega)
 have ev_90:EV (fun b=>w.heap.size+1≤b) W17 v2:=ev_83.kb k17 hp1
 have ev_91:EV (fun b=>w.heap.size+1≤b) W17 v7:=ev_84.kb k17 hp1
 have f17:EV (fun b=>w.heap.size+1≤b) W17 v17:=e17.wide (fun b hb _=>by have:=kb17.size; show w.heap.size+1≤b; have hb':W16.heap.size≤b:=hb; omega)
 have hS:(fun Wq:World=>Wq.heap[W2.heap.size]? = some (.cells (cellsV v2) 52)∧Wq.heap[W7.heap.size]? = some (.cells (cellsV v7) 52)∧True) W17:=⟨bx_88,bx_89,trivial⟩
 refine hK _ _ hS (fun _ => ?_)
 clear hK K
 simp only [Act.put,lsk]
 refine wpAnyH_ready (rs:=[9]) (by kernel_rfl) (by simp) ?_
 refine AllReadyH.cons rfl (fun K hK => ?_) AllReadyH.nil
 obtain ⟨W18,e18⟩:∃ W',W'=W17.alloc (.cells ⟨[v2,v7,v17].flatMap cellsE⟩ 52):=⟨_,rfl⟩
 have b18:Below W17.heap.size W17 W18:=by rw [e18]; exact (Below.refl _ _).alloc (Nat.le_refl _) _
 have x18:W18.heap[W17.heap.size]? = some (.cells ⟨[v2,v7,v17].flatMap cellsE⟩ 52):=by rw [e18]; exact block_new _ _
 refine step_run rfl (.slice (some ⟨W17.heap.size,0,none⟩) 3 3) W18 (by rw [e18]; exact ex_rowE3 _ _ (.tmp 31) (.tmp 32) (.tmp 39) rfl ev_90 ev_91 f17 (EV.aggR ev_90 (by rfl)) (EV.aggR ev_91 (by rfl)) (by rfl) _) ?_
 have kk_92:KB (· = q.P) W17 W18:=KB.of_below b18
 have hh_93:=h17.below b18
 have kb18:=kb17.trans kk_92
 have z18:=(kk_92).size
 have sc_94:PsAt W18 q.P (V) (ss):=sc_85.kb kk_92
 have sc_95:PsAt W18 q.P (V16) (ss ++ [t10,t12]):=sc_86.kb kk_92
 have bx_96:W18.heap[w.heap.size]? = some (.cells (zeroE) 52):=(kk_92).heap bx_87 (by show ¬ _=_; omega)
 have bx_97:W18.heap[W2.heap.size]? = some (.cells (cellsV v2) 52):=(kk_92).heap bx_88 (by show ¬ _=_; omega)
 have bx_98:W18.heap[W7.heap.size]? = some (.cells (cellsV v7) 52):=(kk_92).heap bx_89 (by show ¬ _=_; omega)
 have ev_99:EV (fun b=>w.heap.size+1≤b) W18 v2:=ev_90.kb kk_92 hp1
 have ev_100:EV (fun b=>w.heap.size+1≤b) W18 v7:=ev_91.kb kk_92 hp1
 have ev_101:EV (fun b=>w.heap.size+1≤b) W18 v17:=f17.kb kk_92 hp1
 have fv:EV (fun b=>w.heap.size+1≤b) W18 (.agg #[.int .i64 9,.int .i64 0,.string ⟨#[]⟩,.slice (some ⟨W17.heap.size,0,none⟩) 3 3]):=EV.over (vs:=[v2,v7,v17]) (by simp) (fun u hu=>by simp only [List.mem_cons,List.not_mem_nil,or_false] at hu; rcases hu with rfl | rfl | rfl <;> assumption) x18 (by have:=kb18.size; show w.heap.size+1≤W17.heap.size; omega) ⟨by omega,by omega⟩ ⟨by omega,by omega⟩ (Nat.zero_le _)
 have hS:(fun Wq:World=>Wq.heap[W2.heap.size]? = some (.cells (cellsV v2) 52)∧Wq.heap[W7.heap.size]? = some (.cells (cellsV v7) 52)∧True) W18:=⟨bx_97,bx_98,trivial⟩
 refine hK _ _ hS (fun _ => ?_)
 clear hK K
 simp only [Act.put,lsk]
 refine wpAnyH_ready (rs:=[10]) (by kernel_rfl) (by simp) ?_
 refine AllReadyH.cons rfl (fun K hK => ?_) AllReadyH.nil
 refine step_run rfl (.agg #[.int .i64 9,.int .i64 0,.string ⟨#[]⟩,.slice (some ⟨W17.heap.size,0,none⟩) 3 3]) W18 (ex_build03 _ _ rfl (by rfl) _) ?_
 have hS:(fun Wq:World=>Wq.heap[W2.heap.size]? = some (.cells (cellsV v2) 52)∧Wq.heap[W7.heap.size]? = some (.cells (cellsV v7) 52)∧True) W18:=⟨bx_97,bx_98,trivial⟩
 refine hK _ _ hS (fun _ => ?_)
 clear hK K
 simp only [Act.put,lsk]
 refine wpAnyH_ready (rs:=[11]) (by kernel_rfl) (by simp) ?_
 refine AllReadyH.cons rfl (fun K hK => ?_) AllReadyH.nil
 refine step_skip rfl (W18.setRow w.heap.size (cellsV (.agg #[.int .i64 9,.int .i64 0,.string ⟨#[]⟩,.slice (some ⟨W17.heap.size,0,none⟩) 3 3]))) (ex_storeE _ _ (.tmp 4) (.tmp 41) w.heap.size _ _ _ rfl (by rfl) (by rfl) W18 bx_96 rfl fv.agg.2.1 fv.agg.2.2.1) ?_
 have fin:=fin_box (v:=.agg #[.int .i64 9,.int .i64 0,.string ⟨#[]⟩,.slice (some ⟨W17.heap.size,0,none⟩) 3 3]) h0 ⟨kb18,i17,bad17,lost17,il17,bm17,st17,hh_93⟩ fv bx_96
 refine hK _ _ (⟨((setRow_kb _ _ _).heap bx_97 (by show ¬ _=_; omega)),((setRow_kb _ _ _).heap bx_98 (by show ¬ _=_; omega)),trivial⟩) (fun _ => ?_)
 clear hK K
 simp only [Act.put,List.getElem_toArray,List.getElem_cons_zero,List.getElem_cons_succ]
 refine wpAnyH_done (by kernel_rfl) ?_ _
 refine hK0 _ _ ?_
 clear hK0 K0
 have HF:=(show Hid (_∧_∧_) from fin)
 generalize W18.setRow w.heap.size (cellsV (.agg #[.int .i64 9,.int .i64 0,.string ⟨#[]⟩,.slice (some ⟨W17.heap.size,0,none⟩) 3 3]))=WF at HF ⊢
 clear HC H0
 go_wp2
 refine bodyPost_ret (results_cell_row (p:=4) (ty:=52) rfl _ WF w.heap.size _ _ (0,0) _ rfl HF.out.2.2 Tryz.underlying52 rfl (by exact sizeE)) rfl ?_
 exact ⟨_,rfl,HF.out.1,HF.out.2.1⟩
end Go.Proofs.YtljdgmfcgkimoaaGreatDoor
