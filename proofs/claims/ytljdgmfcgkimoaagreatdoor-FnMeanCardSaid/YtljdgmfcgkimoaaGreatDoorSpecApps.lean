/-
  Proofs.
-/
import Derived.Test.YtljdgmfcgkimoaaGreatDoorJ1
import Derived.Test.YtljdgmfcgkimoaaGreatDoorJ5
namespace Go.Proofs.YtljdgmfcgkimoaaGreatDoor
open Go.RowKit Go.Joins Go.Shelf
set_option maxRecDepth 100000
set_option maxHeartbeats 800000 in
theorem apps_of (q:Ps) (m:Nat) (hA:CC 104 q m 0):CC 92 q m 0:=by
 intro i bad lost V ss w h hm hs hl
 have hq:=h.lt
 obtain ⟨W1,hW1⟩:∃ W1,W1=w.alloc (.cells zeroE 52):=⟨_,rfl⟩
 have b1:Below w.heap.size w W1:=by rw [hW1]; exact (Below.refl _ w).alloc (Nat.le_refl _) _
 have z1:W1.heap.size=w.heap.size+1:=by rw [hW1]; simp
 have x1:W1.heap[w.heap.size]? = some (.cells zeroE 52):=by rw [hW1]; exact block_new w _
 have hs1:=hs.below b1
 have h1:=h.below b1
 have HC:=(show Hid (KB (· = q.P) w W1∧ParAt q W1 i bad lost∧PsAt W1 q.P V ss∧W1.heap.size=w.heap.size+1∧W1.heap[w.heap.size]? = some (.cells zeroE 52)) from ⟨KB.of_below b1,h1,hs1,z1,x1⟩)
 have HS:=(show Hid (PsAt w q.P V ss) from hs)
 have H0:=(show Hid (ParAt q w i bad lost∧q.n - i<m∧ss.length+0+6 * (q.n - i)≤20000∧q.P<w.heap.size) from ⟨h,hm,hl,hq⟩)
 clear h hm hs hl hq b1 z1 x1 hs1 h1
 go_enter Tryz.func92,Tryz.ntmps92
 refine wp_seq_k (fun K hK => ?_)
 refine wp_region_list ?_
 refine wpl_run rfl (.pointer (some ⟨w.heap.size,0,none⟩)) W1 (by rw [hW1]; exact ex_allocE _ _ rfl w) ?_
 simp only [Act.put,List.setIfInBounds_toArray,List.set_cons_zero,List.set_cons_succ]
 refine wpList_nil ?_
 refine hK _ _ ?_
 clear hK K hW1
 obtain ⟨kb1,h1,sc1,z1,bx1⟩:=HC.out
 obtain ⟨h0,hm,hl,hq⟩:=H0.out
 have hp1:¬ (fun b:Nat=>w.heap.size+1≤b) q.P:=fun hx=>by have hx':w.heap.size+1≤q.P:=hx; omega
 have il1:i≤i:=Nat.le_refl i
 have bm1:bad=true→bad=true:=fun e=>e
 refine wp_seq_k (fun K hK => ?_)
 refine wp_region_list ?_
 refine wpl_run rfl (.pointer (some ⟨q.P,0,none⟩)) W1 (ex_move _ _ _ _ rfl (by rfl) _) ?_
 simp only [Act.put,List.setIfInBounds_toArray,List.set_cons_zero,List.set_cons_succ]
 refine wpl_run rfl (V) W1 (ex_move _ _ _ _ rfl (by rfl) _) ?_
 simp only [Act.put,List.setIfInBounds_toArray,List.set_cons_zero,List.set_cons_succ]
 refine wpl_call2 rfl 104 (.tmp 6) (.tmp 7) _ rfl ent_atom (.pointer (some ⟨q.P,0,none⟩)) (V) (by rfl) (by rfl) (fun r w'=>EV (fun b=>W1.heap.size≤b) w' r∧AftS q W1 w' i bad) ((hA i bad lost (V) (ss) W1 h1 (lt_on hm il1) sc1 (len_on hl (Nat.le_refl _) il1)).mono (fun e w' ⟨v,he,hh⟩=>⟨v,he,hh⟩)) ?_
 rintro v2 W2 ⟨e2,k2,i2,bad2,lost2,hi2,hb2,hs2,h2⟩
 simp only [Act.put,List.setIfInBounds_toArray,List.set_cons_zero,List.set_cons_succ]
 have il2:i≤i2:=Nat.le_trans il1 hi2
 have st2:i<i2∨bad2=true:=st_new il1 hs2
 have bm2:bad=true→bad2=true:=fun e=>hb2 (bm1 e)
 have kb2:=kb1.trans k2
 have z2:=(k2).size
 have sc_1:PsAt W2 q.P (V) (ss):=sc1.kb k2
 have bx_2:W2.heap[w.heap.size]? = some (.cells (zeroE) 52):=(k2).heap bx1 (by show ¬ _=_; omega)
 have f2:EV (fun b=>w.heap.size+1≤b) W2 v2:=e2.wide (fun b hb _=>by have:=kb2.size; show w.heap.size+1≤b; have hb':W1.heap.size≤b:=hb; omega)
 refine wpl_box 5 (.tmp 8) rfl rfl rfl rfl rfl rfl f2 (by rfl) (by rfl) ?_
 intro W3 y3 b3 x3
 simp only [Act.put,List.setIfInBounds_toArray,List.set_cons_zero,List.set_cons_succ]
 have kk_3:KB (· = q.P) W2 W3:=KB.of_below b3
 have hh_4:=h2.below b3
 have kb3:=kb2.trans kk_3
 have z3:=(kk_3).size
 have sc_5:PsAt W3 q.P (V) (ss):=sc_1.kb kk_3
 have bx_6:W3.heap[w.heap.size]? = some (.cells (zeroE) 52):=(kk_3).heap bx_2 (by show ¬ _=_; omega)
 have ev_7:EV (fun b=>w.heap.size+1≤b) W3 v2:=f2.kb kk_3 hp1
 refine wpList_nil ?_
 refine hK _ _ ?_
 clear hK K
 have hbg:w.heap.size+1≤W2.heap.size:=by omega
 have hr0:LoopR q w i bad W3 (W2.heap.size) v2:=⟨kb3,⟨i2,bad2,lost2,il2,bm2,st2,hh_4⟩,bx_6,x3,(e2.kept (S':=fun b=>w.heap.size+1≤b∧b≠W2.heap.size) (fun b _ hlt=>b3.block b hlt) b3.size (fun b hb hlt=>⟨by have hb':W1.heap.size≤b:=hb; omega,Nat.ne_of_lt hlt⟩))⟩
 generalize W2.heap.size=g5 at hr0 hbg ⊢
 have HR0:=(show Hid (LoopR q w i bad W3 g5 v2) from hr0)
 have HG:=(show Hid (w.heap.size+1≤g5∧PsAt w q.P V ss) from ⟨hbg,HS.out⟩)
 have HA:=(show Hid (CC 104 q m 0) from hA)
 clear hr0 hbg hA kb1 h1 sc1 z1 bx1 h0 hm hl hq hp1 il1 bm1 HC e2 k2 hi2 hb2 hs2 h2 il2 st2 bm2 kb2 z2 sc_1 bx_2 f2 y3 b3 x3 kk_3 hh_4 kb3 z3 sc_5 bx_6 ev_7
 go_wp2_with fail
 go_loopw [] (fun wr=>∃ u,Hid (LoopR q w i bad wr g5 u)) (fun wr=>leftP q wr)
 case atStart=>exact ⟨_,HR0⟩
 case round =>
  clear HR0
  obtain ⟨u,HR⟩:=hrel
  obtain ⟨i2,bad2,lost2,hi2,hb2,hs2,h2⟩:=HR.out.st
  have H2:=(show Hid (i≤i2∧(bad=true→bad2=true)∧(i<i2∨bad2=true)∧ParAt q wr i2 bad2 lost2) from ⟨hi2,hb2,hs2,h2⟩)
  clear hi2 hb2 hs2 h2
  go_wp2_with fail
  refine (begins_any q wr i2 bad2 lost2 H2.out.2.2.2).mono ?_
  rintro r w2 ⟨b2,c,rfl,hc⟩
  have HR2:=(show Hid (LoopR q w i bad w2 g5 u) from HR.out.below b2)
  have HP2:=(show Hid (ParAt q w2 i2 bad2 lost2) from H2.out.2.2.2.below b2)
  have HC:=(show Hid (_∧_) from ⟨hc,b2⟩)
  clear hc b2
  cases c with
  | false =>
   go_upto_region 4 with fail
   refine wp_region_list ?_
   refine wpl_run rfl (.agg (cellsV u)) w2 (ex_loadE _ _ (.tmp 5) g5 _ _ rfl rfl w2 HR2.out.bx HR2.out.ev.agg.2.1) ?_
   simp only [Act.put,List.setIfInBounds_toArray,List.set_cons_zero,List.set_cons_succ]
   refine wpl_skip rfl (w2.setRow w.heap.size (cellsV u)) (ex_storeE _ _ (.tmp 4) (.tmp 17) w.heap.size _ _ _ rfl rfl rfl w2 HR2.out.bx0 rfl HR2.out.ev.agg.2.1 HR2.out.ev.agg.2.2.1) ?_
   simp only [Act.put]
   refine wpList_nil ?_
   have HF:=(show Hid (_∧_∧_) from HR2.out.fin H0.out.1)
   have HE:=(show Hid (_∧_) from ⟨HR2.out.ev.agg.1,HR2.out.ev.agg.2.1⟩)
   clear HR HR2 HP2 HC H2 HG HA H0
   generalize w2.setRow w.heap.size (cellsV u)=WF at HF ⊢
   go_wp2
   refine bodyPost_ret (results_cell_row (p:=4) (ty:=52) rfl _ WF w.heap.size _ _ (0,0) _ rfl HF.out.2.2 Tryz.underlying52 rfl (by rw [HE.out.2]; exact sizeE)) rfl ?_
   exact ⟨u,congrArg Ending.returned HE.out.1.symm,HF.out.1,HF.out.2.1⟩
  | true =>
   obtain ⟨hbf,hlt⟩:=HC.out.1 rfl
   subst hbf
   go_upto_region 3 with fail
   refine wp_region_held_drew (S:=fun _=>True) (by kernel_rfl) trivial (fun _ => ?_)
   have bd0:Below w2.heap.size w2 w2.drew:=⟨rfl,rfl,rfl,Nat.le_refl _,fun _ _=>rfl⟩
   generalize w2.drew=W3 at bd0 ⊢
   have hr3:=HR2.out.below bd0
   have h3:=HP2.out.below bd0
   obtain ⟨h0,hm,hl,hq⟩:=H0.out
   obtain ⟨hi2,hb2,hs2,-⟩:=H2.out
   obtain ⟨hg5,hsc⟩:=HG.out
   have hA:=HA.out
   refine wpAnyH_take (i:=1) (v:=.pointer (some ⟨q.P,0,none⟩)) rfl (by kernel_rfl) (by kernel_rfl) (by kernel_rfl) (fun _ _ _ h=>h) (Or.inl ⟨by rfl,fun wq _ => ?_⟩) trivial ?_
   ·exact ex_move _ _ _ _ rfl (by rfl) _
   simp only [Act.put,lsk]
   refine wpAnyH_take (i:=2) (v:=V) rfl (by kernel_rfl) (by kernel_rfl) (by kernel_rfl) (fun _ _ _ h=>h) (Or.inl ⟨by rfl,fun wq _ => ?_⟩) trivial ?_
   ·exact ex_move _ _ _ _ rfl (by rfl) _
   simp only [Act.put,lsk]
   refine wpAnyH_ready (rs:=[0,3]) (by kernel_rfl) (by simp) ?_
   refine AllReadyH.cons rfl (fun K hK => ?_) (AllReadyH.cons rfl (fun K hK => ?_) AllReadyH.nil)
   ·have hbx:=hr3.bx
    refine step_run rfl (.agg (cellsV u)) _ (ex_loadE _ _ (.tmp 5) g5 _ _ rfl (by rfl) W3 hbx hr3.ev.agg.2.1) ?_
    refine hK _ _ trivial (fun _ => ?_)
    clear hK K
    simp only [Act.put,lsk]
    refine wpAnyH_ready (rs:=[3]) (by kernel_rfl) (by simp) ?_
    refine AllReadyH.cons rfl (fun K hK => ?_) AllReadyH.nil
    refine step_callTwo rfl 104 (.tmp 12) (.tmp 13) _ rfl ent_atom (.pointer (some ⟨q.P,0,none⟩)) (V) (by rfl) (by rfl) (fun r w'=>EV (fun b=>W3.heap.size≤b) w' r∧AftS q W3 w' i2 false) ((hA i2 false lost2 V ss W3 h3 (lt_on hm hi2) (hsc.kb hr3.kb) (len_on hl (Nat.le_refl _) hi2)).mono (fun e w' ⟨v,he,hh⟩=>⟨v,he,hh⟩)) ?_
    rintro v4 W4 ⟨e4,k4,i4,bad4,lost4,hi4,hb4,hs4,h4⟩
    refine hK _ _ trivial (fun _ => ?_)
    clear hK K
    simp only [Act.put,lsk]
    have hz4:=k4.size
    have hz3:=hr3.kb.size
    have hgl:=lh hr3.bx
    have hu4:EV (fun b=>w.heap.size+1≤b∧b≠g5) W4 u:=hr3.ev.kb k4 (fun hx=>by omega)
    have hv4:EV (fun b=>w.heap.size+1≤b∧b≠g5) W4 v4:=e4.wide (fun b hb _=>by have hb':W3.heap.size≤b:=hb; constructor <;> omega)
    refine wpAnyH_ready (rs:=[4]) (by kernel_rfl) (by simp) ?_
    refine AllReadyH.cons rfl (fun K hK => ?_) AllReadyH.nil
    obtain ⟨W5,e5⟩:∃ W',W'=W4.alloc (.cells ⟨[u,v4].flatMap cellsE⟩ 52):=⟨_,rfl⟩
    have b5:Below W4.heap.size W4 W5:=by rw [e5]; exact (Below.refl _ _).alloc (Nat.le_refl _) _
    have x5:W5.heap[W4.heap.size]? = some (.cells ⟨[u,v4].flatMap cellsE⟩ 52):=by rw [e5]; exact block_new _ _
    refine step_run rfl (.slice (some ⟨W4.heap.size,0,none⟩) 2 2) W5 (by rw [e5]; exact ex_rowE2 _ _ (.tmp 11) (.tmp 14) rfl hu4 hv4 (hu4.aggR (by rfl)) (by rfl) _) ?_
    refine hK _ _ trivial (fun _ => ?_)
    clear hK K
    simp only [Act.put,lsk]
    have hu5:=hu4.below b5
    have hv5:=hv4.below b5
    have fv:EV (fun b=>w.heap.size+1≤b∧b≠g5) W5 (.agg #[.int .i64 4,.int .i64 0,.string ⟨#[]⟩,.slice (some ⟨W4.heap.size,0,none⟩) 2 2]):=EV.over (vs:=[u,v4]) (by simp) (fun z hz=>by simp only [List.mem_cons,List.not_mem_nil,or_false] at hz; rcases hz with rfl | rfl <;> assumption) x5 (by constructor <;> omega) ⟨by omega,by omega⟩ ⟨by omega,by omega⟩ (Nat.zero_le _)
    refine wpAnyH_ready (rs:=[5]) (by kernel_rfl) (by simp) ?_
    refine AllReadyH.cons rfl (fun K hK => ?_) AllReadyH.nil
    refine step_run rfl (.agg #[.int .i64 4,.int .i64 0,.string ⟨#[]⟩,.slice (some ⟨W4.heap.size,0,none⟩) 2 2]) W5 (ex_build03 _ _ rfl (by rfl) _) ?_
    refine hK _ _ trivial (fun _ => ?_)
    clear hK K
    simp only [Act.put,lsk]
    have bx5:W5.heap[g5]? = some (.cells (cellsV u) 52):=(b5.block _ (by omega)).trans (k4.heap hr3.bx (by show ¬ _=_; omega))
    have bx0:W5.heap[w.heap.size]? = some (.cells zeroE 52):=(b5.block _ (by omega)).trans (k4.heap hr3.bx0 (by show ¬ _=_; omega))
    obtain ⟨hr6,h6⟩:=LoopR.put h0 ((hr3.kb.trans k4).trans (KB.of_below b5)) (Nat.le_trans hi2 hi4) (fun e=>hb4 (hb2 e)) (st_new hi2 hs4) (h4.below b5) bx0 bx5 fv hg5
    refine wpAnyH_ready (rs:=[6]) (by kernel_rfl) (by simp) ?_
    refine AllReadyH.cons rfl (fun K hK => ?_) AllReadyH.nil
    refine step_skip rfl (W5.setRow g5 (cellsV (.agg #[.int .i64 4,.int .i64 0,.string ⟨#[]⟩,.slice (some ⟨W4.heap.size,0,none⟩) 2 2]))) (ex_storeE _ _ (.tmp 5) (.tmp 16) g5 _ _ _ rfl (by rfl) (by rfl) W5 bx5 hu5.agg.2.1 fv.agg.2.1 fv.agg.2.2.1) ?_
    refine hK _ _ trivial (fun _ => ?_)
    clear hK K
    simp only [Act.put,List.getElem_toArray,List.getElem_cons_zero,List.getElem_cons_succ]
    refine wpAnyH_done (by kernel_rfl) ?_ _
    have hms:leftP q (W5.setRow g5 (cellsV (.agg #[.int .i64 4,.int .i64 0,.string ⟨#[]⟩,.slice (some ⟨W4.heap.size,0,none⟩) 2 2])))<leftP q wr:=leftP_on H2.out.2.2.2 h6 hs4
    generalize W5.setRow g5 (cellsV (.agg #[.int .i64 4,.int .i64 0,.string ⟨#[]⟩,.slice (some ⟨W4.heap.size,0,none⟩) 2 2]))=W6 at hr6 hms ⊢
    go_roundw
    case rel=>exact ⟨_,_,_,_,_,_,_,_,⟨_,(show Hid (LoopR q w i bad W6 g5 _) from hr6)⟩,rfl⟩
    case measure=>exact hms
   ·refine step_callTwo rfl 104 (.tmp 12) (.tmp 13) _ rfl ent_atom (.pointer (some ⟨q.P,0,none⟩)) (V) (by rfl) (by rfl) (fun r w'=>EV (fun b=>W3.heap.size≤b) w' r∧AftS q W3 w' i2 false) ((hA i2 false lost2 V ss W3 h3 (lt_on hm hi2) (hsc.kb hr3.kb) (len_on hl (Nat.le_refl _) hi2)).mono (fun e w' ⟨v,he,hh⟩=>⟨v,he,hh⟩)) ?_
    rintro v4 W4 ⟨e4,k4,i4,bad4,lost4,hi4,hb4,hs4,h4⟩
    refine hK _ _ trivial (fun _ => ?_)
    clear hK K
    simp only [Act.put,lsk]
    refine wpAnyH_ready (rs:=[0]) (by kernel_rfl) (by simp) ?_
    refine AllReadyH.cons rfl (fun K hK => ?_) AllReadyH.nil
    have hbx:=k4.heap hr3.bx (by show ¬ _=_; have:=hr3.kb.size; omega)
    refine step_run rfl (.agg (cellsV u)) _ (ex_loadE _ _ (.tmp 5) g5 _ _ rfl (by rfl) W4 hbx hr3.ev.agg.2.1) ?_
    refine hK _ _ trivial (fun _ => ?_)
    clear hK K
    simp only [Act.put,lsk]
    have hz4:=k4.size
    have hz3:=hr3.kb.size
    have hgl:=lh hr3.bx
    have hu4:EV (fun b=>w.heap.size+1≤b∧b≠g5) W4 u:=hr3.ev.kb k4 (fun hx=>by omega)
    have hv4:EV (fun b=>w.heap.size+1≤b∧b≠g5) W4 v4:=e4.wide (fun b hb _=>by have hb':W3.heap.size≤b:=hb; constructor <;> omega)
    refine wpAnyH_ready (rs:=[4]) (by kernel_rfl) (by simp) ?_
    refine AllReadyH.cons rfl (fun K hK => ?_) AllReadyH.nil
    obtain ⟨W5,e5⟩:∃ W',W'=W4.alloc (.cells ⟨[u,v4].flatMap cellsE⟩ 52):=⟨_,rfl⟩
    have b5:Below W4.heap.size W4 W5:=by rw [e5]; exact (Below.refl _ _).alloc (Nat.le_refl _) _
    have x5:W5.heap[W4.heap.size]? = some (.cells ⟨[u,v4].flatMap cellsE⟩ 52):=by rw [e5]; exact block_new _ _
    refine step_run rfl (.slice (some ⟨W4.heap.size,0,none⟩) 2 2) W5 (by rw [e5]; exact ex_rowE2 _ _ (.tmp 11) (.tmp 14) rfl hu4 hv4 (hu4.aggR (by rfl)) (by rfl) _) ?_
    refine hK _ _ trivial (fun _ => ?_)
    clear hK K
    simp only [Act.put,lsk]
    have hu5:=hu4.below b5
    have hv5:=hv4.below b5
    have fv:EV (fun b=>w.heap.size+1≤b∧b≠g5) W5 (.agg #[.int .i64 4,.int .i64 0,.string ⟨#[]⟩,.slice (some ⟨W4.heap.size,0,none⟩) 2 2]):=EV.over (vs:=[u,v4]) (by simp) (fun z hz=>by simp only [List.mem_cons,List.not_mem_nil,or_false] at hz; rcases hz with rfl | rfl <;> assumption) x5 (by constructor <;> omega) ⟨by omega,by omega⟩ ⟨by omega,by omega⟩ (Nat.zero_le _)
    refine wpAnyH_ready (rs:=[5]) (by kernel_rfl) (by simp) ?_
    refine AllReadyH.cons rfl (fun K hK => ?_) AllReadyH.nil
    refine step_run rfl (.agg #[.int .i64 4,.int .i64 0,.string ⟨#[]⟩,.slice (some ⟨W4.heap.size,0,none⟩) 2 2]) W5 (ex_build03 _ _ rfl (by rfl) _) ?_
    refine hK _ _ trivial (fun _ => ?_)
    clear hK K
    simp only [Act.put,lsk]
    have bx5:W5.heap[g5]? = some (.cells (cellsV u) 52):=(b5.block _ (by omega)).trans (k4.heap hr3.bx (by show ¬ _=_; omega))
    have bx0:W5.heap[w.heap.size]? = some (.cells zeroE 52):=(b5.block _ (by omega)).trans (k4.heap hr3.bx0 (by show ¬ _=_; omega))
    obtain ⟨hr6,h6⟩:=LoopR.put h0 ((hr3.kb.trans k4).trans (KB.of_below b5)) (Nat.le_trans hi2 hi4) (fun e=>hb4 (hb2 e)) (st_new hi2 hs4) (h4.below b5) bx0 bx5 fv hg5
    refine wpAnyH_ready (rs:=[6]) (by kernel_rfl) (by simp) ?_
    refine AllReadyH.cons rfl (fun K hK => ?_) AllReadyH.nil
    refine step_skip rfl (W5.setRow g5 (cellsV (.agg #[.int .i64 4,.int .i64 0,.string ⟨#[]⟩,.slice (some ⟨W4.heap.size,0,none⟩) 2 2]))) (ex_storeE _ _ (.tmp 5) (.tmp 16) g5 _ _ _ rfl (by rfl) (by rfl) W5 bx5 hu5.agg.2.1 fv.agg.2.1 fv.agg.2.2.1) ?_
    refine hK _ _ trivial (fun _ => ?_)
    clear hK K
    simp only [Act.put,List.getElem_toArray,List.getElem_cons_zero,List.getElem_cons_succ]
    refine wpAnyH_done (by kernel_rfl) ?_ _
    have hms:leftP q (W5.setRow g5 (cellsV (.agg #[.int .i64 4,.int .i64 0,.string ⟨#[]⟩,.slice (some ⟨W4.heap.size,0,none⟩) 2 2])))<leftP q wr:=leftP_on H2.out.2.2.2 h6 hs4
    generalize W5.setRow g5 (cellsV (.agg #[.int .i64 4,.int .i64 0,.string ⟨#[]⟩,.slice (some ⟨W4.heap.size,0,none⟩) 2 2]))=W6 at hr6 hms ⊢
    go_roundw
    case rel=>exact ⟨_,_,_,_,_,_,_,_,⟨_,(show Hid (LoopR q w i bad W6 g5 _) from hr6)⟩,rfl⟩
    case measure=>exact hms
end Go.Proofs.YtljdgmfcgkimoaaGreatDoor
