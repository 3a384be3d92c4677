/-
  Proofs.
-/
import Derived.Test.YtljdgmfcgkimoaaGreatDoorJ1
import Derived.Test.YtljdgmfcgkimoaaGreatDoorJ5
namespace Go.Proofs.YtljdgmfcgkimoaaGreatDoor
open Go.RowKit Go.Joins Go.Shelf
set_option maxRecDepth 100000
set_option maxHeartbeats 1600000 in
theorem ops1_of (q:Ps) (m:Nat) (hN:CO q m 2):CO q m 1:=by
 intro i bad lost V ss w h hm hs hl
 have hq:=h.lt
 obtain ⟨W1,hW1⟩:∃ W1,W1=w.alloc (.cells zeroE 52):=⟨_,rfl⟩
 have b1:Below w.heap.size w W1:=by rw [hW1]; exact (Below.refl _ w).alloc (Nat.le_refl _) _
 have z1:W1.heap.size=w.heap.size+1:=by rw [hW1]; simp
 have x1:W1.heap[w.heap.size]? = some (.cells zeroE 52):=by rw [hW1]; exact block_new w _
 have hs1:=hs.below b1
 have h1:=h.below b1
 have HC:=(show Hid (KB (· = q.P) w W1∧ParAt q W1 i bad lost∧PsAt W1 q.P V ss∧W1.heap.size=w.heap.size+1∧W1.heap[w.heap.size]? = some (.cells zeroE 52)) from ⟨KB.of_below b1,h1,hs1,z1,x1⟩)
 have HS:=(show Hid (PsAt w q.P V ss) from hs)
 have H0:=(show Hid (ParAt q w i bad lost∧q.n - i<m∧ss.length+0+6 * (q.n - i)≤20000∧q.P<w.heap.size) from ⟨h,hm,hl,hq⟩)
 clear h hm hs hl hq b1 z1 x1 hs1 h1
 go_enter Tryz.func74,Tryz.ntmps74
 refine wp_seq_k (fun K hK => ?_)
 refine wp_region_list ?_
 refine wpl_run rfl (.pointer (some ⟨w.heap.size,0,none⟩)) W1 (by rw [hW1]; exact ex_allocE _ _ rfl w) ?_
 simp only [Act.put,List.setIfInBounds_toArray,List.set_cons_zero,List.set_cons_succ]
 refine wpList_nil ?_
 refine hK _ _ ?_
 clear hK K hW1
 have HN:=(show Hid (CO q m 2) from hN)
 clear hN
 go_upto_region 3 with fail
 obtain ⟨kb1,h1,sc1,z1,bx1⟩:=HC.out
 obtain ⟨h0,hm,hl,hq⟩:=H0.out
 refine wp_region_list ?_
 refine wpl_run rfl (.pointer (some ⟨q.P,0,none⟩)) W1 (ex_move _ _ _ _ rfl (by rfl) _) ?_
 simp only [Act.put,List.setIfInBounds_toArray,List.set_cons_zero,List.set_cons_succ]
 refine wpl_run rfl (V) W1 (ex_move _ _ _ _ rfl (by rfl) _) ?_
 simp only [Act.put,List.setIfInBounds_toArray,List.set_cons_zero,List.set_cons_succ]
 refine wpl_run rfl (.int .i64 1) W1 (ex_move _ _ _ _ rfl (by rfl) _) ?_
 simp only [Act.put,List.setIfInBounds_toArray,List.set_cons_zero,List.set_cons_succ]
 refine wpl_run rfl (.int .i64 2) W1 (ex_inc _ _ _ rfl (by rfl) (by omega) (by omega) _) ?_
 simp only [Act.put,List.setIfInBounds_toArray,List.set_cons_zero,List.set_cons_succ]
 refine wpl_call3 rfl 74 (.tmp 15) (.tmp 16) (.tmp 18) _ rfl ent_ops (.pointer (some ⟨q.P,0,none⟩)) (V) (.int .i64 2) (by rfl) (by rfl) (by rfl) (fun r w'=>EV (fun b=>W1.heap.size≤b) w' r∧AftS q W1 w' i bad) ((HN.out i bad lost V ss W1 h1 hm sc1 hl).mono (fun e w' ⟨v,he,hh⟩=>⟨v,he,hh⟩)) ?_
 rintro v2 W2 ⟨e2,k2,i2,bad2,lost2,hi2,hb2,hs2,h2⟩
 simp only [Act.put,List.setIfInBounds_toArray,List.set_cons_zero,List.set_cons_succ]
 have z2:=k2.size
 refine wpl_box 7 (.tmp 19) rfl rfl rfl rfl rfl rfl e2 (by rfl) (by rfl) ?_
 intro W3 y3 b3 x3
 simp only [Act.put,List.setIfInBounds_toArray,List.set_cons_zero,List.set_cons_succ]
 refine wpList_nil ?_
 have hbg:w.heap.size+1≤W2.heap.size:=by omega
 have hr0:LoopR q w i bad W3 W2.heap.size v2:=⟨(kb1.trans k2).trans (KB.of_below b3),⟨i2,bad2,lost2,hi2,hb2,hs2,h2.below b3⟩,(b3.block _ (by omega)).trans (k2.heap bx1 (by show ¬ _=_; omega)),x3,(e2.kept (S':=fun b=>w.heap.size+1≤b∧b≠W2.heap.size) (fun b _ hlt=>b3.block b hlt) b3.size (fun b hb hlt=>⟨by have hb':W1.heap.size≤b:=hb; omega,Nat.ne_of_lt hlt⟩))⟩
 have hgl:W2.heap.size<W3.heap.size:=by omega
 generalize W2.heap.size=g7 at hr0 hbg hgl ⊢
 clear e2 k2 hi2 hb2 hs2 h2 z2 y3 b3 x3 kb1 h1 sc1 z1 bx1
 go_upto_region 4 with fail
 refine wp_region_list ?_
 obtain ⟨W4,e4⟩:∃ W',W'=W3.alloc (.cells #[.string ⟨#[61,61]⟩,.string ⟨#[60]⟩] 9):=⟨_,rfl⟩
 have b4:Below W3.heap.size W3 W4:=by rw [e4]; exact (Below.refl _ _).alloc (Nat.le_refl _) _
 have z4:W4.heap.size=W3.heap.size+1:=by rw [e4]; simp
 refine wpl_run rfl (.slice (some ⟨W3.heap.size,0,none⟩) 2 2) W4 (by rw [e4]; exact ex_strs2 _ _ (.const (.string ⟨#[61,61]⟩)) (.const (.string ⟨#[60]⟩)) ⟨#[61,61]⟩ ⟨#[60]⟩ rfl rfl rfl _) ?_
 simp only [Act.put,List.setIfInBounds_toArray,List.set_cons_zero,List.set_cons_succ]
 obtain ⟨W5,e5⟩:∃ W',W'=W4.alloc (.cells #[.string ⟨#[43]⟩,.string ⟨#[45]⟩] 9):=⟨_,rfl⟩
 have b5:Below W4.heap.size W4 W5:=by rw [e5]; exact (Below.refl _ _).alloc (Nat.le_refl _) _
 have z5:W5.heap.size=W4.heap.size+1:=by rw [e5]; simp
 have sg1:SgAt W5 W4.heap.size [(⟨#[43]⟩:ByteArray),(⟨#[45]⟩:ByteArray)]:=by
  refine ⟨by omega,fun j s hj => ?_⟩
  rw [e5,cell_of_block (block_new W4 _)]
  match j with
  | 0 =>
    obtain rfl:_=s:=by simpa using hj
    rfl
  | 1 =>
    obtain rfl:_=s:=by simpa using hj
    rfl
  | j+2=>simp at hj
 refine wpl_run rfl (.slice (some ⟨W4.heap.size,0,none⟩) 2 2) W5 (by rw [e5]; exact ex_strs2 _ _ (.const (.string ⟨#[43]⟩)) (.const (.string ⟨#[45]⟩)) ⟨#[43]⟩ ⟨#[45]⟩ rfl rfl rfl _) ?_
 simp only [Act.put,List.setIfInBounds_toArray,List.set_cons_zero,List.set_cons_succ]
 obtain ⟨W6,e6⟩:∃ W',W'=W5.alloc (.cells #[.string ⟨#[42]⟩] 9):=⟨_,rfl⟩
 have b6:Below W5.heap.size W5 W6:=by rw [e6]; exact (Below.refl _ _).alloc (Nat.le_refl _) _
 have z6:W6.heap.size=W5.heap.size+1:=by rw [e6]; simp
 refine wpl_run rfl (.slice (some ⟨W5.heap.size,0,none⟩) 1 1) W6 (by rw [e6]; exact ex_strs1 _ _ (.const (.string ⟨#[42]⟩)) ⟨#[42]⟩ rfl rfl _) ?_
 simp only [Act.put,List.setIfInBounds_toArray,List.set_cons_zero,List.set_cons_succ]
 obtain ⟨W7,e7⟩:∃ W',W'=W6.alloc (.cells #[.slice (some ⟨W3.heap.size,0,none⟩) 2 2,.slice (some ⟨W4.heap.size,0,none⟩) 2 2,.slice (some ⟨W5.heap.size,0,none⟩) 1 1] 24):=⟨_,rfl⟩
 have b7:Below W6.heap.size W6 W7:=by rw [e7]; exact (Below.refl _ _).alloc (Nat.le_refl _) _
 have c7:W7.cell? ⟨W6.heap.size,1,none⟩=some (.slice (some ⟨W4.heap.size,0,none⟩) 2 2):=by rw [e7,cell_of_block (block_new W6 _)]; rfl
 refine wpl_run rfl (.slice (some ⟨W6.heap.size,0,none⟩) 3 3) W7 (by rw [e7]; exact ex_row3 _ _ (.tmp 20) (.tmp 21) (.tmp 22) rfl (by rfl) (by rfl) (by rfl) _) ?_
 simp only [Act.put,List.setIfInBounds_toArray,List.set_cons_zero,List.set_cons_succ]
 refine wpl_run rfl (.int .i64 1) W7 (ex_move _ _ _ _ rfl (by rfl) _) ?_
 simp only [Act.put,List.setIfInBounds_toArray,List.set_cons_zero,List.set_cons_succ]
 refine wpl_run rfl (.pointer (some ⟨W6.heap.size,1,none⟩)) W7 (ex_indexR (b:=W6.heap.size) (r:=1) _ _ (.tmp 23) (.tmp 24) rfl (by rfl) (by rfl) (by omega) _) ?_
 simp only [Act.put,List.setIfInBounds_toArray,List.set_cons_zero,List.set_cons_succ]
 refine wpl_run rfl (.slice (some ⟨W4.heap.size,0,none⟩) 2 2) W7 (ex_loadR _ _ (.tmp 25) rfl (by rfl) _ c7) ?_
 simp only [Act.put,List.setIfInBounds_toArray,List.set_cons_zero,List.set_cons_succ]
 refine wpl_run rfl (.slice (some ⟨W4.heap.size,0,none⟩) 2 2) W7 (ex_assign _ _ _ _ rfl (by rfl) _) ?_
 simp only [Act.put,List.setIfInBounds_toArray,List.set_cons_zero,List.set_cons_succ]
 refine wpList_nil ?_
 have hr7:LoopR q w i bad W7 g7 v2∧SgAt W7 W4.heap.size [(⟨#[43]⟩:ByteArray),(⟨#[45]⟩:ByteArray)]:=⟨(((hr0.below b4).below b5).below b6).below b7,(sg1.below b6).below b7⟩
 have hsb:w.heap.size+1≤W4.heap.size∧W4.heap.size≠g7:=by constructor <;> omega
 generalize W4.heap.size=sb at hr7 hsb ⊢
 obtain ⟨sg,hsg⟩:∃ sg:List ByteArray,sg=[(⟨#[43]⟩:ByteArray),(⟨#[45]⟩:ByteArray)]:=⟨_,rfl⟩
 rw [← hsg] at hr7
 have hsl:sg.length=2∧∀ s ∈ sg,s.size≤maxLen:=by rw [hsg]; exact ⟨rfl,fun s hs=>by simp only [List.mem_cons,List.not_mem_nil,or_false] at hs; rcases hs with rfl | rfl <;> exact (by unfold maxLen; decide)⟩
 have HR0:=(show Hid (LoopR q w i bad W7 g7 v2∧SgAt W7 sb sg) from hr7)
 have HG:=(show Hid (w.heap.size+1≤g7∧PsAt w q.P V ss∧w.heap.size+1≤sb∧sb≠g7∧sg.length=2∧∀ s ∈ sg,s.size≤maxLen) from ⟨hbg,HS.out,hsb.1,hsb.2,hsl⟩)
 clear hr0 hr7 hsb hsl hsg hbg hgl b4 b5 b6 b7 z4 z5 z6 e4 e5 e6 e7 c7 h0 hm hl hq HC sg1
 go_wp2_with fail
 go_loopw [9] (fun i9 wr=>∃ (k:Nat) (u:Value),k≤2∧i9 = .int .i64 k∧Hid (LoopR q w i bad wr g7 u∧SgAt wr sb sg)) (fun i9 wr=>3 * leftQ q wr+(2 - (intOf i9).toNat))
 case atStart=>exact ⟨0,_,Nat.zero_le _,rfl,HR0⟩
 case round =>
  clear HR0
  obtain ⟨k,u,hk,rfl,HR⟩:=hrel
  obtain ⟨i2,bad2,lost2,hi2,hb2,hs2,h2⟩:=HR.out.1.st
  have H2:=(show Hid (i≤i2∧(bad=true→bad2=true)∧(i<i2∨bad2=true)∧ParAt q wr i2 bad2 lost2) from ⟨hi2,hb2,hs2,h2⟩)
  clear hi2 hb2 hs2 h2
  by_cases hlt:k<2
  ·have hlt':((k:Nat):Int)<2:=by omega
   obtain ⟨s,hs⟩:∃ s,sg[k]? = some s:=⟨_,List.getElem?_eq_getElem (by have:=HG.out.2.2.2.2.1; omega)⟩
   have hsm:s.size≤maxLen:=HG.out.2.2.2.2.2 s (List.mem_of_getElem? hs)
   have hcs:=HR.out.2.2 k s hs
   have HK:=(show Hid (k<2∧sg[k]? = some s∧s.size≤maxLen) from ⟨hlt,hs,hsm⟩)
   clear hs hsm hlt
   go_wp2_with fail
   refine (may_any q wr i2 bad2 lost2 s H2.out.2.2.2).mono ?_
   rintro r w2 ⟨c,rfl,⟨k2,hc⟩⟩
   clear hcs
   have sb1:=HG.out.2.2.1
   have hsb2:¬ (fun x=>x=q.P) sb:=by show ¬ _=_; have:=H0.out.2.2.2; omega
   rcases hc with ⟨rfl,h2'⟩ | ⟨rfl,hbf,hlt2,h2'⟩
   ·have hr2:LoopR q w i bad w2 g7 u∧SgAt w2 sb sg:=⟨⟨HR.out.1.kb.trans k2,⟨i2,bad2,lost2,H2.out.1,H2.out.2.1,H2.out.2.2.1,h2'⟩,k2.heap HR.out.1.bx0 (by show ¬ _=_; have:=H0.out.2.2.2; omega),k2.heap HR.out.1.bx (by show ¬ _=_; have:=H0.out.2.2.2; have:=HG.out.1; omega),HR.out.1.ev.kb k2 (fun hx=>by have:=H0.out.2.2.2; omega)⟩,HR.out.2.kb k2 hsb2⟩
    have HR2:=(show Hid (LoopR q w i bad w2 g7 u∧SgAt w2 sb sg) from hr2)
    have HM:=(show Hid (leftQ q w2=leftQ q wr) from by rw [show Hid (leftQ q w2=leftQ q wr)=(leftQ q w2=leftQ q wr) from rfl,leftQ_of h2',leftQ_of H2.out.2.2.2])
    clear hr2 h2' k2 sb1 hsb2
    have hk2:(k:Int)≤1:=by have:=HK.out.1; omega
    go_wp2_with fail
    go_roundw
    case rel=>exact ⟨k+1,u,by have:=HK.out.1; omega,by go_num,HR2⟩
    case measure =>
     have:=HM.out
     have:=HK.out.1
     simp [intOf]
     omega
   ·have hr2:LoopR q w i bad w2 g7 u∧SgAt w2 sb sg:=⟨⟨HR.out.1.kb.trans k2,⟨i2+1,false,lost2,Nat.le_succ_of_le H2.out.1,fun e=>by have:=H2.out.2.1 e; rw [hbf] at this; exact this,.inl (Nat.lt_succ_of_le H2.out.1),h2'⟩,k2.heap HR.out.1.bx0 (by show ¬ _=_; have:=H0.out.2.2.2; omega),k2.heap HR.out.1.bx (by show ¬ _=_; have:=H0.out.2.2.2; have:=HG.out.1; omega),HR.out.1.ev.kb k2 (fun hx=>by have:=H0.out.2.2.2; omega)⟩,HR.out.2.kb k2 hsb2⟩
    have HR2:=(show Hid (LoopR q w i bad w2 g7 u∧SgAt w2 sb sg) from hr2)
    have HP2:=(show Hid (ParAt q w2 (i2+1) false lost2∧bad2=false∧i2<q.n) from ⟨h2',hbf,hlt2⟩)
    clear hr2 h2' k2 sb1 hsb2 hlt2 hbf
    go_upto_region 8 with fail
    have hcs2:=HR2.out.2.2 k s HK.out.2.1
    refine wp_region_held_drew (S:=fun Wq=>Wq.cell? ⟨sb,k,none⟩=some (.string s)) (by kernel_rfl) hcs2 (fun hS => ?_)
    have bd0:Below w2.heap.size w2 w2.drew:=⟨rfl,rfl,rfl,Nat.le_refl _,fun _ _=>rfl⟩
    clear hcs2
    generalize w2.drew=W3 at bd0 hS ⊢
    have hr3:=HR2.out.1.below bd0
    have sg3:=HR2.out.2.below bd0
    have h3:=HP2.out.1.below bd0
    obtain ⟨h0,hm,hl,hq⟩:=H0.out
    obtain ⟨hi2,hb2,hs2,-⟩:=H2.out
    obtain ⟨hg7,hsc,hsb,hsg7,hsl,-⟩:=HG.out
    have hN:=HN.out
    have hbf:=HP2.out.2.1
    have hkl:=HK.out.1
    refine wpAnyH_take (i:=0) (v:=.slice (some ⟨sb,0,none⟩) 2 2) rfl (by kernel_rfl) (by kernel_rfl) (by kernel_rfl) (fun _ _ _ h=>h) (Or.inl ⟨by rfl,fun wq hSw => ?_⟩) hS ?_
    ·exact ex_move _ _ _ _ rfl (by rfl) _
    simp only [Act.put,lsk]
    refine wpAnyH_take (i:=1) (v:=.int .i64 k) rfl (by kernel_rfl) (by kernel_rfl) (by kernel_rfl) (fun _ _ _ h=>h) (Or.inl ⟨by rfl,fun wq hSw => ?_⟩) hS ?_
    ·exact ex_move _ _ _ _ rfl (by rfl) _
    simp only [Act.put,lsk]
    refine wpAnyH_take (i:=2) (v:=.pointer (some ⟨sb,k,none⟩)) rfl (by kernel_rfl) (by kernel_rfl) (by kernel_rfl) (fun _ _ _ h=>h) (Or.inl ⟨by rfl,fun wq hSw => ?_⟩) hS ?_
    ·exact ex_indexS _ _ (.tmp 37) (.tmp 38) rfl (by rfl) (by rfl) hkl (by omega) _
    simp only [Act.put,lsk]
    refine wpAnyH_take (i:=3) (v:=.string s) rfl (by kernel_rfl) (by kernel_rfl) (by kernel_rfl) (fun _ _ _ h=>h) (Or.inl ⟨by rfl,fun wq hSw => ?_⟩) hS ?_
    ·exact ex_loadT _ _ (.tmp 39) rfl (by rfl) wq hSw
    simp only [Act.put,lsk]
    refine wpAnyH_take (i:=5) (v:=.pointer (some ⟨q.P,0,none⟩)) rfl (by kernel_rfl) (by kernel_rfl) (by kernel_rfl) (fun _ _ _ h=>h) (Or.inl ⟨by rfl,fun wq hSw => ?_⟩) hS ?_
    ·exact ex_move _ _ _ _ rfl (by rfl) _
    simp only [Act.put,lsk]
    refine wpAnyH_take (i:=6) (v:=V) rfl (by kernel_rfl) (by kernel_rfl) (by kernel_rfl) (fun _ _ _ h=>h) (Or.inl ⟨by rfl,fun wq hSw => ?_⟩) hS ?_
    ·exact ex_move _ _ _ _ rfl (by rfl) _
    simp only [Act.put,lsk]
    refine wpAnyH_take (i:=7) (v:=.int .i64 1) rfl (by kernel_rfl) (by kernel_rfl) (by kernel_rfl) (fun _ _ _ h=>h) (Or.inl ⟨by rfl,fun wq hSw => ?_⟩) hS ?_
    ·exact ex_move _ _ _ _ rfl (by rfl) _
    simp only [Act.put,lsk]
    refine wpAnyH_take (i:=8) (v:=.int .i64 2) rfl (by kernel_rfl) (by kernel_rfl) (by kernel_rfl) (fun _ _ _ h=>h) (Or.inl ⟨by rfl,fun wq hSw => ?_⟩) hS ?_
    ·exact ex_inc _ _ _ rfl (by rfl) (by omega) (by omega) _
    simp only [Act.put,lsk]
    refine wpAnyH_ready (rs:=[4,9]) (by kernel_rfl) (by simp) ?_
    refine AllReadyH.cons rfl (fun K hK => ?_) (AllReadyH.cons rfl (fun K hK => ?_) AllReadyH.nil)
    ·have hbx:=hr3.bx
     refine step_run rfl (.agg (cellsV u)) _ (ex_loadE _ _ (.tmp 7) g7 _ _ rfl (by rfl) W3 hbx hr3.ev.agg.2.1) ?_
     refine hK _ _ (hS) (fun _ => ?_)
     clear hK K
     simp only [Act.put,lsk]
     refine wpAnyH_ready (rs:=[9]) (by kernel_rfl) (by simp) ?_
     refine AllReadyH.cons rfl (fun K hK => ?_) AllReadyH.nil
     refine step_callThree rfl 74 (.tmp 42) (.tmp 43) (.tmp 45) _ rfl ent_ops (.pointer (some ⟨q.P,0,none⟩)) (V) (.int .i64 2) (by rfl) (by rfl) (by rfl) (fun r w'=>EV (fun b=>W3.heap.size≤b) w' r∧AftS q W3 w' (i2+1) false) ((hN (i2+1) false lost2 V ss W3 h3 (lt_on hm (Nat.le_succ_of_le hi2)) (hsc.kb hr3.kb) (len_on hl (Nat.le_refl _) (Nat.le_succ_of_le hi2))).mono (fun e w' ⟨v,he,hh⟩=>⟨v,he,hh⟩)) ?_
     rintro v4 W4 ⟨e4,k4,i4,bad4,lost4,hi4,hb4,hs4,h4⟩
     have sg4:=sg3.kb k4 (by show ¬ _=_; omega)
     refine hK _ _ (sg4.2 k s HK.out.2.1) (fun _ => ?_)
     clear hK K
     simp only [Act.put,lsk]
     have hz4:=k4.size
     have hz3:=hr3.kb.size
     have hgl:=lh hr3.bx
     have hu4:EV (fun b=>w.heap.size+1≤b∧b≠g7) W4 u:=hr3.ev.kb k4 (fun hx=>by omega)
     have hv4:EV (fun b=>w.heap.size+1≤b∧b≠g7) W4 v4:=e4.wide (fun b hb _=>by have hb':W3.heap.size≤b:=hb; constructor <;> omega)
     refine wpAnyH_ready (rs:=[10]) (by kernel_rfl) (by simp) ?_
     refine AllReadyH.cons rfl (fun K hK => ?_) AllReadyH.nil
     refine step_callThree rfl 93 (.tmp 40) (.tmp 41) (.tmp 46) _ rfl ent_op (.string s) u v4 (by rfl) (hu4.aggR (by rfl)) (by rfl) (fun r w'=>EV (fun b=>(w.heap.size+1≤b∧b≠g7)∨W4.heap.size≤b) w' r∧Below W4.heap.size W4 w') ((op_any _ s u v4 W4 HK.out.2.2 hu4 hv4).mono (fun e w' ⟨v,he,hh⟩=>⟨v,he,hh⟩)) ?_
     rintro x W5 ⟨ex,b5⟩
     have hz5:=b5.size
     have fv:EV (fun b=>w.heap.size+1≤b∧b≠g7) W5 x:=ex.wide (fun b hb _=>by rcases hb with hb | hb; exact hb; constructor <;> omega)
     have sg5:=sg4.below b5
     refine hK _ _ (sg5.2 k s HK.out.2.1) (fun _ => ?_)
     clear hK K
     simp only [Act.put,lsk]
     have bx5:W5.heap[g7]? = some (.cells (cellsV u) 52):=(b5.block _ (by omega)).trans (k4.heap hr3.bx (by show ¬ _=_; omega))
     have bx0:W5.heap[w.heap.size]? = some (.cells zeroE 52):=(b5.block _ (by omega)).trans (k4.heap hr3.bx0 (by show ¬ _=_; omega))
     obtain ⟨hr6,h6⟩:=LoopR.put h0 ((hr3.kb.trans k4).trans (KB.of_below b5)) (Nat.le_trans (Nat.le_succ_of_le hi2) hi4) (fun e=>by have:=hb2 e; rw [hbf] at this; cases this) (st_new (Nat.le_succ_of_le hi2) hs4) (h4.below b5) bx0 bx5 fv hg7
     have sg6:=sg5.kb (setRow_kb W5 g7 (cellsV x)) (by show ¬ _=_; exact hsg7)
     refine wpAnyH_ready (rs:=[11]) (by kernel_rfl) (by simp) ?_
     refine AllReadyH.cons rfl (fun K hK => ?_) AllReadyH.nil
     refine step_skip rfl (W5.setRow g7 (cellsV x)) (ex_storeE _ _ (.tmp 7) (.tmp 47) g7 _ _ _ rfl (by rfl) ((show _=x from (by rfl)).trans fv.agg.1) W5 bx5 hu4.agg.2.1 fv.agg.2.1 fv.agg.2.2.1) ?_
     refine hK _ _ (sg6.2 k s HK.out.2.1) (fun _ => ?_)
     clear hK K
     simp only [Act.put,List.getElem_toArray,List.getElem_cons_zero,List.getElem_cons_succ]
     refine wpAnyH_done (by kernel_rfl) ?_ _
     have hms:leftQ q (W5.setRow g7 (cellsV x))<leftQ q wr:=by rw [leftQ_of h6,leftQ_of H2.out.2.2.2]; have:=h6.2.1; have:=HP2.out.2.2; omega
     have HR6:=(show Hid (LoopR q w i bad (W5.setRow g7 (cellsV x)) g7 x∧SgAt (W5.setRow g7 (cellsV x)) sb sg) from ⟨hr6,sg6⟩)
     have HM:=(show Hid (leftQ q (W5.setRow g7 (cellsV x))<leftQ q wr) from hms)
     generalize W5.setRow g7 (cellsV x)=W6 at HR6 HM ⊢
     clear hms hr6 h6 sg6 bx0 bx5 sg5 fv ex b5 hv4 hu4 hz5 hz4 hz3 hgl h4 hs4 hb4 hi4 e4 k4 sg4 hbx h0 hm hl hq hi2 hb2 hs2 hg7 hsc hsb hsg7 hsl hN hbf hkl hr3 sg3 h3 bd0 hS
     go_wp2_with fail
     go_roundw
     case rel=>exact ⟨0,x,Nat.zero_le _,rfl,HR6⟩
     case measure =>
      have:=HM.out
      simp [intOf]
      omega
    ·refine step_callThree rfl 74 (.tmp 42) (.tmp 43) (.tmp 45) _ rfl ent_ops (.pointer (some ⟨q.P,0,none⟩)) (V) (.int .i64 2) (by rfl) (by rfl) (by rfl) (fun r w'=>EV (fun b=>W3.heap.size≤b) w' r∧AftS q W3 w' (i2+1) false) ((hN (i2+1) false lost2 V ss W3 h3 (lt_on hm (Nat.le_succ_of_le hi2)) (hsc.kb hr3.kb) (len_on hl (Nat.le_refl _) (Nat.le_succ_of_le hi2))).mono (fun e w' ⟨v,he,hh⟩=>⟨v,he,hh⟩)) ?_
     rintro v4 W4 ⟨e4,k4,i4,bad4,lost4,hi4,hb4,hs4,h4⟩
     have sg4:=sg3.kb k4 (by show ¬ _=_; omega)
     refine hK _ _ (sg4.2 k s HK.out.2.1) (fun _ => ?_)
     clear hK K
     simp only [Act.put,lsk]
     refine wpAnyH_ready (rs:=[4]) (by kernel_rfl) (by simp) ?_
     refine AllReadyH.cons rfl (fun K hK => ?_) AllReadyH.nil
     have hbx:=k4.heap hr3.bx (by show ¬ _=_; have:=hr3.kb.size; omega)
     refine step_run rfl (.agg (cellsV u)) _ (ex_loadE _ _ (.tmp 7) g7 _ _ rfl (by rfl) W4 hbx hr3.ev.agg.2.1) ?_
     refine hK _ _ (sg4.2 k s HK.out.2.1) (fun _ => ?_)
     clear hK K
     simp only [Act.put,lsk]
     have hz4:=k4.size
     have hz3:=hr3.kb.size
     have hgl:=lh hr3.bx
     have hu4:EV (fun b=>w.heap.size+1≤b∧b≠g7) W4 u:=hr3.ev.kb k4 (fun hx=>by omega)
     have hv4:EV (fun b=>w.heap.size+1≤b∧b≠g7) W4 v4:=e4.wide (fun b hb _=>by have hb':W3.heap.size≤b:=hb; constructor <;> omega)
     refine wpAnyH_ready (rs:=[10]) (by kernel_rfl) (by simp) ?_
     refine AllReadyH.cons rfl (fun K hK => ?_) AllReadyH.nil
     refine step_callThree rfl 93 (.tmp 40) (.tmp 41) (.tmp 46) _ rfl ent_op (.string s) u v4 (by rfl) (hu4.aggR (by rfl)) (by rfl) (fun r w'=>EV (fun b=>(w.heap.size+1≤b∧b≠g7)∨W4.heap.size≤b) w' r∧Below W4.heap.size W4 w') ((op_any _ s u v4 W4 HK.out.2.2 hu4 hv4).mono (fun e w' ⟨v,he,hh⟩=>⟨v,he,hh⟩)) ?_
     rintro x W5 ⟨ex,b5⟩
     have hz5:=b5.size
     have fv:EV (fun b=>w.heap.size+1≤b∧b≠g7) W5 x:=ex.wide (fun b hb _=>by rcases hb with hb | hb; exact hb; constructor <;> omega)
     have sg5:=sg4.below b5
     refine hK _ _ (sg5.2 k s HK.out.2.1) (fun _ => ?_)
     clear hK K
     simp only [Act.put,lsk]
     have bx5:W5.heap[g7]? = some (.cells (cellsV u) 52):=(b5.block _ (by omega)).trans (k4.heap hr3.bx (by show ¬ _=_; omega))
     have bx0:W5.heap[w.heap.size]? = some (.cells zeroE 52):=(b5.block _ (by omega)).trans (k4.heap hr3.bx0 (by show ¬ _=_; omega))
     obtain ⟨hr6,h6⟩:=LoopR.put h0 ((hr3.kb.trans k4).trans (KB.of_below b5)) (Nat.le_trans (Nat.le_succ_of_le hi2) hi4) (fun e=>by have:=hb2 e; rw [hbf] at this; cases this) (st_new (Nat.le_succ_of_le hi2) hs4) (h4.below b5) bx0 bx5 fv hg7
     have sg6:=sg5.kb (setRow_kb W5 g7 (cellsV x)) (by show ¬ _=_; exact hsg7)
     refine wpAnyH_ready (rs:=[11]) (by kernel_rfl) (by simp) ?_
     refine AllReadyH.cons rfl (fun K hK => ?_) AllReadyH.nil
     refine step_skip rfl (W5.setRow g7 (cellsV x)) (ex_storeE _ _ (.tmp 7) (.tmp 47) g7 _ _ _ rfl (by rfl) ((show _=x from (by rfl)).trans fv.agg.1) W5 bx5 hu4.agg.2.1 fv.agg.2.1 fv.agg.2.2.1) ?_
     refine hK _ _ (sg6.2 k s HK.out.2.1) (fun _ => ?_)
     clear hK K
     simp only [Act.put,List.getElem_toArray,List.getElem_cons_zero,List.getElem_cons_succ]
     refine wpAnyH_done (by kernel_rfl) ?_ _
     have hms:leftQ q (W5.setRow g7 (cellsV x))<leftQ q wr:=by rw [leftQ_of h6,leftQ_of H2.out.2.2.2]; have:=h6.2.1; have:=HP2.out.2.2; omega
     have HR6:=(show Hid (LoopR q w i bad (W5.setRow g7 (cellsV x)) g7 x∧SgAt (W5.setRow g7 (cellsV x)) sb sg) from ⟨hr6,sg6⟩)
     have HM:=(show Hid (leftQ q (W5.setRow g7 (cellsV x))<leftQ q wr) from hms)
     generalize W5.setRow g7 (cellsV x)=W6 at HR6 HM ⊢
     clear hms hr6 h6 sg6 bx0 bx5 sg5 fv ex b5 hv4 hu4 hz5 hz4 hz3 hgl h4 hs4 hb4 hi4 e4 k4 sg4 hbx h0 hm hl hq hi2 hb2 hs2 hg7 hsc hsb hsg7 hsl hN hbf hkl hr3 sg3 h3 bd0 hS
     go_wp2_with fail
     go_roundw
     case rel=>exact ⟨0,x,Nat.zero_le _,rfl,HR6⟩
     case measure =>
      have:=HM.out
      simp [intOf]
      omega
  ·have hlt':¬ ((k:Nat):Int)<2:=by omega
   go_upto_region 13 with fail
   refine wp_region_list ?_
   refine wpl_run rfl (.agg (cellsV u)) wr (ex_loadE _ _ (.tmp 7) g7 _ _ rfl rfl wr HR.out.1.bx HR.out.1.ev.agg.2.1) ?_
   simp only [Act.put,List.setIfInBounds_toArray,List.set_cons_zero,List.set_cons_succ]
   refine wpl_skip rfl (wr.setRow w.heap.size (cellsV u)) (ex_storeE _ _ (.tmp 6) (.tmp 53) w.heap.size _ _ _ rfl rfl rfl wr HR.out.1.bx0 rfl HR.out.1.ev.agg.2.1 HR.out.1.ev.agg.2.2.1) ?_
   simp only [Act.put]
   refine wpList_nil ?_
   have HF:=(show Hid (_∧_∧_) from HR.out.1.fin H0.out.1)
   have HE:=(show Hid (_∧_) from ⟨HR.out.1.ev.agg.1,HR.out.1.ev.agg.2.1⟩)
   generalize wr.setRow w.heap.size (cellsV u)=WF at HF ⊢
   clear HR HG H0 HN HS H2
   go_wp2
   refine bodyPost_ret (results_cell_row (p:=6) (ty:=52) rfl _ WF w.heap.size _ _ (0,0) _ rfl HF.out.2.2 Tryz.underlying52 rfl (by rw [HE.out.2]; exact sizeE)) rfl ?_
   exact ⟨u,congrArg Ending.returned HE.out.1.symm,HF.out.1,HF.out.2.1⟩
end Go.Proofs.YtljdgmfcgkimoaaGreatDoor
