/-
  Proofs.
-/
import Derived.Test.YtljdgmfcgkimoaaGreatDoorJ1
import Derived.Test.YtljdgmfcgkimoaaGreatDoorJ18
import Derived.Test.YtljdgmfcgkimoaaGreatDoorSpecProg
namespace Go.Proofs.YtljdgmfcgkimoaaGreatDoor
open Go.RowKit Go.Joins Go.Shelf
set_option maxRecDepth 100000
theorem has_own {B:Nat} {nv:Value} {ns:List ByteArray} (s:ByteArray) (w:World) (h:w.ownsRow B 9 1 nv ns.length (ns.map Value.string)) (hl:ns.length≤maxLen) :
  Calls Tryz.prog 39 #[nv,.string s] w fun e w'=>∃ b:Bool,e = .returned (.bool b)∧w'=w:=by
 rcases h.2 with ⟨rfl,h0⟩ | ⟨g,cap,cur,rfl,hb,hg,hnc,hcm,hsz,htake⟩
 ·clear h h0 hl
  go_enter Tryz.func39,Tryz.ntmps39
  go_wp2
  go_loop [5] (fun i=>i = .int .i64 0) (fun _=>0)
  case atStart=>rfl
  case round =>
   subst hrel
   go_wp2
   go_ret
   exact ⟨.inl rfl,rfl⟩
 ·refine (has_any g ns.length cap ns s w rfl hl (fun j hj => ?_)).mono (fun e w' ⟨h1,h2⟩=>⟨_,h1,h2⟩)
  have:=h.cells (g:=g) rfl j (.string ns[j]) (by rw [List.getElem?_map,List.getElem?_eq_getElem hj]; rfl)
  rw [addr_add,Nat.zero_add] at this
  rw [this]
  simp [List.getD,List.getElem?_eq_getElem hj]
set_option maxHeartbeats 3200000 in
theorem parse_any (s:ByteArray) (w:World) (hs:s.size≤1048576) :
  Calls Tryz.prog 23 #[.string s] w fun r w'=>∃ (nv bv:Value) (z:Int),r = .returned (.tuple #[.agg #[nv,bv],.int .i64 z])∧(∃ ns vs,PgAt w' w.heap.size nv bv ns vs∧ns.length≤2001∧vs.length=ns.length)∧Below w.heap.size w w':=by
 obtain ⟨W1,hW1⟩:∃ W1,W1=w.alloc (.cells #[.slice none 0 0,.slice none 0 0] 27):=⟨_,rfl⟩
 have b1:Below w.heap.size w W1:=by rw [hW1]; exact (Below.refl _ w).alloc (Nat.le_refl _) _
 have z1:W1.heap.size=w.heap.size+1:=by rw [hW1]; simp
 have x1:W1.heap[w.heap.size]? = some (.cells #[.slice none 0 0,.slice none 0 0] 27):=by rw [hW1]; exact block_new w _
 have H1:=(show Hid (_∧_∧_) from ⟨b1,z1,x1⟩)
 clear b1 z1 x1
 go_enter Tryz.func23,Tryz.ntmps23
 go_upto_region 1 with fail
 rw [← hW1]
 clear hW1
 go_wp2_with fail
 refine (specLex_any s W1 hs).mono ?_
 rintro e W2 ⟨v,rfl,own2,b2⟩
 have hgd:=lexR_good s hs
 generalize lexR s=L at own2 hgd ⊢
 obtain ⟨ts,line⟩:=L
 replace hgd:(∀ u ∈ ts,u.good)∧ts.length≤2000:=hgd
 have b02:Below w.heap.size w W2:=H1.out.1.trans (b2.mono H1.out.1.size)
 have x2:W2.heap[w.heap.size]? = some (.cells #[.slice none 0 0,.slice none 0 0] 27):=(b2.block _ (lh H1.out.2.2)).trans H1.out.2.2
 by_cases hline:line=0
 ·subst hline
  have hz:((0:Int) != 0)=false:=rfl
  obtain ⟨a,cap,rfl⟩:=own_form own2
  have hP2:∀ P,W2.heap.size≤P→(Value.slice a ts.length cap).ownBlock≠some P:=fun P hP e=>by have:=own_lt own2 P e; omega
  have tk2:=toks_of (P:=W2.heap.size) own2 hgd.2 hgd.1 (hP2 _ (Nat.le_refl _))
  have H2:=(show Hid (_∧_∧_∧_∧_∧_) from ⟨own2,hgd,b02,x2,hP2,tk2⟩)
  clear own2 hgd b2 b02 x2 hP2 tk2
  go_wp2_with fail
  refine (tops_any W2.heap.size ts.length cap a W2 H2.out.2.2.2.2.2).mono ?_
  rintro r W3 ⟨u,rfl,tn,own3,sz3,len3,b3⟩
  obtain ⟨a3,cap3,rfl⟩:=own_form own3
  obtain ⟨W4,e4⟩:∃ W4,W4=W3.alloc (.cells #[.slice a ts.length cap,.int .i64 0,.bool false,.bool false,.slice a3 tn.length cap3] 85):=⟨_,rfl⟩
  have b4:Below W3.heap.size W3 W4:=by rw [e4]; exact (Below.refl _ _).alloc (Nat.le_refl _) _
  have z4:W4.heap.size=W3.heap.size+1:=by rw [e4]; simp
  have x4:W4.heap[W3.heap.size]? = some (.cells #[.slice a ts.length cap,.int .i64 0,.bool false,.bool false,.slice a3 tn.length cap3] 85):=by rw [e4]; exact block_new _ _
  have s3:=b3.size
  have b24:Below W2.heap.size W2 W4:=b3.trans (b4.mono s3)
  obtain ⟨q,hq⟩:∃ q:Ps,q=⟨W3.heap.size,.slice a ts.length cap,ts.length,.slice a3 tn.length cap3,tn⟩:=⟨_,rfl⟩
  have hqP:q.P=W3.heap.size:=by rw [hq]
  have hqn:q.n=ts.length:=by rw [hq]
  have hl4:tn.length≤maxLen:=by have h1:=H2.out.2.1.2; unfold maxLen; omega
  have p4:ParAt q W4 0 false false:=by
   rw [hq]
   exact ⟨x4,Nat.zero_le _,toks_of (own_moved H2.out.1 (fun g hg=>b24.block g (own_lt H2.out.1 g hg))) H2.out.2.1.2 H2.out.2.1.1 (H2.out.2.2.2.2.1 _ s3),own_strs (own_moved own3 (fun g hg=>b4.block g (own_lt own3 g hg))) hl4 sz3 (fun g hg=>Nat.ne_of_lt (own_lt own3 g hg))⟩
  have hx:=lh H2.out.2.2.2.1
  have b04:Below w.heap.size w W4:=H2.out.2.2.1.trans (b24.mono H2.out.2.2.1.size)
  have X:Fx q w W4 W4.heap.size:=⟨by rw [hqP]; omega,by rw [hqP]; omega,rfl,b04,p4,by rw [hqn]; exact H2.out.2.1.2,(b24.block _ hx).trans H2.out.2.2.2.1⟩
  have HX0:=(show Hid (_∧_∧_) from ⟨X,hqP,hqn⟩)
  clear X p4 hl4 b04 hx b24 x4 z4 b4 b3 s3 sz3 len3 own3 H2 H1 hqP hqn hq
  go_upto_region 5 with fail
  rw [← e4]
  clear e4
  rw [show W3.heap.size=q.P from HX0.out.2.1.symm]
  go_wp2_with fail
  obtain ⟨W5,e5⟩:∃ W5,W5=W4.alloc (.cells #[.slice none 0 0,.slice none 0 0] 27):=⟨_,rfl⟩
  have x5:W5.heap[W4.heap.size]? = some (.cells #[.slice none 0 0,.slice none 0 0] 27):=by rw [e5]; exact block_new _ _
  have b5:Below W4.heap.size W4 W5:=by rw [e5]; exact (Below.refl _ _).alloc (Nat.le_refl _) _
  have z5:W5.heap.size=W4.heap.size+1:=by rw [e5]; simp
  rw [← e5]
  clear e5
  have HX:=(show Hid (Fx q w W4 W4.heap.size) from HX0.out.1)
  have HQ:=(show Hid (q.n=ts.length) from HX0.out.2.2)
  generalize hg:W4.heap.size=g at HX x5 b5 z5 ⊢
  have HL0:=(show Hid (PM q W4 g W5 (.slice none 0 0) (.slice none 0 0) [] []∧ParAt q W5 0 false false∧([]:List ByteArray).length≤0+(if false then 1 else 0)∧([]:List Value).length=([]:List ByteArray).length) from ⟨⟨KB.of_below (by rw [hg]; exact b5),x5,PgAt.nil _ _,by omega⟩,HX.out.p4.below (by rw [hg]; exact b5),Nat.zero_le _,rfl⟩)
  clear x5 b5 z5 hg HX0
  go_loopw [8,9] (fun _ _ wr=>∃ (nv bv:Value) (ns:List ByteArray) (vs:List Value) (i:Nat) (bad lost:Bool),Hid (PM q W4 g wr nv bv ns vs∧ParAt q wr i bad lost∧ns.length≤i+(if bad then 1 else 0)∧vs.length=ns.length)) (fun _ _ wr=>leftP q wr)
  case atStart=>exact ⟨_,_,_,_,_,_,_,HL0⟩
  case round =>
   clear HL0
   obtain ⟨nv,bv,ns,vs,i,bad,lost,HL⟩:=hrel
   obtain ⟨-,c1,c2,c3,-,-⟩:=HL.out.2.1.cells
   obtain ⟨y0,y1,-⟩:=HL.out.1.cells
   obtain ⟨an,cn,rfl⟩:=own_form HL.out.1.pg.names
   obtain ⟨ab,cb,rfl⟩:=own_form HL.out.1.pg.bodies
   cases bad with
   | true =>
    clear c1 c3 y0 y1
    go_wp2_with fail
    refine (line_any q wr i true lost HL.out.2.1).mono ?_
    rintro r w9 ⟨b9,z,rfl⟩
    have x9:=(b9.block _ (lh (HL.out.1.box HX.out))).trans (HL.out.1.box HX.out)
    have f0:=ubk x9 0
    have f1:=ubk x9 1
    have d0:=cbk x9 0 (.slice none 0 0) rfl
    have d1:=cbk x9 1 (.slice none 0 0) rfl
    clear x9
    have HB:=(show Hid (Below w.heap.size w w9) from (HL.out.1.below HX.out).trans (b9.mono (HL.out.1.below HX.out).size))
    clear b9
    go_wp2
    refine bodyPost_ret (v:=.tuple #[.agg #[.slice none 0 0,.slice none 0 0],.int .i64 z]) (by simp [results,Tryz.results23,go_sem,d0,d1]) rfl ?_
    first | exact ⟨_,_,_,rfl,⟨[],[],PgAt.nil _ _,Nat.zero_le _,rfl⟩,(Below.setCell HB.out (Nat.le_refl _) _).setCell (Nat.le_refl _) _⟩ | exact ⟨_,_,⟨_,rfl⟩,⟨[],[],PgAt.nil _ _,Nat.zero_le _,rfl⟩,(Below.setCell HB.out (Nat.le_refl _) _).setCell (Nat.le_refl _) _⟩
   | false =>
    have HL2:=(show Hid (PM q W4 g wr (.slice an ns.length cn) (.slice ab vs.length cb) ns vs∧ParAt q wr i false lost∧ns.length≤i∧vs.length=ns.length) from ⟨HL.out.1,HL.out.2.1,by simpa using HL.out.2.2.1,HL.out.2.2.2⟩)
    clear HL
    have HL:=HL2
    clear HL2
    by_cases hi:i<ts.length
    ·clear c3
     have hi':((i:Nat):Int)<(ts.length:Int):=by omega
     clear hi
     go_wp2_with fail
     refine (name_any q wr i false lost HL.out.2.1).mono ?_
     rintro r W6 ⟨t6,rfl,ht6,k6,i6,bad6,lost6,hi6,hb6,hs6,h6⟩
     obtain ⟨nv,hnv⟩:∃ nv,nv=Value.slice an ns.length cn:=⟨_,rfl⟩
     obtain ⟨bv,hbv⟩:∃ bv,bv=Value.slice ab vs.length cb:=⟨_,rfl⟩
     rw [← hnv,← hbv] at HL
     clear hnv hbv
     have HM:=(show Hid (PM q W4 g W6 nv bv ns vs∧ParAt q W6 i6 bad6 lost6∧i≤i6∧(i<i6∨bad6=true)) from ⟨HL.out.1.on HX.out k6,h6,hi6,hs6⟩)
     have HT:=(show Hid (t6.size≤1048576) from ht6)
     clear k6 hi6 hb6 hs6 h6 ht6 c1 c2 y0 y1
     cases bad6 with
     | true =>
      obtain ⟨-,-,d2,-,-,df⟩:=HM.out.2.1.cells
      have df2:=df 2
      obtain ⟨y0,-,-⟩:=HM.out.1.cells
      clear df
      go_wp2_with fail
      refine (take_any q W6 i6 true lost6 _ HM.out.2.1).mono ?_
      rintro r W9 ⟨rfl,k9,i9,bad9,lost9,hi9,hb9,h9⟩
      clear d2 df2 y0
      have HM9:=(show Hid (PM q W4 g W9 nv bv ns vs∧ParAt q W9 i9 bad9 lost9∧i≤i9∧(i<i9∨bad9=true)) from ⟨HM.out.1.on HX.out k9,h9,Nat.le_trans HM.out.2.2.1 hi9,st_on (by first | exact HM.out.2.2.2 | exact .inr rfl) hi9 hb9⟩)
      clear k9 hi9 hb9 h9 HM
      go_upto_region 11 with fail
      rename_i KA hKA
      refine wp_region_list ?_
      refine wpl_run rfl (.pointer (some ⟨q.P,0,none⟩)) W9 (ex_move _ _ _ _ rfl (by rfl) _) ?_
      simp only [Act.put,List.setIfInBounds_toArray,List.set_cons_zero,List.set_cons_succ]
      obtain ⟨W10,e10⟩:∃ W',W'=W9.alloc (.cells #[] 9):=⟨_,rfl⟩
      have b10:Below W9.heap.size W9 W10:=by rw [e10]; exact (Below.refl _ _).alloc (Nat.le_refl _) _
      have z10:W10.heap.size=W9.heap.size+1:=by rw [e10]; simp
      refine wpl_run rfl (.slice (some ⟨W9.heap.size,0,none⟩) 0 0) W10 (by rw [e10]; exact ex_strs0 _ _ rfl _) ?_
      simp only [Act.put,List.setIfInBounds_toArray,List.set_cons_zero,List.set_cons_succ]
      have sc10:PsAt W10 q.P (.slice (some ⟨W9.heap.size,0,none⟩) 0 0) []:=⟨W9.heap.size,0,0,rfl,(by have:=HM9.out.2.1.lt; omega),by omega,fun i t ht=>by simp at ht⟩
      have hn9:=HX.out.n
      refine wpl_call2 rfl 41 (.tmp 63) (.tmp 64) _ rfl ent_exp (.pointer (some ⟨q.P,0,none⟩)) (.slice (some ⟨W9.heap.size,0,none⟩) 0 0) (by rfl) (by rfl) (fun r w'=>EV (fun b=>W10.heap.size≤b) w' r∧AftS q W10 w' i9 bad9) ((exp_any q (q.n - i9+1) i9 bad9 lost9 _ [] W10 (HM9.out.2.1.below b10) (by omega) sc10 (by simp only [List.length_nil]; omega)).mono (fun e w' ⟨v,he,hh⟩=>⟨v,he,hh⟩)) ?_
      rintro v11 W11 ⟨e11,k11,i11,bad11,lost11,hi11,hb11,hs11,h11⟩
      simp only [Act.put,List.setIfInBounds_toArray,List.set_cons_zero,List.set_cons_succ]
      have hz11:=k11.size
      refine wpl_box 9 (.tmp 65) rfl rfl rfl rfl rfl rfl e11 (by rfl) (by rfl) ?_
      intro W12 y12 b12 x12
      simp only [Act.put,List.setIfInBounds_toArray,List.set_cons_zero,List.set_cons_succ]
      refine wpList_nil ?_
      refine hKA _ _ ?_
      clear hKA KA
      have k12:KB (· = q.P) W9 W12:=((KB.of_below b10).trans k11).trans (KB.of_below b12)
      have HM12:=(show Hid (PM q W4 g W12 nv bv ns vs∧ParAt q W12 i11 bad11 lost11∧i≤i11∧(i<i11∨bad11=true)) from ⟨HM9.out.1.on HX.out k12,h11.below b12,Nat.le_trans HM9.out.2.2.1 hi11,st_on HM9.out.2.2.2 hi11 hb11⟩)
      have HE12:=(show Hid (EV (fun b=>g+1≤b∧bv.ownBlock≠some b∧nv.ownBlock≠some b) W12 v11∧W12.heap[W11.heap.size]? = some (.cells (cellsV v11) 52)∧g+1≤W11.heap.size∧q.P<W11.heap.size) from ⟨(e11.below b12).wide (fun b hb _=>by have hb':W10.heap.size≤b:=hb; have:=HM9.out.1.hB; exact ⟨by omega,fun e=>by have:=own_lt HM9.out.1.pg.bodies b e; omega,fun e=>by have:=own_lt HM9.out.1.pg.names b e; omega⟩),x12,by have:=HM9.out.1.hB; omega,by have:=HM9.out.2.1.lt; omega⟩)
      clear k12 e11 hz11 h11 hs11 hb11 hi11 k11 b12 y12 x12 sc10 hn9 z10 b10 e10 HM9
      generalize W11.heap.size=g9 at HE12 ⊢
      go_wp2_with fail
      refine (take_any q W12 i11 bad11 lost11 _ HM12.out.2.1).mono ?_
      rintro r W13 ⟨rfl,k13,i13,bad13,lost13,hi13,hb13,h13⟩
      have HM13:=(show Hid (PM q W4 g W13 nv bv ns vs∧ParAt q W13 i13 bad13 lost13∧i≤i13∧(i<i13∨bad13=true)) from ⟨HM12.out.1.on HX.out k13,h13,Nat.le_trans HM12.out.2.2.1 hi13,st_on HM12.out.2.2.2 hi13 hb13⟩)
      have HE13:=(show Hid (EV (fun b=>g+1≤b∧bv.ownBlock≠some b∧nv.ownBlock≠some b) W13 v11∧W13.heap[g9]? = some (.cells (cellsV v11) 52)∧g+1≤g9) from ⟨HE12.out.1.kb k13 (fun hx=>by have hx':=hx.1; have:=HX.out.pg; omega),k13.heap HE12.out.2.1 (by show ¬ _=_; have:=HE12.out.2.2.2; omega),HE12.out.2.2.1⟩)
      clear k13 hi13 hb13 h13 HM12 HE12
      go_upto_region 13 with fail
      rename_i KA hKA
      obtain ⟨i0,hi0,hz0,hz1,hz2⟩:=info_parts infoStrP
      obtain ⟨y0,-,-⟩:=HM13.out.1.cells
      have X:=HX.out
      refine wp_region_list ?_
      refine wpl_run rfl (.pointer (some ⟨g,0,none⟩)) W13 (by simp [execOp,Act.eval,go_sem]) ?_
      simp only [Act.put,List.setIfInBounds_toArray,List.set_cons_zero,List.set_cons_succ]
      refine wpl_run rfl nv W13 (by simp [execOp,Act.eval,go_sem,y0]) ?_
      simp only [Act.put,List.setIfInBounds_toArray,List.set_cons_zero,List.set_cons_succ]
      refine wpl_run rfl (.string t6) W13 (ex_move _ _ _ _ rfl (by rfl) _) ?_
      simp only [Act.put,List.setIfInBounds_toArray,List.set_cons_zero,List.set_cons_succ]
      obtain ⟨W14,e14⟩:∃ W',W'=W13.alloc (.cells #[.string t6] 9):=⟨_,rfl⟩
      have b14:Below W13.heap.size W13 W14:=by rw [e14]; exact (Below.refl _ _).alloc (Nat.le_refl _) _
      have x14:W14.heap[W13.heap.size]? = some (.cells #[.string t6] 9):=by rw [e14]; exact block_new _ _
      refine wpl_run rfl (.slice (some ⟨W13.heap.size,0,none⟩) 1 1) W14 (by rw [e14]; exact ex_strs1 _ _ (.tmp 70) t6 rfl (by rfl) _) ?_
      simp only [Act.put,List.setIfInBounds_toArray,List.set_cons_zero,List.set_cons_succ]
      clear e14
      have M14:=HM13.out.1.on X (KB.of_below b14)
      have hln:ns.length≤2000:=by have:=HL.out.2.2.1; have:=HL.out.2.1.2.1; have:=X.n; omega
      refine wpList_append_own_at _ rfl (.tmp 69) (.tmp 71) 24 rfl (g+1) 9 i0 _ 1 16 Tryz.underlying24 hi0 hz0 hz1 hz2 rfl (by decide) nv ns.length _ (by rfl) M14.pg.names ⟨W13.heap.size,0,none⟩ 1 1 [.string t6] (by rfl) rfl (fun j u hu=>by
  match j,hu with
  | 0,hu=>simp at hu; subst hu; rw [addr_add,cell_of_block x14]; rfl
  | j+1,hu=>simp at hu) (fun u hu=>by simp at hu; subst hu; rfl) (by unfold maxLen; omega) (by omega) M14.hB ?_
      intro nv2 W15 own15 gr15 nil15 hat15
      simp only [Act.put,List.setIfInBounds_toArray,List.set_cons_zero,List.set_cons_succ]
      obtain ⟨M16,p16,ev16,bx16⟩:=HM13.out.1.name X b14 gr15 own15 HT.out hat15 HM13.out.2.1
      have x15:W15.heap[g]? = some (.cells #[nv,bv] 27):=(gr15.block g (by have:=M14.hB; omega) (fun e=>by have:=(M14.pg.names.lt g e.symm).1; omega)).trans M14.out
      have xf15:=ubk x15 0
      have xc15:=cbk x15 0 nv rfl
      refine wpl_run rfl (.pointer (some ⟨g,0,none⟩)) W15 (by simp [execOp,Act.eval,go_sem]) ?_
      simp only [Act.put,List.setIfInBounds_toArray,List.set_cons_zero,List.set_cons_succ]
      obtain ⟨a2,c2,hv2⟩:=own_form own15
      refine wpl_skip rfl (W15.setCell ⟨g,0,none⟩ nv2) (by subst hv2; simp [execOp,Act.eval,go_sem,xf15,xc15]) ?_
      simp only [Act.put]
      refine wpList_nil ?_
      refine hKA _ _ ?_
      clear hKA KA
      have HM16:=(show Hid (PM q W4 g (W15.setCell ⟨g,0,none⟩ nv2) nv2 bv (ns ++ [t6]) vs∧ParAt q (W15.setCell ⟨g,0,none⟩ nv2) i13 bad13 lost13∧i≤i13∧(i<i13∨bad13=true)) from ⟨M16,p16,HM13.out.2.2.1,HM13.out.2.2.2⟩)
      have HE16:=(show Hid (EV (fun b=>g+1≤b∧bv.ownBlock≠some b∧nv2.ownBlock≠some b) (W15.setCell ⟨g,0,none⟩ nv2) v11∧(W15.setCell ⟨g,0,none⟩ nv2).heap[g9]? = some (.cells (cellsV v11) 52)) from ⟨ev16 v11 HE13.out.1,bx16 g9 _ HE13.out.2.2 HE13.out.2.1⟩)
      clear M16 p16 ev16 bx16 x15 xf15 xc15 hv2 nil15 hat15 own15 gr15 M14 hln x14 b14 y0 hi0 hz0 hz1 hz2 HM13 HE13 X
      generalize W15.setCell ⟨g,0,none⟩ nv2=W16 at HM16 HE16 ⊢
      go_upto_region 14 with fail
      obtain ⟨i0,hi0,hz0,hz1,hz2⟩:=info_parts infoE
      obtain ⟨-,y1,-⟩:=HM16.out.1.cells
      have X:=HX.out
      have ev:=HE16.out.1
      refine wp_region_list ?_
      refine wpl_run rfl (.pointer (some ⟨g,1,none⟩)) W16 (by simp [execOp,Act.eval,go_sem]) ?_
      simp only [Act.put,List.setIfInBounds_toArray,List.set_cons_zero,List.set_cons_succ]
      refine wpl_run rfl bv W16 (by simp [execOp,Act.eval,go_sem,y1]) ?_
      simp only [Act.put,List.setIfInBounds_toArray,List.set_cons_zero,List.set_cons_succ]
      refine wpl_run rfl (.agg (cellsV v11)) W16 (ex_loadE _ _ (.tmp 9) g9 _ _ rfl (by rfl) W16 HE16.out.2 ev.agg.2.1) ?_
      simp only [Act.put,List.setIfInBounds_toArray,List.set_cons_zero,List.set_cons_succ]
      obtain ⟨W17,e17⟩:∃ W',W'=W16.alloc (.cells ⟨[v11].flatMap cellsE⟩ 52):=⟨_,rfl⟩
      have b17:Below W16.heap.size W16 W17:=by rw [e17]; exact (Below.refl _ _).alloc (Nat.le_refl _) _
      have x17:W17.heap[W16.heap.size]? = some (.cells ⟨[v11].flatMap cellsE⟩ 52):=by rw [e17]; exact block_new _ _
      refine wpl_run rfl (.slice (some ⟨W16.heap.size,0,none⟩) 1 1) W17 (by rw [e17]; exact ex_rowE1 _ _ (.tmp 76) rfl ev (ev.aggR (by rfl)) _) ?_
      simp only [Act.put,List.setIfInBounds_toArray,List.set_cons_zero,List.set_cons_succ]
      clear e17
      have M17:=HM16.out.1.on X (KB.of_below b17)
      have hln:vs.length≤2000:=by have:=HL.out.2.2.1; have:=HL.out.2.2.2; have:=HL.out.2.1.2.1; have:=X.n; omega
      have hfl:(cellsE v11).length=4:=by have:=ev.agg.2.1; simpa [cellsE] using this
      refine wpList_append_own_at _ rfl (.tmp 75) (.tmp 77) 25 rfl (g+1) 52 i0 _ 4 56 Tryz.underlying25 hi0 hz0 hz1 hz2 rfl (by decide) bv vs.length _ (by rfl) M17.pg.bodies ⟨W16.heap.size,0,none⟩ 1 1 (cellsE v11) (by rfl) hfl (fun j u hu=>by
  rw [addr_add,cell_of_block x17,Nat.zero_add]
  simpa using hu) (fun u hu=>by have:=ev.agg.2.2.1; rw [Array.all_eq_true_iff_forall_mem] at this; exact this u (by simpa [cellsE] using hu)) (by unfold maxLen; omega) (by omega) M17.hB ?_
      intro bv2 W18 own18 gr18 nil18 hat18
      simp only [Act.put,List.setIfInBounds_toArray,List.set_cons_zero,List.set_cons_succ]
      obtain ⟨M19,p19⟩:=HM16.out.1.body X b17 gr18 own18 ev hat18 HM16.out.2.1
      have x18:W18.heap[g]? = some (.cells #[nv2,bv] 27):=(gr18.block g (by have:=M17.hB; omega) (fun e=>by have:=(M17.pg.bodies.lt g e.symm).1; omega)).trans M17.out
      have xf18:=ubk x18 1
      have xc18:=cbk x18 1 bv rfl
      refine wpl_run rfl (.pointer (some ⟨g,1,none⟩)) W18 (by simp [execOp,Act.eval,go_sem]) ?_
      simp only [Act.put,List.setIfInBounds_toArray,List.set_cons_zero,List.set_cons_succ]
      obtain ⟨a3,c3,hv3⟩:=own_form own18
      refine wpl_skip rfl (W18.setCell ⟨g,1,none⟩ bv2) (by subst hv3; simp [execOp,Act.eval,go_sem,xf18,xc18]) ?_
      simp only [Act.put]
      refine wpList_nil ?_
      have HN:=(show Hid (PM q W4 g (W18.setCell ⟨g,1,none⟩ bv2) nv2 bv2 (ns ++ [t6]) (vs ++ [v11])∧ParAt q (W18.setCell ⟨g,1,none⟩ bv2) i13 bad13 lost13∧(ns ++ [t6]).length≤i13+(if bad13 then 1 else 0)∧(vs ++ [v11]).length=(ns ++ [t6]).length) from ⟨M19,p19,by have h1:=HM16.out.2.2.2; have h2:=HL.out.2.2.1; have h3:=HM16.out.2.2.1; rw [List.length_append]; cases bad13 <;> simp at h1 ⊢ <;> omega,by rw [List.length_append,List.length_append,HL.out.2.2.2]; rfl⟩)
      have HMS:=(show Hid (leftP q (W18.setCell ⟨g,1,none⟩ bv2)<leftP q wr) from leftP_on HL.out.2.1 p19 HM16.out.2.2.2)
      generalize W18.setCell ⟨g,1,none⟩ bv2=W19 at HN HMS
      clear M19 p19 x18 xf18 xc18 hv3 nil18 hat18 own18 gr18 M17 hln hfl x17 b17 y1 hi0 hz0 hz1 hz2 HM16 HE16 ev X
      go_roundw
      case rel=>repeat (first | exact ⟨⟨_,_,_,_,_,_,_,HN⟩,rfl⟩ | apply Exists.intro)
      case measure=>exact HMS.out
     | false =>
      obtain ⟨-,-,d2,-,-,df⟩:=HM.out.2.1.cells
      have df2:=df 2
      obtain ⟨y0,-,-⟩:=HM.out.1.cells
      clear df
      go_wp2_with fail
      refine (has_own t6 W6 HM.out.1.pg.names (by have:=HL.out.2.2.1; have:=HL.out.2.1.2.1; have:=HX.out.n; unfold maxLen; omega)).mono ?_
      rintro r w7 ⟨c,rfl,rfl⟩
      cases c with
      | false =>
       go_wp2_with fail
       refine (take_any q w7 i6 false lost6 _ HM.out.2.1).mono ?_
       rintro r W9 ⟨rfl,k9,i9,bad9,lost9,hi9,hb9,h9⟩
       clear d2 df2 y0
       have HM9:=(show Hid (PM q W4 g W9 nv bv ns vs∧ParAt q W9 i9 bad9 lost9∧i≤i9∧(i<i9∨bad9=true)) from ⟨HM.out.1.on HX.out k9,h9,Nat.le_trans HM.out.2.2.1 hi9,st_on (by first | exact HM.out.2.2.2 | exact .inr rfl) hi9 hb9⟩)
       clear k9 hi9 hb9 h9 HM
       go_upto_region 11 with fail
       rename_i KA hKA
       refine wp_region_list ?_
       refine wpl_run rfl (.pointer (some ⟨q.P,0,none⟩)) W9 (ex_move _ _ _ _ rfl (by rfl) _) ?_
       simp only [Act.put,List.setIfInBounds_toArray,List.set_cons_zero,List.set_cons_succ]
       obtain ⟨W10,e10⟩:∃ W',W'=W9.alloc (.cells #[] 9):=⟨_,rfl⟩
       have b10:Below W9.heap.size W9 W10:=by rw [e10]; exact (Below.refl _ _).alloc (Nat.le_refl _) _
       have z10:W10.heap.size=W9.heap.size+1:=by rw [e10]; simp
       refine wpl_run rfl (.slice (some ⟨W9.heap.size,0,none⟩) 0 0) W10 (by rw [e10]; exact ex_strs0 _ _ rfl _) ?_
       simp only [Act.put,List.setIfInBounds_toArray,List.set_cons_zero,List.set_cons_succ]
       have sc10:PsAt W10 q.P (.slice (some ⟨W9.heap.size,0,none⟩) 0 0) []:=⟨W9.heap.size,0,0,rfl,(by have:=HM9.out.2.1.lt; omega),by omega,fun i t ht=>by simp at ht⟩
       have hn9:=HX.out.n
       refine wpl_call2 rfl 41 (.tmp 63) (.tmp 64) _ rfl ent_exp (.pointer (some ⟨q.P,0,none⟩)) (.slice (some ⟨W9.heap.size,0,none⟩) 0 0) (by rfl) (by rfl) (fun r w'=>EV (fun b=>W10.heap.size≤b) w' r∧AftS q W10 w' i9 bad9) ((exp_any q (q.n - i9+1) i9 bad9 lost9 _ [] W10 (HM9.out.2.1.below b10) (by omega) sc10 (by simp only [List.length_nil]; omega)).mono (fun e w' ⟨v,he,hh⟩=>⟨v,he,hh⟩)) ?_
       rintro v11 W11 ⟨e11,k11,i11,bad11,lost11,hi11,hb11,hs11,h11⟩
       simp only [Act.put,List.setIfInBounds_toArray,List.set_cons_zero,List.set_cons_succ]
       have hz11:=k11.size
       refine wpl_box 9 (.tmp 65) rfl rfl rfl rfl rfl rfl e11 (by rfl) (by rfl) ?_
       intro W12 y12 b12 x12
       simp only [Act.put,List.setIfInBounds_toArray,List.set_cons_zero,List.set_cons_succ]
       refine wpList_nil ?_
       refine hKA _ _ ?_
       clear hKA KA
       have k12:KB (· = q.P) W9 W12:=((KB.of_below b10).trans k11).trans (KB.of_below b12)
       have HM12:=(show Hid (PM q W4 g W12 nv bv ns vs∧ParAt q W12 i11 bad11 lost11∧i≤i11∧(i<i11∨bad11=true)) from ⟨HM9.out.1.on HX.out k12,h11.below b12,Nat.le_trans HM9.out.2.2.1 hi11,st_on HM9.out.2.2.2 hi11 hb11⟩)
       have HE12:=(show Hid (EV (fun b=>g+1≤b∧bv.ownBlock≠some b∧nv.ownBlock≠some b) W12 v11∧W12.heap[W11.heap.size]? = some (.cells (cellsV v11) 52)∧g+1≤W11.heap.size∧q.P<W11.heap.size) from ⟨(e11.below b12).wide (fun b hb _=>by have hb':W10.heap.size≤b:=hb; have:=HM9.out.1.hB; exact ⟨by omega,fun e=>by have:=own_lt HM9.out.1.pg.bodies b e; omega,fun e=>by have:=own_lt HM9.out.1.pg.names b e; omega⟩),x12,by have:=HM9.out.1.hB; omega,by have:=HM9.out.2.1.lt; omega⟩)
       clear k12 e11 hz11 h11 hs11 hb11 hi11 k11 b12 y12 x12 sc10 hn9 z10 b10 e10 HM9
       generalize W11.heap.size=g9 at HE12 ⊢
       go_wp2_with fail
       refine (take_any q W12 i11 bad11 lost11 _ HM12.out.2.1).mono ?_
       rintro r W13 ⟨rfl,k13,i13,bad13,lost13,hi13,hb13,h13⟩
       have HM13:=(show Hid (PM q W4 g W13 nv bv ns vs∧ParAt q W13 i13 bad13 lost13∧i≤i13∧(i<i13∨bad13=true)) from ⟨HM12.out.1.on HX.out k13,h13,Nat.le_trans HM12.out.2.2.1 hi13,st_on HM12.out.2.2.2 hi13 hb13⟩)
       have HE13:=(show Hid (EV (fun b=>g+1≤b∧bv.ownBlock≠some b∧nv.ownBlock≠some b) W13 v11∧W13.heap[g9]? = some (.cells (cellsV v11) 52)∧g+1≤g9) from ⟨HE12.out.1.kb k13 (fun hx=>by have hx':=hx.1; have:=HX.out.pg; omega),k13.heap HE12.out.2.1 (by show ¬ _=_; have:=HE12.out.2.2.2; omega),HE12.out.2.2.1⟩)
       clear k13 hi13 hb13 h13 HM12 HE12
       go_upto_region 13 with fail
       rename_i KA hKA
       obtain ⟨i0,hi0,hz0,hz1,hz2⟩:=info_parts infoStrP
       obtain ⟨y0,-,-⟩:=HM13.out.1.cells
       have X:=HX.out
       refine wp_region_list ?_
       refine wpl_run rfl (.pointer (some ⟨g,0,none⟩)) W13 (by simp [execOp,Act.eval,go_sem]) ?_
       simp only [Act.put,List.setIfInBounds_toArray,List.set_cons_zero,List.set_cons_succ]
       refine wpl_run rfl nv W13 (by simp [execOp,Act.eval,go_sem,y0]) ?_
       simp only [Act.put,List.setIfInBounds_toArray,List.set_cons_zero,List.set_cons_succ]
       refine wpl_run rfl (.string t6) W13 (ex_move _ _ _ _ rfl (by rfl) _) ?_
       simp only [Act.put,List.setIfInBounds_toArray,List.set_cons_zero,List.set_cons_succ]
       obtain ⟨W14,e14⟩:∃ W',W'=W13.alloc (.cells #[.string t6] 9):=⟨_,rfl⟩
       have b14:Below W13.heap.size W13 W14:=by rw [e14]; exact (Below.refl _ _).alloc (Nat.le_refl _) _
       have x14:W14.heap[W13.heap.size]? = some (.cells #[.string t6] 9):=by rw [e14]; exact block_new _ _
       refine wpl_run rfl (.slice (some ⟨W13.heap.size,0,none⟩) 1 1) W14 (by rw [e14]; exact ex_strs1 _ _ (.tmp 70) t6 rfl (by rfl) _) ?_
       simp only [Act.put,List.setIfInBounds_toArray,List.set_cons_zero,List.set_cons_succ]
       clear e14
       have M14:=HM13.out.1.on X (KB.of_below b14)
       have hln:ns.length≤2000:=by have:=HL.out.2.2.1; have:=HL.out.2.1.2.1; have:=X.n; omega
       refine wpList_append_own_at _ rfl (.tmp 69) (.tmp 71) 24 rfl (g+1) 9 i0 _ 1 16 Tryz.underlying24 hi0 hz0 hz1 hz2 rfl (by decide) nv ns.length _ (by rfl) M14.pg.names ⟨W13.heap.size,0,none⟩ 1 1 [.string t6] (by rfl) rfl (fun j u hu=>by
  match j,hu with
  | 0,hu=>simp at hu; subst hu; rw [addr_add,cell_of_block x14]; rfl
  | j+1,hu=>simp at hu) (fun u hu=>by simp at hu; subst hu; rfl) (by unfold maxLen; omega) (by omega) M14.hB ?_
       intro nv2 W15 own15 gr15 nil15 hat15
       simp only [Act.put,List.setIfInBounds_toArray,List.set_cons_zero,List.set_cons_succ]
       obtain ⟨M16,p16,ev16,bx16⟩:=HM13.out.1.name X b14 gr15 own15 HT.out hat15 HM13.out.2.1
       have x15:W15.heap[g]? = some (.cells #[nv,bv] 27):=(gr15.block g (by have:=M14.hB; omega) (fun e=>by have:=(M14.pg.names.lt g e.symm).1; omega)).trans M14.out
       have xf15:=ubk x15 0
       have xc15:=cbk x15 0 nv rfl
       refine wpl_run rfl (.pointer (some ⟨g,0,none⟩)) W15 (by simp [execOp,Act.eval,go_sem]) ?_
       simp only [Act.put,List.setIfInBounds_toArray,List.set_cons_zero,List.set_cons_succ]
       obtain ⟨a2,c2,hv2⟩:=own_form own15
       refine wpl_skip rfl (W15.setCell ⟨g,0,none⟩ nv2) (by subst hv2; simp [execOp,Act.eval,go_sem,xf15,xc15]) ?_
       simp only [Act.put]
       refine wpList_nil ?_
       refine hKA _ _ ?_
       clear hKA KA
       have HM16:=(show Hid (PM q W4 g (W15.setCell ⟨g,0,none⟩ nv2) nv2 bv (ns ++ [t6]) vs∧ParAt q (W15.setCell ⟨g,0,none⟩ nv2) i13 bad13 lost13∧i≤i13∧(i<i13∨bad13=true)) from ⟨M16,p16,HM13.out.2.2.1,HM13.out.2.2.2⟩)
       have HE16:=(show Hid (EV (fun b=>g+1≤b∧bv.ownBlock≠some b∧nv2.ownBlock≠some b) (W15.setCell ⟨g,0,none⟩ nv2) v11∧(W15.setCell ⟨g,0,none⟩ nv2).heap[g9]? = some (.cells (cellsV v11) 52)) from ⟨ev16 v11 HE13.out.1,bx16 g9 _ HE13.out.2.2 HE13.out.2.1⟩)
       clear M16 p16 ev16 bx16 x15 xf15 xc15 hv2 nil15 hat15 own15 gr15 M14 hln x14 b14 y0 hi0 hz0 hz1 hz2 HM13 HE13 X
       generalize W15.setCell ⟨g,0,none⟩ nv2=W16 at HM16 HE16 ⊢
       go_upto_region 14 with fail
       obtain ⟨i0,hi0,hz0,hz1,hz2⟩:=info_parts infoE
       obtain ⟨-,y1,-⟩:=HM16.out.1.cells
       have X:=HX.out
       have ev:=HE16.out.1
       refine wp_region_list ?_
       refine wpl_run rfl (.pointer (some ⟨g,1,none⟩)) W16 (by simp [execOp,Act.eval,go_sem]) ?_
       simp only [Act.put,List.setIfInBounds_toArray,List.set_cons_zero,List.set_cons_succ]
       refine wpl_run rfl bv W16 (by simp [execOp,Act.eval,go_sem,y1]) ?_
       simp only [Act.put,List.setIfInBounds_toArray,List.set_cons_zero,List.set_cons_succ]
       refine wpl_run rfl (.agg (cellsV v11)) W16 (ex_loadE _ _ (.tmp 9) g9 _ _ rfl (by rfl) W16 HE16.out.2 ev.agg.2.1) ?_
       simp only [Act.put,List.setIfInBounds_toArray,List.set_cons_zero,List.set_cons_succ]
       obtain ⟨W17,e17⟩:∃ W',W'=W16.alloc (.cells ⟨[v11].flatMap cellsE⟩ 52):=⟨_,rfl⟩
       have b17:Below W16.heap.size W16 W17:=by rw [e17]; exact (Below.refl _ _).alloc (Nat.le_refl _) _
       have x17:W17.heap[W16.heap.size]? = some (.cells ⟨[v11].flatMap cellsE⟩ 52):=by rw [e17]; exact block_new _ _
       refine wpl_run rfl (.slice (some ⟨W16.heap.size,0,none⟩) 1 1) W17 (by rw [e17]; exact ex_rowE1 _ _ (.tmp 76) rfl ev (ev.aggR (by rfl)) _) ?_
       simp only [Act.put,List.setIfInBounds_toArray,List.set_cons_zero,List.set_cons_succ]
       clear e17
       have M17:=HM16.out.1.on X (KB.of_below b17)
       have hln:vs.length≤2000:=by have:=HL.out.2.2.1; have:=HL.out.2.2.2; have:=HL.out.2.1.2.1; have:=X.n; omega
       have hfl:(cellsE v11).length=4:=by have:=ev.agg.2.1; simpa [cellsE] using this
       refine wpList_append_own_at _ rfl (.tmp 75) (.tmp 77) 25 rfl (g+1) 52 i0 _ 4 56 Tryz.underlying25 hi0 hz0 hz1 hz2 rfl (by decide) bv vs.length _ (by rfl) M17.pg.bodies ⟨W16.heap.size,0,none⟩ 1 1 (cellsE v11) (by rfl) hfl (fun j u hu=>by
  rw [addr_add,cell_of_block x17,Nat.zero_add]
  simpa using hu) (fun u hu=>by have:=ev.agg.2.2.1; rw [Array.all_eq_true_iff_forall_mem] at this; exact this u (by simpa [cellsE] using hu)) (by unfold maxLen; omega) (by omega) M17.hB ?_
       intro bv2 W18 own18 gr18 nil18 hat18
       simp only [Act.put,List.setIfInBounds_toArray,List.set_cons_zero,List.set_cons_succ]
       obtain ⟨M19,p19⟩:=HM16.out.1.body X b17 gr18 own18 ev hat18 HM16.out.2.1
       have x18:W18.heap[g]? = some (.cells #[nv2,bv] 27):=(gr18.block g (by have:=M17.hB; omega) (fun e=>by have:=(M17.pg.bodies.lt g e.symm).1; omega)).trans M17.out
       have xf18:=ubk x18 1
       have xc18:=cbk x18 1 bv rfl
       refine wpl_run rfl (.pointer (some ⟨g,1,none⟩)) W18 (by simp [execOp,Act.eval,go_sem]) ?_
       simp only [Act.put,List.setIfInBounds_toArray,List.set_cons_zero,List.set_cons_succ]
       obtain ⟨a3,c3,hv3⟩:=own_form own18
       refine wpl_skip rfl (W18.setCell ⟨g,1,none⟩ bv2) (by subst hv3; simp [execOp,Act.eval,go_sem,xf18,xc18]) ?_
       simp only [Act.put]
       refine wpList_nil ?_
       have HN:=(show Hid (PM q W4 g (W18.setCell ⟨g,1,none⟩ bv2) nv2 bv2 (ns ++ [t6]) (vs ++ [v11])∧ParAt q (W18.setCell ⟨g,1,none⟩ bv2) i13 bad13 lost13∧(ns ++ [t6]).length≤i13+(if bad13 then 1 else 0)∧(vs ++ [v11]).length=(ns ++ [t6]).length) from ⟨M19,p19,by have h1:=HM16.out.2.2.2; have h2:=HL.out.2.2.1; have h3:=HM16.out.2.2.1; rw [List.length_append]; cases bad13 <;> simp at h1 ⊢ <;> omega,by rw [List.length_append,List.length_append,HL.out.2.2.2]; rfl⟩)
       have HMS:=(show Hid (leftP q (W18.setCell ⟨g,1,none⟩ bv2)<leftP q wr) from leftP_on HL.out.2.1 p19 HM16.out.2.2.2)
       generalize W18.setCell ⟨g,1,none⟩ bv2=W19 at HN HMS
       clear M19 p19 x18 xf18 xc18 hv3 nil18 hat18 own18 gr18 M17 hln hfl x17 b17 y1 hi0 hz0 hz1 hz2 HM16 HE16 ev X
       go_roundw
       case rel=>repeat (first | exact ⟨⟨_,_,_,_,_,_,_,HN⟩,rfl⟩ | apply Exists.intro)
       case measure=>exact HMS.out
      | true =>
       have k8:KB (· = q.P) w7 (w7.setCell ⟨q.P,2,none⟩ (.bool true)):=kb_cell _ _ _ _
       have h8:ParAt q (w7.setCell ⟨q.P,2,none⟩ (.bool true)) i6 true lost6:=HM.out.2.1.on k8 (block_setCell (i:=2) HM.out.2.1.1 _) HM.out.2.1.2.1
       have HM8:=(show Hid (PM q W4 g (w7.setCell ⟨q.P,2,none⟩ (.bool true)) nv bv ns vs∧ParAt q (w7.setCell ⟨q.P,2,none⟩ (.bool true)) i6 true lost6∧i≤i6∧(i<i6∨true=true)) from ⟨HM.out.1.on HX.out k8,h8,HM.out.2.2.1,.inr rfl⟩)
       clear k8 h8
       go_upto_region 10 with fail
       generalize w7.setCell ⟨q.P,2,none⟩ (.bool true)=w8 at HM8 ⊢
       clear HM
       have HM:=HM8
       clear HM8
       clear d2 df2 y0
       rename_i KA hKA
       refine wp_region_list ?_
       refine wpl_run rfl (.pointer (some ⟨q.P,0,none⟩)) w8 (ex_move _ _ _ _ rfl (by rfl) _) ?_
       simp only [Act.put,List.setIfInBounds_toArray,List.set_cons_zero,List.set_cons_succ]
       refine wpl_call2 rfl 40 (.tmp 61) _ _ rfl ent_take (.pointer (some ⟨q.P,0,none⟩)) (.string ⟨#[61]⟩) (by rfl) rfl (fun r w'=>PAft q w8 w' i6 true) ((take_any q w8 i6 true lost6 _ HM.out.2.1).mono (fun e w' ⟨he,hh⟩=>⟨_,he,hh⟩)) ?_
       rintro r W9 ⟨k9,i9,bad9,lost9,hi9,hb9,h9⟩
       simp only [Act.put,List.setIfInBounds_toArray,List.set_cons_zero,List.set_cons_succ]
       refine wpList_nil ?_
       refine hKA _ _ ?_
       clear hKA KA
       have HM9:=(show Hid (PM q W4 g W9 nv bv ns vs∧ParAt q W9 i9 bad9 lost9∧i≤i9∧(i<i9∨bad9=true)) from ⟨HM.out.1.on HX.out k9,h9,Nat.le_trans HM.out.2.2.1 hi9,st_on (by first | exact HM.out.2.2.2 | exact .inr rfl) hi9 hb9⟩)
       clear k9 hi9 hb9 h9 HM
       go_upto_region 11 with fail
       rename_i KA hKA
       refine wp_region_list ?_
       refine wpl_run rfl (.pointer (some ⟨q.P,0,none⟩)) W9 (ex_move _ _ _ _ rfl (by rfl) _) ?_
       simp only [Act.put,List.setIfInBounds_toArray,List.set_cons_zero,List.set_cons_succ]
       obtain ⟨W10,e10⟩:∃ W',W'=W9.alloc (.cells #[] 9):=⟨_,rfl⟩
       have b10:Below W9.heap.size W9 W10:=by rw [e10]; exact (Below.refl _ _).alloc (Nat.le_refl _) _
       have z10:W10.heap.size=W9.heap.size+1:=by rw [e10]; simp
       refine wpl_run rfl (.slice (some ⟨W9.heap.size,0,none⟩) 0 0) W10 (by rw [e10]; exact ex_strs0 _ _ rfl _) ?_
       simp only [Act.put,List.setIfInBounds_toArray,List.set_cons_zero,List.set_cons_succ]
       have sc10:PsAt W10 q.P (.slice (some ⟨W9.heap.size,0,none⟩) 0 0) []:=⟨W9.heap.size,0,0,rfl,(by have:=HM9.out.2.1.lt; omega),by omega,fun i t ht=>by simp at ht⟩
       have hn9:=HX.out.n
       refine wpl_call2 rfl 41 (.tmp 63) (.tmp 64) _ rfl ent_exp (.pointer (some ⟨q.P,0,none⟩)) (.slice (some ⟨W9.heap.size,0,none⟩) 0 0) (by rfl) (by rfl) (fun r w'=>EV (fun b=>W10.heap.size≤b) w' r∧AftS q W10 w' i9 bad9) ((exp_any q (q.n - i9+1) i9 bad9 lost9 _ [] W10 (HM9.out.2.1.below b10) (by omega) sc10 (by simp only [List.length_nil]; omega)).mono (fun e w' ⟨v,he,hh⟩=>⟨v,he,hh⟩)) ?_
       rintro v11 W11 ⟨e11,k11,i11,bad11,lost11,hi11,hb11,hs11,h11⟩
       simp only [Act.put,List.setIfInBounds_toArray,List.set_cons_zero,List.set_cons_succ]
       have hz11:=k11.size
       refine wpl_box 9 (.tmp 65) rfl rfl rfl rfl rfl rfl e11 (by rfl) (by rfl) ?_
       intro W12 y12 b12 x12
       simp only [Act.put,List.setIfInBounds_toArray,List.set_cons_zero,List.set_cons_succ]
       refine wpList_nil ?_
       refine hKA _ _ ?_
       clear hKA KA
       have k12:KB (· = q.P) W9 W12:=((KB.of_below b10).trans k11).trans (KB.of_below b12)
       have HM12:=(show Hid (PM q W4 g W12 nv bv ns vs∧ParAt q W12 i11 bad11 lost11∧i≤i11∧(i<i11∨bad11=true)) from ⟨HM9.out.1.on HX.out k12,h11.below b12,Nat.le_trans HM9.out.2.2.1 hi11,st_on HM9.out.2.2.2 hi11 hb11⟩)
       have HE12:=(show Hid (EV (fun b=>g+1≤b∧bv.ownBlock≠some b∧nv.ownBlock≠some b) W12 v11∧W12.heap[W11.heap.size]? = some (.cells (cellsV v11) 52)∧g+1≤W11.heap.size∧q.P<W11.heap.size) from ⟨(e11.below b12).wide (fun b hb _=>by have hb':W10.heap.size≤b:=hb; have:=HM9.out.1.hB; exact ⟨by omega,fun e=>by have:=own_lt HM9.out.1.pg.bodies b e; omega,fun e=>by have:=own_lt HM9.out.1.pg.names b e; omega⟩),x12,by have:=HM9.out.1.hB; omega,by have:=HM9.out.2.1.lt; omega⟩)
       clear k12 e11 hz11 h11 hs11 hb11 hi11 k11 b12 y12 x12 sc10 hn9 z10 b10 e10 HM9
       generalize W11.heap.size=g9 at HE12 ⊢
       go_wp2_with fail
       refine (take_any q W12 i11 bad11 lost11 _ HM12.out.2.1).mono ?_
       rintro r W13 ⟨rfl,k13,i13,bad13,lost13,hi13,hb13,h13⟩
       have HM13:=(show Hid (PM q W4 g W13 nv bv ns vs∧ParAt q W13 i13 bad13 lost13∧i≤i13∧(i<i13∨bad13=true)) from ⟨HM12.out.1.on HX.out k13,h13,Nat.le_trans HM12.out.2.2.1 hi13,st_on HM12.out.2.2.2 hi13 hb13⟩)
       have HE13:=(show Hid (EV (fun b=>g+1≤b∧bv.ownBlock≠some b∧nv.ownBlock≠some b) W13 v11∧W13.heap[g9]? = some (.cells (cellsV v11) 52)∧g+1≤g9) from ⟨HE12.out.1.kb k13 (fun hx=>by have hx':=hx.1; have:=HX.out.pg; omega),k13.heap HE12.out.2.1 (by show ¬ _=_; have:=HE12.out.2.2.2; omega),HE12.out.2.2.1⟩)
       clear k13 hi13 hb13 h13 HM12 HE12
       go_upto_region 13 with fail
       rename_i KA hKA
       obtain ⟨i0,hi0,hz0,hz1,hz2⟩:=info_parts infoStrP
       obtain ⟨y0,-,-⟩:=HM13.out.1.cells
       have X:=HX.out
       refine wp_region_list ?_
       refine wpl_run rfl (.pointer (some ⟨g,0,none⟩)) W13 (by simp [execOp,Act.eval,go_sem]) ?_
       simp only [Act.put,List.setIfInBounds_toArray,List.set_cons_zero,List.set_cons_succ]
       refine wpl_run rfl nv W13 (by simp [execOp,Act.eval,go_sem,y0]) ?_
       simp only [Act.put,List.setIfInBounds_toArray,List.set_cons_zero,List.set_cons_succ]
       refine wpl_run rfl (.string t6) W13 (ex_move _ _ _ _ rfl (by rfl) _) ?_
       simp only [Act.put,List.setIfInBounds_toArray,List.set_cons_zero,List.set_cons_succ]
       obtain ⟨W14,e14⟩:∃ W',W'=W13.alloc (.cells #[.string t6] 9):=⟨_,rfl⟩
       have b14:Below W13.heap.size W13 W14:=by rw [e14]; exact (Below.refl _ _).alloc (Nat.le_refl _) _
       have x14:W14.heap[W13.heap.size]? = some (.cells #[.string t6] 9):=by rw [e14]; exact block_new _ _
       refine wpl_run rfl (.slice (some ⟨W13.heap.size,0,none⟩) 1 1) W14 (by rw [e14]; exact ex_strs1 _ _ (.tmp 70) t6 rfl (by rfl) _) ?_
       simp only [Act.put,List.setIfInBounds_toArray,List.set_cons_zero,List.set_cons_succ]
       clear e14
       have M14:=HM13.out.1.on X (KB.of_below b14)
       have hln:ns.length≤2000:=by have:=HL.out.2.2.1; have:=HL.out.2.1.2.1; have:=X.n; omega
       refine wpList_append_own_at _ rfl (.tmp 69) (.tmp 71) 24 rfl (g+1) 9 i0 _ 1 16 Tryz.underlying24 hi0 hz0 hz1 hz2 rfl (by decide) nv ns.length _ (by rfl) M14.pg.names ⟨W13.heap.size,0,none⟩ 1 1 [.string t6] (by rfl) rfl (fun j u hu=>by
  match j,hu with
  | 0,hu=>simp at hu; subst hu; rw [addr_add,cell_of_block x14]; rfl
  | j+1,hu=>simp at hu) (fun u hu=>by simp at hu; subst hu; rfl) (by unfold maxLen; omega) (by omega) M14.hB ?_
       intro nv2 W15 own15 gr15 nil15 hat15
       simp only [Act.put,List.setIfInBounds_toArray,List.set_cons_zero,List.set_cons_succ]
       obtain ⟨M16,p16,ev16,bx16⟩:=HM13.out.1.name X b14 gr15 own15 HT.out hat15 HM13.out.2.1
       have x15:W15.heap[g]? = some (.cells #[nv,bv] 27):=(gr15.block g (by have:=M14.hB; omega) (fun e=>by have:=(M14.pg.names.lt g e.symm).1; omega)).trans M14.out
       have xf15:=ubk x15 0
       have xc15:=cbk x15 0 nv rfl
       refine wpl_run rfl (.pointer (some ⟨g,0,none⟩)) W15 (by simp [execOp,Act.eval,go_sem]) ?_
       simp only [Act.put,List.setIfInBounds_toArray,List.set_cons_zero,List.set_cons_succ]
       obtain ⟨a2,c2,hv2⟩:=own_form own15
       refine wpl_skip rfl (W15.setCell ⟨g,0,none⟩ nv2) (by subst hv2; simp [execOp,Act.eval,go_sem,xf15,xc15]) ?_
       simp only [Act.put]
       refine wpList_nil ?_
       refine hKA _ _ ?_
       clear hKA KA
       have HM16:=(show Hid (PM q W4 g (W15.setCell ⟨g,0,none⟩ nv2) nv2 bv (ns ++ [t6]) vs∧ParAt q (W15.setCell ⟨g,0,none⟩ nv2) i13 bad13 lost13∧i≤i13∧(i<i13∨bad13=true)) from ⟨M16,p16,HM13.out.2.2.1,HM13.out.2.2.2⟩)
       have HE16:=(show Hid (EV (fun b=>g+1≤b∧bv.ownBlock≠some b∧nv2.ownBlock≠some b) (W15.setCell ⟨g,0,none⟩ nv2) v11∧(W15.setCell ⟨g,0,none⟩ nv2).heap[g9]? = some (.cells (cellsV v11) 52)) from ⟨ev16 v11 HE13.out.1,bx16 g9 _ HE13.out.2.2 HE13.out.2.1⟩)
       clear M16 p16 ev16 bx16 x15 xf15 xc15 hv2 nil15 hat15 own15 gr15 M14 hln x14 b14 y0 hi0 hz0 hz1 hz2 HM13 HE13 X
       generalize W15.setCell ⟨g,0,none⟩ nv2=W16 at HM16 HE16 ⊢
       go_upto_region 14 with fail
       obtain ⟨i0,hi0,hz0,hz1,hz2⟩:=info_parts infoE
       obtain ⟨-,y1,-⟩:=HM16.out.1.cells
       have X:=HX.out
       have ev:=HE16.out.1
       refine wp_region_list ?_
       refine wpl_run rfl (.pointer (some ⟨g,1,none⟩)) W16 (by simp [execOp,Act.eval,go_sem]) ?_
       simp only [Act.put,List.setIfInBounds_toArray,List.set_cons_zero,List.set_cons_succ]
       refine wpl_run rfl bv W16 (by simp [execOp,Act.eval,go_sem,y1]) ?_
       simp only [Act.put,List.setIfInBounds_toArray,List.set_cons_zero,List.set_cons_succ]
       refine wpl_run rfl (.agg (cellsV v11)) W16 (ex_loadE _ _ (.tmp 9) g9 _ _ rfl (by rfl) W16 HE16.out.2 ev.agg.2.1) ?_
       simp only [Act.put,List.setIfInBounds_toArray,List.set_cons_zero,List.set_cons_succ]
       obtain ⟨W17,e17⟩:∃ W',W'=W16.alloc (.cells ⟨[v11].flatMap cellsE⟩ 52):=⟨_,rfl⟩
       have b17:Below W16.heap.size W16 W17:=by rw [e17]; exact (Below.refl _ _).alloc (Nat.le_refl _) _
       have x17:W17.heap[W16.heap.size]? = some (.cells ⟨[v11].flatMap cellsE⟩ 52):=by rw [e17]; exact block_new _ _
       refine wpl_run rfl (.slice (some ⟨W16.heap.size,0,none⟩) 1 1) W17 (by rw [e17]; exact ex_rowE1 _ _ (.tmp 76) rfl ev (ev.aggR (by rfl)) _) ?_
       simp only [Act.put,List.setIfInBounds_toArray,List.set_cons_zero,List.set_cons_succ]
       clear e17
       have M17:=HM16.out.1.on X (KB.of_below b17)
       have hln:vs.length≤2000:=by have:=HL.out.2.2.1; have:=HL.out.2.2.2; have:=HL.out.2.1.2.1; have:=X.n; omega
       have hfl:(cellsE v11).length=4:=by have:=ev.agg.2.1; simpa [cellsE] using this
       refine wpList_append_own_at _ rfl (.tmp 75) (.tmp 77) 25 rfl (g+1) 52 i0 _ 4 56 Tryz.underlying25 hi0 hz0 hz1 hz2 rfl (by decide) bv vs.length _ (by rfl) M17.pg.bodies ⟨W16.heap.size,0,none⟩ 1 1 (cellsE v11) (by rfl) hfl (fun j u hu=>by
  rw [addr_add,cell_of_block x17,Nat.zero_add]
  simpa using hu) (fun u hu=>by have:=ev.agg.2.2.1; rw [Array.all_eq_true_iff_forall_mem] at this; exact this u (by simpa [cellsE] using hu)) (by unfold maxLen; omega) (by omega) M17.hB ?_
       intro bv2 W18 own18 gr18 nil18 hat18
       simp only [Act.put,List.setIfInBounds_toArray,List.set_cons_zero,List.set_cons_succ]
       obtain ⟨M19,p19⟩:=HM16.out.1.body X b17 gr18 own18 ev hat18 HM16.out.2.1
       have x18:W18.heap[g]? = some (.cells #[nv2,bv] 27):=(gr18.block g (by have:=M17.hB; omega) (fun e=>by have:=(M17.pg.bodies.lt g e.symm).1; omega)).trans M17.out
       have xf18:=ubk x18 1
       have xc18:=cbk x18 1 bv rfl
       refine wpl_run rfl (.pointer (some ⟨g,1,none⟩)) W18 (by simp [execOp,Act.eval,go_sem]) ?_
       simp only [Act.put,List.setIfInBounds_toArray,List.set_cons_zero,List.set_cons_succ]
       obtain ⟨a3,c3,hv3⟩:=own_form own18
       refine wpl_skip rfl (W18.setCell ⟨g,1,none⟩ bv2) (by subst hv3; simp [execOp,Act.eval,go_sem,xf18,xc18]) ?_
       simp only [Act.put]
       refine wpList_nil ?_
       have HN:=(show Hid (PM q W4 g (W18.setCell ⟨g,1,none⟩ bv2) nv2 bv2 (ns ++ [t6]) (vs ++ [v11])∧ParAt q (W18.setCell ⟨g,1,none⟩ bv2) i13 bad13 lost13∧(ns ++ [t6]).length≤i13+(if bad13 then 1 else 0)∧(vs ++ [v11]).length=(ns ++ [t6]).length) from ⟨M19,p19,by have h1:=HM16.out.2.2.2; have h2:=HL.out.2.2.1; have h3:=HM16.out.2.2.1; rw [List.length_append]; cases bad13 <;> simp at h1 ⊢ <;> omega,by rw [List.length_append,List.length_append,HL.out.2.2.2]; rfl⟩)
       have HMS:=(show Hid (leftP q (W18.setCell ⟨g,1,none⟩ bv2)<leftP q wr) from leftP_on HL.out.2.1 p19 HM16.out.2.2.2)
       generalize W18.setCell ⟨g,1,none⟩ bv2=W19 at HN HMS
       clear M19 p19 x18 xf18 xc18 hv3 nil18 hat18 own18 gr18 M17 hln hfl x17 b17 y1 hi0 hz0 hz1 hz2 HM16 HE16 ev X
       go_roundw
       case rel=>repeat (first | exact ⟨⟨_,_,_,_,_,_,_,HN⟩,rfl⟩ | apply Exists.intro)
       case measure=>exact HMS.out
    ·have hi':¬ ((i:Nat):Int)<(ts.length:Int):=by omega
     clear hi
     by_cases h0:ns.length=0
     ·clear c3
      have h0':(((ns.length:Nat):Int) == 0)=true:=by simp [h0]
      clear h0
      go_wp2_with fail
      refine (name_any q wr i false lost HL.out.2.1).mono ?_
      rintro r W6 ⟨t6,rfl,ht6,k6,i6,bad6,lost6,hi6,hb6,hs6,h6⟩
      obtain ⟨nv,hnv⟩:∃ nv,nv=Value.slice an ns.length cn:=⟨_,rfl⟩
      obtain ⟨bv,hbv⟩:∃ bv,bv=Value.slice ab vs.length cb:=⟨_,rfl⟩
      rw [← hnv,← hbv] at HL
      clear hnv hbv
      have HM:=(show Hid (PM q W4 g W6 nv bv ns vs∧ParAt q W6 i6 bad6 lost6∧i≤i6∧(i<i6∨bad6=true)) from ⟨HL.out.1.on HX.out k6,h6,hi6,hs6⟩)
      have HT:=(show Hid (t6.size≤1048576) from ht6)
      clear k6 hi6 hb6 hs6 h6 ht6 c1 c2 y0 y1
      cases bad6 with
      | true =>
       obtain ⟨-,-,d2,-,-,df⟩:=HM.out.2.1.cells
       have df2:=df 2
       obtain ⟨y0,-,-⟩:=HM.out.1.cells
       clear df
       go_wp2_with fail
       refine (take_any q W6 i6 true lost6 _ HM.out.2.1).mono ?_
       rintro r W9 ⟨rfl,k9,i9,bad9,lost9,hi9,hb9,h9⟩
       clear d2 df2 y0
       have HM9:=(show Hid (PM q W4 g W9 nv bv ns vs∧ParAt q W9 i9 bad9 lost9∧i≤i9∧(i<i9∨bad9=true)) from ⟨HM.out.1.on HX.out k9,h9,Nat.le_trans HM.out.2.2.1 hi9,st_on (by first | exact HM.out.2.2.2 | exact .inr rfl) hi9 hb9⟩)
       clear k9 hi9 hb9 h9 HM
       go_upto_region 11 with fail
       rename_i KA hKA
       refine wp_region_list ?_
       refine wpl_run rfl (.pointer (some ⟨q.P,0,none⟩)) W9 (ex_move _ _ _ _ rfl (by rfl) _) ?_
       simp only [Act.put,List.setIfInBounds_toArray,List.set_cons_zero,List.set_cons_succ]
       obtain ⟨W10,e10⟩:∃ W',W'=W9.alloc (.cells #[] 9):=⟨_,rfl⟩
       have b10:Below W9.heap.size W9 W10:=by rw [e10]; exact (Below.refl _ _).alloc (Nat.le_refl _) _
       have z10:W10.heap.size=W9.heap.size+1:=by rw [e10]; simp
       refine wpl_run rfl (.slice (some ⟨W9.heap.size,0,none⟩) 0 0) W10 (by rw [e10]; exact ex_strs0 _ _ rfl _) ?_
       simp only [Act.put,List.setIfInBounds_toArray,List.set_cons_zero,List.set_cons_succ]
       have sc10:PsAt W10 q.P (.slice (some ⟨W9.heap.size,0,none⟩) 0 0) []:=⟨W9.heap.size,0,0,rfl,(by have:=HM9.out.2.1.lt; omega),by omega,fun i t ht=>by simp at ht⟩
       have hn9:=HX.out.n
       refine wpl_call2 rfl 41 (.tmp 63) (.tmp 64) _ rfl ent_exp (.pointer (some ⟨q.P,0,none⟩)) (.slice (some ⟨W9.heap.size,0,none⟩) 0 0) (by rfl) (by rfl) (fun r w'=>EV (fun b=>W10.heap.size≤b) w' r∧AftS q W10 w' i9 bad9) ((exp_any q (q.n - i9+1) i9 bad9 lost9 _ [] W10 (HM9.out.2.1.below b10) (by omega) sc10 (by simp only [List.length_nil]; omega)).mono (fun e w' ⟨v,he,hh⟩=>⟨v,he,hh⟩)) ?_
       rintro v11 W11 ⟨e11,k11,i11,bad11,lost11,hi11,hb11,hs11,h11⟩
       simp only [Act.put,List.setIfInBounds_toArray,List.set_cons_zero,List.set_cons_succ]
       have hz11:=k11.size
       refine wpl_box 9 (.tmp 65) rfl rfl rfl rfl rfl rfl e11 (by rfl) (by rfl) ?_
       intro W12 y12 b12 x12
       simp only [Act.put,List.setIfInBounds_toArray,List.set_cons_zero,List.set_cons_succ]
       refine wpList_nil ?_
       refine hKA _ _ ?_
       clear hKA KA
       have k12:KB (· = q.P) W9 W12:=((KB.of_below b10).trans k11).trans (KB.of_below b12)
       have HM12:=(show Hid (PM q W4 g W12 nv bv ns vs∧ParAt q W12 i11 bad11 lost11∧i≤i11∧(i<i11∨bad11=true)) from ⟨HM9.out.1.on HX.out k12,h11.below b12,Nat.le_trans HM9.out.2.2.1 hi11,st_on HM9.out.2.2.2 hi11 hb11⟩)
       have HE12:=(show Hid (EV (fun b=>g+1≤b∧bv.ownBlock≠some b∧nv.ownBlock≠some b) W12 v11∧W12.heap[W11.heap.size]? = some (.cells (cellsV v11) 52)∧g+1≤W11.heap.size∧q.P<W11.heap.size) from ⟨(e11.below b12).wide (fun b hb _=>by have hb':W10.heap.size≤b:=hb; have:=HM9.out.1.hB; exact ⟨by omega,fun e=>by have:=own_lt HM9.out.1.pg.bodies b e; omega,fun e=>by have:=own_lt HM9.out.1.pg.names b e; omega⟩),x12,by have:=HM9.out.1.hB; omega,by have:=HM9.out.2.1.lt; omega⟩)
       clear k12 e11 hz11 h11 hs11 hb11 hi11 k11 b12 y12 x12 sc10 hn9 z10 b10 e10 HM9
       generalize W11.heap.size=g9 at HE12 ⊢
       go_wp2_with fail
       refine (take_any q W12 i11 bad11 lost11 _ HM12.out.2.1).mono ?_
       rintro r W13 ⟨rfl,k13,i13,bad13,lost13,hi13,hb13,h13⟩
       have HM13:=(show Hid (PM q W4 g W13 nv bv ns vs∧ParAt q W13 i13 bad13 lost13∧i≤i13∧(i<i13∨bad13=true)) from ⟨HM12.out.1.on HX.out k13,h13,Nat.le_trans HM12.out.2.2.1 hi13,st_on HM12.out.2.2.2 hi13 hb13⟩)
       have HE13:=(show Hid (EV (fun b=>g+1≤b∧bv.ownBlock≠some b∧nv.ownBlock≠some b) W13 v11∧W13.heap[g9]? = some (.cells (cellsV v11) 52)∧g+1≤g9) from ⟨HE12.out.1.kb k13 (fun hx=>by have hx':=hx.1; have:=HX.out.pg; omega),k13.heap HE12.out.2.1 (by show ¬ _=_; have:=HE12.out.2.2.2; omega),HE12.out.2.2.1⟩)
       clear k13 hi13 hb13 h13 HM12 HE12
       go_upto_region 13 with fail
       rename_i KA hKA
       obtain ⟨i0,hi0,hz0,hz1,hz2⟩:=info_parts infoStrP
       obtain ⟨y0,-,-⟩:=HM13.out.1.cells
       have X:=HX.out
       refine wp_region_list ?_
       refine wpl_run rfl (.pointer (some ⟨g,0,none⟩)) W13 (by simp [execOp,Act.eval,go_sem]) ?_
       simp only [Act.put,List.setIfInBounds_toArray,List.set_cons_zero,List.set_cons_succ]
       refine wpl_run rfl nv W13 (by simp [execOp,Act.eval,go_sem,y0]) ?_
       simp only [Act.put,List.setIfInBounds_toArray,List.set_cons_zero,List.set_cons_succ]
       refine wpl_run rfl (.string t6) W13 (ex_move _ _ _ _ rfl (by rfl) _) ?_
       simp only [Act.put,List.setIfInBounds_toArray,List.set_cons_zero,List.set_cons_succ]
       obtain ⟨W14,e14⟩:∃ W',W'=W13.alloc (.cells #[.string t6] 9):=⟨_,rfl⟩
       have b14:Below W13.heap.size W13 W14:=by rw [e14]; exact (Below.refl _ _).alloc (Nat.le_refl _) _
       have x14:W14.heap[W13.heap.size]? = some (.cells #[.string t6] 9):=by rw [e14]; exact block_new _ _
       refine wpl_run rfl (.slice (some ⟨W13.heap.size,0,none⟩) 1 1) W14 (by rw [e14]; exact ex_strs1 _ _ (.tmp 70) t6 rfl (by rfl) _) ?_
       simp only [Act.put,List.setIfInBounds_toArray,List.set_cons_zero,List.set_cons_succ]
       clear e14
       have M14:=HM13.out.1.on X (KB.of_below b14)
       have hln:ns.length≤2000:=by have:=HL.out.2.2.1; have:=HL.out.2.1.2.1; have:=X.n; omega
       refine wpList_append_own_at _ rfl (.tmp 69) (.tmp 71) 24 rfl (g+1) 9 i0 _ 1 16 Tryz.underlying24 hi0 hz0 hz1 hz2 rfl (by decide) nv ns.length _ (by rfl) M14.pg.names ⟨W13.heap.size,0,none⟩ 1 1 [.string t6] (by rfl) rfl (fun j u hu=>by
  match j,hu with
  | 0,hu=>simp at hu; subst hu; rw [addr_add,cell_of_block x14]; rfl
  | j+1,hu=>simp at hu) (fun u hu=>by simp at hu; subst hu; rfl) (by unfold maxLen; omega) (by omega) M14.hB ?_
       intro nv2 W15 own15 gr15 nil15 hat15
       simp only [Act.put,List.setIfInBounds_toArray,List.set_cons_zero,List.set_cons_succ]
       obtain ⟨M16,p16,ev16,bx16⟩:=HM13.out.1.name X b14 gr15 own15 HT.out hat15 HM13.out.2.1
       have x15:W15.heap[g]? = some (.cells #[nv,bv] 27):=(gr15.block g (by have:=M14.hB; omega) (fun e=>by have:=(M14.pg.names.lt g e.symm).1; omega)).trans M14.out
       have xf15:=ubk x15 0
       have xc15:=cbk x15 0 nv rfl
       refine wpl_run rfl (.pointer (some ⟨g,0,none⟩)) W15 (by simp [execOp,Act.eval,go_sem]) ?_
       simp only [Act.put,List.setIfInBounds_toArray,List.set_cons_zero,List.set_cons_succ]
       obtain ⟨a2,c2,hv2⟩:=own_form own15
       refine wpl_skip rfl (W15.setCell ⟨g,0,none⟩ nv2) (by subst hv2; simp [execOp,Act.eval,go_sem,xf15,xc15]) ?_
       simp only [Act.put]
       refine wpList_nil ?_
       refine hKA _ _ ?_
       clear hKA KA
       have HM16:=(show Hid (PM q W4 g (W15.setCell ⟨g,0,none⟩ nv2) nv2 bv (ns ++ [t6]) vs∧ParAt q (W15.setCell ⟨g,0,none⟩ nv2) i13 bad13 lost13∧i≤i13∧(i<i13∨bad13=true)) from ⟨M16,p16,HM13.out.2.2.1,HM13.out.2.2.2⟩)
       have HE16:=(show Hid (EV (fun b=>g+1≤b∧bv.ownBlock≠some b∧nv2.ownBlock≠some b) (W15.setCell ⟨g,0,none⟩ nv2) v11∧(W15.setCell ⟨g,0,none⟩ nv2).heap[g9]? = some (.cells (cellsV v11) 52)) from ⟨ev16 v11 HE13.out.1,bx16 g9 _ HE13.out.2.2 HE13.out.2.1⟩)
       clear M16 p16 ev16 bx16 x15 xf15 xc15 hv2 nil15 hat15 own15 gr15 M14 hln x14 b14 y0 hi0 hz0 hz1 hz2 HM13 HE13 X
       generalize W15.setCell ⟨g,0,none⟩ nv2=W16 at HM16 HE16 ⊢
       go_upto_region 14 with fail
       obtain ⟨i0,hi0,hz0,hz1,hz2⟩:=info_parts infoE
       obtain ⟨-,y1,-⟩:=HM16.out.1.cells
       have X:=HX.out
       have ev:=HE16.out.1
       refine wp_region_list ?_
       refine wpl_run rfl (.pointer (some ⟨g,1,none⟩)) W16 (by simp [execOp,Act.eval,go_sem]) ?_
       simp only [Act.put,List.setIfInBounds_toArray,List.set_cons_zero,List.set_cons_succ]
       refine wpl_run rfl bv W16 (by simp [execOp,Act.eval,go_sem,y1]) ?_
       simp only [Act.put,List.setIfInBounds_toArray,List.set_cons_zero,List.set_cons_succ]
       refine wpl_run rfl (.agg (cellsV v11)) W16 (ex_loadE _ _ (.tmp 9) g9 _ _ rfl (by rfl) W16 HE16.out.2 ev.agg.2.1) ?_
       simp only [Act.put,List.setIfInBounds_toArray,List.set_cons_zero,List.set_cons_succ]
       obtain ⟨W17,e17⟩:∃ W',W'=W16.alloc (.cells ⟨[v11].flatMap cellsE⟩ 52):=⟨_,rfl⟩
       have b17:Below W16.heap.size W16 W17:=by rw [e17]; exact (Below.refl _ _).alloc (Nat.le_refl _) _
       have x17:W17.heap[W16.heap.size]? = some (.cells ⟨[v11].flatMap cellsE⟩ 52):=by rw [e17]; exact block_new _ _
       refine wpl_run rfl (.slice (some ⟨W16.heap.size,0,none⟩) 1 1) W17 (by rw [e17]; exact ex_rowE1 _ _ (.tmp 76) rfl ev (ev.aggR (by rfl)) _) ?_
       simp only [Act.put,List.setIfInBounds_toArray,List.set_cons_zero,List.set_cons_succ]
       clear e17
       have M17:=HM16.out.1.on X (KB.of_below b17)
       have hln:vs.length≤2000:=by have:=HL.out.2.2.1; have:=HL.out.2.2.2; have:=HL.out.2.1.2.1; have:=X.n; omega
       have hfl:(cellsE v11).length=4:=by have:=ev.agg.2.1; simpa [cellsE] using this
       refine wpList_append_own_at _ rfl (.tmp 75) (.tmp 77) 25 rfl (g+1) 52 i0 _ 4 56 Tryz.underlying25 hi0 hz0 hz1 hz2 rfl (by decide) bv vs.length _ (by rfl) M17.pg.bodies ⟨W16.heap.size,0,none⟩ 1 1 (cellsE v11) (by rfl) hfl (fun j u hu=>by
  rw [addr_add,cell_of_block x17,Nat.zero_add]
  simpa using hu) (fun u hu=>by have:=ev.agg.2.2.1; rw [Array.all_eq_true_iff_forall_mem] at this; exact this u (by simpa [cellsE] using hu)) (by unfold maxLen; omega) (by omega) M17.hB ?_
       intro bv2 W18 own18 gr18 nil18 hat18
       simp only [Act.put,List.setIfInBounds_toArray,List.set_cons_zero,List.set_cons_succ]
       obtain ⟨M19,p19⟩:=HM16.out.1.body X b17 gr18 own18 ev hat18 HM16.out.2.1
       have x18:W18.heap[g]? = some (.cells #[nv2,bv] 27):=(gr18.block g (by have:=M17.hB; omega) (fun e=>by have:=(M17.pg.bodies.lt g e.symm).1; omega)).trans M17.out
       have xf18:=ubk x18 1
       have xc18:=cbk x18 1 bv rfl
       refine wpl_run rfl (.pointer (some ⟨g,1,none⟩)) W18 (by simp [execOp,Act.eval,go_sem]) ?_
       simp only [Act.put,List.setIfInBounds_toArray,List.set_cons_zero,List.set_cons_succ]
       obtain ⟨a3,c3,hv3⟩:=own_form own18
       refine wpl_skip rfl (W18.setCell ⟨g,1,none⟩ bv2) (by subst hv3; simp [execOp,Act.eval,go_sem,xf18,xc18]) ?_
       simp only [Act.put]
       refine wpList_nil ?_
       have HN:=(show Hid (PM q W4 g (W18.setCell ⟨g,1,none⟩ bv2) nv2 bv2 (ns ++ [t6]) (vs ++ [v11])∧ParAt q (W18.setCell ⟨g,1,none⟩ bv2) i13 bad13 lost13∧(ns ++ [t6]).length≤i13+(if bad13 then 1 else 0)∧(vs ++ [v11]).length=(ns ++ [t6]).length) from ⟨M19,p19,by have h1:=HM16.out.2.2.2; have h2:=HL.out.2.2.1; have h3:=HM16.out.2.2.1; rw [List.length_append]; cases bad13 <;> simp at h1 ⊢ <;> omega,by rw [List.length_append,List.length_append,HL.out.2.2.2]; rfl⟩)
       have HMS:=(show Hid (leftP q (W18.setCell ⟨g,1,none⟩ bv2)<leftP q wr) from leftP_on HL.out.2.1 p19 HM16.out.2.2.2)
       generalize W18.setCell ⟨g,1,none⟩ bv2=W19 at HN HMS
       clear M19 p19 x18 xf18 xc18 hv3 nil18 hat18 own18 gr18 M17 hln hfl x17 b17 y1 hi0 hz0 hz1 hz2 HM16 HE16 ev X
       go_roundw
       case rel=>repeat (first | exact ⟨⟨_,_,_,_,_,_,_,HN⟩,rfl⟩ | apply Exists.intro)
       case measure=>exact HMS.out
      | false =>
       obtain ⟨-,-,d2,-,-,df⟩:=HM.out.2.1.cells
       have df2:=df 2
       obtain ⟨y0,-,-⟩:=HM.out.1.cells
       clear df
       go_wp2_with fail
       refine (has_own t6 W6 HM.out.1.pg.names (by have:=HL.out.2.2.1; have:=HL.out.2.1.2.1; have:=HX.out.n; unfold maxLen; omega)).mono ?_
       rintro r w7 ⟨c,rfl,rfl⟩
       cases c with
       | false =>
        go_wp2_with fail
        refine (take_any q w7 i6 false lost6 _ HM.out.2.1).mono ?_
        rintro r W9 ⟨rfl,k9,i9,bad9,lost9,hi9,hb9,h9⟩
        clear d2 df2 y0
        have HM9:=(show Hid (PM q W4 g W9 nv bv ns vs∧ParAt q W9 i9 bad9 lost9∧i≤i9∧(i<i9∨bad9=true)) from ⟨HM.out.1.on HX.out k9,h9,Nat.le_trans HM.out.2.2.1 hi9,st_on (by first | exact HM.out.2.2.2 | exact .inr rfl) hi9 hb9⟩)
        clear k9 hi9 hb9 h9 HM
        go_upto_region 11 with fail
        rename_i KA hKA
        refine wp_region_list ?_
        refine wpl_run rfl (.pointer (some ⟨q.P,0,none⟩)) W9 (ex_move _ _ _ _ rfl (by rfl) _) ?_
        simp only [Act.put,List.setIfInBounds_toArray,List.set_cons_zero,List.set_cons_succ]
        obtain ⟨W10,e10⟩:∃ W',W'=W9.alloc (.cells #[] 9):=⟨_,rfl⟩
        have b10:Below W9.heap.size W9 W10:=by rw [e10]; exact (Below.refl _ _).alloc (Nat.le_refl _) _
        have z10:W10.heap.size=W9.heap.size+1:=by rw [e10]; simp
        refine wpl_run rfl (.slice (some ⟨W9.heap.size,0,none⟩) 0 0) W10 (by rw [e10]; exact ex_strs0 _ _ rfl _) ?_
        simp only [Act.put,List.setIfInBounds_toArray,List.set_cons_zero,List.set_cons_succ]
        have sc10:PsAt W10 q.P (.slice (some ⟨W9.heap.size,0,none⟩) 0 0) []:=⟨W9.heap.size,0,0,rfl,(by have:=HM9.out.2.1.lt; omega),by omega,fun i t ht=>by simp at ht⟩
        have hn9:=HX.out.n
        refine wpl_call2 rfl 41 (.tmp 63) (.tmp 64) _ rfl ent_exp (.pointer (some ⟨q.P,0,none⟩)) (.slice (some ⟨W9.heap.size,0,none⟩) 0 0) (by rfl) (by rfl) (fun r w'=>EV (fun b=>W10.heap.size≤b) w' r∧AftS q W10 w' i9 bad9) ((exp_any q (q.n - i9+1) i9 bad9 lost9 _ [] W10 (HM9.out.2.1.below b10) (by omega) sc10 (by simp only [List.length_nil]; omega)).mono (fun e w' ⟨v,he,hh⟩=>⟨v,he,hh⟩)) ?_
        rintro v11 W11 ⟨e11,k11,i11,bad11,lost11,hi11,hb11,hs11,h11⟩
        simp only [Act.put,List.setIfInBounds_toArray,List.set_cons_zero,List.set_cons_succ]
        have hz11:=k11.size
        refine wpl_box 9 (.tmp 65) rfl rfl rfl rfl rfl rfl e11 (by rfl) (by rfl) ?_
        intro W12 y12 b12 x12
        simp only [Act.put,List.setIfInBounds_toArray,List.set_cons_zero,List.set_cons_succ]
        refine wpList_nil ?_
        refine hKA _ _ ?_
        clear hKA KA
        have k12:KB (· = q.P) W9 W12:=((KB.of_below b10).trans k11).trans (KB.of_below b12)
        have HM12:=(show Hid (PM q W4 g W12 nv bv ns vs∧ParAt q W12 i11 bad11 lost11∧i≤i11∧(i<i11∨bad11=true)) from ⟨HM9.out.1.on HX.out k12,h11.below b12,Nat.le_trans HM9.out.2.2.1 hi11,st_on HM9.out.2.2.2 hi11 hb11⟩)
        have HE12:=(show Hid (EV (fun b=>g+1≤b∧bv.ownBlock≠some b∧nv.ownBlock≠some b) W12 v11∧W12.heap[W11.heap.size]? = some (.cells (cellsV v11) 52)∧g+1≤W11.heap.size∧q.P<W11.heap.size) from ⟨(e11.below b12).wide (fun b hb _=>by have hb':W10.heap.size≤b:=hb; have:=HM9.out.1.hB; exact ⟨by omega,fun e=>by have:=own_lt HM9.out.1.pg.bodies b e; omega,fun e=>by have:=own_lt HM9.out.1.pg.names b e; omega⟩),x12,by have:=HM9.out.1.hB; omega,by have:=HM9.out.2.1.lt; omega⟩)
        clear k12 e11 hz11 h11 hs11 hb11 hi11 k11 b12 y12 x12 sc10 hn9 z10 b10 e10 HM9
        generalize W11.heap.size=g9 at HE12 ⊢
        go_wp2_with fail
        refine (take_any q W12 i11 bad11 lost11 _ HM12.out.2.1).mono ?_
        rintro r W13 ⟨rfl,k13,i13,bad13,lost13,hi13,hb13,h13⟩
        have HM13:=(show Hid (PM q W4 g W13 nv bv ns vs∧ParAt q W13 i13 bad13 lost13∧i≤i13∧(i<i13∨bad13=true)) from ⟨HM12.out.1.on HX.out k13,h13,Nat.le_trans HM12.out.2.2.1 hi13,st_on HM12.out.2.2.2 hi13 hb13⟩)
        have HE13:=(show Hid (EV (fun b=>g+1≤b∧bv.ownBlock≠some b∧nv.ownBlock≠some b) W13 v11∧W13.heap[g9]? = some (.cells (cellsV v11) 52)∧g+1≤g9) from ⟨HE12.out.1.kb k13 (fun hx=>by have hx':=hx.1; have:=HX.out.pg; omega),k13.heap HE12.out.2.1 (by show ¬ _=_; have:=HE12.out.2.2.2; omega),HE12.out.2.2.1⟩)
        clear k13 hi13 hb13 h13 HM12 HE12
        go_upto_region 13 with fail
        rename_i KA hKA
        obtain ⟨i0,hi0,hz0,hz1,hz2⟩:=info_parts infoStrP
        obtain ⟨y0,-,-⟩:=HM13.out.1.cells
        have X:=HX.out
        refine wp_region_list ?_
        refine wpl_run rfl (.pointer (some ⟨g,0,none⟩)) W13 (by simp [execOp,Act.eval,go_sem]) ?_
        simp only [Act.put,List.setIfInBounds_toArray,List.set_cons_zero,List.set_cons_succ]
        refine wpl_run rfl nv W13 (by simp [execOp,Act.eval,go_sem,y0]) ?_
        simp only [Act.put,List.setIfInBounds_toArray,List.set_cons_zero,List.set_cons_succ]
        refine wpl_run rfl (.string t6) W13 (ex_move _ _ _ _ rfl (by rfl) _) ?_
        simp only [Act.put,List.setIfInBounds_toArray,List.set_cons_zero,List.set_cons_succ]
        obtain ⟨W14,e14⟩:∃ W',W'=W13.alloc (.cells #[.string t6] 9):=⟨_,rfl⟩
        have b14:Below W13.heap.size W13 W14:=by rw [e14]; exact (Below.refl _ _).alloc (Nat.le_refl _) _
        have x14:W14.heap[W13.heap.size]? = some (.cells #[.string t6] 9):=by rw [e14]; exact block_new _ _
        refine wpl_run rfl (.slice (some ⟨W13.heap.size,0,none⟩) 1 1) W14 (by rw [e14]; exact ex_strs1 _ _ (.tmp 70) t6 rfl (by rfl) _) ?_
        simp only [Act.put,List.setIfInBounds_toArray,List.set_cons_zero,List.set_cons_succ]
        clear e14
        have M14:=HM13.out.1.on X (KB.of_below b14)
        have hln:ns.length≤2000:=by have:=HL.out.2.2.1; have:=HL.out.2.1.2.1; have:=X.n; omega
        refine wpList_append_own_at _ rfl (.tmp 69) (.tmp 71) 24 rfl (g+1) 9 i0 _ 1 16 Tryz.underlying24 hi0 hz0 hz1 hz2 rfl (by decide) nv ns.length _ (by rfl) M14.pg.names ⟨W13.heap.size,0,none⟩ 1 1 [.string t6] (by rfl) rfl (fun j u hu=>by
  match j,hu with
  | 0,hu=>simp at hu; subst hu; rw [addr_add,cell_of_block x14]; rfl
  | j+1,hu=>simp at hu) (fun u hu=>by simp at hu; subst hu; rfl) (by unfold maxLen; omega) (by omega) M14.hB ?_
        intro nv2 W15 own15 gr15 nil15 hat15
        simp only [Act.put,List.setIfInBounds_toArray,List.set_cons_zero,List.set_cons_succ]
        obtain ⟨M16,p16,ev16,bx16⟩:=HM13.out.1.name X b14 gr15 own15 HT.out hat15 HM13.out.2.1
        have x15:W15.heap[g]? = some (.cells #[nv,bv] 27):=(gr15.block g (by have:=M14.hB; omega) (fun e=>by have:=(M14.pg.names.lt g e.symm).1; omega)).trans M14.out
        have xf15:=ubk x15 0
        have xc15:=cbk x15 0 nv rfl
        refine wpl_run rfl (.pointer (some ⟨g,0,none⟩)) W15 (by simp [execOp,Act.eval,go_sem]) ?_
        simp only [Act.put,List.setIfInBounds_toArray,List.set_cons_zero,List.set_cons_succ]
        obtain ⟨a2,c2,hv2⟩:=own_form own15
        refine wpl_skip rfl (W15.setCell ⟨g,0,none⟩ nv2) (by subst hv2; simp [execOp,Act.eval,go_sem,xf15,xc15]) ?_
        simp only [Act.put]
        refine wpList_nil ?_
        refine hKA _ _ ?_
        clear hKA KA
        have HM16:=(show Hid (PM q W4 g (W15.setCell ⟨g,0,none⟩ nv2) nv2 bv (ns ++ [t6]) vs∧ParAt q (W15.setCell ⟨g,0,none⟩ nv2) i13 bad13 lost13∧i≤i13∧(i<i13∨bad13=true)) from ⟨M16,p16,HM13.out.2.2.1,HM13.out.2.2.2⟩)
        have HE16:=(show Hid (EV (fun b=>g+1≤b∧bv.ownBlock≠some b∧nv2.ownBlock≠some b) (W15.setCell ⟨g,0,none⟩ nv2) v11∧(W15.setCell ⟨g,0,none⟩ nv2).heap[g9]? = some (.cells (cellsV v11) 52)) from ⟨ev16 v11 HE13.out.1,bx16 g9 _ HE13.out.2.2 HE13.out.2.1⟩)
        clear M16 p16 ev16 bx16 x15 xf15 xc15 hv2 nil15 hat15 own15 gr15 M14 hln x14 b14 y0 hi0 hz0 hz1 hz2 HM13 HE13 X
        generalize W15.setCell ⟨g,0,none⟩ nv2=W16 at HM16 HE16 ⊢
        go_upto_region 14 with fail
        obtain ⟨i0,hi0,hz0,hz1,hz2⟩:=info_parts infoE
        obtain ⟨-,y1,-⟩:=HM16.out.1.cells
        have X:=HX.out
        have ev:=HE16.out.1
        refine wp_region_list ?_
        refine wpl_run rfl (.pointer (some ⟨g,1,none⟩)) W16 (by simp [execOp,Act.eval,go_sem]) ?_
        simp only [Act.put,List.setIfInBounds_toArray,List.set_cons_zero,List.set_cons_succ]
        refine wpl_run rfl bv W16 (by simp [execOp,Act.eval,go_sem,y1]) ?_
        simp only [Act.put,List.setIfInBounds_toArray,List.set_cons_zero,List.set_cons_succ]
        refine wpl_run rfl (.agg (cellsV v11)) W16 (ex_loadE _ _ (.tmp 9) g9 _ _ rfl (by rfl) W16 HE16.out.2 ev.agg.2.1) ?_
        simp only [Act.put,List.setIfInBounds_toArray,List.set_cons_zero,List.set_cons_succ]
        obtain ⟨W17,e17⟩:∃ W',W'=W16.alloc (.cells ⟨[v11].flatMap cellsE⟩ 52):=⟨_,rfl⟩
        have b17:Below W16.heap.size W16 W17:=by rw [e17]; exact (Below.refl _ _).alloc (Nat.le_refl _) _
        have x17:W17.heap[W16.heap.size]? = some (.cells ⟨[v11].flatMap cellsE⟩ 52):=by rw [e17]; exact block_new _ _
        refine wpl_run rfl (.slice (some ⟨W16.heap.size,0,none⟩) 1 1) W17 (by rw [e17]; exact ex_rowE1 _ _ (.tmp 76) rfl ev (ev.aggR (by rfl)) _) ?_
        simp only [Act.put,List.setIfInBounds_toArray,List.set_cons_zero,List.set_cons_succ]
        clear e17
        have M17:=HM16.out.1.on X (KB.of_below b17)
        have hln:vs.length≤2000:=by have:=HL.out.2.2.1; have:=HL.out.2.2.2; have:=HL.out.2.1.2.1; have:=X.n; omega
        have hfl:(cellsE v11).length=4:=by have:=ev.agg.2.1; simpa [cellsE] using this
        refine wpList_append_own_at _ rfl (.tmp 75) (.tmp 77) 25 rfl (g+1) 52 i0 _ 4 56 Tryz.underlying25 hi0 hz0 hz1 hz2 rfl (by decide) bv vs.length _ (by rfl) M17.pg.bodies ⟨W16.heap.size,0,none⟩ 1 1 (cellsE v11) (by rfl) hfl (fun j u hu=>by
  rw [addr_add,cell_of_block x17,Nat.zero_add]
  simpa using hu) (fun u hu=>by have:=ev.agg.2.2.1; rw [Array.all_eq_true_iff_forall_mem] at this; exact this u (by simpa [cellsE] using hu)) (by unfold maxLen; omega) (by omega) M17.hB ?_
        intro bv2 W18 own18 gr18 nil18 hat18
        simp only [Act.put,List.setIfInBounds_toArray,List.set_cons_zero,List.set_cons_succ]
        obtain ⟨M19,p19⟩:=HM16.out.1.body X b17 gr18 own18 ev hat18 HM16.out.2.1
        have x18:W18.heap[g]? = some (.cells #[nv2,bv] 27):=(gr18.block g (by have:=M17.hB; omega) (fun e=>by have:=(M17.pg.bodies.lt g e.symm).1; omega)).trans M17.out
        have xf18:=ubk x18 1
        have xc18:=cbk x18 1 bv rfl
        refine wpl_run rfl (.pointer (some ⟨g,1,none⟩)) W18 (by simp [execOp,Act.eval,go_sem]) ?_
        simp only [Act.put,List.setIfInBounds_toArray,List.set_cons_zero,List.set_cons_succ]
        obtain ⟨a3,c3,hv3⟩:=own_form own18
        refine wpl_skip rfl (W18.setCell ⟨g,1,none⟩ bv2) (by subst hv3; simp [execOp,Act.eval,go_sem,xf18,xc18]) ?_
        simp only [Act.put]
        refine wpList_nil ?_
        have HN:=(show Hid (PM q W4 g (W18.setCell ⟨g,1,none⟩ bv2) nv2 bv2 (ns ++ [t6]) (vs ++ [v11])∧ParAt q (W18.setCell ⟨g,1,none⟩ bv2) i13 bad13 lost13∧(ns ++ [t6]).length≤i13+(if bad13 then 1 else 0)∧(vs ++ [v11]).length=(ns ++ [t6]).length) from ⟨M19,p19,by have h1:=HM16.out.2.2.2; have h2:=HL.out.2.2.1; have h3:=HM16.out.2.2.1; rw [List.length_append]; cases bad13 <;> simp at h1 ⊢ <;> omega,by rw [List.length_append,List.length_append,HL.out.2.2.2]; rfl⟩)
        have HMS:=(show Hid (leftP q (W18.setCell ⟨g,1,none⟩ bv2)<leftP q wr) from leftP_on HL.out.2.1 p19 HM16.out.2.2.2)
        generalize W18.setCell ⟨g,1,none⟩ bv2=W19 at HN HMS
        clear M19 p19 x18 xf18 xc18 hv3 nil18 hat18 own18 gr18 M17 hln hfl x17 b17 y1 hi0 hz0 hz1 hz2 HM16 HE16 ev X
        go_roundw
        case rel=>repeat (first | exact ⟨⟨_,_,_,_,_,_,_,HN⟩,rfl⟩ | apply Exists.intro)
        case measure=>exact HMS.out
       | true =>
        have k8:KB (· = q.P) w7 (w7.setCell ⟨q.P,2,none⟩ (.bool true)):=kb_cell _ _ _ _
        have h8:ParAt q (w7.setCell ⟨q.P,2,none⟩ (.bool true)) i6 true lost6:=HM.out.2.1.on k8 (block_setCell (i:=2) HM.out.2.1.1 _) HM.out.2.1.2.1
        have HM8:=(show Hid (PM q W4 g (w7.setCell ⟨q.P,2,none⟩ (.bool true)) nv bv ns vs∧ParAt q (w7.setCell ⟨q.P,2,none⟩ (.bool true)) i6 true lost6∧i≤i6∧(i<i6∨true=true)) from ⟨HM.out.1.on HX.out k8,h8,HM.out.2.2.1,.inr rfl⟩)
        clear k8 h8
        go_upto_region 10 with fail
        generalize w7.setCell ⟨q.P,2,none⟩ (.bool true)=w8 at HM8 ⊢
        clear HM
        have HM:=HM8
        clear HM8
        clear d2 df2 y0
        rename_i KA hKA
        refine wp_region_list ?_
        refine wpl_run rfl (.pointer (some ⟨q.P,0,none⟩)) w8 (ex_move _ _ _ _ rfl (by rfl) _) ?_
        simp only [Act.put,List.setIfInBounds_toArray,List.set_cons_zero,List.set_cons_succ]
        refine wpl_call2 rfl 40 (.tmp 61) _ _ rfl ent_take (.pointer (some ⟨q.P,0,none⟩)) (.string ⟨#[61]⟩) (by rfl) rfl (fun r w'=>PAft q w8 w' i6 true) ((take_any q w8 i6 true lost6 _ HM.out.2.1).mono (fun e w' ⟨he,hh⟩=>⟨_,he,hh⟩)) ?_
        rintro r W9 ⟨k9,i9,bad9,lost9,hi9,hb9,h9⟩
        simp only [Act.put,List.setIfInBounds_toArray,List.set_cons_zero,List.set_cons_succ]
        refine wpList_nil ?_
        refine hKA _ _ ?_
        clear hKA KA
        have HM9:=(show Hid (PM q W4 g W9 nv bv ns vs∧ParAt q W9 i9 bad9 lost9∧i≤i9∧(i<i9∨bad9=true)) from ⟨HM.out.1.on HX.out k9,h9,Nat.le_trans HM.out.2.2.1 hi9,st_on (by first | exact HM.out.2.2.2 | exact .inr rfl) hi9 hb9⟩)
        clear k9 hi9 hb9 h9 HM
        go_upto_region 11 with fail
        rename_i KA hKA
        refine wp_region_list ?_
        refine wpl_run rfl (.pointer (some ⟨q.P,0,none⟩)) W9 (ex_move _ _ _ _ rfl (by rfl) _) ?_
        simp only [Act.put,List.setIfInBounds_toArray,List.set_cons_zero,List.set_cons_succ]
        obtain ⟨W10,e10⟩:∃ W',W'=W9.alloc (.cells #[] 9):=⟨_,rfl⟩
        have b10:Below W9.heap.size W9 W10:=by rw [e10]; exact (Below.refl _ _).alloc (Nat.le_refl _) _
        have z10:W10.heap.size=W9.heap.size+1:=by rw [e10]; simp
        refine wpl_run rfl (.slice (some ⟨W9.heap.size,0,none⟩) 0 0) W10 (by rw [e10]; exact ex_strs0 _ _ rfl _) ?_
        simp only [Act.put,List.setIfInBounds_toArray,List.set_cons_zero,List.set_cons_succ]
        have sc10:PsAt W10 q.P (.slice (some ⟨W9.heap.size,0,none⟩) 0 0) []:=⟨W9.heap.size,0,0,rfl,(by have:=HM9.out.2.1.lt; omega),by omega,fun i t ht=>by simp at ht⟩
        have hn9:=HX.out.n
        refine wpl_call2 rfl 41 (.tmp 63) (.tmp 64) _ rfl ent_exp (.pointer (some ⟨q.P,0,none⟩)) (.slice (some ⟨W9.heap.size,0,none⟩) 0 0) (by rfl) (by rfl) (fun r w'=>EV (fun b=>W10.heap.size≤b) w' r∧AftS q W10 w' i9 bad9) ((exp_any q (q.n - i9+1) i9 bad9 lost9 _ [] W10 (HM9.out.2.1.below b10) (by omega) sc10 (by simp only [List.length_nil]; omega)).mono (fun e w' ⟨v,he,hh⟩=>⟨v,he,hh⟩)) ?_
        rintro v11 W11 ⟨e11,k11,i11,bad11,lost11,hi11,hb11,hs11,h11⟩
        simp only [Act.put,List.setIfInBounds_toArray,List.set_cons_zero,List.set_cons_succ]
        have hz11:=k11.size
        refine wpl_box 9 (.tmp 65) rfl rfl rfl rfl rfl rfl e11 (by rfl) (by rfl) ?_
        intro W12 y12 b12 x12
        simp only [Act.put,List.setIfInBounds_toArray,List.set_cons_zero,List.set_cons_succ]
        refine wpList_nil ?_
        refine hKA _ _ ?_
        clear hKA KA
        have k12:KB (· = q.P) W9 W12:=((KB.of_below b10).trans k11).trans (KB.of_below b12)
        have HM12:=(show Hid (PM q W4 g W12 nv bv ns vs∧ParAt q W12 i11 bad11 lost11∧i≤i11∧(i<i11∨bad11=true)) from ⟨HM9.out.1.on HX.out k12,h11.below b12,Nat.le_trans HM9.out.2.2.1 hi11,st_on HM9.out.2.2.2 hi11 hb11⟩)
        have HE12:=(show Hid (EV (fun b=>g+1≤b∧bv.ownBlock≠some b∧nv.ownBlock≠some b) W12 v11∧W12.heap[W11.heap.size]? = some (.cells (cellsV v11) 52)∧g+1≤W11.heap.size∧q.P<W11.heap.size) from ⟨(e11.below b12).wide (fun b hb _=>by have hb':W10.heap.size≤b:=hb; have:=HM9.out.1.hB; exact ⟨by omega,fun e=>by have:=own_lt HM9.out.1.pg.bodies b e; omega,fun e=>by have:=own_lt HM9.out.1.pg.names b e; omega⟩),x12,by have:=HM9.out.1.hB; omega,by have:=HM9.out.2.1.lt; omega⟩)
        clear k12 e11 hz11 h11 hs11 hb11 hi11 k11 b12 y12 x12 sc10 hn9 z10 b10 e10 HM9
        generalize W11.heap.size=g9 at HE12 ⊢
        go_wp2_with fail
        refine (take_any q W12 i11 bad11 lost11 _ HM12.out.2.1).mono ?_
        rintro r W13 ⟨rfl,k13,i13,bad13,lost13,hi13,hb13,h13⟩
        have HM13:=(show Hid (PM q W4 g W13 nv bv ns vs∧ParAt q W13 i13 bad13 lost13∧i≤i13∧(i<i13∨bad13=true)) from ⟨HM12.out.1.on HX.out k13,h13,Nat.le_trans HM12.out.2.2.1 hi13,st_on HM12.out.2.2.2 hi13 hb13⟩)
        have HE13:=(show Hid (EV (fun b=>g+1≤b∧bv.ownBlock≠some b∧nv.ownBlock≠some b) W13 v11∧W13.heap[g9]? = some (.cells (cellsV v11) 52)∧g+1≤g9) from ⟨HE12.out.1.kb k13 (fun hx=>by have hx':=hx.1; have:=HX.out.pg; omega),k13.heap HE12.out.2.1 (by show ¬ _=_; have:=HE12.out.2.2.2; omega),HE12.out.2.2.1⟩)
        clear k13 hi13 hb13 h13 HM12 HE12
        go_upto_region 13 with fail
        rename_i KA hKA
        obtain ⟨i0,hi0,hz0,hz1,hz2⟩:=info_parts infoStrP
        obtain ⟨y0,-,-⟩:=HM13.out.1.cells
        have X:=HX.out
        refine wp_region_list ?_
        refine wpl_run rfl (.pointer (some ⟨g,0,none⟩)) W13 (by simp [execOp,Act.eval,go_sem]) ?_
        simp only [Act.put,List.setIfInBounds_toArray,List.set_cons_zero,List.set_cons_succ]
        refine wpl_run rfl nv W13 (by simp [execOp,Act.eval,go_sem,y0]) ?_
        simp only [Act.put,List.setIfInBounds_toArray,List.set_cons_zero,List.set_cons_succ]
        refine wpl_run rfl (.string t6) W13 (ex_move _ _ _ _ rfl (by rfl) _) ?_
        simp only [Act.put,List.setIfInBounds_toArray,List.set_cons_zero,List.set_cons_succ]
        obtain ⟨W14,e14⟩:∃ W',W'=W13.alloc (.cells #[.string t6] 9):=⟨_,rfl⟩
        have b14:Below W13.heap.size W13 W14:=by rw [e14]; exact (Below.refl _ _).alloc (Nat.le_refl _) _
        have x14:W14.heap[W13.heap.size]? = some (.cells #[.string t6] 9):=by rw [e14]; exact block_new _ _
        refine wpl_run rfl (.slice (some ⟨W13.heap.size,0,none⟩) 1 1) W14 (by rw [e14]; exact ex_strs1 _ _ (.tmp 70) t6 rfl (by rfl) _) ?_
        simp only [Act.put,List.setIfInBounds_toArray,List.set_cons_zero,List.set_cons_succ]
        clear e14
        have M14:=HM13.out.1.on X (KB.of_below b14)
        have hln:ns.length≤2000:=by have:=HL.out.2.2.1; have:=HL.out.2.1.2.1; have:=X.n; omega
        refine wpList_append_own_at _ rfl (.tmp 69) (.tmp 71) 24 rfl (g+1) 9 i0 _ 1 16 Tryz.underlying24 hi0 hz0 hz1 hz2 rfl (by decide) nv ns.length _ (by rfl) M14.pg.names ⟨W13.heap.size,0,none⟩ 1 1 [.string t6] (by rfl) rfl (fun j u hu=>by
  match j,hu with
  | 0,hu=>simp at hu; subst hu; rw [addr_add,cell_of_block x14]; rfl
  | j+1,hu=>simp at hu) (fun u hu=>by simp at hu; subst hu; rfl) (by unfold maxLen; omega) (by omega) M14.hB ?_
        intro nv2 W15 own15 gr15 nil15 hat15
        simp only [Act.put,List.setIfInBounds_toArray,List.set_cons_zero,List.set_cons_succ]
        obtain ⟨M16,p16,ev16,bx16⟩:=HM13.out.1.name X b14 gr15 own15 HT.out hat15 HM13.out.2.1
        have x15:W15.heap[g]? = some (.cells #[nv,bv] 27):=(gr15.block g (by have:=M14.hB; omega) (fun e=>by have:=(M14.pg.names.lt g e.symm).1; omega)).trans M14.out
        have xf15:=ubk x15 0
        have xc15:=cbk x15 0 nv rfl
        refine wpl_run rfl (.pointer (some ⟨g,0,none⟩)) W15 (by simp [execOp,Act.eval,go_sem]) ?_
        simp only [Act.put,List.setIfInBounds_toArray,List.set_cons_zero,List.set_cons_succ]
        obtain ⟨a2,c2,hv2⟩:=own_form own15
        refine wpl_skip rfl (W15.setCell ⟨g,0,none⟩ nv2) (by subst hv2; simp [execOp,Act.eval,go_sem,xf15,xc15]) ?_
        simp only [Act.put]
        refine wpList_nil ?_
        refine hKA _ _ ?_
        clear hKA KA
        have HM16:=(show Hid (PM q W4 g (W15.setCell ⟨g,0,none⟩ nv2) nv2 bv (ns ++ [t6]) vs∧ParAt q (W15.setCell ⟨g,0,none⟩ nv2) i13 bad13 lost13∧i≤i13∧(i<i13∨bad13=true)) from ⟨M16,p16,HM13.out.2.2.1,HM13.out.2.2.2⟩)
        have HE16:=(show Hid (EV (fun b=>g+1≤b∧bv.ownBlock≠some b∧nv2.ownBlock≠some b) (W15.setCell ⟨g,0,none⟩ nv2) v11∧(W15.setCell ⟨g,0,none⟩ nv2).heap[g9]? = some (.cells (cellsV v11) 52)) from ⟨ev16 v11 HE13.out.1,bx16 g9 _ HE13.out.2.2 HE13.out.2.1⟩)
        clear M16 p16 ev16 bx16 x15 xf15 xc15 hv2 nil15 hat15 own15 gr15 M14 hln x14 b14 y0 hi0 hz0 hz1 hz2 HM13 HE13 X
        generalize W15.setCell ⟨g,0,none⟩ nv2=W16 at HM16 HE16 ⊢
        go_upto_region 14 with fail
        obtain ⟨i0,hi0,hz0,hz1,hz2⟩:=info_parts infoE
        obtain ⟨-,y1,-⟩:=HM16.out.1.cells
        have X:=HX.out
        have ev:=HE16.out.1
        refine wp_region_list ?_
        refine wpl_run rfl (.pointer (some ⟨g,1,none⟩)) W16 (by simp [execOp,Act.eval,go_sem]) ?_
        simp only [Act.put,List.setIfInBounds_toArray,List.set_cons_zero,List.set_cons_succ]
        refine wpl_run rfl bv W16 (by simp [execOp,Act.eval,go_sem,y1]) ?_
        simp only [Act.put,List.setIfInBounds_toArray,List.set_cons_zero,List.set_cons_succ]
        refine wpl_run rfl (.agg (cellsV v11)) W16 (ex_loadE _ _ (.tmp 9) g9 _ _ rfl (by rfl) W16 HE16.out.2 ev.agg.2.1) ?_
        simp only [Act.put,List.setIfInBounds_toArray,List.set_cons_zero,List.set_cons_succ]
        obtain ⟨W17,e17⟩:∃ W',W'=W16.alloc (.cells ⟨[v11].flatMap cellsE⟩ 52):=⟨_,rfl⟩
        have b17:Below W16.heap.size W16 W17:=by rw [e17]; exact (Below.refl _ _).alloc (Nat.le_refl _) _
        have x17:W17.heap[W16.heap.size]? = some (.cells ⟨[v11].flatMap cellsE⟩ 52):=by rw [e17]; exact block_new _ _
        refine wpl_run rfl (.slice (some ⟨W16.heap.size,0,none⟩) 1 1) W17 (by rw [e17]; exact ex_rowE1 _ _ (.tmp 76) rfl ev (ev.aggR (by rfl)) _) ?_
        simp only [Act.put,List.setIfInBounds_toArray,List.set_cons_zero,List.set_cons_succ]
        clear e17
        have M17:=HM16.out.1.on X (KB.of_below b17)
        have hln:vs.length≤2000:=by have:=HL.out.2.2.1; have:=HL.out.2.2.2; have:=HL.out.2.1.2.1; have:=X.n; omega
        have hfl:(cellsE v11).length=4:=by have:=ev.agg.2.1; simpa [cellsE] using this
        refine wpList_append_own_at _ rfl (.tmp 75) (.tmp 77) 25 rfl (g+1) 52 i0 _ 4 56 Tryz.underlying25 hi0 hz0 hz1 hz2 rfl (by decide) bv vs.length _ (by rfl) M17.pg.bodies ⟨W16.heap.size,0,none⟩ 1 1 (cellsE v11) (by rfl) hfl (fun j u hu=>by
  rw [addr_add,cell_of_block x17,Nat.zero_add]
  simpa using hu) (fun u hu=>by have:=ev.agg.2.2.1; rw [Array.all_eq_true_iff_forall_mem] at this; exact this u (by simpa [cellsE] using hu)) (by unfold maxLen; omega) (by omega) M17.hB ?_
        intro bv2 W18 own18 gr18 nil18 hat18
        simp only [Act.put,List.setIfInBounds_toArray,List.set_cons_zero,List.set_cons_succ]
        obtain ⟨M19,p19⟩:=HM16.out.1.body X b17 gr18 own18 ev hat18 HM16.out.2.1
        have x18:W18.heap[g]? = some (.cells #[nv2,bv] 27):=(gr18.block g (by have:=M17.hB; omega) (fun e=>by have:=(M17.pg.bodies.lt g e.symm).1; omega)).trans M17.out
        have xf18:=ubk x18 1
        have xc18:=cbk x18 1 bv rfl
        refine wpl_run rfl (.pointer (some ⟨g,1,none⟩)) W18 (by simp [execOp,Act.eval,go_sem]) ?_
        simp only [Act.put,List.setIfInBounds_toArray,List.set_cons_zero,List.set_cons_succ]
        obtain ⟨a3,c3,hv3⟩:=own_form own18
        refine wpl_skip rfl (W18.setCell ⟨g,1,none⟩ bv2) (by subst hv3; simp [execOp,Act.eval,go_sem,xf18,xc18]) ?_
        simp only [Act.put]
        refine wpList_nil ?_
        have HN:=(show Hid (PM q W4 g (W18.setCell ⟨g,1,none⟩ bv2) nv2 bv2 (ns ++ [t6]) (vs ++ [v11])∧ParAt q (W18.setCell ⟨g,1,none⟩ bv2) i13 bad13 lost13∧(ns ++ [t6]).length≤i13+(if bad13 then 1 else 0)∧(vs ++ [v11]).length=(ns ++ [t6]).length) from ⟨M19,p19,by have h1:=HM16.out.2.2.2; have h2:=HL.out.2.2.1; have h3:=HM16.out.2.2.1; rw [List.length_append]; cases bad13 <;> simp at h1 ⊢ <;> omega,by rw [List.length_append,List.length_append,HL.out.2.2.2]; rfl⟩)
        have HMS:=(show Hid (leftP q (W18.setCell ⟨g,1,none⟩ bv2)<leftP q wr) from leftP_on HL.out.2.1 p19 HM16.out.2.2.2)
        generalize W18.setCell ⟨g,1,none⟩ bv2=W19 at HN HMS
        clear M19 p19 x18 xf18 xc18 hv3 nil18 hat18 own18 gr18 M17 hln hfl x17 b17 y1 hi0 hz0 hz1 hz2 HM16 HE16 ev X
        go_roundw
        case rel=>repeat (first | exact ⟨⟨_,_,_,_,_,_,_,HN⟩,rfl⟩ | apply Exists.intro)
        case measure=>exact HMS.out
     ·have h0':(((ns.length:Nat):Int) == 0)=false:=by simp [h0]
      clear h0
      cases lost with
      | true =>
       have HB:=(show Hid (Below w.heap.size w wr) from HL.out.1.below HX.out)
       have x9:=HL.out.1.box HX.out
       have f0:=ubk x9 0
       have f1:=ubk x9 1
       have d0:=cbk x9 0 (.slice none 0 0) rfl
       have d1:=cbk x9 1 (.slice none 0 0) rfl
       clear x9
       go_wp2
       refine bodyPost_ret (v:=.tuple #[.agg #[.slice none 0 0,.slice none 0 0],.int .i64 1]) (by simp [results,Tryz.results23,go_sem,d0,d1]) rfl ?_
       first | exact ⟨_,_,_,rfl,⟨[],[],PgAt.nil _ _,Nat.zero_le _,rfl⟩,(Below.setCell HB.out (Nat.le_refl _) _).setCell (Nat.le_refl _) _⟩ | exact ⟨_,_,⟨_,rfl⟩,⟨[],[],PgAt.nil _ _,Nat.zero_le _,rfl⟩,(Below.setCell HB.out (Nat.le_refl _) _).setCell (Nat.le_refl _) _⟩
      | false =>
       obtain ⟨d,p,hp,-,-⟩:=HL.out.1.pg.pr (by have:=HL.out.2.2.1; have:=HL.out.2.1.2.1; have:=HX.out.n; unfold maxLen; omega) (by have:=HL.out.2.2.2; have:=HL.out.2.2.1; have:=HL.out.2.1.2.1; have:=HX.out.n; unfold maxLen; omega)
       have HP:=(show Hid (_) from hp)
       clear hp
       go_wp2_with fail
       refine (specProg_any d _ p _ wr HP.out).mono ?_
       rintro e w9 ⟨rfl,b9⟩
       generalize p.ok=ok
       have x9:=(b9.block _ (lh (HL.out.1.box HX.out))).trans (HL.out.1.box HX.out)
       have f0:=ubk x9 0
       have f1:=ubk x9 1
       have d0:=cbk x9 0 (.slice none 0 0) rfl
       have d1:=cbk x9 1 (.slice none 0 0) rfl
       clear x9
       have HB:=(show Hid (Below w.heap.size w w9∧PM q W4 g w9 (.slice an ns.length cn) (.slice ab vs.length cb) ns vs) from ⟨(HL.out.1.below HX.out).trans (b9.mono (HL.out.1.below HX.out).size),HL.out.1.on HX.out (KB.of_below b9)⟩)
       obtain ⟨y2,y3,-⟩:=HB.out.2.cells
       clear b9 y0 y1
       have hnot:=ex_not
       cases ok with
       | false =>
        go_wp2
        refine bodyPost_ret (v:=.tuple #[.agg #[.slice none 0 0,.slice none 0 0],.int .i64 1]) (by simp [results,Tryz.results23,go_sem,d0,d1]) rfl ?_
        first | exact ⟨_,_,_,rfl,⟨[],[],PgAt.nil _ _,Nat.zero_le _,rfl⟩,(Below.setCell HB.out.1 (Nat.le_refl _) _).setCell (Nat.le_refl _) _⟩ | exact ⟨_,_,⟨_,rfl⟩,⟨[],[],PgAt.nil _ _,Nat.zero_le _,rfl⟩,(Below.setCell HB.out.1 (Nat.le_refl _) _).setCell (Nat.le_refl _) _⟩
       | true =>
        go_wp2
        refine bodyPost_ret (v:=.tuple #[.agg #[.slice an ns.length cn,.slice ab vs.length cb],.int .i64 0]) (by simp [results,Tryz.results23,go_sem,d0,d1]) rfl ?_
        have hk:∀ b,g+1≤b→b<w9.heap.size→((w9.setCell ⟨w.heap.size,0,none⟩ (.slice an ns.length cn)).setCell ⟨w.heap.size,1,none⟩ (.slice ab vs.length cb)).heap[b]? = w9.heap[b]? := fun b hb _=>by have h1:=HX.out.wp; have h2:=HX.out.pg; exact (Below.heap_setCell _ _ _ b (by show b≠w.heap.size; omega)).trans (Below.heap_setCell _ _ _ b (by show b≠w.heap.size; omega))
        exact ⟨_,_,_,rfl,⟨ns,vs,(HB.out.2.pg.kb hk (by simp)).mono (by have h1:=HX.out.wp; have h2:=HX.out.pg; omega),by have:=HL.out.2.2.1; have:=HL.out.2.1.2.1; have:=HX.out.n; omega,HL.out.2.2.2⟩,(HB.out.1.setCell (Nat.le_refl _) _).setCell (Nat.le_refl _) _⟩
 ·have hz:(line != 0)=true:=by simp [hline]
  have f0:=ubk x2 0
  have f1:=ubk x2 1
  have c0:=cbk x2 0 (.slice none 0 0) rfl
  have c1:=cbk x2 1 (.slice none 0 0) rfl
  have HB:=(show Hid (_∧True) from ⟨b02,trivial⟩)
  clear own2 hgd b2 b02 x2 H1
  go_wp2
  refine bodyPost_ret (v:=.tuple #[.agg #[.slice none 0 0,.slice none 0 0],.int .i64 line]) (by simp [results,Tryz.results23,go_sem,c0,c1]) rfl ?_
  exact ⟨_,_,_,rfl,⟨[],[],PgAt.nil _ _,Nat.zero_le _,rfl⟩,(HB.out.1.setCell (Nat.le_refl _) _).setCell (Nat.le_refl _) _⟩
end Go.Proofs.YtljdgmfcgkimoaaGreatDoor
