/-
  Proofs.
-/
import Derived.Test.YtljdgmfcgkimoaaGreatDoorDrawExp
namespace Go.Proofs.YtljdgmfcgkimoaaGreatDoor
open Go.RowKit Go.Joins
set_option maxRecDepth 100000
theorem Dr.other {B:Nat} {w w':World} {g:Nat} {V:Value} {len:Nat} {row:Option Nat} (h:Dr B w g V len) (hg:w.grownBy w' row) (hne:∀ k,row=some k→B≤k∧k≠g):Dr B w' g V len:=by
 refine ⟨h.1.kept (fun k hk=>hg.block k (Nat.lt_of_lt_of_le hk h.2.2) (fun e=>by have:=(hne k e.symm).1; omega)),?_,Nat.le_trans h.2.2 hg.size⟩
 obtain ⟨h0,i,hh,h1,h2,h3⟩:=h.2.1
 exact ⟨h0,i,hh,h1,h2,(hg.block g (Array.getElem?_eq_some_iff.1 h3).1 (fun e=>(hne g e.symm).2 rfl)).trans h3⟩
def NRow (b0:Nat) (w:World) (v:Value) (n:Nat):Prop:=v ≠ .slice none 0 0∧n≤10∧∃ ts:List ByteArray,ts.length=n∧(∀ t ∈ ts,t.size≤32)∧w.ownsRow b0 9 1 v n (ts.map Value.string)
theorem NRow.kept {b0:Nat} {w w':World} {v:Value} {n g:Nat} (h:NRow b0 w v n) (hg:w.grownBy w' (some g)) (hlt:g<b0):NRow b0 w' v n:=by
 obtain ⟨h0,h1,ts,h2,h3,h4⟩:=h
 exact ⟨h0,h1,ts,h2,h3,h4.kept hg (.inr (fun e=>by have:=(h4.lt g e).1; omega))⟩
theorem NRow.lt {b0:Nat} {w:World} {v:Value} {n:Nat} (h:NRow b0 w v n):∀ k,v.ownBlock=some k→b0≤k:=by
 obtain ⟨_,_,ts,_,_,h4⟩:=h
 exact fun k hk=>(h4.lt k hk).1
theorem NRow.texts {b0:Nat} {w:World} {v:Value} {n g:Nat} (h:NRow b0 w v n) (hlt:g<b0):TextsIs w v n 32 g:=by
 obtain ⟨h0,h1,ts,h2,h3,h4⟩:=h
 by_cases hn:0<n
 ·exact TextsIs.of_row h4 hn (by omega) h2 h3 hlt
 ·rcases h4.2 with ⟨e,_⟩ | ⟨b,cap,cur,hv,hb,hgg,_⟩
  ·exact absurd e h0
  ·exact ⟨b,cap,ts,hv,h2,by omega,(Array.getElem?_eq_some_iff.1 hgg).1,by omega,h3,fun j t hj=>by have:=(List.getElem?_eq_some_iff.1 hj).1; omega⟩
theorem nrow_start (w:World):NRow w.heap.size (w.alloc (.cells #[] 9)) (.slice (some ⟨w.heap.size,0,none⟩) 0 0) 0 :=
 ⟨by simp,by decide,[],rfl,by simp,World.ownsRow_made (size:=1) w #[] 0 (Nat.le_refl _) (Nat.zero_le _) (by simp)⟩
theorem NRow.own {b0:Nat} {w:World} {v:Value} {n:Nat} (h:NRow b0 w v n):∃ ts:List ByteArray,ts.length=n∧(∀ t ∈ ts,t.size≤32)∧w.ownsRow b0 9 1 v n (ts.map Value.string):=h.2.2
theorem NRow.more {b0:Nat} {w w':World} {v v':Value} {n:Nat} {ts:List ByteArray} {c:ByteArray} (_h:NRow b0 w v n) (hn:n≤8) (hts:ts.length=n) (h3:∀ t ∈ ts,t.size≤32) (hc:c.size≤32) (hown:w'.ownsRow b0 9 1 v' (n+1) (ts.map Value.string ++ [.string c])) (hnil:v' = .slice none 0 0↔v = .slice none 0 0∧(1:Nat)=0):NRow b0 w' v' (n+1) :=
 ⟨fun e=>absurd (hnil.1 e).2 (by decide),by omega,ts ++ [c],by simp [hts],fun t ht=>(List.mem_append.1 ht).elim (h3 t) (fun e=>by rw [List.mem_singleton.1 e]; exact hc),by rw [List.map_append]; exact hown⟩
set_option maxHeartbeats 25600000 in
theorem program_dr (B g:Nat) (V:Value) (len:Nat) (w:World) (h:Dr B w g V len) :
  Calls Tryz.prog 24 #[.pointer (some ⟨g,0,none⟩)] w fun e w'=>∃ t:ByteArray,e = .returned (.string t)∧t.size≤30000∧Dr B w' g V len∧w.grownBy w' (some g):=by
 obtain ⟨i0,hi,hz0,hz1,hz2⟩:=info_parts infoStrD
 have HLT:Hid (g<w.heap.size):=h.2.1.lt
 have R0:=nrow_start w
 have hBw:=h.2.2
 have h0:=h.alloc (.cells #[] 9)
 have G0:=World.grownBy_alloc w (.cells #[] 9) (some g)
 clear h
 go_enter Tryz.func24,Tryz.ntmps24
 go_wp2_with fail
 refine (once_dr B g V len _ _ (by omega) (by omega) h0).mono ?_
 rintro e w1 ⟨x,rfl,h1,g1⟩
 have G1:=G0.trans g1
 have R1:=R0.kept g1 HLT.out
 clear g1 G0 R0 h0
 cases x
 ·go_wp2_with fail
  refine (once_dr B g V len _ _ (by omega) (by omega) h1).mono ?_
  rintro e w2 ⟨x,rfl,h2,g2⟩
  have G2:=G1.trans g2
  have R2:=R1.kept g2 HLT.out
  clear g2 G1 R1 h1
  cases x
  ·go_wp2_with fail
   refine (once_dr B g V len _ _ (by omega) (by omega) h2).mono ?_
   rintro e w3 ⟨x,rfl,h3,g3⟩
   have G3:=G2.trans g3
   have R3:=R2.kept g3 HLT.out
   clear g3 G2 R2 h2
   cases x
   ·go_wp2_with fail
    refine (once_dr B g V len _ _ (by omega) (by omega) h3).mono ?_
    rintro e w4 ⟨x,rfl,h4,g4⟩
    have G4:=G3.trans g4
    have R4:=R3.kept g4 HLT.out
    clear g4 G3 R3 h3
    cases x
    ·go_wp2_with fail
     refine (below_dr B g V len _ _ (by omega) (by omega) h4).mono ?_
     rintro e wz ⟨x,rfl,x0,x1,hz,gz⟩
     have Rz:=R4.kept gz HLT.out
     go_wp2_with fail
     refine (exp_dr 4 (by decide) B g V len (.slice (some ⟨w.heap.size,0,none⟩) 0 0) 0 _ _ (by omega) (by omega) (by omega) (Rz.texts HLT.out) hz).mono ?_
     rintro e wy ⟨t,rfl,ht,hy,gy⟩
     have ht2:t.size≤20000:=Nat.le_trans ht (EB_le 4 (by decide))
     clear ht
     go_wp2
     go_ret
     exact ⟨_,rfl,by simp [ByteArray.size_append,sz]; omega,hy,G4.trans (gz.trans gy)⟩
    ·obtain ⟨ts,hts,hL,hrow⟩:=R4.own
     have hnb:=R4.lt
     have hs4:=h4.2.2
     have hbz4:=G4.size
     go_wp2_with (at_builtin; refine wpList_append_own _ rfl _ _ 24 rfl w.heap.size 9 i0 (.string ⟨#[]⟩) 1 16 Tryz.underlying24 hi hz0 hz1 hz2 rfl (by decide) _ _ _ rfl (hrow.alloc _) ⟨w4.heap.size,0,none⟩ 1 1 [.string ⟨#[40,104,101,97,100,32,111,110,101,115,41]⟩] rfl rfl (cell_one_new _ _ _) (texts_oneCell [⟨#[40,104,101,97,100,32,111,110,101,115,41]⟩]) (by unfold maxLen; omega) (by omega) (by simp; omega) ?_; intro v104 w104 ah ag an)
     have R104:=R4.more (c:=⟨#[40,104,101,97,100,32,111,110,101,115,41]⟩) (by omega) hts hL (by decide) ah an
     have h104:=(h4.alloc _).other ag (fun k hk=>⟨by have:=hnb k hk; omega,by have:=hnb k hk; have:=HLT.out; omega⟩)
     have G104:=(G4.trans (World.grownBy_alloc w4 _ _)).andThen ag (fun j hj => .inl (by have:=hnb j hj; omega))
     clear ah ag an hrow hL hts hnb R4 G4 h4
     refine (below_dr B g V len _ _ (by omega) (by omega) h104).mono ?_
     rintro e wz ⟨x,rfl,x0,x1,hz,gz⟩
     have Rz:=R104.kept gz HLT.out
     go_wp2_with fail
     refine (exp_dr 4 (by decide) B g V len v104 (0+1) _ _ (by omega) (by omega) (by omega) (Rz.texts HLT.out) hz).mono ?_
     rintro e wy ⟨t,rfl,ht,hy,gy⟩
     have ht2:t.size≤20000:=Nat.le_trans ht (EB_le 4 (by decide))
     clear ht
     go_wp2
     go_ret
     exact ⟨_,rfl,by simp [ByteArray.size_append,sz]; omega,hy,G104.trans (gz.trans gy)⟩
   ·obtain ⟨ts,hts,hL,hrow⟩:=R3.own
    have hnb:=R3.lt
    have hs3:=h3.2.2
    have hbz3:=G3.size
    go_wp2_with (at_builtin; refine wpList_append_own _ rfl _ _ 24 rfl w.heap.size 9 i0 (.string ⟨#[]⟩) 1 16 Tryz.underlying24 hi hz0 hz1 hz2 rfl (by decide) _ _ _ rfl (hrow.alloc _) ⟨w3.heap.size,0,none⟩ 1 1 [.string ⟨#[40,109,97,112,32,105,110,99,32,40,52,32,58,32,53,32,58,32,54,32,58,32,91,93,41,41]⟩] rfl rfl (cell_one_new _ _ _) (texts_oneCell [⟨#[40,109,97,112,32,105,110,99,32,40,52,32,58,32,53,32,58,32,54,32,58,32,91,93,41,41]⟩]) (by unfold maxLen; omega) (by omega) (by simp; omega) ?_; intro v103 w103 ah ag an)
    have R103:=R3.more (c:=⟨#[40,109,97,112,32,105,110,99,32,40,52,32,58,32,53,32,58,32,54,32,58,32,91,93,41,41]⟩) (by omega) hts hL (by decide) ah an
    have h103:=(h3.alloc _).other ag (fun k hk=>⟨by have:=hnb k hk; omega,by have:=hnb k hk; have:=HLT.out; omega⟩)
    have G103:=(G3.trans (World.grownBy_alloc w3 _ _)).andThen ag (fun j hj => .inl (by have:=hnb j hj; omega))
    clear ah ag an hrow hL hts hnb R3 G3 h3
    refine (once_dr B g V len _ _ (by omega) (by omega) h103).mono ?_
    rintro e w4 ⟨x,rfl,h4,g4⟩
    have G4:=G103.trans g4
    have R4:=R103.kept g4 HLT.out
    clear g4 G103 R103 h103
    cases x
    ·go_wp2_with fail
     refine (below_dr B g V len _ _ (by omega) (by omega) h4).mono ?_
     rintro e wz ⟨x,rfl,x0,x1,hz,gz⟩
     have Rz:=R4.kept gz HLT.out
     go_wp2_with fail
     refine (exp_dr 4 (by decide) B g V len v103 (0+1) _ _ (by omega) (by omega) (by omega) (Rz.texts HLT.out) hz).mono ?_
     rintro e wy ⟨t,rfl,ht,hy,gy⟩
     have ht2:t.size≤20000:=Nat.le_trans ht (EB_le 4 (by decide))
     clear ht
     go_wp2
     go_ret
     exact ⟨_,rfl,by simp [ByteArray.size_append,sz]; omega,hy,G4.trans (gz.trans gy)⟩
    ·obtain ⟨ts,hts,hL,hrow⟩:=R4.own
     have hnb:=R4.lt
     have hs4:=h4.2.2
     have hbz4:=G4.size
     go_wp2_with (at_builtin; refine wpList_append_own _ rfl _ _ 24 rfl w.heap.size 9 i0 (.string ⟨#[]⟩) 1 16 Tryz.underlying24 hi hz0 hz1 hz2 rfl (by decide) _ _ _ rfl (hrow.alloc _) ⟨w4.heap.size,0,none⟩ 1 1 [.string ⟨#[40,104,101,97,100,32,111,110,101,115,41]⟩] rfl rfl (cell_one_new _ _ _) (texts_oneCell [⟨#[40,104,101,97,100,32,111,110,101,115,41]⟩]) (by unfold maxLen; omega) (by omega) (by simp; omega) ?_; intro v104 w104 ah ag an)
     have R104:=R4.more (c:=⟨#[40,104,101,97,100,32,111,110,101,115,41]⟩) (by omega) hts hL (by decide) ah an
     have h104:=(h4.alloc _).other ag (fun k hk=>⟨by have:=hnb k hk; omega,by have:=hnb k hk; have:=HLT.out; omega⟩)
     have G104:=(G4.trans (World.grownBy_alloc w4 _ _)).andThen ag (fun j hj => .inl (by have:=hnb j hj; omega))
     clear ah ag an hrow hL hts hnb R4 G4 h4
     refine (below_dr B g V len _ _ (by omega) (by omega) h104).mono ?_
     rintro e wz ⟨x,rfl,x0,x1,hz,gz⟩
     have Rz:=R104.kept gz HLT.out
     go_wp2_with fail
     refine (exp_dr 4 (by decide) B g V len v104 ((0+1)+1) _ _ (by omega) (by omega) (by omega) (Rz.texts HLT.out) hz).mono ?_
     rintro e wy ⟨t,rfl,ht,hy,gy⟩
     have ht2:t.size≤20000:=Nat.le_trans ht (EB_le 4 (by decide))
     clear ht
     go_wp2
     go_ret
     exact ⟨_,rfl,by simp [ByteArray.size_append,sz]; omega,hy,G104.trans (gz.trans gy)⟩
  ·obtain ⟨ts,hts,hL,hrow⟩:=R2.own
   have hnb:=R2.lt
   have hs2:=h2.2.2
   have hbz2:=G2.size
   go_wp2_with (at_builtin; refine wpList_append_own _ rfl _ _ 24 rfl w.heap.size 9 i0 (.string ⟨#[]⟩) 1 16 Tryz.underlying24 hi hz0 hz1 hz2 rfl (by decide) _ _ _ rfl (hrow.alloc _) ⟨w2.heap.size,0,none⟩ 1 1 [.string ⟨#[40,115,117,109,32,40,49,32,58,32,50,32,58,32,91,93,41,41]⟩] rfl rfl (cell_one_new _ _ _) (texts_oneCell [⟨#[40,115,117,109,32,40,49,32,58,32,50,32,58,32,91,93,41,41]⟩]) (by unfold maxLen; omega) (by omega) (by simp; omega) ?_; intro v102 w102 ah ag an)
   have R102:=R2.more (c:=⟨#[40,115,117,109,32,40,49,32,58,32,50,32,58,32,91,93,41,41]⟩) (by omega) hts hL (by decide) ah an
   have h102:=(h2.alloc _).other ag (fun k hk=>⟨by have:=hnb k hk; omega,by have:=hnb k hk; have:=HLT.out; omega⟩)
   have G102:=(G2.trans (World.grownBy_alloc w2 _ _)).andThen ag (fun j hj => .inl (by have:=hnb j hj; omega))
   clear ah ag an hrow hL hts hnb R2 G2 h2
   refine (once_dr B g V len _ _ (by omega) (by omega) h102).mono ?_
   rintro e w3 ⟨x,rfl,h3,g3⟩
   have G3:=G102.trans g3
   have R3:=R102.kept g3 HLT.out
   clear g3 G102 R102 h102
   cases x
   ·go_wp2_with fail
    refine (once_dr B g V len _ _ (by omega) (by omega) h3).mono ?_
    rintro e w4 ⟨x,rfl,h4,g4⟩
    have G4:=G3.trans g4
    have R4:=R3.kept g4 HLT.out
    clear g4 G3 R3 h3
    cases x
    ·go_wp2_with fail
     refine (below_dr B g V len _ _ (by omega) (by omega) h4).mono ?_
     rintro e wz ⟨x,rfl,x0,x1,hz,gz⟩
     have Rz:=R4.kept gz HLT.out
     go_wp2_with fail
     refine (exp_dr 4 (by decide) B g V len v102 (0+1) _ _ (by omega) (by omega) (by omega) (Rz.texts HLT.out) hz).mono ?_
     rintro e wy ⟨t,rfl,ht,hy,gy⟩
     have ht2:t.size≤20000:=Nat.le_trans ht (EB_le 4 (by decide))
     clear ht
     go_wp2
     go_ret
     exact ⟨_,rfl,by simp [ByteArray.size_append,sz]; omega,hy,G4.trans (gz.trans gy)⟩
    ·obtain ⟨ts,hts,hL,hrow⟩:=R4.own
     have hnb:=R4.lt
     have hs4:=h4.2.2
     have hbz4:=G4.size
     go_wp2_with (at_builtin; refine wpList_append_own _ rfl _ _ 24 rfl w.heap.size 9 i0 (.string ⟨#[]⟩) 1 16 Tryz.underlying24 hi hz0 hz1 hz2 rfl (by decide) _ _ _ rfl (hrow.alloc _) ⟨w4.heap.size,0,none⟩ 1 1 [.string ⟨#[40,104,101,97,100,32,111,110,101,115,41]⟩] rfl rfl (cell_one_new _ _ _) (texts_oneCell [⟨#[40,104,101,97,100,32,111,110,101,115,41]⟩]) (by unfold maxLen; omega) (by omega) (by simp; omega) ?_; intro v104 w104 ah ag an)
     have R104:=R4.more (c:=⟨#[40,104,101,97,100,32,111,110,101,115,41]⟩) (by omega) hts hL (by decide) ah an
     have h104:=(h4.alloc _).other ag (fun k hk=>⟨by have:=hnb k hk; omega,by have:=hnb k hk; have:=HLT.out; omega⟩)
     have G104:=(G4.trans (World.grownBy_alloc w4 _ _)).andThen ag (fun j hj => .inl (by have:=hnb j hj; omega))
     clear ah ag an hrow hL hts hnb R4 G4 h4
     refine (below_dr B g V len _ _ (by omega) (by omega) h104).mono ?_
     rintro e wz ⟨x,rfl,x0,x1,hz,gz⟩
     have Rz:=R104.kept gz HLT.out
     go_wp2_with fail
     refine (exp_dr 4 (by decide) B g V len v104 ((0+1)+1) _ _ (by omega) (by omega) (by omega) (Rz.texts HLT.out) hz).mono ?_
     rintro e wy ⟨t,rfl,ht,hy,gy⟩
     have ht2:t.size≤20000:=Nat.le_trans ht (EB_le 4 (by decide))
     clear ht
     go_wp2
     go_ret
     exact ⟨_,rfl,by simp [ByteArray.size_append,sz]; omega,hy,G104.trans (gz.trans gy)⟩
   ·obtain ⟨ts,hts,hL,hrow⟩:=R3.own
    have hnb:=R3.lt
    have hs3:=h3.2.2
    have hbz3:=G3.size
    go_wp2_with (at_builtin; refine wpList_append_own _ rfl _ _ 24 rfl w.heap.size 9 i0 (.string ⟨#[]⟩) 1 16 Tryz.underlying24 hi hz0 hz1 hz2 rfl (by decide) _ _ _ rfl (hrow.alloc _) ⟨w3.heap.size,0,none⟩ 1 1 [.string ⟨#[40,109,97,112,32,105,110,99,32,40,52,32,58,32,53,32,58,32,54,32,58,32,91,93,41,41]⟩] rfl rfl (cell_one_new _ _ _) (texts_oneCell [⟨#[40,109,97,112,32,105,110,99,32,40,52,32,58,32,53,32,58,32,54,32,58,32,91,93,41,41]⟩]) (by unfold maxLen; omega) (by omega) (by simp; omega) ?_; intro v103 w103 ah ag an)
    have R103:=R3.more (c:=⟨#[40,109,97,112,32,105,110,99,32,40,52,32,58,32,53,32,58,32,54,32,58,32,91,93,41,41]⟩) (by omega) hts hL (by decide) ah an
    have h103:=(h3.alloc _).other ag (fun k hk=>⟨by have:=hnb k hk; omega,by have:=hnb k hk; have:=HLT.out; omega⟩)
    have G103:=(G3.trans (World.grownBy_alloc w3 _ _)).andThen ag (fun j hj => .inl (by have:=hnb j hj; omega))
    clear ah ag an hrow hL hts hnb R3 G3 h3
    refine (once_dr B g V len _ _ (by omega) (by omega) h103).mono ?_
    rintro e w4 ⟨x,rfl,h4,g4⟩
    have G4:=G103.trans g4
    have R4:=R103.kept g4 HLT.out
    clear g4 G103 R103 h103
    cases x
    ·go_wp2_with fail
     refine (below_dr B g V len _ _ (by omega) (by omega) h4).mono ?_
     rintro e wz ⟨x,rfl,x0,x1,hz,gz⟩
     have Rz:=R4.kept gz HLT.out
     go_wp2_with fail
     refine (exp_dr 4 (by decide) B g V len v103 ((0+1)+1) _ _ (by omega) (by omega) (by omega) (Rz.texts HLT.out) hz).mono ?_
     rintro e wy ⟨t,rfl,ht,hy,gy⟩
     have ht2:t.size≤20000:=Nat.le_trans ht (EB_le 4 (by decide))
     clear ht
     go_wp2
     go_ret
     exact ⟨_,rfl,by simp [ByteArray.size_append,sz]; omega,hy,G4.trans (gz.trans gy)⟩
    ·obtain ⟨ts,hts,hL,hrow⟩:=R4.own
     have hnb:=R4.lt
     have hs4:=h4.2.2
     have hbz4:=G4.size
     go_wp2_with (at_builtin; refine wpList_append_own _ rfl _ _ 24 rfl w.heap.size 9 i0 (.string ⟨#[]⟩) 1 16 Tryz.underlying24 hi hz0 hz1 hz2 rfl (by decide) _ _ _ rfl (hrow.alloc _) ⟨w4.heap.size,0,none⟩ 1 1 [.string ⟨#[40,104,101,97,100,32,111,110,101,115,41]⟩] rfl rfl (cell_one_new _ _ _) (texts_oneCell [⟨#[40,104,101,97,100,32,111,110,101,115,41]⟩]) (by unfold maxLen; omega) (by omega) (by simp; omega) ?_; intro v104 w104 ah ag an)
     have R104:=R4.more (c:=⟨#[40,104,101,97,100,32,111,110,101,115,41]⟩) (by omega) hts hL (by decide) ah an
     have h104:=(h4.alloc _).other ag (fun k hk=>⟨by have:=hnb k hk; omega,by have:=hnb k hk; have:=HLT.out; omega⟩)
     have G104:=(G4.trans (World.grownBy_alloc w4 _ _)).andThen ag (fun j hj => .inl (by have:=hnb j hj; omega))
     clear ah ag an hrow hL hts hnb R4 G4 h4
     refine (below_dr B g V len _ _ (by omega) (by omega) h104).mono ?_
     rintro e wz ⟨x,rfl,x0,x1,hz,gz⟩
     have Rz:=R104.kept gz HLT.out
     go_wp2_with fail
     refine (exp_dr 4 (by decide) B g V len v104 (((0+1)+1)+1) _ _ (by omega) (by omega) (by omega) (Rz.texts HLT.out) hz).mono ?_
     rintro e wy ⟨t,rfl,ht,hy,gy⟩
     have ht2:t.size≤20000:=Nat.le_trans ht (EB_le 4 (by decide))
     clear ht
     go_wp2
     go_ret
     exact ⟨_,rfl,by simp [ByteArray.size_append,sz]; omega,hy,G104.trans (gz.trans gy)⟩
 ·obtain ⟨ts,hts,hL,hrow⟩:=R1.own
  have hnb:=R1.lt
  have hs1:=h1.2.2
  have hbz1:=G1.size
  go_wp2_with (at_builtin; refine wpList_append_own _ rfl _ _ 24 rfl w.heap.size 9 i0 (.string ⟨#[]⟩) 1 16 Tryz.underlying24 hi hz0 hz1 hz2 rfl (by decide) _ _ _ rfl (hrow.alloc _) ⟨w1.heap.size,0,none⟩ 1 1 [.string ⟨#[40,117,112,32,49,32,51,41]⟩] rfl rfl (cell_one_new _ _ _) (texts_oneCell [⟨#[40,117,112,32,49,32,51,41]⟩]) (by unfold maxLen; omega) (by omega) (by simp; omega) ?_; intro v101 w101 ah ag an)
  have R101:=R1.more (c:=⟨#[40,117,112,32,49,32,51,41]⟩) (by omega) hts hL (by decide) ah an
  have h101:=(h1.alloc _).other ag (fun k hk=>⟨by have:=hnb k hk; omega,by have:=hnb k hk; have:=HLT.out; omega⟩)
  have G101:=(G1.trans (World.grownBy_alloc w1 _ _)).andThen ag (fun j hj => .inl (by have:=hnb j hj; omega))
  clear ah ag an hrow hL hts hnb R1 G1 h1
  refine (once_dr B g V len _ _ (by omega) (by omega) h101).mono ?_
  rintro e w2 ⟨x,rfl,h2,g2⟩
  have G2:=G101.trans g2
  have R2:=R101.kept g2 HLT.out
  clear g2 G101 R101 h101
  cases x
  ·go_wp2_with fail
   refine (once_dr B g V len _ _ (by omega) (by omega) h2).mono ?_
   rintro e w3 ⟨x,rfl,h3,g3⟩
   have G3:=G2.trans g3
   have R3:=R2.kept g3 HLT.out
   clear g3 G2 R2 h2
   cases x
   ·go_wp2_with fail
    refine (once_dr B g V len _ _ (by omega) (by omega) h3).mono ?_
    rintro e w4 ⟨x,rfl,h4,g4⟩
    have G4:=G3.trans g4
    have R4:=R3.kept g4 HLT.out
    clear g4 G3 R3 h3
    cases x
    ·go_wp2_with fail
     refine (below_dr B g V len _ _ (by omega) (by omega) h4).mono ?_
     rintro e wz ⟨x,rfl,x0,x1,hz,gz⟩
     have Rz:=R4.kept gz HLT.out
     go_wp2_with fail
     refine (exp_dr 4 (by decide) B g V len v101 (0+1) _ _ (by omega) (by omega) (by omega) (Rz.texts HLT.out) hz).mono ?_
     rintro e wy ⟨t,rfl,ht,hy,gy⟩
     have ht2:t.size≤20000:=Nat.le_trans ht (EB_le 4 (by decide))
     clear ht
     go_wp2
     go_ret
     exact ⟨_,rfl,by simp [ByteArray.size_append,sz]; omega,hy,G4.trans (gz.trans gy)⟩
    ·obtain ⟨ts,hts,hL,hrow⟩:=R4.own
     have hnb:=R4.lt
     have hs4:=h4.2.2
     have hbz4:=G4.size
     go_wp2_with (at_builtin; refine wpList_append_own _ rfl _ _ 24 rfl w.heap.size 9 i0 (.string ⟨#[]⟩) 1 16 Tryz.underlying24 hi hz0 hz1 hz2 rfl (by decide) _ _ _ rfl (hrow.alloc _) ⟨w4.heap.size,0,none⟩ 1 1 [.string ⟨#[40,104,101,97,100,32,111,110,101,115,41]⟩] rfl rfl (cell_one_new _ _ _) (texts_oneCell [⟨#[40,104,101,97,100,32,111,110,101,115,41]⟩]) (by unfold maxLen; omega) (by omega) (by simp; omega) ?_; intro v104 w104 ah ag an)
     have R104:=R4.more (c:=⟨#[40,104,101,97,100,32,111,110,101,115,41]⟩) (by omega) hts hL (by decide) ah an
     have h104:=(h4.alloc _).other ag (fun k hk=>⟨by have:=hnb k hk; omega,by have:=hnb k hk; have:=HLT.out; omega⟩)
     have G104:=(G4.trans (World.grownBy_alloc w4 _ _)).andThen ag (fun j hj => .inl (by have:=hnb j hj; omega))
     clear ah ag an hrow hL hts hnb R4 G4 h4
     refine (below_dr B g V len _ _ (by omega) (by omega) h104).mono ?_
     rintro e wz ⟨x,rfl,x0,x1,hz,gz⟩
     have Rz:=R104.kept gz HLT.out
     go_wp2_with fail
     refine (exp_dr 4 (by decide) B g V len v104 ((0+1)+1) _ _ (by omega) (by omega) (by omega) (Rz.texts HLT.out) hz).mono ?_
     rintro e wy ⟨t,rfl,ht,hy,gy⟩
     have ht2:t.size≤20000:=Nat.le_trans ht (EB_le 4 (by decide))
     clear ht
     go_wp2
     go_ret
     exact ⟨_,rfl,by simp [ByteArray.size_append,sz]; omega,hy,G104.trans (gz.trans gy)⟩
   ·obtain ⟨ts,hts,hL,hrow⟩:=R3.own
    have hnb:=R3.lt
    have hs3:=h3.2.2
    have hbz3:=G3.size
    go_wp2_with (at_builtin; refine wpList_append_own _ rfl _ _ 24 rfl w.heap.size 9 i0 (.string ⟨#[]⟩) 1 16 Tryz.underlying24 hi hz0 hz1 hz2 rfl (by decide) _ _ _ rfl (hrow.alloc _) ⟨w3.heap.size,0,none⟩ 1 1 [.string ⟨#[40,109,97,112,32,105,110,99,32,40,52,32,58,32,53,32,58,32,54,32,58,32,91,93,41,41]⟩] rfl rfl (cell_one_new _ _ _) (texts_oneCell [⟨#[40,109,97,112,32,105,110,99,32,40,52,32,58,32,53,32,58,32,54,32,58,32,91,93,41,41]⟩]) (by unfold maxLen; omega) (by omega) (by simp; omega) ?_; intro v103 w103 ah ag an)
    have R103:=R3.more (c:=⟨#[40,109,97,112,32,105,110,99,32,40,52,32,58,32,53,32,58,32,54,32,58,32,91,93,41,41]⟩) (by omega) hts hL (by decide) ah an
    have h103:=(h3.alloc _).other ag (fun k hk=>⟨by have:=hnb k hk; omega,by have:=hnb k hk; have:=HLT.out; omega⟩)
    have G103:=(G3.trans (World.grownBy_alloc w3 _ _)).andThen ag (fun j hj => .inl (by have:=hnb j hj; omega))
    clear ah ag an hrow hL hts hnb R3 G3 h3
    refine (once_dr B g V len _ _ (by omega) (by omega) h103).mono ?_
    rintro e w4 ⟨x,rfl,h4,g4⟩
    have G4:=G103.trans g4
    have R4:=R103.kept g4 HLT.out
    clear g4 G103 R103 h103
    cases x
    ·go_wp2_with fail
     refine (below_dr B g V len _ _ (by omega) (by omega) h4).mono ?_
     rintro e wz ⟨x,rfl,x0,x1,hz,gz⟩
     have Rz:=R4.kept gz HLT.out
     go_wp2_with fail
     refine (exp_dr 4 (by decide) B g V len v103 ((0+1)+1) _ _ (by omega) (by omega) (by omega) (Rz.texts HLT.out) hz).mono ?_
     rintro e wy ⟨t,rfl,ht,hy,gy⟩
     have ht2:t.size≤20000:=Nat.le_trans ht (EB_le 4 (by decide))
     clear ht
     go_wp2
     go_ret
     exact ⟨_,rfl,by simp [ByteArray.size_append,sz]; omega,hy,G4.trans (gz.trans gy)⟩
    ·obtain ⟨ts,hts,hL,hrow⟩:=R4.own
     have hnb:=R4.lt
     have hs4:=h4.2.2
     have hbz4:=G4.size
     go_wp2_with (at_builtin; refine wpList_append_own _ rfl _ _ 24 rfl w.heap.size 9 i0 (.string ⟨#[]⟩) 1 16 Tryz.underlying24 hi hz0 hz1 hz2 rfl (by decide) _ _ _ rfl (hrow.alloc _) ⟨w4.heap.size,0,none⟩ 1 1 [.string ⟨#[40,104,101,97,100,32,111,110,101,115,41]⟩] rfl rfl (cell_one_new _ _ _) (texts_oneCell [⟨#[40,104,101,97,100,32,111,110,101,115,41]⟩]) (by unfold maxLen; omega) (by omega) (by simp; omega) ?_; intro v104 w104 ah ag an)
     have R104:=R4.more (c:=⟨#[40,104,101,97,100,32,111,110,101,115,41]⟩) (by omega) hts hL (by decide) ah an
     have h104:=(h4.alloc _).other ag (fun k hk=>⟨by have:=hnb k hk; omega,by have:=hnb k hk; have:=HLT.out; omega⟩)
     have G104:=(G4.trans (World.grownBy_alloc w4 _ _)).andThen ag (fun j hj => .inl (by have:=hnb j hj; omega))
     clear ah ag an hrow hL hts hnb R4 G4 h4
     refine (below_dr B g V len _ _ (by omega) (by omega) h104).mono ?_
     rintro e wz ⟨x,rfl,x0,x1,hz,gz⟩
     have Rz:=R104.kept gz HLT.out
     go_wp2_with fail
     refine (exp_dr 4 (by decide) B g V len v104 (((0+1)+1)+1) _ _ (by omega) (by omega) (by omega) (Rz.texts HLT.out) hz).mono ?_
     rintro e wy ⟨t,rfl,ht,hy,gy⟩
     have ht2:t.size≤20000:=Nat.le_trans ht (EB_le 4 (by decide))
     clear ht
     go_wp2
     go_ret
     exact ⟨_,rfl,by simp [ByteArray.size_append,sz]; omega,hy,G104.trans (gz.trans gy)⟩
  ·obtain ⟨ts,hts,hL,hrow⟩:=R2.own
   have hnb:=R2.lt
   have hs2:=h2.2.2
   have hbz2:=G2.size
   go_wp2_with (at_builtin; refine wpList_append_own _ rfl _ _ 24 rfl w.heap.size 9 i0 (.string ⟨#[]⟩) 1 16 Tryz.underlying24 hi hz0 hz1 hz2 rfl (by decide) _ _ _ rfl (hrow.alloc _) ⟨w2.heap.size,0,none⟩ 1 1 [.string ⟨#[40,115,117,109,32,40,49,32,58,32,50,32,58,32,91,93,41,41]⟩] rfl rfl (cell_one_new _ _ _) (texts_oneCell [⟨#[40,115,117,109,32,40,49,32,58,32,50,32,58,32,91,93,41,41]⟩]) (by unfold maxLen; omega) (by omega) (by simp; omega) ?_; intro v102 w102 ah ag an)
   have R102:=R2.more (c:=⟨#[40,115,117,109,32,40,49,32,58,32,50,32,58,32,91,93,41,41]⟩) (by omega) hts hL (by decide) ah an
   have h102:=(h2.alloc _).other ag (fun k hk=>⟨by have:=hnb k hk; omega,by have:=hnb k hk; have:=HLT.out; omega⟩)
   have G102:=(G2.trans (World.grownBy_alloc w2 _ _)).andThen ag (fun j hj => .inl (by have:=hnb j hj; omega))
   clear ah ag an hrow hL hts hnb R2 G2 h2
   refine (once_dr B g V len _ _ (by omega) (by omega) h102).mono ?_
   rintro e w3 ⟨x,rfl,h3,g3⟩
   have G3:=G102.trans g3
   have R3:=R102.kept g3 HLT.out
   clear g3 G102 R102 h102
   cases x
   ·go_wp2_with fail
    refine (once_dr B g V len _ _ (by omega) (by omega) h3).mono ?_
    rintro e w4 ⟨x,rfl,h4,g4⟩
    have G4:=G3.trans g4
    have R4:=R3.kept g4 HLT.out
    clear g4 G3 R3 h3
    cases x
    ·go_wp2_with fail
     refine (below_dr B g V len _ _ (by omega) (by omega) h4).mono ?_
     rintro e wz ⟨x,rfl,x0,x1,hz,gz⟩
     have Rz:=R4.kept gz HLT.out
     go_wp2_with fail
     refine (exp_dr 4 (by decide) B g V len v102 ((0+1)+1) _ _ (by omega) (by omega) (by omega) (Rz.texts HLT.out) hz).mono ?_
     rintro e wy ⟨t,rfl,ht,hy,gy⟩
     have ht2:t.size≤20000:=Nat.le_trans ht (EB_le 4 (by decide))
     clear ht
     go_wp2
     go_ret
     exact ⟨_,rfl,by simp [ByteArray.size_append,sz]; omega,hy,G4.trans (gz.trans gy)⟩
    ·obtain ⟨ts,hts,hL,hrow⟩:=R4.own
     have hnb:=R4.lt
     have hs4:=h4.2.2
     have hbz4:=G4.size
     go_wp2_with (at_builtin; refine wpList_append_own _ rfl _ _ 24 rfl w.heap.size 9 i0 (.string ⟨#[]⟩) 1 16 Tryz.underlying24 hi hz0 hz1 hz2 rfl (by decide) _ _ _ rfl (hrow.alloc _) ⟨w4.heap.size,0,none⟩ 1 1 [.string ⟨#[40,104,101,97,100,32,111,110,101,115,41]⟩] rfl rfl (cell_one_new _ _ _) (texts_oneCell [⟨#[40,104,101,97,100,32,111,110,101,115,41]⟩]) (by unfold maxLen; omega) (by omega) (by simp; omega) ?_; intro v104 w104 ah ag an)
     have R104:=R4.more (c:=⟨#[40,104,101,97,100,32,111,110,101,115,41]⟩) (by omega) hts hL (by decide) ah an
     have h104:=(h4.alloc _).other ag (fun k hk=>⟨by have:=hnb k hk; omega,by have:=hnb k hk; have:=HLT.out; omega⟩)
     have G104:=(G4.trans (World.grownBy_alloc w4 _ _)).andThen ag (fun j hj => .inl (by have:=hnb j hj; omega))
     clear ah ag an hrow hL hts hnb R4 G4 h4
     refine (below_dr B g V len _ _ (by omega) (by omega) h104).mono ?_
     rintro e wz ⟨x,rfl,x0,x1,hz,gz⟩
     have Rz:=R104.kept gz HLT.out
     go_wp2_with fail
     refine (exp_dr 4 (by decide) B g V len v104 (((0+1)+1)+1) _ _ (by omega) (by omega) (by omega) (Rz.texts HLT.out) hz).mono ?_
     rintro e wy ⟨t,rfl,ht,hy,gy⟩
     have ht2:t.size≤20000:=Nat.le_trans ht (EB_le 4 (by decide))
     clear ht
     go_wp2
     go_ret
     exact ⟨_,rfl,by simp [ByteArray.size_append,sz]; omega,hy,G104.trans (gz.trans gy)⟩
   ·obtain ⟨ts,hts,hL,hrow⟩:=R3.own
    have hnb:=R3.lt
    have hs3:=h3.2.2
    have hbz3:=G3.size
    go_wp2_with (at_builtin; refine wpList_append_own _ rfl _ _ 24 rfl w.heap.size 9 i0 (.string ⟨#[]⟩) 1 16 Tryz.underlying24 hi hz0 hz1 hz2 rfl (by decide) _ _ _ rfl (hrow.alloc _) ⟨w3.heap.size,0,none⟩ 1 1 [.string ⟨#[40,109,97,112,32,105,110,99,32,40,52,32,58,32,53,32,58,32,54,32,58,32,91,93,41,41]⟩] rfl rfl (cell_one_new _ _ _) (texts_oneCell [⟨#[40,109,97,112,32,105,110,99,32,40,52,32,58,32,53,32,58,32,54,32,58,32,91,93,41,41]⟩]) (by unfold maxLen; omega) (by omega) (by simp; omega) ?_; intro v103 w103 ah ag an)
    have R103:=R3.more (c:=⟨#[40,109,97,112,32,105,110,99,32,40,52,32,58,32,53,32,58,32,54,32,58,32,91,93,41,41]⟩) (by omega) hts hL (by decide) ah an
    have h103:=(h3.alloc _).other ag (fun k hk=>⟨by have:=hnb k hk; omega,by have:=hnb k hk; have:=HLT.out; omega⟩)
    have G103:=(G3.trans (World.grownBy_alloc w3 _ _)).andThen ag (fun j hj => .inl (by have:=hnb j hj; omega))
    clear ah ag an hrow hL hts hnb R3 G3 h3
    refine (once_dr B g V len _ _ (by omega) (by omega) h103).mono ?_
    rintro e w4 ⟨x,rfl,h4,g4⟩
    have G4:=G103.trans g4
    have R4:=R103.kept g4 HLT.out
    clear g4 G103 R103 h103
    cases x
    ·go_wp2_with fail
     refine (below_dr B g V len _ _ (by omega) (by omega) h4).mono ?_
     rintro e wz ⟨x,rfl,x0,x1,hz,gz⟩
     have Rz:=R4.kept gz HLT.out
     go_wp2_with fail
     refine (exp_dr 4 (by decide) B g V len v103 (((0+1)+1)+1) _ _ (by omega) (by omega) (by omega) (Rz.texts HLT.out) hz).mono ?_
     rintro e wy ⟨t,rfl,ht,hy,gy⟩
     have ht2:t.size≤20000:=Nat.le_trans ht (EB_le 4 (by decide))
     clear ht
     go_wp2
     go_ret
     exact ⟨_,rfl,by simp [ByteArray.size_append,sz]; omega,hy,G4.trans (gz.trans gy)⟩
    ·obtain ⟨ts,hts,hL,hrow⟩:=R4.own
     have hnb:=R4.lt
     have hs4:=h4.2.2
     have hbz4:=G4.size
     go_wp2_with (at_builtin; refine wpList_append_own _ rfl _ _ 24 rfl w.heap.size 9 i0 (.string ⟨#[]⟩) 1 16 Tryz.underlying24 hi hz0 hz1 hz2 rfl (by decide) _ _ _ rfl (hrow.alloc _) ⟨w4.heap.size,0,none⟩ 1 1 [.string ⟨#[40,104,101,97,100,32,111,110,101,115,41]⟩] rfl rfl (cell_one_new _ _ _) (texts_oneCell [⟨#[40,104,101,97,100,32,111,110,101,115,41]⟩]) (by unfold maxLen; omega) (by omega) (by simp; omega) ?_; intro v104 w104 ah ag an)
     have R104:=R4.more (c:=⟨#[40,104,101,97,100,32,111,110,101,115,41]⟩) (by omega) hts hL (by decide) ah an
     have h104:=(h4.alloc _).other ag (fun k hk=>⟨by have:=hnb k hk; omega,by have:=hnb k hk; have:=HLT.out; omega⟩)
     have G104:=(G4.trans (World.grownBy_alloc w4 _ _)).andThen ag (fun j hj => .inl (by have:=hnb j hj; omega))
     clear ah ag an hrow hL hts hnb R4 G4 h4
     refine (below_dr B g V len _ _ (by omega) (by omega) h104).mono ?_
     rintro e wz ⟨x,rfl,x0,x1,hz,gz⟩
     have Rz:=R104.kept gz HLT.out
     go_wp2_with fail
     refine (exp_dr 4 (by decide) B g V len v104 ((((0+1)+1)+1)+1) _ _ (by omega) (by omega) (by omega) (Rz.texts HLT.out) hz).mono ?_
     rintro e wy ⟨t,rfl,ht,hy,gy⟩
     have ht2:t.size≤20000:=Nat.le_trans ht (EB_le 4 (by decide))
     clear ht
     go_wp2
     go_ret
     exact ⟨_,rfl,by simp [ByteArray.size_append,sz]; omega,hy,G104.trans (gz.trans gy)⟩
end Go.Proofs.YtljdgmfcgkimoaaGreatDoor
