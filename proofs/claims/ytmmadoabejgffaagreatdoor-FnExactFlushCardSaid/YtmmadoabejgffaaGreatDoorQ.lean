/-
  Proofs.
-/
import Derived.Test.YtmmadoabejgffaaGreatDoorD
import Derived.Lib.SliceRun
import Derived.Test.YtmmadoabejgffaaGreatDoorShelf
import Derived.WalkKit
import Derived.Below
namespace Go.Proofs.YtmmadoabejgffaaGreatDoor
open Go.RowKit Go.Joins
set_option maxRecDepth 100000
set_option maxHeartbeats 51200000
theorem infoLCode:(Tryz.prog.info? 182).map (fun i=>(i.zero,i.size,i.bytes))=some (some (.agg #[.int .i64 0,.int .i64 0,.string ⟨#[]⟩,.slice none 0 0]),4,56):=by kernel_rfl
theorem cloneCode_dt:ClS 195 182 4 CodeR:=by
 intro v xs S w hP h hb
 have qn:∀ (w:World) (a:Option Addr) (n c n' c':Nat),(binOp .eql 38 (.slice a n c) (.slice none n' c')).run Tryz.prog w = .ok (.bool a.isNone) w:=fun w a n c n' c'=>Lib.run_eql_slice_nil w _ _ a n c n' c' Tryz.underlying38
 obtain ⟨i0,hi,hz0,hz1,hz2⟩:=info_parts infoLCode
 have hN:=hP.len CodeR.len
 obtain ⟨a,cap,rfl⟩:=h.form
 cases a with
 | none =>
  obtain rfl:xs=[]:=by
   cases xs with
   | nil=>rfl
   | cons x xs=>obtain ⟨b,off,he,_⟩:=h.at (k:=0) rfl; cases he
  clear h hP hN
  go_enter Tryz.func195,Tryz.ntmps195
  go_wp2
  go_ret
  exact ⟨_,rfl,.inl ⟨rfl,rfl⟩,Below.refl _ _⟩
 | some ad =>
  obtain ⟨flat,hfl,hsrc,hone,hcell⟩:=h.flat hN (by omega)
  have hsrc':∀ j u,flat[j]? = some u→(w.alloc (.cells #[] 182)).cell? (ad.add j)=some u:=fun j u hj =>
   (World.cell?_of_block (Below.heap_alloc w _ _ (by rw [add_block]; exact (hsrc j u hj).2))).trans (hsrc j u hj).1
  have B0:Below w.heap.size w (w.alloc (.cells #[] 182)):=(Below.refl _ w).alloc (Nat.le_refl _) _
  have H0:=(show Hid (_∧_∧_∧_∧_∧_) from ⟨World.ownsRow_made (size:=4) (e:=182) w #[] 0 (Nat.le_refl _) (Nat.zero_le _) (by simp),hsrc',B0,hfl,hone,hcell⟩)
  clear h hP hN hsrc hsrc' B0 hfl hone hcell
  go_enter Tryz.func195,Tryz.ntmps195
  go_wp2_with (at_builtin; refine wpList_append_own_at _ rfl _ _ 38 rfl w.heap.size 182 i0 (.agg #[.int .i64 0,.int .i64 0,.string ⟨#[]⟩,.slice none 0 0]) 4 56 Tryz.underlying38 hi hz0 hz1 hz2 rfl (by decide) _ 0 _ rfl H0.out.1 ad xs.length cap flat rfl H0.out.2.2.2.1 H0.out.2.1 H0.out.2.2.2.2.1 (by unfold maxLen; omega) (by omega) (by simp) ?_; intro v5 w5 hown5 hgrow5 hnil5 hat5; have H5:=(show Hid (_∧_) from ⟨hown5,hgrow5⟩); clear hown5 hgrow5 hnil5 hat5)
  go_ret
  refine ⟨_,rfl,Cloned.of_own (flat:=flat) ?_ H0.out.2.2.2.2.2,Below.grown H0.out.2.2.1 H5.out.2 (hB:=H0.out.2.2.1.size) (hr:=fun b hb=>(own_type H0.out.1 b hb).1)⟩
  have:=H5.out.1
  rw [Nat.zero_add,List.nil_append] at this
  exact this
theorem infoLInt:(Tryz.prog.info? 3).map (fun i=>(i.zero,i.size,i.bytes))=some (some (.int .i64 0),1,8):=by kernel_rfl
theorem cloneInt_dt:ClS 128 3 1 IntR:=by
 intro v xs S w hP h hb
 have qn:∀ (w:World) (a:Option Addr) (n c n' c':Nat),(binOp .eql 23 (.slice a n c) (.slice none n' c')).run Tryz.prog w = .ok (.bool a.isNone) w:=fun w a n c n' c'=>Lib.run_eql_slice_nil w _ _ a n c n' c' Tryz.underlying23
 obtain ⟨i0,hi,hz0,hz1,hz2⟩:=info_parts infoLInt
 have hN:=hP.len IntR.len
 obtain ⟨a,cap,rfl⟩:=h.form
 cases a with
 | none =>
  obtain rfl:xs=[]:=by
   cases xs with
   | nil=>rfl
   | cons x xs=>obtain ⟨b,off,he,_⟩:=h.at (k:=0) rfl; cases he
  clear h hP hN
  go_enter Tryz.func128,Tryz.ntmps128
  go_wp2
  go_ret
  exact ⟨_,rfl,.inl ⟨rfl,rfl⟩,Below.refl _ _⟩
 | some ad =>
  obtain ⟨flat,hfl,hsrc,hone,hcell⟩:=h.flat hN (by omega)
  have hsrc':∀ j u,flat[j]? = some u→(w.alloc (.cells #[] 3)).cell? (ad.add j)=some u:=fun j u hj =>
   (World.cell?_of_block (Below.heap_alloc w _ _ (by rw [add_block]; exact (hsrc j u hj).2))).trans (hsrc j u hj).1
  have B0:Below w.heap.size w (w.alloc (.cells #[] 3)):=(Below.refl _ w).alloc (Nat.le_refl _) _
  have H0:=(show Hid (_∧_∧_∧_∧_∧_) from ⟨World.ownsRow_made (size:=1) (e:=3) w #[] 0 (Nat.le_refl _) (Nat.zero_le _) (by simp),hsrc',B0,hfl,hone,hcell⟩)
  clear h hP hN hsrc hsrc' B0 hfl hone hcell
  go_enter Tryz.func128,Tryz.ntmps128
  go_wp2_with (at_builtin; refine wpList_append_own_at _ rfl _ _ 23 rfl w.heap.size 3 i0 (.int .i64 0) 1 8 Tryz.underlying23 hi hz0 hz1 hz2 rfl (by decide) _ 0 _ rfl H0.out.1 ad xs.length cap flat rfl H0.out.2.2.2.1 H0.out.2.1 H0.out.2.2.2.2.1 (by unfold maxLen; omega) (by omega) (by simp) ?_; intro v5 w5 hown5 hgrow5 hnil5 hat5; have H5:=(show Hid (_∧_) from ⟨hown5,hgrow5⟩); clear hown5 hgrow5 hnil5 hat5)
  go_ret
  refine ⟨_,rfl,Cloned.of_own (flat:=flat) ?_ H0.out.2.2.2.2.2,Below.grown H0.out.2.2.1 H5.out.2 (hB:=H0.out.2.2.1.size) (hr:=fun b hb=>(own_type H0.out.1 b hb).1)⟩
  have:=H5.out.1
  rw [Nat.zero_add,List.nil_append] at this
  exact this
theorem cloneIntO_dt:ToS 128 IntR:=by
 intro v xs S w hP h hb
 have hlen:=bulkS_len xs
 refine (cloneInt_dt v xs S w hP h (by omega)).mono ?_
 rintro e w1 ⟨u,rfl,hc,b1⟩
 exact ⟨u,rfl,hc.own (hP.len IntR.len) (fun i j r d hr hj=>(hP i r hr).atoms j d hj),b1⟩
theorem strClone_any (s:ByteArray) (w:World) (hlim:s.size≤281474976710656) :
  Calls Tryz.prog 163 #[.string s] w fun e w'=>e = .returned (.string s)∧Below w.heap.size w w':=by
 go_enter Tryz.func163,Tryz.ntmps163
 go_wp2_with (go_at_call 197; refine (Tryz.stringslite_Clone s _ hlim).mono ?_; rintro e w1 ⟨rfl,hb⟩)
 go_ret
 exact ⟨rfl,hb⟩
theorem infoLCell:(Tryz.prog.info? 65).map (fun i=>(i.zero,i.size,i.bytes))=some (some (.agg #[.int .i64 0,.int .i64 0,.int .i64 0,.slice none 0 0]),4,48):=by kernel_rfl
theorem cloneCell_dt:ClS 158 65 4 CellR:=by
 intro v xs S w hP h hb
 have qn:∀ (w:World) (a:Option Addr) (n c n' c':Nat),(binOp .eql 41 (.slice a n c) (.slice none n' c')).run Tryz.prog w = .ok (.bool a.isNone) w:=fun w a n c n' c'=>Lib.run_eql_slice_nil w _ _ a n c n' c' Tryz.underlying41
 obtain ⟨i0,hi,hz0,hz1,hz2⟩:=info_parts infoLCell
 have hN:=hP.len CellR.len
 obtain ⟨a,cap,rfl⟩:=h.form
 cases a with
 | none =>
  obtain rfl:xs=[]:=by
   cases xs with
   | nil=>rfl
   | cons x xs=>obtain ⟨b,off,he,_⟩:=h.at (k:=0) rfl; cases he
  clear h hP hN
  go_enter Tryz.func158,Tryz.ntmps158
  go_wp2
  go_ret
  exact ⟨_,rfl,.inl ⟨rfl,rfl⟩,Below.refl _ _⟩
 | some ad =>
  obtain ⟨flat,hfl,hsrc,hone,hcell⟩:=h.flat hN (by omega)
  have hsrc':∀ j u,flat[j]? = some u→(w.alloc (.cells #[] 65)).cell? (ad.add j)=some u:=fun j u hj =>
   (World.cell?_of_block (Below.heap_alloc w _ _ (by rw [add_block]; exact (hsrc j u hj).2))).trans (hsrc j u hj).1
  have B0:Below w.heap.size w (w.alloc (.cells #[] 65)):=(Below.refl _ w).alloc (Nat.le_refl _) _
  have H0:=(show Hid (_∧_∧_∧_∧_∧_) from ⟨World.ownsRow_made (size:=4) (e:=65) w #[] 0 (Nat.le_refl _) (Nat.zero_le _) (by simp),hsrc',B0,hfl,hone,hcell⟩)
  clear h hP hN hsrc hsrc' B0 hfl hone hcell
  go_enter Tryz.func158,Tryz.ntmps158
  go_wp2_with (at_builtin; refine wpList_append_own_at _ rfl _ _ 41 rfl w.heap.size 65 i0 (.agg #[.int .i64 0,.int .i64 0,.int .i64 0,.slice none 0 0]) 4 48 Tryz.underlying41 hi hz0 hz1 hz2 rfl (by decide) _ 0 _ rfl H0.out.1 ad xs.length cap flat rfl H0.out.2.2.2.1 H0.out.2.1 H0.out.2.2.2.2.1 (by unfold maxLen; omega) (by omega) (by simp) ?_; intro v5 w5 hown5 hgrow5 hnil5 hat5; have H5:=(show Hid (_∧_) from ⟨hown5,hgrow5⟩); clear hown5 hgrow5 hnil5 hat5)
  go_ret
  refine ⟨_,rfl,Cloned.of_own (flat:=flat) ?_ H0.out.2.2.2.2.2,Below.grown H0.out.2.2.1 H5.out.2 (hB:=H0.out.2.2.1.size) (hr:=fun b hb=>(own_type H0.out.1 b hb).1)⟩
  have:=H5.out.1
  rw [Nat.zero_add,List.nil_append] at this
  exact this
theorem infoLThread:(Tryz.prog.info? 145).map (fun i=>(i.zero,i.size,i.bytes))=some (some (.agg #[.int .i64 0,.int .i64 0,.slice none 0 0,.slice none 0 0,.string ⟨#[]⟩]),5,80):=by kernel_rfl
theorem cloneThread_dt:ClS 160 145 5 ThreadR:=by
 intro v xs S w hP h hb
 have qn:∀ (w:World) (a:Option Addr) (n c n' c':Nat),(binOp .eql 42 (.slice a n c) (.slice none n' c')).run Tryz.prog w = .ok (.bool a.isNone) w:=fun w a n c n' c'=>Lib.run_eql_slice_nil w _ _ a n c n' c' Tryz.underlying42
 obtain ⟨i0,hi,hz0,hz1,hz2⟩:=info_parts infoLThread
 have hN:=hP.len ThreadR.len
 obtain ⟨a,cap,rfl⟩:=h.form
 cases a with
 | none =>
  obtain rfl:xs=[]:=by
   cases xs with
   | nil=>rfl
   | cons x xs=>obtain ⟨b,off,he,_⟩:=h.at (k:=0) rfl; cases he
  clear h hP hN
  go_enter Tryz.func160,Tryz.ntmps160
  go_wp2
  go_ret
  exact ⟨_,rfl,.inl ⟨rfl,rfl⟩,Below.refl _ _⟩
 | some ad =>
  obtain ⟨flat,hfl,hsrc,hone,hcell⟩:=h.flat hN (by omega)
  have hsrc':∀ j u,flat[j]? = some u→(w.alloc (.cells #[] 145)).cell? (ad.add j)=some u:=fun j u hj =>
   (World.cell?_of_block (Below.heap_alloc w _ _ (by rw [add_block]; exact (hsrc j u hj).2))).trans (hsrc j u hj).1
  have B0:Below w.heap.size w (w.alloc (.cells #[] 145)):=(Below.refl _ w).alloc (Nat.le_refl _) _
  have H0:=(show Hid (_∧_∧_∧_∧_∧_) from ⟨World.ownsRow_made (size:=5) (e:=145) w #[] 0 (Nat.le_refl _) (Nat.zero_le _) (by simp),hsrc',B0,hfl,hone,hcell⟩)
  clear h hP hN hsrc hsrc' B0 hfl hone hcell
  go_enter Tryz.func160,Tryz.ntmps160
  go_wp2_with (at_builtin; refine wpList_append_own_at _ rfl _ _ 42 rfl w.heap.size 145 i0 (.agg #[.int .i64 0,.int .i64 0,.slice none 0 0,.slice none 0 0,.string ⟨#[]⟩]) 5 80 Tryz.underlying42 hi hz0 hz1 hz2 rfl (by decide) _ 0 _ rfl H0.out.1 ad xs.length cap flat rfl H0.out.2.2.2.1 H0.out.2.1 H0.out.2.2.2.2.1 (by unfold maxLen; omega) (by omega) (by simp) ?_; intro v5 w5 hown5 hgrow5 hnil5 hat5; have H5:=(show Hid (_∧_) from ⟨hown5,hgrow5⟩); clear hown5 hgrow5 hnil5 hat5)
  go_ret
  refine ⟨_,rfl,Cloned.of_own (flat:=flat) ?_ H0.out.2.2.2.2.2,Below.grown H0.out.2.2.1 H5.out.2 (hB:=H0.out.2.2.1.size) (hr:=fun b hb=>(own_type H0.out.1 b hb).1)⟩
  have:=H5.out.1
  rw [Nat.zero_add,List.nil_append] at this
  exact this
theorem infoLFrame:(Tryz.prog.info? 184).map (fun i=>(i.zero,i.size,i.bytes))=some (some (.agg #[.int .i64 0,.int .i64 0,.int .i64 0,.slice none 0 0]),4,48):=by kernel_rfl
theorem cloneFrame_dt:ClS 196 184 4 FrameR:=by
 intro v xs S w hP h hb
 have qn:∀ (w:World) (a:Option Addr) (n c n' c':Nat),(binOp .eql 143 (.slice a n c) (.slice none n' c')).run Tryz.prog w = .ok (.bool a.isNone) w:=fun w a n c n' c'=>Lib.run_eql_slice_nil w _ _ a n c n' c' Tryz.underlying143
 obtain ⟨i0,hi,hz0,hz1,hz2⟩:=info_parts infoLFrame
 have hN:=hP.len FrameR.len
 obtain ⟨a,cap,rfl⟩:=h.form
 cases a with
 | none =>
  obtain rfl:xs=[]:=by
   cases xs with
   | nil=>rfl
   | cons x xs=>obtain ⟨b,off,he,_⟩:=h.at (k:=0) rfl; cases he
  clear h hP hN
  go_enter Tryz.func196,Tryz.ntmps196
  go_wp2
  go_ret
  exact ⟨_,rfl,.inl ⟨rfl,rfl⟩,Below.refl _ _⟩
 | some ad =>
  obtain ⟨flat,hfl,hsrc,hone,hcell⟩:=h.flat hN (by omega)
  have hsrc':∀ j u,flat[j]? = some u→(w.alloc (.cells #[] 184)).cell? (ad.add j)=some u:=fun j u hj =>
   (World.cell?_of_block (Below.heap_alloc w _ _ (by rw [add_block]; exact (hsrc j u hj).2))).trans (hsrc j u hj).1
  have B0:Below w.heap.size w (w.alloc (.cells #[] 184)):=(Below.refl _ w).alloc (Nat.le_refl _) _
  have H0:=(show Hid (_∧_∧_∧_∧_∧_) from ⟨World.ownsRow_made (size:=4) (e:=184) w #[] 0 (Nat.le_refl _) (Nat.zero_le _) (by simp),hsrc',B0,hfl,hone,hcell⟩)
  clear h hP hN hsrc hsrc' B0 hfl hone hcell
  go_enter Tryz.func196,Tryz.ntmps196
  go_wp2_with (at_builtin; refine wpList_append_own_at _ rfl _ _ 143 rfl w.heap.size 184 i0 (.agg #[.int .i64 0,.int .i64 0,.int .i64 0,.slice none 0 0]) 4 48 Tryz.underlying143 hi hz0 hz1 hz2 rfl (by decide) _ 0 _ rfl H0.out.1 ad xs.length cap flat rfl H0.out.2.2.2.1 H0.out.2.1 H0.out.2.2.2.2.1 (by unfold maxLen; omega) (by omega) (by simp) ?_; intro v5 w5 hown5 hgrow5 hnil5 hat5; have H5:=(show Hid (_∧_) from ⟨hown5,hgrow5⟩); clear hown5 hgrow5 hnil5 hat5)
  go_ret
  refine ⟨_,rfl,Cloned.of_own (flat:=flat) ?_ H0.out.2.2.2.2.2,Below.grown H0.out.2.2.1 H5.out.2 (hB:=H0.out.2.2.1.size) (hr:=fun b hb=>(own_type H0.out.1 b hb).1)⟩
  have:=H5.out.1
  rw [Nat.zero_add,List.nil_append] at this
  exact this
theorem infoLMsg:(Tryz.prog.info? 67).map (fun i=>(i.zero,i.size,i.bytes))=some (some (.agg #[.int .i64 0,.int .i64 0,.int .i64 0,.int .i64 0,.int .i64 0,.int .i64 0,.int .i64 0,.int .i64 0,.slice none 0 0]),9,88):=by kernel_rfl
theorem cloneMsg_dt:ClS 164 67 9 MsgR:=by
 intro v xs S w hP h hb
 have qn:∀ (w:World) (a:Option Addr) (n c n' c':Nat),(binOp .eql 43 (.slice a n c) (.slice none n' c')).run Tryz.prog w = .ok (.bool a.isNone) w:=fun w a n c n' c'=>Lib.run_eql_slice_nil w _ _ a n c n' c' Tryz.underlying43
 obtain ⟨i0,hi,hz0,hz1,hz2⟩:=info_parts infoLMsg
 have hN:=hP.len MsgR.len
 obtain ⟨a,cap,rfl⟩:=h.form
 cases a with
 | none =>
  obtain rfl:xs=[]:=by
   cases xs with
   | nil=>rfl
   | cons x xs=>obtain ⟨b,off,he,_⟩:=h.at (k:=0) rfl; cases he
  clear h hP hN
  go_enter Tryz.func164,Tryz.ntmps164
  go_wp2
  go_ret
  exact ⟨_,rfl,.inl ⟨rfl,rfl⟩,Below.refl _ _⟩
 | some ad =>
  obtain ⟨flat,hfl,hsrc,hone,hcell⟩:=h.flat hN (by omega)
  have hsrc':∀ j u,flat[j]? = some u→(w.alloc (.cells #[] 67)).cell? (ad.add j)=some u:=fun j u hj =>
   (World.cell?_of_block (Below.heap_alloc w _ _ (by rw [add_block]; exact (hsrc j u hj).2))).trans (hsrc j u hj).1
  have B0:Below w.heap.size w (w.alloc (.cells #[] 67)):=(Below.refl _ w).alloc (Nat.le_refl _) _
  have H0:=(show Hid (_∧_∧_∧_∧_∧_) from ⟨World.ownsRow_made (size:=9) (e:=67) w #[] 0 (Nat.le_refl _) (Nat.zero_le _) (by simp),hsrc',B0,hfl,hone,hcell⟩)
  clear h hP hN hsrc hsrc' B0 hfl hone hcell
  go_enter Tryz.func164,Tryz.ntmps164
  go_wp2_with (at_builtin; refine wpList_append_own_at _ rfl _ _ 43 rfl w.heap.size 67 i0 (.agg #[.int .i64 0,.int .i64 0,.int .i64 0,.int .i64 0,.int .i64 0,.int .i64 0,.int .i64 0,.int .i64 0,.slice none 0 0]) 9 88 Tryz.underlying43 hi hz0 hz1 hz2 rfl (by decide) _ 0 _ rfl H0.out.1 ad xs.length cap flat rfl H0.out.2.2.2.1 H0.out.2.1 H0.out.2.2.2.2.1 (by unfold maxLen; omega) (by omega) (by simp) ?_; intro v5 w5 hown5 hgrow5 hnil5 hat5; have H5:=(show Hid (_∧_) from ⟨hown5,hgrow5⟩); clear hown5 hgrow5 hnil5 hat5)
  go_ret
  refine ⟨_,rfl,Cloned.of_own (flat:=flat) ?_ H0.out.2.2.2.2.2,Below.grown H0.out.2.2.1 H5.out.2 (hB:=H0.out.2.2.1.size) (hr:=fun b hb=>(own_type H0.out.1 b hb).1)⟩
  have:=H5.out.1
  rw [Nat.zero_add,List.nil_append] at this
  exact this
end Go.Proofs.YtmmadoabejgffaaGreatDoor
