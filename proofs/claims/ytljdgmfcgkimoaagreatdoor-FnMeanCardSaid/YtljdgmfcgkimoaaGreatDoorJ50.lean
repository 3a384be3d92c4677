/-
  Proofs.
  Proofs.
  Proofs.
  Proofs.
  Proofs.
-/
import Derived.Test.YtljdgmfcgkimoaaGreatDoorJ1
import Derived.Test.YtljdgmfcgkimoaaGreatDoorJ49
import Derived.Test.YtljdgmfcgkimoaaGreatDoorJ22
import Derived.Laws.MakeOwn
import Derived.Test.YtljdgmfcgkimoaaGreatDoorJ27
import Derived.Test.YtljdgmfcgkimoaaGreatDoorJ2
import Derived.Test.YtljdgmfcgkimoaaGreatDoorJ47
namespace Go.Proofs.YtljdgmfcgkimoaaGreatDoor
open Go.RowKit Go.Joins
set_option maxRecDepth 100000
def aOk (p:Pr) (F:Int):Prop:=p.ok=true∧0≤F∧F≤100000
noncomputable def aC (p:Pr) (F:Int) (i:Nat):Int:=open Classical in if aOk p F then ofC p.bodies i F.toNat else 3
noncomputable def allC (p:Pr) (F:Int) (k:Nat):List Int:=(List.range k).map (aC p F)
theorem allC_succ (p:Pr) (F:Int) (k:Nat):allC p F (k+1)=allC p F k ++ [aC p F k]:=by unfold allC; rw [List.range_succ,List.map_append]; rfl
theorem allC_len (p:Pr) (F:Int) (k:Nat):(allC p F k).length=k:=by unfold allC; simp
theorem aC_ok {p:Pr} {F:Int} (h:aOk p F) (i:Nat):aC p F i=ofC p.bodies i F.toNat:=by unfold aC; rw [if_pos h]
theorem aC_no {p:Pr} {F:Int} (h:¬ aOk p F) (i:Nat):aC p F i=3:=by unfold aC; rw [if_neg h]
theorem int_lit (w:World) (z:Int) (h:inI64 z):IntsAt (w.alloc (.cells #[.int .i64 z] 3)) (fun _=>True) (.slice (some ⟨w.heap.size,0,none⟩) 1 1) [z]:=by
 refine ⟨_,_,rfl,by simp [maxLen],fun i t hi => ?_⟩
 cases i with
 | succ i=>simp at hi
 | zero =>
  obtain rfl:z=t:=by simpa using hi
  exact ⟨w.heap.size,0,rfl,trivial,by simp,by rw [cell_of_block block_alloc]; rfl,h⟩
set_option maxHeartbeats 3200000 in
theorem specMeanAll_any (d:Nat) (v:Value) (p:Pr) (S:Nat→Prop) (F:Int) (w:World) (h:PrAt w S d v p) (hl:p.names.length≤1048576) :
  Calls Tryz.prog 11 #[v,.int .i64 F] w fun r w'=>∃ v',r = .returned v'∧w'.ownsRow w.heap.size 3 1 v' p.names.length ((allC p F p.names.length).map (fun z=>Value.int .i64 z))∧Below w.heap.size w w':=by
 have hnot:∀ (x:Bool) (w:World),(Op.unary .not (.bool x)).run Tryz.prog w = .ok (.bool (!x)) w:=fun _ _=>rfl
 have H0:=(show Hid (PrAt w S d v p∧True) from ⟨h,trivial⟩)
 obtain ⟨nv,bv,rfl,hn,hk⟩:=h
 have hn0:=hn
 obtain ⟨a1,cap1,rfl,-,-⟩:=hn0
 obtain ⟨a2,cap2,rfl⟩:=hk.form
 obtain ⟨W1,hW1⟩:∃ W1,W1=(w.alloc (.cells #[.slice a1 p.names.length cap1,.slice a2 p.bodies.length cap2] 27)).alloc (.cells #[] 3):=⟨_,rfl⟩
 have b1:Below w.heap.size w W1:=by rw [hW1]; exact ((Below.refl _ w).alloc (Nat.le_refl _) _).alloc (by simp) _
 have q1:W1.heap[w.heap.size]? = some (.cells #[.slice a1 p.names.length cap1,.slice a2 p.bodies.length cap2] 27):=by rw [hW1,Below.heap_alloc _ _ _ (by simp)]; exact block_alloc
 have hrow:W1.ownsRow (w.heap.size+1) 3 1 (.slice (some ⟨w.heap.size+1,0,none⟩) 0 0) 0 []:=by
  rw [hW1]
  have:=ow_empty (w.alloc (.cells #[.slice a1 p.names.length cap1,.slice a2 p.bodies.length cap2] 27)) (w.heap.size+1) 3 (by simp)
  simpa using this
 have s1:W1.heap.size=w.heap.size+2:=by rw [hW1]; simp
 have hof:=fun (w2:World) (k:Nat) (hb:Below W1.heap.size w2 w2) (hbw:Below w.heap.size w w2) (ho:aOk p F) (hk2:k<p.names.length)=>l03Of_any p.bodies k F.toNat d S a1 p.names.length cap1 (.slice a2 p.bodies.length cap2) w2 (ok_bodies ho.1) (by have:=(p.ok_iff.1 ho.1).1; omega) (by have:=ho.2; omega) (hk.below hbw)
 have HI:=(show Hid (_∧_∧_∧_∧_∧_∧_) from ⟨H0.out.1,hof,b1,q1,hrow,s1,hW1⟩)
 clear hn hk H0 b1 q1 hrow s1 hW1 hof
 go_enter Tryz.func11,Tryz.ntmps11
 go_upto_region 2 with fail
 rw [← HI.out.2.2.2.2.2.2]
 go_wp2_with fail
 go_loopw [5,6] (fun ov i wr=>∃ k:Nat,k≤p.names.length∧i = .int .i64 k∧wr.ownsRow (w.heap.size+1) 3 1 ov k ((allC p F k).map (fun z=>Value.int .i64 z))∧Below (w.heap.size+1) W1 wr) (fun _ i _=>p.names.length - (intOf i).toNat)
 case atStart=>exact ⟨0,Nat.zero_le _,rfl,HI.out.2.2.2.2.1,Below.refl _ _⟩
 case round =>
  obtain ⟨k,hk,rfl,hrow,hbw⟩:=hrel
  obtain ⟨oa,oc,rfl⟩:=own_form hrow
  have hsw:=hbw.size
  have q2:wr.heap[w.heap.size]? = some (.cells #[.slice a1 p.names.length cap1,.slice a2 p.bodies.length cap2] 27):=(hbw.block _ (by omega)).trans HI.out.2.2.2.1
  have hb0:Below w.heap.size w wr:=HI.out.2.2.1.trans (hbw.mono (by omega))
  have x0:=cbk q2 0 (.slice a1 p.names.length cap1) rfl
  have x1:=cbk q2 1 (.slice a2 p.bodies.length cap2) rfl
  by_cases hkl:k<p.names.length
  ·have hlt':((k:Nat):Int)<((p.names.length:Nat):Int):=by omega
   have hpr:=specProg_any d _ p S wr (HI.out.1.below hb0)
   have HR:=(show Hid (_∧_∧_∧_∧_) from ⟨hpr,hrow,hbw,q2,hb0⟩)
   clear hpr hrow hbw q2 hb0 hsw
   go_wp2_with fail
   refine HR.out.1.mono ?_
   rintro r w2 ⟨rfl,b2⟩
   have hrow2:=own_moved HR.out.2.1 (fun g hg=>b2.block g (own_lt HR.out.2.1 g hg))
   have y0:=(b2.cell (p:=⟨w.heap.size,0,none⟩) (lh HR.out.2.2.2.1)).trans x0
   have y1:=(b2.cell (p:=⟨w.heap.size,1,none⟩) (lh HR.out.2.2.2.1)).trans x1
   have b12:Below (w.heap.size+1) W1 w2:=HR.out.2.2.1.trans (b2.mono (by have:=lh HR.out.2.2.2.1; omega))
   have H2:=(show Hid (_∧_∧_) from ⟨hrow2,b12,(HR.out.2.2.2.2.trans (b2.mono HR.out.2.2.2.2.size):Below w.heap.size w w2)⟩)
   clear hrow2 b12 b2 x0 x1
   by_cases ho:aOk p F
   ·have hok:p.ok=true:=ho.1
    have hin:=fun w=>specIn_is F 0 100000 true (by unfold inB; have:=ho.2; simp [this.1,this.2]) w
    obtain ⟨Fi,hFi⟩:∃ Fi:Nat,F=(Fi:Int):=⟨F.toNat,by have:=ho.2; omega⟩
    have hof:=HI.out.2.1 w2 k (Below.refl _ _) H2.out.2.2 ho hkl
    have hac:=aC_ok ho k
    subst hFi
    simp only [Int.toNat_natCast] at hof hac
    have HO:=(show Hid (_∧_∧_) from ⟨hin,hof,hac⟩)
    clear ho hin hof hac
    rw [hok]
    go_wp2_with fail
    refine (HO.out.1 _).mono ?_
    rintro r w3 ⟨rfl,rfl⟩
    go_wp2_with fail
    refine HO.out.2.1.mono ?_
    rintro r w4 ⟨rfl,b4⟩
    have hrow4:=own_moved H2.out.1 (fun g hg=>b4.block g (own_lt H2.out.1 g hg))
    have b14:Below (w.heap.size+1) W1 w4:=H2.out.2.1.trans (b4.mono (by have:=H2.out.2.1.size; have:=HI.out.2.2.2.2.2.1; omega))
    obtain ⟨cz,hcz⟩:∃ cz,ofC p.bodies k Fi=cz:=⟨_,rfl⟩
    have hsm:=ofC_small p.bodies k Fi
    have hsrc:=int_lit w4 cz (by rw [← hcz]; unfold inI64; omega)
    have H4:=(show Hid (_∧_∧_∧_) from ⟨hrow4.alloc (.cells #[.int .i64 cz] 3),b14.alloc (by have:=b14.size; have:=HI.out.2.2.2.2.2.1; omega) (.cells #[.int .i64 cz] 3),hsrc,(by rw [HO.out.2.2,hcz]:aC p (Fi:Int) k=cz)⟩)
    clear hrow4 b14 b4 hsm hsrc
    rw [hcz]
    clear hcz
    go_wp2_with (first
     | (at_builtin; refine wpList_append_ints rfl _ _ rfl (w.heap.size+1) _ k _ rfl H4.out.1 _ [cz] _ rfl H4.out.2.2.1 (by simp; omega) (by have:=H4.out.2.1.size; have:=HI.out.2.2.2.2.2.1; omega) ?_; intro v5 w5 hown5 hgrow5 hat5; have H5:=(show Hid (_∧_) from ⟨hown5,hgrow5⟩); clear hown5 hgrow5 hat5))
    refine ⟨⟨k+1,by omega,by go_num,?_,?_⟩,by simp [intOf]; omega⟩
    ·have:=H5.out.1
     rw [allC_succ,List.map_append,H4.out.2.2.2]
     simpa using this
    ·exact H4.out.2.1.grown H5.out.2 (by have:=H4.out.2.1.size; have:=HI.out.2.2.2.2.2.1; omega) (fun g hg=>(H4.out.1.lt g hg).1)
   ·have hac:=aC_no ho k
    have HNO:=(show Hid (_∧_) from ⟨ho,hac⟩)
    have hrow4:∀ w4:World,w4=w2→(w4.alloc (.cells #[.int .i64 3] 3)).ownsRow (w.heap.size+1) 3 1 (.slice oa k oc) k ((allC p F k).map (fun z=>Value.int .i64 z)):=fun w4 h=>by rw [h]; exact H2.out.1.alloc _
    have H4:=(show Hid (_∧_∧_) from ⟨hrow4 w2 rfl,H2.out.2.1.alloc (by have:=H2.out.2.1.size; have:=HI.out.2.2.2.2.2.1; omega) (.cells #[.int .i64 3] 3),int_lit w2 3 (by unfold inI64; decide)⟩)
    clear hrow4 hac
    have fin:∀ v5 w5,w5.ownsRow (w.heap.size+1) 3 1 v5 (k+[(3:Int)].length) ((allC p F k).map (fun z=>Value.int .i64 z) ++ [(3:Int)].map (fun z=>Value.int .i64 z))→(w2.alloc (.cells #[.int .i64 3] 3)).grownBy w5 (Value.slice oa k oc).ownBlock→w5.ownsRow (w.heap.size+1) 3 1 v5 (k+1) ((allC p F (k+1)).map (fun z=>Value.int .i64 z))∧Below (w.heap.size+1) W1 w5:=fun v5 w5 h1 h2=>by
     refine ⟨?_,H4.out.2.1.grown h2 (by have:=H4.out.2.1.size; have:=HI.out.2.2.2.2.2.1; omega) (fun g hg=>(H4.out.1.lt g hg).1)⟩
     rw [allC_succ,List.map_append,HNO.out.2]
     simpa using h1
    have HFN:=(show Hid (_∧True) from ⟨fin,trivial⟩)
    clear fin ho
    cases hok:p.ok with
    | false =>
     go_wp2_with (first
      | (at_builtin; refine wpList_append_ints rfl _ _ rfl (w.heap.size+1) _ k _ rfl H4.out.1 _ [3] _ rfl H4.out.2.2 (by simp; omega) (by have:=H4.out.2.1.size; have:=HI.out.2.2.2.2.2.1; omega) ?_; intro v5 w5 hown5 hgrow5 hat5; have H5:=(show Hid (_∧_) from HFN.out.1 v5 w5 hown5 hgrow5); clear hown5 hgrow5 hat5))
     exact ⟨⟨k+1,by omega,by go_num,H5.out.1,H5.out.2⟩,by simp [intOf]; omega⟩
    | true =>
     have hin:=fun w=>specIn_is F 0 100000 false (by
      unfold inB
      by_cases h1:0≤F <;> by_cases h2:F≤100000 <;> simp [h1,h2]
      exact absurd ⟨hok,h1,h2⟩ HNO.out.1) w
     have HE:=(show Hid (_∧True) from ⟨hin,trivial⟩)
     clear hin
     go_wp2_with fail
     refine (HE.out.1 _).mono ?_
     rintro r w3 ⟨rfl,rfl⟩
     go_wp2_with (first
      | (at_builtin; refine wpList_append_ints rfl _ _ rfl (w.heap.size+1) _ k _ rfl H4.out.1 _ [3] _ rfl H4.out.2.2 (by simp; omega) (by have:=H4.out.2.1.size; have:=HI.out.2.2.2.2.2.1; omega) ?_; intro v5 w5 hown5 hgrow5 hat5; have H5:=(show Hid (_∧_) from HFN.out.1 v5 w5 hown5 hgrow5); clear hown5 hgrow5 hat5))
     exact ⟨⟨k+1,by omega,by go_num,H5.out.1,H5.out.2⟩,by simp [intOf]; omega⟩
  ·obtain rfl:k=p.names.length:=by omega
   have HX:=(show Hid (_∧_) from ⟨own_mono hrow (Nat.le_succ _),hb0⟩)
   clear hrow hbw q2 hb0
   go_wp2_with fail
   go_ret
   exact ⟨_,rfl,HX.out.1,HX.out.2⟩
end Go.Proofs.YtljdgmfcgkimoaaGreatDoor

namespace Go.Proofs.YtljdgmfcgkimoaaGreatDoor
open Go.RowKit Go.Joins
set_option maxRecDepth 100000
theorem made_rowA (w:World) (base:Nat) (e:TypeId) (zc:Array Value) (size n:Nat) (hb:base≤w.heap.size) (hn:n≤maxLen):(w.alloc (.cells (madeCells zc (n * size)) e)).ownsRow base e size (.slice (some ⟨w.heap.size,0,none⟩) n n) n (madeCells zc (n * size)).toList:=by
 have hs:(madeCells zc (n * size)).size=n * size:=size_madeCells _ _
 refine ⟨by rw [Array.length_toList,hs],.inr ⟨w.heap.size,n,_,rfl,hb,(MapKept.heap_alloc w _).1,Nat.le_refl _,hn,hs,?_⟩⟩
 exact List.take_of_length_le (by rw [Array.length_toList,hs]; exact Nat.le_refl _)
theorem makeI_rowA (n:Nat) (hn:n≤4194304) (w:World):(Instr.makeSlice 32 (.int .i64 (n:Int)) (.int .i64 (n:Int))).run Tryz.prog w = .ok (.slice (some ⟨w.heap.size,0,none⟩) n n) (w.alloc (.cells (madeCells #[.int .i64 0] n) 3)):=by
 obtain ⟨i0,hi,hz0,hz1,hz2⟩:=info_parts infoCdI
 have h:=run_make (P:=Tryz.prog) w 32 3 i0 (.int .i64 0) Tryz.underlying32 hi hz0 .i64 .i64 n n (by omega) (Int.le_refl _) (by rw [hz2]; omega) (by omega)
 rw [hz1] at h
 simp only [Int.toNat_natCast,Nat.mul_one] at h
 exact h
theorem row_frozenA {w:World} {b g cap n size:Nat} {e:TypeId} {xs:List Value} (h:w.ownsRow b e size (.slice (some ⟨g,0,none⟩) n cap) n xs) (i:Nat):w.frozen? ⟨g,i,none⟩=false:=by
 rcases h.2 with ⟨h',_⟩ | ⟨g',cap',cur,h',_,hc',_⟩
 ·simp at h'
 ·simp only [Value.slice.injEq,Option.some.injEq,Addr.mk.injEq,and_true] at h'
  obtain ⟨rfl,_⟩:=h'
  exact unfrozen_of_block hc' _
theorem allC_at (p:Pr) (F:Int) (n j:Nat) (h:j<n):((allC p F n).map (fun z=>Value.int .i64 z))[j]? = some (.int .i64 (aC p F j)):=by
 unfold allC
 rw [List.getElem?_map,List.getElem?_map,List.getElem?_range h]
 rfl
set_option maxHeartbeats 3200000 in
theorem implMeanAll_any (d : Nat) (v : Value) (p : Pr) (F : Int) (w : World) (h : PrAt w (Pl w) d v p) (hl : p.names.length ≤ 1048576) (htab : Lib.TabIs Tryz.prog w "internal/strconv.uint64pow10" .u64 Lib.pow10Tab) :
  Calls Tryz.prog 9 #[v,.int .i64 F] w fun r w'=>∃ v',r = .returned v'∧w'.ownsRow w.heap.size 3 1 v' p.names.length ((allC p F p.names.length).map (fun z=>Value.int .i64 z))∧Below w.heap.size w w':=by
 have H0:=(show Hid (PrAt w (Pl w) d v p∧True) from ⟨h,trivial⟩)
 obtain ⟨nv,bv,rfl,hn,hk⟩:=h
 have hn0:=hn
 obtain ⟨a1,cap1,rfl,-,-⟩:=hn0
 obtain ⟨a2,cap2,rfl⟩:=hk.form
 obtain ⟨W1,hW1⟩:∃ W1,W1=(w.alloc (.cells #[.slice a1 p.names.length cap1,.slice a2 p.bodies.length cap2] 27)).alloc (.cells (madeCells #[.int .i64 0] p.names.length) 3):=⟨_,rfl⟩
 have b1:Below w.heap.size w W1:=by rw [hW1]; exact ((Below.refl _ w).alloc (Nat.le_refl _) _).alloc (by simp) _
 have q1:W1.heap[w.heap.size]? = some (.cells #[.slice a1 p.names.length cap1,.slice a2 p.bodies.length cap2] 27):=by rw [hW1,Below.heap_alloc _ _ _ (by simp)]; exact block_alloc
 have s1:W1.heap.size=w.heap.size+2:=by rw [hW1]; simp
 have hrow:W1.ownsRow (w.heap.size+1) 3 1 (.slice (some ⟨w.heap.size+1,0,none⟩) p.names.length p.names.length) p.names.length (madeCells #[.int .i64 0] p.names.length).toList:=by
  rw [hW1]
  have:=made_rowA (w.alloc (.cells #[.slice a1 p.names.length cap1,.slice a2 p.bodies.length cap2] 27)) (w.heap.size+1) 3 #[.int .i64 0] 1 p.names.length (by simp) (by unfold maxLen; omega)
  simpa using this
 have hmk:=makeI_rowA p.names.length (by omega)
 have hcan:=fun (w2:World) (hb:Below w.heap.size w w2)=>canReckon_any d _ p F w2 (prAt_pl H0.out.1 hb)
 have hof:=fun (w2:World) (k:Nat) (hbw:Below w.heap.size w w2) (ho:aOk p F) (hk2:k<p.names.length)=>meanOf_any p.bodies k F.toNat d (Pl w) a1 p.names.length cap1 (.slice a2 p.bodies.length cap2) w2 (ok_bodies ho.1) (by have:=(p.ok_iff.1 ho.1).1; omega) (by have:=ho.2; omega) (hk.below hbw) (Lib.tabBelow_of_tabIs htab w2 hbw)
 have x0:=cbk q1 0 (.slice a1 p.names.length cap1) rfl
 have x1:=cbk q1 1 (.slice a2 p.bodies.length cap2) rfl
 have HI:=(show Hid (_∧_∧_∧_∧_∧_∧_) from ⟨hcan,hof,b1,q1,hrow,s1,hW1⟩)
 clear hn hk H0 b1 q1 hrow s1 hW1 hof hcan htab
 go_enter Tryz.func9,Tryz.ntmps9
 go_upto_region 2 with fail
 rw [← HI.out.2.2.2.2.2.2]
 clear hmk
 go_wp2_with fail
 refine (HI.out.1 _ HI.out.2.2.1).mono ?_
 rintro r w2 ⟨rfl,b2⟩
 have hrow2:=own_moved HI.out.2.2.2.2.1 (fun g hg=>b2.block g (own_lt HI.out.2.2.2.2.1 g hg))
 have q2:=(b2.block _ (lh HI.out.2.2.2.1)).trans HI.out.2.2.2.1
 have H2:=(show Hid (_∧_∧_) from ⟨hrow2,q2,(HI.out.2.2.1.trans (b2.mono HI.out.2.2.1.size):Below w.heap.size w w2)⟩)
 have hs2:w.heap.size+2≤w2.heap.size:=by have:=b2.size; have:=HI.out.2.2.2.2.2.1; omega
 have HS:=(show Hid _ from hs2)
 clear b2 hrow2 q2 x0 x1 hs2
 obtain ⟨cn,hcn⟩:∃ cn,(inB F 0 100000 && p.ok)=cn:=⟨_,rfl⟩
 rw [hcn]
 have hao:cn=true↔aOk p F:=by
  rw [← hcn,Bool.and_eq_true]
  unfold inB aOk
  simp only [Bool.and_eq_true,decide_eq_true_eq]
  exact ⟨fun h=>⟨h.2,h.1⟩,fun h=>⟨h.2,h.1⟩⟩
 have HA:=(show Hid (_∧True) from ⟨hao,trivial⟩)
 clear hao hcn
 go_wp2_with fail
 go_loopw [17] (fun i wr=>∃ (k:Nat) (xs:List Value),k≤p.names.length∧i = .int .i64 k∧(∀ j:Nat,j<k→xs[j]? = some (.int .i64 (aC p F j)))∧wr.ownsRow (w.heap.size+1) 3 1 (.slice (some ⟨w.heap.size+1,0,none⟩) p.names.length p.names.length) p.names.length xs∧Below (w.heap.size+1) w2 wr) (fun i _=>p.names.length - (intOf i).toNat)
 case atStart=>exact ⟨0,_,Nat.zero_le _,rfl,fun j hj=>by omega,H2.out.1,Below.refl _ _⟩
 case round =>
  obtain ⟨k,xs,hk,rfl,hxs,hrow,hbw⟩:=hrel
  have hxl:=hrow.1
  rw [Nat.mul_one] at hxl
  have hsw:=hbw.size
  have q3:=(hbw.block w.heap.size (by omega)).trans H2.out.2.1
  have x0:=cbk q3 0 (.slice a1 p.names.length cap1) rfl
  have x1:=cbk q3 1 (.slice a2 p.bodies.length cap2) rfl
  have hb0:Below w.heap.size w wr:=H2.out.2.2.trans (hbw.mono (by omega))
  by_cases hkl:k<p.names.length
  ·have hlt':((k:Nat):Int)<((p.names.length:Nat):Int):=by omega
   have d0:∃ u,wr.cell? ⟨w.heap.size+1,k,none⟩=some u:=by
    rw [hrow.cellAt k (by omega)]
    exact ⟨_,List.getElem?_eq_getElem (by omega)⟩
   obtain ⟨u0,d0⟩:=d0
   have f0:=row_frozenA hrow k
   have hst:=(hrow.stored k (.int .i64 3)).1
   have hb1:Below (w.heap.size+1) w2 (wr.setCell ⟨w.heap.size+1,k,none⟩ (.int .i64 3)):=hbw.setCell (p:=⟨w.heap.size+1,k,none⟩) (Nat.le_refl _) _
   obtain ⟨W4,hW4⟩:∃ W4,W4=wr.setCell ⟨w.heap.size+1,k,none⟩ (.int .i64 3):=⟨_,rfl⟩
   rw [← hW4] at hst hb1
   have hb04:Below w.heap.size w W4:=H2.out.2.2.trans (hb1.mono (by omega))
   have q4:=(hb1.block w.heap.size (by omega)).trans H2.out.2.1
   have HR:=(show Hid (_∧_∧_∧_∧_∧_) from ⟨hxs,hxl,hst,hb1,hb04,q4⟩)
   clear hxs hrow hbw hsw q3 hb0 hst hb1 hb04 q4 hxl
   cases cn with
   | false =>
    have hno:¬ aOk p F:=fun h=>by have:=HA.out.1.2 h; cases this
    have hac:=aC_no hno k
    have HN:=(show Hid _ from hac)
    clear hno hac
    go_upto_region 7 with fail
    rw [← hW4]
    clear hW4 x0 x1 d0 f0
    go_wp2_with fail
    refine ⟨⟨k+1,_,by omega,by go_num,fun j hj => ?_,HR.out.2.2.1,HR.out.2.2.2.1⟩,by simp [intOf]; omega⟩
    by_cases hjk:j=k
    ·subst hjk
     rw [List.getElem?_set_self (by rw [HR.out.2.1]; exact hkl),HN.out]
    ·rw [List.getElem?_set_ne (fun e=>hjk e.symm)]
     exact HR.out.1 j (by omega)
   | true =>
    have ho:aOk p F:=HA.out.1.1 rfl
    obtain ⟨Fi,hFi⟩:∃ Fi:Nat,F=(Fi:Int):=⟨F.toNat,by have:=ho.2; omega⟩
    have hof:=HI.out.2.1 W4 k HR.out.2.2.2.2.1 ho hkl
    have hac:=aC_ok ho k
    rw [hFi] at hof hac
    simp only [Int.toNat_natCast] at hof hac
    obtain ⟨cz,hcz⟩:∃ cz,ofC p.bodies k Fi=cz:=⟨_,rfl⟩
    obtain ⟨tz,htz⟩:∃ tz,ofB p.bodies k Fi=tz:=⟨_,rfl⟩
    rw [hcz,htz] at hof
    rw [hcz] at hac
    have y0:=cbk HR.out.2.2.2.2.2 0 (.slice a1 p.names.length cap1) rfl
    have y1:=cbk HR.out.2.2.2.2.2 1 (.slice a2 p.bodies.length cap2) rfl
    have HO:=(show Hid (_∧_) from ⟨hof,hac⟩)
    have HF:=(show Hid (_∧True) from ⟨hFi,trivial⟩)
    clear ho hof hac hcz htz
    go_upto_region 7 with fail
    rw [← hW4]
    clear hW4 x0 x1 d0 f0 hFi
    go_wp2_with fail
    have hc:=HO.out.1
    rw [← HF.out.1] at hc
    refine hc.mono ?_
    rintro r w5 ⟨rfl,b5⟩
    clear hc
    have hrow5:=own_moved HR.out.2.2.1 (fun g hg=>b5.block g (own_lt HR.out.2.2.1 g hg))
    have hl5:=hrow5.1
    rw [Nat.mul_one] at hl5
    have d5:∃ u,w5.cell? ⟨w.heap.size+1,k,none⟩=some u:=by
     rw [hrow5.cellAt k (by omega)]
     exact ⟨_,List.getElem?_eq_getElem (by omega)⟩
    obtain ⟨u5,d5⟩:=d5
    have f5:=row_frozenA hrow5 k
    have hst5:=(hrow5.stored k (.int .i64 cz)).1
    have hb5:Below (w.heap.size+1) w2 (w5.setCell ⟨w.heap.size+1,k,none⟩ (.int .i64 cz)):=(HR.out.2.2.2.1.trans (b5.mono (by have:=HR.out.2.2.2.1.size; have:=HS.out; omega))).setCell (p:=⟨w.heap.size+1,k,none⟩) (Nat.le_refl _) _
    have H5:=(show Hid (_∧_) from ⟨hst5,hb5⟩)
    clear hrow5 hl5 hst5 hb5 b5
    go_wp2_with fail
    refine ⟨⟨k+1,_,by omega,by go_num,fun j hj => ?_,H5.out.1,H5.out.2⟩,by simp [intOf]; omega⟩
    by_cases hjk:j=k
    ·subst hjk
     rw [List.getElem?_set_self (by rw [List.length_set,HR.out.2.1]; exact hkl),HF.out.1,HO.out.2]
    ·rw [List.getElem?_set_ne (fun e=>hjk e.symm),List.getElem?_set_ne (fun e=>hjk e.symm)]
     exact HR.out.1 j (by omega)
  ·obtain rfl:k=p.names.length:=by omega
   have hall:xs=(allC p F p.names.length).map (fun z=>Value.int .i64 z):=by
    apply List.ext_getElem?
    intro j
    by_cases hj:j<p.names.length
    ·rw [hxs j hj,allC_at p F _ j hj]
    ·rw [List.getElem?_eq_none (by omega),List.getElem?_eq_none (by rw [List.length_map,allC_len]; omega)]
   have HX:=(show Hid (_∧_) from ⟨hall ▸ own_mono hrow (Nat.le_succ _),hb0⟩)
   clear hrow hbw q3 hb0 hall hxs
   go_wp2_with fail
   go_ret
   exact ⟨_,rfl,HX.out.1,HX.out.2⟩
end Go.Proofs.YtljdgmfcgkimoaaGreatDoor

namespace Go.Proofs.YtljdgmfcgkimoaaGreatDoor
open Go.RowKit Go.Joins
set_option maxRecDepth 100000
def plus (k:Nat) (r:Rs×Nat):Rs×Nat:=(r.1,r.2+k)
def Same (k:Nat) (a b:Rs×Nat):Prop:=a.1 ≠ .err 1→b=plus k a
theorem Same.ok (k:Nat) (q:Rs) (f:Nat):Same k (q,f) (q,f+k):=fun _=>rfl
theorem Same.ite {k:Nat} {c:Prop} [Decidable c] {a b a' b':Rs×Nat} (h1:Same k a a') (h2:Same k b b'):Same k (if c then a else b) (if c then a' else b'):=by
 split
 ·exact h1
 ·exact h2
theorem Same.onNum {k:Nat} {r r':Rs×Nat} {g g':Int→Nat→Rs×Nat} (h:Same k r r') (hg:∀ n f,Same k (g n f) (g' n (f+k))):Same k (onNum r g) (onNum r' g'):=by
 obtain ⟨r,f⟩:=r
 cases r with
 | err c=>intro hq; have:=h hq; rw [this]; rfl
 | ok v =>
  have:=h (by intro e; cases e)
  rw [this]
  cases v <;> first | exact hg _ _ | exact fun _=>rfl
theorem Same.onFn {k:Nat} {r r':Rs×Nat} {g g':Int→Ex→List Clo→Nat→Rs×Nat} (h:Same k r r') (hg:∀ l x en f,Same k (g l x en f) (g' l x en (f+k))):Same k (onFn r g) (onFn r' g'):=by
 obtain ⟨r,f⟩:=r
 cases r with
 | err c=>intro hq; have:=h hq; rw [this]; rfl
 | ok v =>
  have:=h (by intro e; cases e)
  rw [this]
  cases v <;> first | exact hg _ _ _ _ | exact fun _=>rfl
theorem Same.onList {k:Nat} {r r':Rs×Nat} {g g':Nat→Rs×Nat} {q q':Clo→Clo→Nat→Rs×Nat} (h:Same k r r') (hg:∀ f,Same k (g f) (g' (f+k))) (hq:∀ a b f,Same k (q a b f) (q' a b (f+k))):Same k (onList r g q) (onList r' g' q'):=by
 obtain ⟨r,f⟩:=r
 cases r with
 | err c=>intro hq; have:=h hq; rw [this]; rfl
 | ok v =>
  have:=h (by intro e; cases e)
  rw [this]
  cases v <;> first | exact hg _ | exact hq _ _ _ | exact fun _=>rfl
theorem ev_more (P:List Ex) (k:Nat):∀ (b b' f:Nat) (e:Ex) (env:List Clo),b≤b'→Same k (ev P b f e env) (ev P b' (f+k) e env)
 | 0,b',f,e,env,_=>by rw [ev]; exact fun h=>absurd rfl h
 | b+1,b',f,e,env,hb=>by
  obtain ⟨c,rfl⟩:∃ c,b'=c+1:=⟨b' - 1,by omega⟩
  have ih:∀ f e env,Same k (ev P b f e env) (ev P c (f+k) e env):=fun f e env=>ev_more P k b c f e env (by omega)
  by_cases hf:f=0
  ·rw [ev,if_pos hf]; exact fun h=>absurd rfl h
  rw [ev,ev,if_neg hf,if_neg (show f+k≠0 by omega),show f+k - 1=f - 1+k by omega]
  refine Same.ite (Same.ok k _ _) (Same.ite ?_ (Same.ite (ih _ _ _) (Same.ite (Same.ok k _ _) (Same.ite ?_ (Same.ite (ih _ _ _) (Same.ite ?_ (Same.ite (Same.ok k _ _) (Same.ite (Same.ok k _ _) (Same.ite ?_ (Same.ite ?_ (ih _ _ _)))))))))))
  ·cases env[e.n.toNat]? with
   | none=>exact Same.ok k _ _
   | some c=>exact ih _ _ _
  ·exact Same.onFn (ih _ _ _) fun l x en f'=>Same.ite (Same.ok k _ _) (ih _ _ _)
  ·exact Same.onNum (ih _ _ _) fun n f'=>Same.ite (ih _ _ _) (ih _ _ _)
  ·exact Same.onList (ih _ _ _) (fun f'=>ih _ _ _) (fun a b f'=>ih _ _ _)
  ·exact Same.onNum (ih _ _ _) fun x f'=>Same.onNum (ih _ _ _) fun y f''=>Same.ok k _ _
theorem pr_more (P:List Ex) (k B B':Nat) (hB:B≤B'):∀ (b b' f:Nat) (c:Clo),b≤b'→(pr P B b f c).1 ≠ .error 1→pr P B' b' (f+k) c=((pr P B b f c).1,(pr P B b f c).2+k)
 | 0,b',f,c,_,h=>by rw [pr] at h; exact absurd rfl h
 | b+1,b',f,c,hb,h=>by
  obtain ⟨m,rfl⟩:∃ m,b'=m+1:=⟨b' - 1,by omega⟩
  have he:=ev_more P k B B' f c.ex c.scope hB
  rw [pr] at h ⊢
  rw [pr]
  generalize ev P B f c.ex c.scope=R at h he ⊢
  obtain ⟨R,f'⟩:=R
  cases R with
  | err q =>
   have:=he (by intro e; cases e; exact h rfl)
   rw [this]
   rfl
  | ok v =>
   have:=he (by intro e; cases e)
   rw [this]
   cases v with
   | num n=>rfl
   | nil=>rfl
   | fn l x en=>rfl
   | pair hd tl =>
    have h1:=pr_more P k B B' hB b m f' hd (by omega)
    simp only [plus] at h ⊢
    generalize pr P B b f' hd=R1 at h h1 ⊢
    obtain ⟨R1,f1⟩:=R1
    cases R1 with
    | error q=>rw [h1 h]
    | ok s =>
     rw [h1 (by intro e; cases e)]
     have h2:=pr_more P k B B' hB b m f1 tl (by omega)
     simp only [] at h ⊢
     generalize pr P B b f1 tl=R2 at h h2 ⊢
     obtain ⟨R2,f2⟩:=R2
     cases R2 with
     | error q=>rw [h2 h]
     | ok s'=>rw [h2 (by intro e; cases e)]
end Go.Proofs.YtljdgmfcgkimoaaGreatDoor

namespace Go.Proofs.YtljdgmfcgkimoaaGreatDoor
open Go.RowKit Go.Joins
set_option maxRecDepth 100000
theorem of_more (P:List Ex) (i F k:Nat) (h:ofC P i F≠1):ofB P i (F+k)=ofB P i F∧ofC P i (F+k)=ofC P i F:=by
 have hm:=pr_more P k F (F+k) (by omega) (F+1) (F+k+1) F (.mk (P.getD i exZ) [] false) (by omega)
 unfold ofB ofC at *
 generalize pr P F (F+1) F (.mk (P.getD i exZ) [] false)=R at h hm ⊢
 obtain ⟨R,f⟩:=R
 rw [hm (by intro e; cases R with | ok s=>cases e | error q=>exact h (by simp only [Except.error.injEq] at e; subst e; rfl))]
 cases R <;> exact ⟨rfl,rfl⟩
theorem mean_more (p:Pr) (F:Int) (k:Nat) (h:mC p F=0∨mC p F=2) (hk:F+k≤100000):mB p (F+k)=mB p F∧mC p (F+k)=mC p F:=by
 by_cases ho:mOk p F
 ·obtain ⟨e1,e2⟩:=mB_ok ho
  have ho2:mOk p (F+k):=⟨ho.1,ho.2.1,by have:=ho.2.2; omega,hk⟩
  obtain ⟨e3,e4⟩:=mB_ok ho2
  rw [e1,e2,e3,e4,show (F+k).toNat=F.toNat+k by have:=ho.2.2; omega]
  exact of_more _ _ _ _ (by rw [← e2]; omega)
 ·have:=(mB_no ho).2
  omega
theorem mean_none (p:Pr) (F:Int) (h:mC p F≠0):mB p F=⟨#[]⟩:=by
 by_cases ho:mOk p F
 ·obtain ⟨e1,e2⟩:=mB_ok ho
  rw [e2] at h
  rw [e1]
  unfold ofB ofC at *
  generalize pr p.bodies F.toNat (F.toNat+1) F.toNat (.mk (p.bodies.getD (mainN p).toNat exZ) [] false)=R at h ⊢
  obtain ⟨R,f⟩:=R
  cases R with
  | ok s=>exact absurd rfl h
  | error q=>rfl
 ·exact (mB_no ho).1
theorem main_code (p:Pr) (F:Int) (i:Nat) (hi:i<p.names.length) (hm:(p.names.getD i ByteArray.empty).toList=mainB.toList):aC p F i=mC p F:=by
 by_cases ho:aOk p F
 ·have hn:=(p.ok_iff.1 ho.1).2.2.2.2.1
  have h1:=(nodup_last p.names).1 hn i hi
  have h2:=(lastN_is p.names _ i p.names.length hi rfl).1 h1
  have h3:mainN p=(i:Int):=(lastN_is p.names mainB i p.names.length hi hm).2 (fun j a b=>by rw [← hm]; exact h2 j a b)
  have hok:mOk p F:=⟨ho.1,by rw [h3]; omega,ho.2⟩
  rw [aC_ok ho,(mB_ok hok).2,h3]
  rfl
 ·have hno:¬ mOk p F:=fun h=>ho ⟨h.1,h.2.2⟩
  rw [aC_no ho,(mB_no hno).2]
end Go.Proofs.YtljdgmfcgkimoaaGreatDoor

namespace Go.Proofs.YtljdgmfcgkimoaaGreatDoor
open Go.RowKit Go.Joins
set_option maxRecDepth 100000
set_option maxHeartbeats 3200000 in
theorem sameInts_same (v1 v2:Value) (ts:List Int) (S1 S2:Nat→Prop) (w:World) (h1:IntsAt w S1 v1 ts) (h2:IntsAt w S2 v2 ts) :
  Calls Tryz.prog 10 #[v1,v2] w fun e w'=>e = .returned (.bool true)∧Below w.heap.size w w':=by
 obtain ⟨a1,cap1,rfl,hm1,hc1⟩:=h1
 obtain ⟨a2,cap2,rfl,hm2,hc2⟩:=h2
 unfold maxLen at hm1 hm2
 have HC1:=(show Hid (_∧True) from ⟨hc1,trivial⟩)
 have HC2:=(show Hid (_∧True) from ⟨hc2,trivial⟩)
 clear hc1 hc2
 have hne:(((ts.length:Nat):Int) != ((ts.length:Nat):Int))=false:=by simp
 go_enter Tryz.func10,Tryz.ntmps10
 go_wp2
 go_loopw [5] (fun i wr=>∃ k:Nat,k≤ts.length∧i = .int .i64 k∧Below w.heap.size w wr) (fun i _=>ts.length - (intOf i).toNat)
 case atStart=>exact ⟨0,Nat.zero_le _,rfl,Below.refl _ _⟩
 case round =>
  obtain ⟨k,hk,rfl,hbw⟩:=hrel
  by_cases hkl:k<ts.length
  ·have he:=List.getElem?_eq_getElem hkl
   generalize ts[k]=x at *
   obtain ⟨b1,off1,rfl,-,hl1,c0,-⟩:=HC1.out.1 k x he
   obtain ⟨b2,off2,rfl,-,hl2,d0,-⟩:=HC2.out.1 k x he
   rw [← hbw.cell (by exact hl1)] at c0
   rw [← hbw.cell (by exact hl2)] at d0
   clear he HC1 HC2
   have hlt':((k:Nat):Int)<((ts.length:Nat):Int):=by omega
   have hst:(x == x)=true:=by simp
   have hsn:(x != x)=false:=by simp
   go_wp2
   go_quiet (fail)
   go_wp2
   go_roundw
   case rel=>exact ⟨k+1,by omega,by go_num,drewN_below hbw _⟩
   case measure=>simp [intOf]; omega
  ·clear HC1 HC2
   go_wp2
   go_ret
   exact ⟨rfl,hbw⟩
end Go.Proofs.YtljdgmfcgkimoaaGreatDoor
