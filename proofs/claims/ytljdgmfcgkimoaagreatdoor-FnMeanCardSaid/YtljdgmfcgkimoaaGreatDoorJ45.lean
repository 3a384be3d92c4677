/-
  Proofs.
  Proofs.
  Proofs.
  Proofs.
  Proofs.
  Proofs.
  Proofs.
-/
import Derived.Test.YtljdgmfcgkimoaaGreatDoorJ41
import Derived.Test.YtljdgmfcgkimoaaGreatDoorJ44
import Derived.Test.YtljdgmfcgkimoaaGreatDoorJ42
import Derived.Test.YtljdgmfcgkimoaaGreatDoorJ43
import Derived.Test.YtljdgmfcgkimoaaGreatDoorJ38
import Derived.Test.YtljdgmfcgkimoaaGreatDoorRows
import Derived.WalkKit
import Derived.Lib.Builder
import Derived.Lib.FrozenHead2
import Derived.Lib.OthersKept
import Derived.Shelf.Strings.BuilderK
import Derived.Test.YtljdgmfcgkimoaaGreatDoorShelf
import Derived.Lib.AppendIntMem
import Derived.Lib.SmallJoins
namespace Go.Proofs.YtljdgmfcgkimoaaGreatDoor
open Go.RowKit Go.Joins
set_option maxRecDepth 100000
set_option maxHeartbeats 3200000 in
theorem reckon10 (P:List Ex) (bv:Value) (rb d b:Nat) (hE:EvI P bv rb d b) (hB:b<1000000) (S:Nat→Prop) (f:Nat) (e:Ex) (env:List Clo) (kb ko m:Nat) (sv:Value) (w:World)
  (hf:f≤b) (hr:RunI w rb bv (f+1)) (hs:SvI w S d rb bv P) (hx:ExP w S d rb kb ko e) (hv:ScAt w S d rb m sv env) (hg:Ok P e env) (hk:e.kind=10) :
  Calls Tryz.prog 31 #[.pointer (some ⟨rb,0,none⟩),.pointer (some ⟨kb,ko,none⟩),sv] w fun r w'=>∃ v,r = .returned v∧AftI P S d rb bv w w' v (onNum (ev P b f (kidN e 0) env) fun x f'=>onNum (ev P b f' (kidN e 1) env) fun y f''=>(.ok (.num (arith e.text x y)),f'')):=by
 have hrl:rb<w.heap.size:=lh hr
 have hsv:∃ a,sv = .pointer a:=by rcases hv.form with ⟨-,rfl⟩ | ⟨_,_,_,_,_,-,rfl,-⟩ <;> exact ⟨_,rfl⟩
 obtain ⟨sa,rfl⟩:=hsv
 have hln:env.length≤90:=hg.len
 obtain ⟨ka,kc,hSb,hlb,hcell,i1,i2,i3,hkd,hkr⟩:=hx
 have hx00:ExP w S d rb kb ko e:=⟨ka,kc,hSb,hlb,hcell,i1,i2,i3,hkd,hkr⟩
 obtain ⟨z,hz⟩:∃ z:Int,z=((f+1:Nat):Int):=⟨_,rfl⟩
 obtain ⟨z1,hz1⟩:∃ z1:Int,z1=(f:Int):=⟨_,rfl⟩
 have hw:IntKind.i64.wrap (z + -1)=z1:=by rw [IntKind.wrap_i64]; omega
 have hq0:decide (z1<0)=false:=by simp; omega
 obtain ⟨W1,hW1⟩:∃ W1,W1=w.setCell ⟨rb,1,none⟩ (.int .i64 z1):=⟨_,rfl⟩
 have hadd:=add_any rb z z1 w (by rw [hz,cell_of_block hr]; rfl) (unfrozen_of_block hr 1) hw
 rw [← hW1] at hadd
 have m1:Mv w W1 S S:=by rw [hW1]; exact Mv.set w _ hs.rb
 have kb1:KB (· = rb) w W1:=by rw [hW1]; exact kb_set w rb 1 _
 have run1:RunI W1 rb bv f:=by
  rw [hW1,hz1]
  have:=block_setCell (i:=1) hr (.int .i64 (f:Int))
  exact this
 have s1:W1.heap.size=w.heap.size:=by rw [hW1]; simp
 have hs1:SvI W1 S d rb _ P:=hs.move m1 (by rw [s1]; exact hs.new) hs.rb
 have hv1:=hv.move m1
 have cc:=hcell.move (m1.block kb hSb hlb)
 obtain ⟨p0,p1,p2,p3⟩:=cc
 rw [hk] at p0
 have HADD:=(show Hid (_∧True) from ⟨hadd,trivial⟩)
 have hcall:=operate_any P bv rb d b hE S f e env kb ko m _ W1 hf run1 hs1 (hx00.move m1) hv1 hg hk
 have HK:=(show Hid (_∧_) from ⟨hcall,kb1⟩)
 clear hcall hx00
 clear hE hB hf hr hs hv hg hk hcell i1 i2 i3 hkd hkr hln kb1 run1 s1 hs1 hv1 m1 hSb hlb hz hz1 hw hW1 hadd
 go_enter Tryz.func31,Tryz.ntmps31
 go_wp2_with fail
 refine HADD.out.1.mono ?_
 rintro r W1 ⟨rfl,rfl⟩
 go_wp2_with fail
 refine HK.out.1.mono ?_
 rintro r w9 ⟨v9,rfl,haf⟩
 have HA:=(show Hid _ from haf)
 clear haf
 go_wp2_with fail
 go_ret
 exact ⟨_,rfl,HA.out.sub HK.out.2 (fun _ h=>h)⟩
end Go.Proofs.YtljdgmfcgkimoaaGreatDoor

namespace Go.Proofs.YtljdgmfcgkimoaaGreatDoor
open Go.RowKit Go.Joins
set_option maxRecDepth 100000
set_option maxHeartbeats 3200000 in
theorem reckon11 (P:List Ex) (bv:Value) (rb d b:Nat) (hE:EvI P bv rb d b) (hB:b<1000000) (S:Nat→Prop) (f:Nat) (e:Ex) (env:List Clo) (kb ko m:Nat) (sv:Value) (w:World)
  (hf:f≤b) (hr:RunI w rb bv (f+1)) (hs:SvI w S d rb bv P) (hx:ExP w S d rb kb ko e) (hv:ScAt w S d rb m sv env) (hg:Ok P e env) (hk:e.kind=11) :
  Calls Tryz.prog 31 #[.pointer (some ⟨rb,0,none⟩),.pointer (some ⟨kb,ko,none⟩),sv] w fun r w'=>∃ v,r = .returned v∧AftI P S d rb bv w w' v (ev P b f (kidN e 1) env):=by
 have hrl:rb<w.heap.size:=lh hr
 have hsv:∃ a,sv = .pointer a:=by rcases hv.form with ⟨-,rfl⟩ | ⟨_,_,_,_,_,-,rfl,-⟩ <;> exact ⟨_,rfl⟩
 obtain ⟨sa,rfl⟩:=hsv
 have hln:env.length≤90:=hg.len
 obtain ⟨ka,kc,hSb,hlb,hcell,i1,i2,i3,hkd,hkr⟩:=hx
 obtain ⟨k0,k1,hks⟩:∃ k0 k1,e.kids=[k0,k1]:=by obtain ⟨⟨deep,h⟩,-⟩:=hg; exact kids2 (by rw [kids_of h,hk]; rfl)
 have e0:kidN e 0=k0:=by unfold kidN; rw [hks]; rfl
 have e1:kidN e 1=k1:=by unfold kidN; rw [hks]; rfl
 try rw [e0]
 try rw [e1]
 have hkl:e.kids.length=2:=by rw [hks]; rfl
 rw [hks] at hkd
 obtain ⟨kb2,ko2,rfl⟩:=kid_row hkd (by simp)
 have xp0:ExP w S d rb kb2 (ko2+0 * 4) k0:=by obtain ⟨a,c,h1,h2,h3,h4⟩:=kid_at hkd (i:=0) (k:=k0) rfl; obtain ⟨j1,j2,j3,j4⟩:=h4.parts; exact ⟨a,c,h2.1,h3,h1,j1,j2,j3,j4,h2.2⟩
 simp only [Nat.zero_mul,Nat.add_zero] at xp0
 have xp1:ExP w S d rb kb2 (ko2+1 * 4) k1:=by obtain ⟨a,c,h1,h2,h3,h4⟩:=kid_at hkd (i:=1) (k:=k1) rfl; obtain ⟨j1,j2,j3,j4⟩:=h4.parts; exact ⟨a,c,h2.1,h3,h1,j1,j2,j3,j4,h2.2⟩
 simp only [Nat.one_mul] at xp1
 obtain ⟨z,hz⟩:∃ z:Int,z=((f+1:Nat):Int):=⟨_,rfl⟩
 obtain ⟨z1,hz1⟩:∃ z1:Int,z1=(f:Int):=⟨_,rfl⟩
 have hw:IntKind.i64.wrap (z + -1)=z1:=by rw [IntKind.wrap_i64]; omega
 have hq0:decide (z1<0)=false:=by simp; omega
 obtain ⟨W1,hW1⟩:∃ W1,W1=w.setCell ⟨rb,1,none⟩ (.int .i64 z1):=⟨_,rfl⟩
 have hadd:=add_any rb z z1 w (by rw [hz,cell_of_block hr]; rfl) (unfrozen_of_block hr 1) hw
 rw [← hW1] at hadd
 have m1:Mv w W1 S S:=by rw [hW1]; exact Mv.set w _ hs.rb
 have kb1:KB (· = rb) w W1:=by rw [hW1]; exact kb_set w rb 1 _
 have run1:RunI W1 rb bv f:=by
  rw [hW1,hz1]
  have:=block_setCell (i:=1) hr (.int .i64 (f:Int))
  exact this
 have s1:W1.heap.size=w.heap.size:=by rw [hW1]; simp
 have hs1:SvI W1 S d rb _ P:=hs.move m1 (by rw [s1]; exact hs.new) hs.rb
 have hv1:=hv.move m1
 have cc:=hcell.move (m1.block kb hSb hlb)
 obtain ⟨p0,p1,p2,p3⟩:=cc
 rw [hk] at p0
 rw [hkl] at p3
 have xq0:=xp0.move m1
 have xq1:=xp1.move m1
 have HADD:=(show Hid (_∧True) from ⟨hadd,trivial⟩)
 have g1:Ok P k1 env:=hg.kid (i:=1) (by rw [hks]; rfl) (by unfold moreN; simp [hk])
 have hcall:=hE S f k1 env kb2 (ko2+4) m _ W1 hf run1 hs1 xq1 hv1 g1
 have HK:=(show Hid (_∧_) from ⟨hcall,kb1⟩)
 clear hcall g1
 clear hE hB hf hr hs hv hg hk hcell i1 i2 i3 hkd hkr hln kb1 run1 s1 hs1 hv1 m1 hSb hlb hks hkl e0 xp0 xq0 e1 xp1 xq1 hz hz1 hw hW1 hadd
 go_enter Tryz.func31,Tryz.ntmps31
 go_wp2_with fail
 refine HADD.out.1.mono ?_
 rintro r W1 ⟨rfl,rfl⟩
 go_wp2_with fail
 refine HK.out.1.mono ?_
 rintro r w9 ⟨v9,rfl,haf⟩
 have HA:=(show Hid _ from haf)
 clear haf
 go_wp2_with fail
 go_ret
 exact ⟨_,rfl,HA.out.sub HK.out.2 (fun _ h=>h)⟩
end Go.Proofs.YtljdgmfcgkimoaaGreatDoor

namespace Go.Proofs.YtljdgmfcgkimoaaGreatDoor
open Go.RowKit Go.Joins
set_option maxRecDepth 100000
set_option maxHeartbeats 3200000 in
theorem reckon_out (P:List Ex) (bv:Value) (rb d:Nat) (S:Nat→Prop) (kb ko:Nat) (sv:Value) (w:World) (hr:RunI w rb bv 0) (hv:∃ a,sv = .pointer a) :
  Calls Tryz.prog 31 #[.pointer (some ⟨rb,0,none⟩),.pointer (some ⟨kb,ko,none⟩),sv] w fun r w'=>∃ v,r = .returned v∧AftI P S d rb bv w w' v (.err 1,0):=by
 obtain ⟨sa,rfl⟩:=hv
 have hadd:=add_any rb 0 (-1) w (by rw [cell_of_block hr]; rfl) (unfrozen_of_block hr 1) (by rw [IntKind.wrap_i64]; rfl)
 have hx:(w.setCell ⟨rb,1,none⟩ (.int .i64 (-1))).heap[rb]? = some (.cells #[bv,.int .i64 (-1)] 59):=by
  have:=block_setCell (i:=1) hr (.int .i64 (-1))
  exact this
 have HK:=(show Hid (_∧_∧_) from ⟨hadd,hx,kb_set w rb 1 (.int .i64 (-1))⟩)
 clear hadd hx hr
 go_enter Tryz.func31,Tryz.ntmps31
 go_wp2_with fail
 refine HK.out.1.mono ?_
 rintro r w1 ⟨rfl,rfl⟩
 go_wp2_with fail
 go_ret
 exact ⟨_,rfl,HK.out.2.2,⟨rfl,by decide⟩,⟨_,HK.out.2.1,fun h=>absurd (show (1:Int)=0 from h) (by decide)⟩⟩
theorem evI_succ (P:List Ex) (bv:Value) (rb d b:Nat) (hP:∀ B ∈ P,Ok P B []) (hB:b<1000000) (ih:EvI P bv rb d b):EvI P bv rb d (b+1):=by
 intro S f e env kb ko m sv w hf hr hs hx hv hg
 cases f with
 | zero =>
  rw [show ev P (b+1) 0 e env=(.err 1,0) by rw [ev,if_pos rfl]]
  exact reckon_out P bv rb d S kb ko sv w hr (by rcases hv.form with ⟨-,rfl⟩ | ⟨_,_,_,_,_,-,rfl,-⟩ <;> exact ⟨_,rfl⟩)
 | succ f =>
  have hf':f≤b:=by omega
  obtain ⟨f1,f2,f3,f4⟩:=field_n hg
  rw [ev,if_neg (by omega),show f+1 - 1=f from rfl]
  have hk:e.kind=0∨e.kind=1∨e.kind=2∨e.kind=3∨e.kind=4∨e.kind=5∨e.kind=6∨e.kind=7∨e.kind=8∨e.kind=9∨e.kind=10∨e.kind=11:=by omega
  rcases hk with hk | hk | hk | hk | hk | hk | hk | hk | hk | hk | hk | hk
  ·rw [if_pos hk]
   exact reckon0 P bv rb d b hB S f e env kb ko m sv w hf' hr hs hx hv hg hk
  ·rw [if_neg (by omega),if_pos hk]
   obtain ⟨c,hc⟩:∃ c,env[e.n.toNat]? = some c:=⟨_,List.getElem?_eq_getElem (by have:=f1 hk; omega)⟩
   rw [hc]
   exact reckon1 P bv rb d b ih hB S f e env kb ko m sv w hf' hr hs hx hv hg hk e.n.toNat (by have:=f1 hk; omega) c hc
  ·rw [if_neg (by omega),if_neg (by omega),if_pos hk]
   obtain ⟨B,hb⟩:∃ B,P[e.n.toNat]? = some B:=⟨_,List.getElem?_eq_getElem (by have:=f2 hk; omega)⟩
   rw [show P.getD e.n.toNat exZ=B by rw [List.getD_eq_getElem?_getD,hb]; rfl]
   exact reckon2 P bv rb d b ih hB S f e env kb ko m sv w hf' hr hs hx hv hg hk e.n.toNat (by have:=f2 hk; omega) B hb (hP B (List.mem_of_getElem? hb))
  ·rw [if_neg (by omega),if_neg (by omega),if_neg (by omega),if_pos hk]
   exact reckon3 P bv rb d b hB S f e env kb ko m sv w hf' hr hs hx hv hg hk
  ·rw [if_neg (by omega),if_neg (by omega),if_neg (by omega),if_neg (by omega),if_pos hk]
   exact reckon4 P bv rb d b ih hB S f e env kb ko m sv w hf' hr hs hx hv hg hk
  ·rw [if_neg (by omega),if_neg (by omega),if_neg (by omega),if_neg (by omega),if_neg (by omega),if_pos hk]
   exact reckon5 P bv rb d b ih hB S f e env kb ko m sv w hf' hr hs hx hv hg hk
  ·rw [if_neg (by omega),if_neg (by omega),if_neg (by omega),if_neg (by omega),if_neg (by omega),if_neg (by omega),if_pos hk]
   exact reckon6 P bv rb d b ih hB S f e env kb ko m sv w hf' hr hs hx hv hg hk
  ·rw [if_neg (by omega),if_neg (by omega),if_neg (by omega),if_neg (by omega),if_neg (by omega),if_neg (by omega),if_neg (by omega),if_pos hk]
   exact reckon7 P bv rb d b hB S f e env kb ko m sv w hf' hr hs hx hv hg hk
  ·rw [if_neg (by omega),if_neg (by omega),if_neg (by omega),if_neg (by omega),if_neg (by omega),if_neg (by omega),if_neg (by omega),if_neg (by omega),if_pos hk]
   exact reckon8 P bv rb d b hB S f e env kb ko m sv w hf' hr hs hx hv hg hk
  ·rw [if_neg (by omega),if_neg (by omega),if_neg (by omega),if_neg (by omega),if_neg (by omega),if_neg (by omega),if_neg (by omega),if_neg (by omega),if_neg (by omega),if_pos hk]
   exact reckon9 P bv rb d b ih hB S f e env kb ko m sv w hf' hr hs hx hv hg hk
  ·rw [if_neg (by omega),if_neg (by omega),if_neg (by omega),if_neg (by omega),if_neg (by omega),if_neg (by omega),if_neg (by omega),if_neg (by omega),if_neg (by omega),if_neg (by omega),if_pos hk]
   exact reckon10 P bv rb d b ih hB S f e env kb ko m sv w hf' hr hs hx hv hg hk
  ·rw [if_neg (by omega),if_neg (by omega),if_neg (by omega),if_neg (by omega),if_neg (by omega),if_neg (by omega),if_neg (by omega),if_neg (by omega),if_neg (by omega),if_neg (by omega),if_neg (by omega)]
   exact reckon11 P bv rb d b ih hB S f e env kb ko m sv w hf' hr hs hx hv hg hk
theorem evI_all (P:List Ex) (bv:Value) (rb d:Nat) (hP:∀ B ∈ P,Ok P B []):∀ b,b<1000000→EvI P bv rb d b
 | 0,_=>by
  intro S f e env kb ko m sv w hf hr hs hx hv hg
  obtain rfl:f=0:=by omega
  rw [ev]
  exact reckon_out P bv rb d S kb ko sv w hr (by rcases hv.form with ⟨-,rfl⟩ | ⟨_,_,_,_,_,-,rfl,-⟩ <;> exact ⟨_,rfl⟩)
 | b+1,h=>evI_succ P bv rb d b hP (by omega) (evI_all P bv rb d hP b (by omega))
end Go.Proofs.YtljdgmfcgkimoaaGreatDoor

namespace Go.Proofs.YtljdgmfcgkimoaaGreatDoor
open Go.RowKit
set_option maxRecDepth 100000
theorem sizeBuilder:(Tryz.prog.info? 63).map (·.size)=some 2:=by kernel_rfl
theorem liesBuilder:liesAt Tryz.prog Tryz.prog.depth 63 (2 / Tryz.prog.cellsOf 63) 0 63 1=true:=by kernel_rfl
theorem infoByte:(Tryz.prog.info? 5).map (fun i=>(i.zero,i.size,i.bytes))=some (some (.int .u8 0),1,1):=by kernel_rfl
theorem neB:(63:TypeId)≠5:=by decide
set_option maxHeartbeats 1000000 in
theorem copyCheck_used (b:Nat) (w:World) (h0:w.cell? ⟨b,0,none⟩=some (.pointer (some ⟨b,0,none⟩))) :
  Calls Tryz.prog 80 #[.pointer (some ⟨b,0,none⟩)] w fun e w'=>e = .returned (.tuple #[])∧w'=w:=by
 obtain ⟨j,hj,_⟩:=Option.map_eq_some_iff.1 sizeBuilder
 go_enter Tryz.func80,Tryz.ntmps80
 go_wp2
 rw [Lib.run_neq_ptr_same w _ Tryz.underlying61 hj]
 go_wp2
 go_end0
 exact ⟨rfl,rfl⟩
set_option maxHeartbeats 1000000 in
theorem copyCheck_fresh (b:Nat) (w:World) (h0:w.cell? ⟨b,0,none⟩=some (.pointer none)) (hsh:w.shape? b=some (63,2)) (hfz:w.frozen? ⟨b,0,none⟩=false) :
  Calls Tryz.prog 80 #[.pointer (some ⟨b,0,none⟩)] w fun e w'=>e = .returned (.tuple #[])∧w'=w.setCell ⟨b,0,none⟩ (.pointer (some ⟨b,0,none⟩)):=by
 obtain ⟨j,hj,hjs⟩:=Option.map_eq_some_iff.1 sizeBuilder
 go_enter Tryz.func80,Tryz.ntmps80
 go_wp2
 rw [Lib.run_to_unsafe w ⟨b,0,none⟩ Tryz.underlying61 Tryz.underlying171 hj (by rw [hjs]; decide) hsh (Nat.zero_lt_succ 1)]
 simp only [Result.andThen]
 rw [Oper.upon_value]
 go_wp2
 rw [run_callFunc_extern Tryz.func98 (by kernel_rfl) (by kernel_rfl) (by kernel_rfl) (e:=Extern.AbiNoEscape.same) (by kernel_rfl)]
 rw [Lib.run_noEscape]
 simp only [Result.andThen]
 rw [Oper.upon_value]
 go_wp2
 rw [Lib.run_from_unsafe w ⟨b,0,none⟩ Tryz.underlying171 Tryz.underlying61 hj hsh liesBuilder]
 simp only [Result.andThen]
 rw [Oper.upon_value]
 go_wp2
 go_end0
 exact ⟨rfl,rfl⟩
theorem copyCheck_k (B b:Nat) (bs:List Value) (w:World) (h:Lib.IsBuilderF 63 5 B b bs w) :
  Calls Tryz.prog 80 #[.pointer (some ⟨b,0,none⟩)] w fun e w'=>e = .returned (.tuple #[])∧(Lib.BuilderAtF 63 5 B b (.pointer (some ⟨b,0,none⟩)) bs w'∧Below B w w'∧Lib.OthersKept 5 (some b) w w'):=by
 rcases h with h | h
 ·refine (copyCheck_fresh b w h.cell0 h.shape h.frozen0).mono ?_
  rintro e w' ⟨rfl,rfl⟩
  exact ⟨rfl,h.used _,(Below.refl B w).setCell (p:=⟨b,0,none⟩) h.1 _,(Lib.OthersKept.refl _ _ w).setCell ⟨b,0,none⟩ rfl _⟩
 ·refine (copyCheck_used b w h.cell0).mono ?_
  rintro e w' ⟨rfl,rfl⟩
  exact ⟨rfl,h,Below.refl B _,Lib.OthersKept.refl _ _ _⟩
set_option maxHeartbeats 2000000 in
theorem writeString_k (B b:Nat) (bs:List Value) (s:ByteArray) (w:World) (h:Lib.IsBuilderF 63 5 B b bs w) (hlen:bs.length+s.size≤140737488355328) (hBw:B≤w.heap.size) :
  Calls Tryz.prog 49 #[.pointer (some ⟨b,0,none⟩),.string s] w fun e w'=>e = .returned (.tuple #[.int .i64 s.size,.nilIface])∧(Lib.BuilderAtF 63 5 B b (.pointer (some ⟨b,0,none⟩)) (bs ++ Lib.strCells s) w'∧Below B w w'∧Lib.OthersKept 5 (some b) w w'):=by
 obtain ⟨i0,hi,hz0,hz1,hz2⟩:=info_parts infoByte
 go_enter Tryz.func49,Tryz.ntmps49
 go_wp2_with (go_at_call 80; refine (copyCheck_k B b bs _ h).mono ?_)
 rintro e w1 ⟨rfl,h1,hb1,hk1⟩
 obtain ⟨hB,v,hbk,hown,hne⟩:=h1
 have c0:w1.cell? ⟨b,0,none⟩=some (.pointer (some ⟨b,0,none⟩)):=by rw [Lib.cell_of_heap hbk]; rfl
 have c1:w1.cell? ⟨b,1,none⟩=some v:=by rw [Lib.cell_of_heap hbk]; rfl
 go_wp2_with (at_builtin; refine Lib.wpList_append_own_stringF _ rfl _ _ 22 9 rfl B 5 i0 Tryz.underlying22 Tryz.underlying9 hi hz0 hz1 hz2 _ _ _ rfl hown s rfl ?c3 ?c4 ?c5 ?_)
 case c3=>unfold maxLen; omega
 case c4=>omega
 case c5=>have:=hb1.size; omega
 intro v' w2 hown' hgrow _
 have hlt:b<w1.heap.size:=by
  rcases Nat.lt_or_ge b w1.heap.size with h' | h'
  ·exact h'
  ·simp [Array.getElem?_eq_none h'] at hbk
 have hb2:w2.heap[b]? = some (.cells #[.pointer (some ⟨b,0,none⟩),v] 63 (0,0)):=by
  rw [hgrow.block b hlt (fun e=>hne e.symm)]
  exact hbk
 have d0:w2.cell? ⟨b,0,none⟩=some (.pointer (some ⟨b,0,none⟩)):=by rw [Lib.cell_of_heap hb2]; rfl
 have d1:w2.cell? ⟨b,1,none⟩=some v:=by rw [Lib.cell_of_heap hb2]; rfl
 have f1:w2.frozen? ⟨b,1,none⟩=false:=Lib.frozen_of_heap hb2 1
 obtain ⟨ao,n',cap,rfl⟩:∃ ao n' cap,v' = .slice ao n' cap:=by
  rcases hown'.2 with ⟨hv,_⟩ | ⟨g,cap,cur,fz,hv,_⟩
  ·exact ⟨_,_,_,hv⟩
  ·exact ⟨_,_,_,hv⟩
 go_wp2
 go_ret2
 refine ⟨rfl,?_,?_,(hk1.grown hgrow (Lib.ownsRowF_kind hown)).setCell ⟨b,1,none⟩ rfl _⟩
 ·exact Lib.BuilderAtF.put (T:=63) (e:=5) hB hb2 (bs':=bs ++ Lib.strCells s) (by simpa [Lib.strCells_length] using hown') neB
 ·exact (hb1.grown hgrow (by have:=hb1.size; omega) (fun k hk=>(hown.lt k hk).1)).setCell (p:=⟨b,1,none⟩) hB _
end Go.Proofs.YtljdgmfcgkimoaaGreatDoor

namespace Go.Proofs.YtljdgmfcgkimoaaGreatDoor
open Go.RowKit
set_option maxRecDepth 100000
def BL (B b:Nat) (l:List UInt8) (w:World):Prop:=Lib.IsBuilderF 63 5 B b (Lib.byteCells l) w
theorem below_grown {w w':World} (hb:Below w.heap.size w w'):w.grownBy w' none:=⟨hb.os,hb.tape,hb.output,hb.size,fun k hk _=>hb.block k hk⟩
theorem builderAt_below {B b:Nat} {p:Value} {bs:List Value} {w w':World} (h:Lib.BuilderAtF 63 5 B b p bs w) (hb:Below w.heap.size w w'):Lib.BuilderAtF 63 5 B b p bs w':=by
 have hlt:=h.lt
 obtain ⟨hB,v,hbk,hown,hne⟩:=h
 refine ⟨hB,v,(hb.block _ hlt).trans hbk,hown.kept (below_grown hb) ?_,hne⟩
 cases v.ownBlock with
 | none=>exact .inl rfl
 | some k=>exact .inr (by simp)
theorem BL.below {B b:Nat} {l:List UInt8} {w w':World} (h:BL B b l w) (hb:Below w.heap.size w w'):BL B b l w' :=
 h.elim (fun h => .inl (builderAt_below h hb)) (fun h => .inr (builderAt_below h hb))
theorem BL.lt {B b:Nat} {l:List UInt8} {w:World} (h:BL B b l w):b<w.heap.size:=h.elim (fun h=>h.lt) (fun h=>h.lt)
theorem write_any (B b:Nat) (l s:List UInt8) (w:World) (h:BL B b l w) (hlen:l.length+s.length≤140737488355328) (hBw:B≤w.heap.size) :
  Calls Tryz.prog 49 #[.pointer (some ⟨b,0,none⟩),.string (bsOf s)] w fun e w'=>e = .returned (.tuple #[.int .i64 (bsOf s).size,.nilIface])∧(BL B b (l ++ s) w'∧Below B w w'∧Lib.OthersKept 5 (some b) w w'):=by
 refine (writeString_k B b (Lib.byteCells l) (bsOf s) w h (by rw [Lib.byteCells_length]; simpa [bsOf,ByteArray.size] using hlen) hBw).mono fun e w' ⟨he,h1,h2,h3⟩=>⟨he,?_,h2,h3⟩
 unfold BL
 rw [Lib.byteCells_append]
 exact .inr h1
end Go.Proofs.YtljdgmfcgkimoaaGreatDoor

namespace Go.Proofs.YtljdgmfcgkimoaaGreatDoor
open Go.RowKit
set_option maxRecDepth 100000
theorem DecText_any (n : Int) (w : World) (h0 : -9223372036854775808 ≤ n) (h1 : n ≤ 9223372036854775807) (htab : Lib.TabIs Tryz.prog w "internal/strconv.uint64pow10" .u64 Lib.pow10Tab) :
  Calls Tryz.prog 50 #[.int .i64 n] w fun e w'=>e = .returned (.string ⟨(Lib.itoa n).toArray⟩)∧Below w.heap.size w w':=by
 go_enter Tryz.func50,Tryz.ntmps50
 go_wp2_with (go_at_call 81; refine (Tryz.strconv_Itoa n h0 h1 _ htab).mono ?_; rintro e w' ⟨rfl,k,os,rfl⟩)
 go_ret
 exact ⟨rfl,Lib.below_grow _ _ (Nat.le_refl _) _ _⟩
end Go.Proofs.YtljdgmfcgkimoaaGreatDoor

namespace Go.Proofs.YtljdgmfcgkimoaaGreatDoor
open Go.RowKit Go.Joins
set_option maxRecDepth 100000
def NU (w:World) (k:Nat):Prop:=∀ c fz,w.heap[k]? ≠ some (.cells c 5 fz)
structure PI (w0 w:World) (S:Nat→Prop) (d rb tb B:Nat) (bv:Value) (P:List Ex) (l:List UInt8):Prop where
 sv:SvI w S d rb bv P
 bl:BL B tb l w
 ntb:¬ S tb
 bel:Below rb w0 w
 hB:B≤w.heap.size
 rbB:rb<B
 hw0:w0.heap.size=rb
 tab : Lib.TabIs Tryz.prog w0 "internal/strconv.uint64pow10" .u64 Lib.pow10Tab
theorem BL.kb {B b rb:Nat} {l:List UInt8} {w w':World} (h:BL B b l w) (hk:KB (· = rb) w w') (hrb:rb<B):BL B b l w':=by
 have key:∀ p,Lib.BuilderAtF 63 5 B b p (Lib.byteCells l) w→Lib.BuilderAtF 63 5 B b p (Lib.byteCells l) w':=by
  intro p h
  have hlt:=h.lt
  obtain ⟨hB,v,hbk,hown,hne⟩:=h
  refine ⟨hB,v,(hk.block _ hlt (by omega)).trans hbk,hown.kept (row:=some rb) ⟨hk.os,hk.tape,hk.output,hk.size,fun k hkl hn=>hk.block k hkl (fun e=>hn (by rw [e]))⟩ ?_,hne⟩
  cases hv:v.ownBlock with
  | none=>exact .inl rfl
  | some k=>exact .inr (fun e=>by have:=(hown.lt k hv).1; cases e; omega)
 exact h.elim (fun h => .inl (key _ h)) (fun h => .inr (key _ h))
theorem KB.belowRb {w0 w w':World} {rb:Nat} (h:Below rb w0 w) (hk:KB (· = rb) w w') (hs:rb≤w.heap.size):Below rb w0 w' :=
 h.trans ⟨hk.os,hk.tape,hk.output,hk.size,fun k hkl=>hk.block k (by omega) (by omega)⟩
theorem PI.kb {w0 w w':World} {S:Nat→Prop} {d rb tb B:Nat} {bv:Value} {P:List Ex} {l:List UInt8} (h:PI w0 w S d rb tb B bv P l) (hk:KB (· = rb) w w'):PI w0 w' S d rb tb B bv P l :=
 ⟨h.sv.move (Mv.kb hk (fun x hx hS=>h.sv.rb (hx ▸ hS))) (fun x hx=>h.sv.new x (by have:=hk.size; omega)) h.sv.rb,h.bl.kb hk h.rbB,h.ntb,KB.belowRb h.bel hk (by have:=h.hB; have:=h.rbB; omega),by have:=h.hB; have:=hk.size; omega,h.rbB,h.hw0,h.tab⟩
theorem PI.tabW {w0 w : World} {S : Nat → Prop} {d rb tb B : Nat} {bv : Value} {P : List Ex} {l : List UInt8} (h : PI w0 w S d rb tb B bv P l) : Lib.TabIs Tryz.prog w "internal/strconv.uint64pow10" .u64 Lib.pow10Tab :=
 Lib.tabBelow_of_tabIs h.tab w (by rw [h.hw0]; exact h.bel)
def nuS (rb:Nat) (w:World) (S:Nat→Prop):Nat→Prop:=fun x=>S x∧(x<w.heap.size→x<rb∨NU w x)
theorem nu_of {w:World} {k:Nat} {cs:Array Value} {T:TypeId} {fz:Nat×Nat} (h:w.heap[k]? = some (.cells cs T fz)) (hT:T≠5):NU w k:=fun c fz' e=>by
 rw [h] at e
 simp only [Option.some.injEq,Obj.cells.injEq] at e
 exact hT e.2.1
theorem ExP.nu {w:World} {S:Nat→Prop} {d rb kb ko:Nat} {e:Ex} (h:ExP w S d rb kb ko e):ExP w (nuS rb w S) d rb kb ko e:=by
 obtain ⟨ka,kc,h1,h2,h3,h4,h5,h6,h7,h8⟩:=h
 exact ⟨ka,kc,⟨h1,fun _=>Or.inl h8⟩,h2,h3,h4,h5,h6,h7.wide (fun b hb=>⟨⟨hb.1,fun _=>Or.inl hb.2⟩,hb.2⟩),h8⟩
theorem Cap.nu {w:World} {S:Nat→Prop} {d rb:Nat} {fv sv:Value} {e:Ex} (h:Cap w S d rb fv e sv):Cap w (nuS rb w S) d rb fv e sv:=by
 obtain ⟨b0,b1,b2,kb,ko,h1,⟨s0,s1,s2⟩,l,c0,c1,c2,he⟩:=h
 exact ⟨b0,b1,b2,kb,ko,h1,⟨⟨s0,fun _=>Or.inr (nu_of c0 (by decide))⟩,⟨s1,fun _=>Or.inr (nu_of c1 (by decide))⟩,⟨s2,fun _=>Or.inr (nu_of c2 (by decide))⟩⟩,l,c0,c1,c2,he.nu⟩
theorem ScAt.nu {w:World} {S:Nat→Prop} {d rb:Nat}:∀ {m:Nat} {sv:Value} {env:List Clo},ScAt w S d rb m sv env→ScAt w (nuS rb w S) d rb m sv env
 | 0,_,_,h=>h.elim
 | m+1,sv,env,h=>by
  rcases h with h | ⟨env',c,sb,ov,fv,ev',h1,h2,h3,h4,h5,h6,h7⟩
  ·exact Or.inl h
  ·refine Or.inr ⟨env',c,sb,ov,fv,ev',h1,h2,⟨h3,fun _=>Or.inr (nu_of h4 (by decide))⟩,h4,ScAt.nu h5,h6.nu,?_⟩
   rcases h7 with h7 | ⟨h7,h8⟩
   ·exact Or.inl h7
   ·exact Or.inr ⟨h7,ScAt.nu h8⟩
theorem Ready.nu {w:World} {S:Nat→Prop} {d rb:Nat} {fv:Value} {c:Clo} (h:Ready w S d rb fv c):Ready w (nuS rb w S) d rb fv c:=by
 obtain ⟨ev',m,h1,h2⟩:=h
 exact ⟨ev',m,h1.nu,h2.nu⟩
theorem PI.wrote {w0 w w':World} {S:Nat→Prop} {d rb tb B:Nat} {bv:Value} {P:List Ex} {l l':List UInt8} (h:PI w0 w S d rb tb B bv P l) (h1:BL B tb l' w') (h2:Below B w w') (h3:Lib.OthersKept 5 (some tb) w w') :
  ∃ S',PI w0 w' S' d rb tb B bv P l'∧(∀ fv c,Ready w S d rb fv c→Ready w' S' d rb fv c)∧w'.heap[rb]? = w.heap[rb]? := by
 have g:Mv w w' (nuS rb w S) (fun x=>nuS rb w S x∧¬ (w.heap.size≤x∧x<w'.heap.size)):=by
  refine ⟨fun b hb hl => ?_,h2.size,fun b hb hl=>⟨hb,by omega⟩⟩
  rcases hb.2 hl with hlow | hnu
  ·exact h2.block b (by have:=h.rbB; omega)
  obtain ⟨o,ho⟩:∃ o,w.heap[b]? = some o:=⟨_,Array.getElem?_eq_getElem hl⟩
  rw [ho]
  exact h3 b o ho (fun e=>h.ntb (by cases e; exact hb.1)) (fun c fz e=>hnu c fz (by rw [ho,e]))
 refine ⟨_,⟨⟨fun x hx=>⟨⟨h.sv.new x (by have:=h2.size; omega),fun hl=>by have:=h2.size; omega⟩,by omega⟩,?_,fun hk=>h.sv.rb hk.1.1⟩,h1,fun hk=>h.ntb hk.1.1,h.bel.trans (h2.mono (by have:=h.rbB; omega)),by have:=h.hB; have:=h2.size; omega,h.rbB,h.hw0,h.tab⟩,fun fv c hrd=>hrd.nu.move g,h2.block rb h.rbB⟩
 exact (h.sv.bodies.wide (fun b hb=>(⟨⟨hb.1,fun _=>Or.inl hb.2⟩,hb.2⟩:nuS rb w S b∧b<rb))).move (g.low rb)
end Go.Proofs.YtljdgmfcgkimoaaGreatDoor
