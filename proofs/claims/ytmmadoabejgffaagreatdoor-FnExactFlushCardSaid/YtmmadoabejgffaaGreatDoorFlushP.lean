/-
  Proofs.
-/
import Derived.Test.YtmmadoabejgffaaGreatDoorA
import Derived.Test.YtmmadoabejgffaaGreatDoorS
import Derived.Test.YtmmadoabejgffaaGreatDoorLocks
import Derived.Test.YtmmadoabejgffaaGreatDoorFlushS
import Derived.Test.YtmmadoabejgffaaGreatDoorW
import Derived.Test.YtmmadoabejgffaaGreatDoorResWalk
import Derived.Conc.MuLone
import Derived.WalkKit
import Derived.Defers
import Derived.Deep.RegionHeld3
import Derived.Deep.CutBlock
namespace Go.Proofs.YtmmadoabejgffaaGreatDoor
open Go.RowKit Go.Joins
set_option maxRecDepth 100000
open Go.MuLone
def SendR (l:Lk) (M:Ms) (B:Nat) (vp:Nat→Value):Nat→List Value→Value→(Nat→Prop)→World→Prop:=fun i vs v Y w=>match i with
 | 0=>v=vp 0
 | 1=>v=vp 1
 | 2=>v=vp 2
 | 3=>v=vp 3
 | 4=>v=vp 4
 | 5=>v=vp 5
 | 6=>∃ (oa sa:Option Addr) (oc sc:Nat) (rs:List (Se×Value)),v = .tuple #[.agg #[.int .i64 (l.send M).id,.int .i64 (l.send M).next,.slice oa (l.send M).out.length oc,.slice sa (l.send M).seen.length sc],.string (l.sendText M),.bool (l.goes M)]∧LkOwn w B (.agg #[.int .i64 (l.send M).id,.int .i64 (l.send M).next,.slice oa (l.send M).out.length oc,.slice sa (l.send M).seen.length sc]) (l.send M) (.slice oa (l.send M).out.length oc) (.slice sa (l.send M).seen.length sc) rs∧∀ b,LkBlk (.slice oa (l.send M).out.length oc) (.slice sa (l.send M).seen.length sc) rs b→Y b
 | 7=>∃ (oa sa:Option Addr) (oc sc:Nat) (rs:List (Se×Value)),v = .tuple #[.agg #[.int .i64 (l.send M).id,.int .i64 (l.send M).next,.slice oa (l.send M).out.length oc,.slice sa (l.send M).seen.length sc],.string (l.sendText M),.bool (l.goes M)]∧LkOwn w B (.agg #[.int .i64 (l.send M).id,.int .i64 (l.send M).next,.slice oa (l.send M).out.length oc,.slice sa (l.send M).seen.length sc]) (l.send M) (.slice oa (l.send M).out.length oc) (.slice sa (l.send M).seen.length sc) rs∧∀ b,LkBlk (.slice oa (l.send M).out.length oc) (.slice sa (l.send M).seen.length sc) rs b→Y b
 | 8=>∃ (oa sa:Option Addr) (oc sc:Nat),vs=[.tuple #[.agg #[.int .i64 (l.send M).id,.int .i64 (l.send M).next,.slice oa (l.send M).out.length oc,.slice sa (l.send M).seen.length sc],.string (l.sendText M),.bool (l.goes M)]]∧v = .agg #[.int .i64 (l.send M).id,.int .i64 (l.send M).next,.slice oa (l.send M).out.length oc,.slice sa (l.send M).seen.length sc]
 | 9=>v = .string (l.sendText M)
 | 10=>v = .bool (l.goes M)
 | 11=>∃ g,v = .pointer (some ⟨g,0,none⟩)∧w.heap[g]? = some (.cells #[.int .i64 0,.int .i64 0,.slice none 0 0,.slice none 0 0] 49)∧Y g
 | 12=>∃ (g:Nat) (oa sa:Option Addr) (oc sc:Nat),vs=[.agg #[.int .i64 (l.send M).id,.int .i64 (l.send M).next,.slice oa (l.send M).out.length oc,.slice sa (l.send M).seen.length sc],.pointer (some ⟨g,0,none⟩)]∧w.heap[g]? = some (.cells #[.int .i64 (l.send M).id,.int .i64 (l.send M).next,.slice oa (l.send M).out.length oc,.slice sa (l.send M).seen.length sc] 49)∧Y g
 | 13=>v = .string (l.sendText M)
 | 14=>v = .bool (l.goes M)
 | _=>False
theorem SendR.stay {l:Lk} {M:Ms} {B:Nat} {vp:Nat→Value}:∀ (i:Nat) (vs:List Value) (v:Value) (Y:Nat→Prop) (w w':World),SendR l M B vp i vs v Y w→(∀ b,Y b→b<w.heap.size→w'.heap[b]? = w.heap[b]?)→SendR l M B vp i vs v Y w':=by
 intro i vs v Y w w' h hs
 unfold SendR at h ⊢
 split at h
 ·exact h
 ·exact h
 ·exact h
 ·exact h
 ·exact h
 ·exact h
 ·obtain ⟨oa,sa,oc,sc,rs,e,h,hY⟩:=h; exact ⟨oa,sa,oc,sc,rs,e,h.moved (fun b hb=>hs b (hY b hb) (h.own hb).2),hY⟩
 ·obtain ⟨oa,sa,oc,sc,rs,e,h,hY⟩:=h; exact ⟨oa,sa,oc,sc,rs,e,h.moved (fun b hb=>hs b (hY b hb) (h.own hb).2),hY⟩
 ·exact h
 ·exact h
 ·exact h
 ·obtain ⟨g,e,h,hY⟩:=h; exact ⟨g,e,(hs g hY (lh h)).trans h,hY⟩
 ·obtain ⟨g,oa,sa,oc,sc,e,h,hY⟩:=h; exact ⟨g,oa,sa,oc,sc,e,(hs g hY (lh h)).trans h,hY⟩
 ·exact h
 ·exact h
 ·exact h.elim
set_option maxHeartbeats 12800000 in
theorem nodeFlush_any (w0 w:World) (x0 x1 x2 x3 x4 x5 x6:List (List Dt)) (z7 z8:Int) (x9 x10:List (List Dt)) (nb m1:Nat) (s0 s1 s2 s3 s4 s5 s6:Option Addr) (t0 t1 t2 t3 t4 t5 t6:Nat) (oa0 sa0:Option Addr) (oc0 sc0:Nat) (rs0:List (Se×Value)) (e0 e1 e2:Addr)
  (hF:FuSt w0 w x0 x1 x2 x3 x4 x5 x6 z7 (lkOf z7 z8 x9 x10) m1 0 x6 (lkOf z7 z8 x9 x10) [] [.slice s0 x0.length t0,.slice s1 x1.length t1,.slice s2 x2.length t2,.slice s3 x3.length t3,.slice s4 x4.length t4,.slice s5 x5.length t5] (.slice s6 x6.length t6) (.slice oa0 (lkOf z7 z8 x9 x10).out.length oc0) (.slice sa0 (lkOf z7 z8 x9 x10).seen.length sc0) (.slice none 0 0) rs0)
  (hN:w.heap[nb]? = some (.cells #[.int .i32 0,.int .u32 0,.slice s0 x0.length t0,.slice s1 x1.length t1,.slice s2 x2.length t2,.slice s3 x3.length t3,.slice s4 x4.length t4,.slice s5 x5.length t5,.slice s6 x6.length t6,.int .i64 (lkOf z7 z8 x9 x10).id,.int .i64 (lkOf z7 z8 x9 x10).next,.slice oa0 (lkOf z7 z8 x9 x10).out.length oc0,.slice sa0 (lkOf z7 z8 x9 x10).seen.length sc0] 110)) (hnb:m1≤nb) (hQ:AllR MsgR x6) (hb6:Dt.bS x6≤1048576) (hz7:inI64 z7) (hET:ET w0) (hEG:EG e0 e1 e2 w0) :
  Calls Tryz.prog 21 #[.pointer (some ⟨nb,0,none⟩)] w (FlAns [.row x0,.row x1,.row x2,.row x3,.row x4,.row x5,.row x6,.int z7,.int z8,.row x9,.row x10] w0):=by
 obtain ⟨iX,hiX,hzX0,hzX1,hzX2⟩:=info_parts infoStr
 have hl6:=bulkS_len x6
 have hord0:=hF.ord
 obtain ⟨Wa,hWa⟩:∃ Wa,Wa=w.alloc (.cells #[.slice none 0 0,.slice none 0 0,.slice none 0 0,.slice none 0 0,.slice none 0 0,.slice none 0 0,.slice none 0 0,.int .i64 0,.int .i64 0,.slice none 0 0,.slice none 0 0] 51):=⟨_,rfl⟩
 have ba:Below w.heap.size w Wa:=by rw [hWa]; exact (Below.refl _ w).alloc (Nat.le_refl _) _
 have Ra:Wa.heap[w.heap.size]? = some (.cells #[.slice none 0 0,.slice none 0 0,.slice none 0 0,.slice none 0 0,.slice none 0 0,.slice none 0 0,.slice none 0 0,.int .i64 0,.int .i64 0,.slice none 0 0,.slice none 0 0] 51):=by rw [hWa]; exact (MapKept.heap_alloc w _).1
 have Na:=(ba.block _ (lh hN)).trans hN
 have Fa:=hF.below ba
 have hnlt:nb<w.heap.size:=lh hN
 obtain ⟨Wb,hWb⟩:∃ Wb,Wb=Wa.setCell ⟨nb,0,none⟩ (.int .i32 1):=⟨_,rfl⟩
 have eb:∀ b,b≠nb→Wb.heap[b]? = Wa.heap[b]? := fun b hb=>by rw [hWb]; exact Below.heap_setCell _ _ _ b hb
 have sb:Wb.heap.size=Wa.heap.size:=by rw [hWb]; simp
 have Nb:Wb.heap[nb]? = some (.cells #[.int .i32 1,.int .u32 0,.slice s0 x0.length t0,.slice s1 x1.length t1,.slice s2 x2.length t2,.slice s3 x3.length t3,.slice s4 x4.length t4,.slice s5 x5.length t5,.slice s6 x6.length t6,.int .i64 (lkOf z7 z8 x9 x10).id,.int .i64 (lkOf z7 z8 x9 x10).next,.slice oa0 (lkOf z7 z8 x9 x10).out.length oc0,.slice sa0 (lkOf z7 z8 x9 x10).seen.length sc0] 110):=by
  have:=block_setCell (i:=0) Na (.int .i32 1)
  rw [← hWb] at this
  simp only [List.setIfInBounds_toArray,List.set_cons_zero] at this
  exact this
 have Fb:FuSt w0 Wb x0 x1 x2 x3 x4 x5 x6 z7 (lkOf z7 z8 x9 x10) m1 0 x6 (lkOf z7 z8 x9 x10) [] [.slice s0 x0.length t0,.slice s1 x1.length t1,.slice s2 x2.length t2,.slice s3 x3.length t3,.slice s4 x4.length t4,.slice s5 x5.length t5] (.slice s6 x6.length t6) (.slice oa0 (lkOf z7 z8 x9 x10).out.length oc0) (.slice sa0 (lkOf z7 z8 x9 x10).seen.length sc0) (.slice none 0 0) rs0 :=
  Fa.away (by rw [hWb]; exact Fa.base.setCell (p:=⟨nb,0,none⟩) (by have:=Fa.base.size; have:=Fa.ord; show w0.heap.size≤nb; omega) _) (by omega) (fun b h=>eb b h) hnb (t:=110) (by rw [Na]; rfl) (by decide)
 have HF:=(show Hid (_∧_∧_) from ⟨Fb,Nb,(eb _ (by omega)).trans Ra⟩)
 have c0:=cb hN 0 (.int .i32 0) rfl
 have ca:=cb Na 0 (.int .i32 0) rfl
 have fa:=ub Na 0
 have HW:=(show Hid (_∧_) from ⟨hWa,hWb⟩)
 have HE:=(show Hid (_∧_∧_∧_∧_) from ⟨hET,hEG,hQ,hb6,hz7⟩)
 clear Fa Fb Nb Na Ra ba eb sb hWa hWb hF hN hET hEG hQ hb6 hz7 c0
 go_enter_defers Tryz.func21,Tryz.ntmps21
 go_wp2_with fail
 rw [← HW.out.1]
 refine (lock_free muLib ⟨nb,0,none⟩ _ ca fa).mono ?_
 rintro e w' ⟨rfl,hw'⟩
 rw [← HW.out.2] at hw'
 obtain rfl:=hw'
 clear ca fa
 have n8:=cb HF.out.2.1 8 (.slice s6 x6.length t6) rfl
 go_wp2_with fail
 go_loopw [4,26] (fun pv iv wr=>∃ (k:Nat) (l:Lk) (ps:List ByteArray) (oa sa pa:Option Addr) (oc sc pc:Nat) (rs:List (Se×Value)),pv = .slice pa k pc∧iv = .int .i64 k∧k≤x6.length∧Hid (FuSt w0 wr x0 x1 x2 x3 x4 x5 x6 z7 (lkOf z7 z8 x9 x10) m1 k x6 l ps [.slice s0 x0.length t0,.slice s1 x1.length t1,.slice s2 x2.length t2,.slice s3 x3.length t3,.slice s4 x4.length t4,.slice s5 x5.length t5] (.slice s6 x6.length t6) (.slice oa l.out.length oc) (.slice sa l.seen.length sc) (.slice pa k pc) rs)∧Hid (wr.heap[nb]? = some (.cells #[.int .i32 1,.int .u32 0,.slice s0 x0.length t0,.slice s1 x1.length t1,.slice s2 x2.length t2,.slice s3 x3.length t3,.slice s4 x4.length t4,.slice s5 x5.length t5,.slice s6 x6.length t6,.int .i64 l.id,.int .i64 l.next,.slice oa l.out.length oc,.slice sa l.seen.length sc] 110))∧Hid (wr.heap[w.heap.size]? = some (.cells #[.slice none 0 0,.slice none 0 0,.slice none 0 0,.slice none 0 0,.slice none 0 0,.slice none 0 0,.slice none 0 0,.int .i64 0,.int .i64 0,.slice none 0 0,.slice none 0 0] 51))) (fun _ iv _=>x6.length - (intOf iv).toNat)
 case atStart=>exact ⟨0,_,[],_,_,none,_,_,0,rs0,rfl,rfl,Nat.zero_le _,HF.out.1,HF.out.2.1,HF.out.2.2⟩
 case round =>
  clear HF HW n8
  obtain ⟨k,l,ps,oa',sa',pa,oc',sc',pc,rs',rfl,rfl,hk,HF,HO,HR⟩:=hrel
  have hF:=HF.out
  have hlwn:nb<wr.heap.size:=lh HO.out
  have hlwr:w.heap.size<wr.heap.size:=lh HR.out
  by_cases hkl:k<x6.length
  ·have he:=List.getElem?_eq_getElem hkl
   have hbk6:=bulkS_at he
   generalize x6[k]=rr at *
   obtain ⟨y0,y1,y2,y3,y4,y5,y6,y7,y8,rfl,qm⟩:=HE.out.2.2.1 k rr he
   have aS:FAt wr _ (.slice s6 x6.length t6) (.row x6):=(OFs.at hF.mach).2.2.2.2.2.2.1
   obtain ⟨b,off,hS6,-,hlb,us,hus⟩:=aS.at he
   have c0:wr.cell? ⟨b,off+k * 9,none⟩=some (us 0):=(hus 0 _ rfl).1
   have a0:=(hus 0 _ rfl).2
   have c1:wr.cell? ⟨b,off+k * 9+1,none⟩=some (us 1):=(hus 1 _ rfl).1
   have a1:=(hus 1 _ rfl).2
   have c2:wr.cell? ⟨b,off+k * 9+2,none⟩=some (us 2):=(hus 2 _ rfl).1
   have a2:=(hus 2 _ rfl).2
   have c3:wr.cell? ⟨b,off+k * 9+3,none⟩=some (us 3):=(hus 3 _ rfl).1
   have a3:=(hus 3 _ rfl).2
   have c4:wr.cell? ⟨b,off+k * 9+4,none⟩=some (us 4):=(hus 4 _ rfl).1
   have a4:=(hus 4 _ rfl).2
   have c5:wr.cell? ⟨b,off+k * 9+5,none⟩=some (us 5):=(hus 5 _ rfl).1
   have a5:=(hus 5 _ rfl).2
   have c6:wr.cell? ⟨b,off+k * 9+6,none⟩=some (us 6):=(hus 6 _ rfl).1
   have a6:=(hus 6 _ rfl).2
   have c7:wr.cell? ⟨b,off+k * 9+7,none⟩=some (us 7):=(hus 7 _ rfl).1
   have a7:=(hus 7 _ rfl).2
   have c8:wr.cell? ⟨b,off+k * 9+8,none⟩=some (us 8):=(hus 8 _ rfl).1
   have a8:=(hus 8 _ rfl).2
   obtain ⟨u0,i0⟩:=a0.ofInt
   rw [u0] at c0
   clear u0 a0
   obtain ⟨u1,i1⟩:=a1.ofInt
   rw [u1] at c1
   clear u1 a1
   obtain ⟨u2,i2⟩:=a2.ofInt
   rw [u2] at c2
   clear u2 a2
   obtain ⟨u3,i3⟩:=a3.ofInt
   rw [u3] at c3
   clear u3 a3
   obtain ⟨u4,i4⟩:=a4.ofInt
   rw [u4] at c4
   clear u4 a4
   obtain ⟨u5,i5⟩:=a5.ofInt
   rw [u5] at c5
   clear u5 a5
   obtain ⟨u6,i6⟩:=a6.ofInt
   rw [u6] at c6
   clear u6 a6
   obtain ⟨u7,i7⟩:=a7.ofInt
   rw [u7] at c7
   clear u7 a7
   obtain ⟨sk,tk,u8⟩:=a8.form
   rw [u8] at c8 a8
   clear u8 hus aS
   have HM:=(show Hid (MsAt wr _ (.agg #[.int .i64 y0,.int .i64 z7,.int .i64 y2,.int .i64 y3,.int .i64 y4,.int .i64 y5,.int .i64 y6,.int .i64 y7,.slice sk y8.length tk]) ((msOf [.int y0,.int y1,.int y2,.int y3,.int y4,.int y5,.int y6,.int y7,.row y8]).off z7)) from ms_of_fs (vs:=[.int .i64 y0,.int .i64 z7,.int .i64 y2,.int .i64 y3,.int .i64 y4,.int .i64 y5,.int .i64 y6,.int .i64 y7,.slice sk y8.length tk]) (r:=[.int y0,.int z7,.int y2,.int y3,.int y4,.int y5,.int y6,.int y7,.row y8]) ⟨_,_,_,_,_,_,_,_,_,rfl,qm⟩ ⟨.int _ i0,.int _ HE.out.2.2.2.2,.int _ i2,.int _ i3,.int _ i4,.int _ i5,.int _ i6,.int _ i7,a8,trivial⟩)
   have hlt':((k:Nat):Int)<((x6.length:Nat):Int):=by omega
   have n9:=cb HO.out 9 (.int .i64 l.id) rfl
   have hlid:=hF.lid
   have hpvw:∀ q,Value.ownBlock (.slice pa k pc)=some q→q<wr.heap.size:=fun q hq=>own_lt hF.pks q hq
   rw [hlid] at n9
   subst hS6
   clear a8 hF hlid i0 i1 i2 i3 i4 i5 i6 i7
   go_upto_region 9 with fail
   obtain ⟨W2,hW2⟩:∃ W2,W2=wr.alloc (.cells #[.int .i64 y0,.int .i64 z7,.int .i64 y2,.int .i64 y3,.int .i64 y4,.int .i64 y5,.int .i64 y6,.int .i64 y7,.slice sk y8.length tk] 67):=⟨_,rfl⟩
   rw [← hW2]
   have b2:Below wr.heap.size wr W2:=by rw [hW2]; exact (Below.refl _ wr).alloc (Nat.le_refl _) _
   have hsW2:wr.heap.size<W2.heap.size:=by rw [hW2]; simp
   obtain ⟨M,hM⟩:∃ M,M=(msOf [.int y0,.int y1,.int y2,.int y3,.int y4,.int y5,.int y6,.int y7,.row y8]).off z7:=⟨_,rfl⟩
   have HM2:=HM.out.below b2
   rw [← hM] at HM2
   have hkl8:y8.length≤1048576:=by have:=HE.out.2.2.2.1; rw [show Dt.bR [.int y0,.int y1,.int y2,.int y3,.int y4,.int y5,.int y6,.int y7,.row y8]=Dt.bS y8 from by simp [Dt.bR,Dt.bulk]] at *; have:=bulkS_len y8; omega
   have hkM:M.cell.kids.length≤1048576:=by rw [hM]; show (intsOf y8).length≤_; rw [show (intsOf y8).length=y8.length from List.length_map _]; exact hkl8
   have hMat:(x6.map msOf)[k]? = some (msOf [.int y0,.int y1,.int y2,.int y3,.int y4,.int y5,.int y6,.int y7,.row y8]):=by rw [List.getElem?_map,he]; rfl
   have F2:=HF.out.below b2
   have N2:=(b2.block _ (lh HO.out)).trans HO.out
   have R2:=(b2.block _ (lh HR.out)).trans HR.out
   have MB:W2.heap[wr.heap.size]? = some (.cells #[.int .i64 y0,.int .i64 z7,.int .i64 y2,.int .i64 y3,.int .i64 y4,.int .i64 y5,.int .i64 y6,.int .i64 y7,.slice sk y8.length tk] 67):=by rw [hW2]; exact (MapKept.heap_alloc wr _).1
   have HZ:Hid (∀ wx:World,Below W2.heap.size W2 wx→wx.cell? ⟨nb,9,none⟩=some (.int .i64 l.id)∧wx.cell? ⟨nb,10,none⟩=some (.int .i64 l.next)∧wx.cell? ⟨nb,11,none⟩=some (.slice oa' l.out.length oc')∧wx.cell? ⟨nb,12,none⟩=some (.slice sa' l.seen.length sc')∧wx.cell? ⟨wr.heap.size,0,none⟩=some (.int .i64 y0)∧wx.cell? ⟨wr.heap.size,1,none⟩=some (.int .i64 z7)∧wx.cell? ⟨wr.heap.size,2,none⟩=some (.int .i64 y2)∧wx.cell? ⟨wr.heap.size,3,none⟩=some (.int .i64 y3)∧wx.cell? ⟨wr.heap.size,4,none⟩=some (.int .i64 y4)∧wx.cell? ⟨wr.heap.size,5,none⟩=some (.int .i64 y5)∧wx.cell? ⟨wr.heap.size,6,none⟩=some (.int .i64 y6)∧wx.cell? ⟨wr.heap.size,7,none⟩=some (.int .i64 y7)∧wx.cell? ⟨wr.heap.size,8,none⟩=some (.slice sk y8.length tk)):=fun wx hx=>by
    have o:=(hx.block _ (lh N2)).trans N2
    have m:=(hx.block _ (lh MB)).trans MB
    exact ⟨by rw [cell_of_block o]; rfl,by rw [cell_of_block o]; rfl,by rw [cell_of_block o]; rfl,by rw [cell_of_block o]; rfl,by rw [cell_of_block m]; rfl,by rw [cell_of_block m]; rfl,by rw [cell_of_block m]; rfl,by rw [cell_of_block m]; rfl,by rw [cell_of_block m]; rfl,by rw [cell_of_block m]; rfl,by rw [cell_of_block m]; rfl,by rw [cell_of_block m]; rfl,by rw [cell_of_block m]; rfl⟩
   have HG:=(show Hid (_∧_∧_∧_) from ⟨F2,N2,R2,HM2⟩)
   have HM5:=(show Hid (_∧_∧_∧_) from ⟨ms_fitsS HM2,hM,hMat,hkM⟩)
   clear F2 N2 R2 MB b2 hW2 HM2 HM hM hMat hkl8 hkM n9 hbk6 he HF HO HR c0 c1 c2 c3 c4 c5 c6 c7 c8
   refine wp_region_held_drew (S:=fun w'=>w'.cell? ⟨nb,9,none⟩=some (.int .i64 l.id)∧w'.cell? ⟨nb,10,none⟩=some (.int .i64 l.next)∧w'.cell? ⟨nb,11,none⟩=some (.slice oa' l.out.length oc')∧w'.cell? ⟨nb,12,none⟩=some (.slice sa' l.seen.length sc')∧w'.cell? ⟨wr.heap.size,0,none⟩=some (.int .i64 y0)∧w'.cell? ⟨wr.heap.size,1,none⟩=some (.int .i64 z7)∧w'.cell? ⟨wr.heap.size,2,none⟩=some (.int .i64 y2)∧w'.cell? ⟨wr.heap.size,3,none⟩=some (.int .i64 y3)∧w'.cell? ⟨wr.heap.size,4,none⟩=some (.int .i64 y4)∧w'.cell? ⟨wr.heap.size,5,none⟩=some (.int .i64 y5)∧w'.cell? ⟨wr.heap.size,6,none⟩=some (.int .i64 y6)∧w'.cell? ⟨wr.heap.size,7,none⟩=some (.int .i64 y7)∧w'.cell? ⟨wr.heap.size,8,none⟩=some (.slice sk y8.length tk)) (by kernel_rfl) (HZ.out W2 (Below.refl _ W2)) (fun hS => ?_)
   refine region_res [⟨0,some 38,[],[]⟩,⟨1,some 39,[0],[]⟩,⟨2,some 40,[1],[]⟩,⟨3,some 41,[2],[]⟩,⟨4,some 42,[3],[]⟩,⟨5,some 43,[],[]⟩,⟨6,some 44,[4,5],[]⟩,⟨7,some 37,[6],[6]⟩,⟨8,some 45,[7],[]⟩,⟨9,some 46,[7],[]⟩,⟨10,some 47,[7],[]⟩,⟨11,some 8,[],[]⟩,⟨12,none,[8,11],[11]⟩,⟨13,some 9,[9],[]⟩,⟨14,some 10,[10],[]⟩] (SendR l M W2.heap.size (fun i=>[.pointer (some ⟨nb,0,none⟩),.pointer (some ⟨nb,0,none⟩),.pointer (some ⟨nb,2,none⟩),.pointer (some ⟨nb,9,none⟩),.agg #[.int .i64 l.id,.int .i64 l.next,.slice oa' l.out.length oc',.slice sa' l.seen.length sc'],.agg #[.int .i64 y0,.int .i64 z7,.int .i64 y2,.int .i64 y3,.int .i64 y4,.int .i64 y5,.int .i64 y6,.int .i64 y7,.slice sk y8.length tk]].getD i undef)) (fun wx=>Below W2.heap.size W2 wx) W2.heap.size (fun _=>undef) (fun _ _=>False) 74 rfl (by kernel_rfl) (fun _ h=>h.size) (Below.refl W2.heap.size W2).drew (fun _ _ h=>h.elim) (fun _ _ _ h=>h.elim) ?_ SendR.stay ?_ ?_
   ·exact ⟨fun h=>absurd h (by decide),fun h=>absurd h (by decide),fun h=>absurd h (by decide),fun h=>absurd h (by decide),fun h=>absurd h (by decide),fun h=>absurd h (by decide),fun h=>absurd h (by decide),fun h=>absurd h (by decide),fun h=>absurd h (by decide),fun h=>absurd h (by decide),fun h=>absurd h (by decide),fun h=>absurd h (by decide),fun h=>absurd h (by decide),fun h=>absurd h (by decide),fun h=>absurd h (by decide),trivial⟩
   ·refine ⟨?_,?_,?_,?_,?_,?_,?_,?_,?_,?_,?_,?_,?_,?_,?_,trivial⟩
    ·refine .inr ⟨_,rfl,fun val X a wx K hFr hds hT hN hdom hdis hK => ?_⟩
     obtain ⟨tm,df⟩:=a
     obtain rfl:df=_:=hds
     have hlo:W2.heap.size≤wx.heap.size:=Below.size hFr
     have r0:tm.getD 0 undef = .pointer (some ⟨nb,0,none⟩):=(hT 0 undef (by decide)).trans rfl
     have hk:=hK (.pointer (some ⟨nb,0,none⟩)) (fun _=>False) wx hFr (HZ.out _ hFr) (Nat.le_refl _) (fun _ _ _ _=>rfl) (fun b hb=>hb.elim) rfl
     clear hK hN hT hdom hdis
     go_simp
     exact hk
    ·refine .inr ⟨_,rfl,fun val X a wx K hFr hds hT hN hdom hdis hK => ?_⟩
     obtain ⟨tm,df⟩:=a
     obtain rfl:df=_:=hds
     have h0:=hN ⟨0,some 38,[],[]⟩ (by simp) (by simp)
     have hlo:W2.heap.size≤wx.heap.size:=Below.size hFr
     have r38:tm.getD 38 undef = .pointer (some ⟨nb,0,none⟩):=(h0.1 38 undef rfl).trans h0.2
     have hk:=hK (.pointer (some ⟨nb,0,none⟩)) (fun _=>False) wx hFr (HZ.out _ hFr) (Nat.le_refl _) (fun _ _ _ _=>rfl) (fun b hb=>hb.elim) rfl
     clear hK hN hT hdom hdis h0
     go_simp
     exact hk
    ·refine .inr ⟨_,rfl,fun val X a wx K hFr hds hT hN hdom hdis hK => ?_⟩
     obtain ⟨tm,df⟩:=a
     obtain rfl:df=_:=hds
     have h1:=hN ⟨1,some 39,[0],[]⟩ (by simp) (by simp)
     have hlo:W2.heap.size≤wx.heap.size:=Below.size hFr
     have r39:tm.getD 39 undef = .pointer (some ⟨nb,0,none⟩):=(h1.1 39 undef rfl).trans h1.2
     have hk:=hK (.pointer (some ⟨nb,2,none⟩)) (fun _=>False) wx hFr (HZ.out _ hFr) (Nat.le_refl _) (fun _ _ _ _=>rfl) (fun b hb=>hb.elim) rfl
     clear hK hN hT hdom hdis h1
     go_simp
     exact hk
    ·refine .inr ⟨_,rfl,fun val X a wx K hFr hds hT hN hdom hdis hK => ?_⟩
     obtain ⟨tm,df⟩:=a
     obtain rfl:df=_:=hds
     have h2:=hN ⟨2,some 40,[1],[]⟩ (by simp) (by simp)
     have hlo:W2.heap.size≤wx.heap.size:=Below.size hFr
     have r40:tm.getD 40 undef = .pointer (some ⟨nb,2,none⟩):=(h2.1 40 undef rfl).trans h2.2
     have hk:=hK (.pointer (some ⟨nb,9,none⟩)) (fun _=>False) wx hFr (HZ.out _ hFr) (Nat.le_refl _) (fun _ _ _ _=>rfl) (fun b hb=>hb.elim) rfl
     clear hK hN hT hdom hdis h2
     go_simp
     exact hk
    ·refine .inr ⟨_,rfl,fun val X a wx K hFr hds hT hN hdom hdis hK => ?_⟩
     obtain ⟨tm,df⟩:=a
     obtain rfl:df=_:=hds
     have h3:=hN ⟨3,some 41,[2],[]⟩ (by simp) (by simp)
     have hlo:W2.heap.size≤wx.heap.size:=Below.size hFr
     have r41:tm.getD 41 undef = .pointer (some ⟨nb,9,none⟩):=(h3.1 41 undef rfl).trans h3.2
     have hk:=hK (.agg #[.int .i64 l.id,.int .i64 l.next,.slice oa' l.out.length oc',.slice sa' l.seen.length sc']) (fun _=>False) wx hFr (HZ.out _ hFr) (Nat.le_refl _) (fun _ _ _ _=>rfl) (fun b hb=>hb.elim) rfl
     obtain ⟨n9,n10,n11,n12,-⟩:=HZ.out wx hFr
     clear hK hN hT hdom hdis h3
     go_simp
     exact hk
    ·refine .inr ⟨_,rfl,fun val X a wx K hFr hds hT hN hdom hdis hK => ?_⟩
     obtain ⟨tm,df⟩:=a
     obtain rfl:df=_:=hds
     have hlo:W2.heap.size≤wx.heap.size:=Below.size hFr
     have r7:tm.getD 7 undef = .pointer (some ⟨wr.heap.size,0,none⟩):=(hT 7 undef (by decide)).trans rfl
     have hk:=hK (.agg #[.int .i64 y0,.int .i64 z7,.int .i64 y2,.int .i64 y3,.int .i64 y4,.int .i64 y5,.int .i64 y6,.int .i64 y7,.slice sk y8.length tk]) (fun _=>False) wx hFr (HZ.out _ hFr) (Nat.le_refl _) (fun _ _ _ _=>rfl) (fun b hb=>hb.elim) rfl
     obtain ⟨-,-,-,-,m0,m1',m2,m3,m4,m5,m6,m7,m8⟩:=HZ.out wx hFr
     clear hK hN hT hdom hdis
     go_simp
     exact hk
    ·refine .inr ⟨_,rfl,fun val X a wx K hFr hds hT hN hdom hdis hK => ?_⟩
     obtain ⟨tm,df⟩:=a
     obtain rfl:df=_:=hds
     have h4:=hN ⟨4,some 42,[3],[]⟩ (by simp) (by simp)
     have h5:=hN ⟨5,some 43,[],[]⟩ (by simp) (by simp)
     have hlo:W2.heap.size≤wx.heap.size:=Below.size hFr
     have FX:=HG.out.1.below hFr
     refine step_callTwo rfl 52 (.tmp 42) (.tmp 43) _ rfl (enters_of Tryz.func52 (by kernel_rfl) rfl) (.agg #[.int .i64 l.id,.int .i64 l.next,.slice oa' l.out.length oc',.slice sa' l.seen.length sc']) (.agg #[.int .i64 y0,.int .i64 z7,.int .i64 y2,.int .i64 y3,.int .i64 y4,.int .i64 y5,.int .i64 y6,.int .i64 y7,.slice sk y8.length tk]) ((h4.1 42 undef rfl).trans h4.2) ((h5.1 43 undef rfl).trans h5.2) (fun r w'=>∃ (oa5 sa5:Option Addr) (oc5 sc5:Nat) (rs:List (Se×Value)),r = .tuple #[.agg #[.int .i64 (l.send M).id,.int .i64 (l.send M).next,.slice oa5 (l.send M).out.length oc5,.slice sa5 (l.send M).seen.length sc5],.string (l.sendText M),.bool (l.goes M)]∧LkOwn w' wx.heap.size (.agg #[.int .i64 (l.send M).id,.int .i64 (l.send M).next,.slice oa5 (l.send M).out.length oc5,.slice sa5 (l.send M).seen.length sc5]) (l.send M) (.slice oa5 (l.send M).out.length oc5) (.slice sa5 (l.send M).seen.length sc5) rs∧Below wx.heap.size wx w') ((implLinkSend_any _ _ l M _ _ e0 e1 e2 wx FX.link.at (HG.out.2.2.2.below hFr) FX.lb (HE.out.1.below FX.base) (HE.out.2.1.below FX.base)).mono (fun e w' hh => ?_)) ?_
     ·obtain ⟨v5,ov5,sv5,rs5,rfl,L5,b5⟩:=hh
      obtain rfl:=L5.val
      obtain ⟨oa5,oc5,rfl⟩:=L5.out.at.form
      have g10:=L5.seen.at.form
      rw [L5.is] at g10
      obtain ⟨sa5,sc5,rfl⟩:=g10
      exact ⟨_,rfl,oa5,sa5,oc5,sc5,rs5,rfl,L5,b5⟩
     ·rintro r w' ⟨oa5,sa5,oc5,sc5,rs5,rfl,L5,b5⟩
      have hb':Below W2.heap.size W2 w':=Below.trans hFr (b5.mono hlo)
      exact hK _ (LkBlk (.slice oa5 (l.send M).out.length oc5) (.slice sa5 (l.send M).seen.length sc5) rs5) w' hb' (HZ.out _ hb') b5.size (fun b j hx _=>b5.block b (hdom j b hx).2) (fun b hb => .inr (L5.own hb)) ⟨oa5,sa5,oc5,sc5,rs5,rfl,L5.base hlo,fun _ h=>h⟩
    ·refine .inr ⟨_,rfl,fun val X a wx K hFr hds hT hN hdom hdis hK => ?_⟩
     obtain ⟨tm,df⟩:=a
     obtain rfl:df=_:=hds
     have h6:=hN ⟨6,some 44,[4,5],[]⟩ (by simp) (by simp)
     have hlo:W2.heap.size≤wx.heap.size:=Below.size hFr
     obtain ⟨oa5,sa5,oc5,sc5,rs5,e6,L5,hY⟩:=h6.2
     have r44:tm.getD 44 undef = .tuple #[.agg #[.int .i64 (l.send M).id,.int .i64 (l.send M).next,.slice oa5 (l.send M).out.length oc5,.slice sa5 (l.send M).seen.length sc5],.string (l.sendText M),.bool (l.goes M)]:=(h6.1 44 undef rfl).trans e6
     have hk:=hK (.tuple #[.agg #[.int .i64 (l.send M).id,.int .i64 (l.send M).next,.slice oa5 (l.send M).out.length oc5,.slice sa5 (l.send M).seen.length sc5],.string (l.sendText M),.bool (l.goes M)]) (X 6) wx hFr (HZ.out _ hFr) (Nat.le_refl _) (fun _ _ _ _=>rfl) (fun b hb => .inl ⟨6,by simp,hb⟩) ⟨oa5,sa5,oc5,sc5,rs5,rfl,L5,hY⟩
     clear hK hN hT hdom hdis h6 e6 L5 hY
     go_simp
     exact hk
    ·refine .inr ⟨_,rfl,fun val X a wx K hFr hds hT hN hdom hdis hK => ?_⟩
     obtain ⟨tm,df⟩:=a
     obtain rfl:df=_:=hds
     have h7:=hN ⟨7,some 37,[6],[6]⟩ (by simp) (by simp)
     have hlo:W2.heap.size≤wx.heap.size:=Below.size hFr
     obtain ⟨oa5,sa5,oc5,sc5,rs5,e7,L5,hY⟩:=h7.2
     have r37:tm.getD 37 undef = .tuple #[.agg #[.int .i64 (l.send M).id,.int .i64 (l.send M).next,.slice oa5 (l.send M).out.length oc5,.slice sa5 (l.send M).seen.length sc5],.string (l.sendText M),.bool (l.goes M)]:=(h7.1 37 undef rfl).trans e7
     have hk:=hK (.agg #[.int .i64 (l.send M).id,.int .i64 (l.send M).next,.slice oa5 (l.send M).out.length oc5,.slice sa5 (l.send M).seen.length sc5]) (fun _=>False) wx hFr (HZ.out _ hFr) (Nat.le_refl _) (fun _ _ _ _=>rfl) (fun b hb=>hb.elim) ⟨oa5,sa5,oc5,sc5,by show [val 7]=_; rw [e7],rfl⟩
     clear hK hN hT hdom hdis h7 e7 L5 hY
     go_simp
     exact hk
    ·refine .inr ⟨_,rfl,fun val X a wx K hFr hds hT hN hdom hdis hK => ?_⟩
     obtain ⟨tm,df⟩:=a
     obtain rfl:df=_:=hds
     have h7:=hN ⟨7,some 37,[6],[6]⟩ (by simp) (by simp)
     have hlo:W2.heap.size≤wx.heap.size:=Below.size hFr
     obtain ⟨oa5,sa5,oc5,sc5,rs5,e7,L5,hY⟩:=h7.2
     have r37:tm.getD 37 undef = .tuple #[.agg #[.int .i64 (l.send M).id,.int .i64 (l.send M).next,.slice oa5 (l.send M).out.length oc5,.slice sa5 (l.send M).seen.length sc5],.string (l.sendText M),.bool (l.goes M)]:=(h7.1 37 undef rfl).trans e7
     have hk:=hK (.string (l.sendText M)) (fun _=>False) wx hFr (HZ.out _ hFr) (Nat.le_refl _) (fun _ _ _ _=>rfl) (fun b hb=>hb.elim) rfl
     clear hK hN hT hdom hdis h7 e7 L5 hY
     go_simp
     exact hk
    ·refine .inr ⟨_,rfl,fun val X a wx K hFr hds hT hN hdom hdis hK => ?_⟩
     obtain ⟨tm,df⟩:=a
     obtain rfl:df=_:=hds
     have h7:=hN ⟨7,some 37,[6],[6]⟩ (by simp) (by simp)
     have hlo:W2.heap.size≤wx.heap.size:=Below.size hFr
     obtain ⟨oa5,sa5,oc5,sc5,rs5,e7,L5,hY⟩:=h7.2
     have r37:tm.getD 37 undef = .tuple #[.agg #[.int .i64 (l.send M).id,.int .i64 (l.send M).next,.slice oa5 (l.send M).out.length oc5,.slice sa5 (l.send M).seen.length sc5],.string (l.sendText M),.bool (l.goes M)]:=(h7.1 37 undef rfl).trans e7
     have hk:=hK (.bool (l.goes M)) (fun _=>False) wx hFr (HZ.out _ hFr) (Nat.le_refl _) (fun _ _ _ _=>rfl) (fun b hb=>hb.elim) rfl
     clear hK hN hT hdom hdis h7 e7 L5 hY
     go_simp
     exact hk
    ·refine .inr ⟨_,rfl,fun val X a wx K hFr hds hT hN hdom hdis hK => ?_⟩
     obtain ⟨tm,df⟩:=a
     obtain rfl:df=_:=hds
     have hlo:W2.heap.size≤wx.heap.size:=Below.size hFr
     have b1:Below wx.heap.size wx (wx.alloc (.cells #[.int .i64 0,.int .i64 0,.slice none 0 0,.slice none 0 0] 49)):=(Below.refl _ wx).alloc (Nat.le_refl _) _
     have hb':Below W2.heap.size W2 (wx.alloc (.cells #[.int .i64 0,.int .i64 0,.slice none 0 0,.slice none 0 0] 49)):=Below.trans hFr (b1.mono hlo)
     have hk:=hK (.pointer (some ⟨wx.heap.size,0,none⟩)) (fun b=>b=wx.heap.size) (wx.alloc (.cells #[.int .i64 0,.int .i64 0,.slice none 0 0,.slice none 0 0] 49)) hb' (HZ.out _ hb') b1.size (fun b j hx _=>b1.block b (hdom j b hx).2) (fun b hb => .inr ⟨by omega,by rw [hb]; simp⟩) ⟨wx.heap.size,rfl,(MapKept.heap_alloc wx _).1,rfl⟩
     clear hK hN hT hdom hdis
     go_simp
     exact hk
    ·refine .inr ⟨_,rfl,fun val X a wx K hFr hds hT hN hdom hdis hK => ?_⟩
     obtain ⟨tm,df⟩:=a
     obtain rfl:df=_:=hds
     have h8:=hN ⟨8,some 45,[7],[]⟩ (by simp) (by simp)
     have h11:=hN ⟨11,some 8,[],[]⟩ (by simp) (by simp)
     have hlo:W2.heap.size≤wx.heap.size:=Below.size hFr
     obtain ⟨oa5,sa5,oc5,sc5,-,e8⟩:=h8.2
     obtain ⟨g,e11,hg,hgY⟩:=h11.2
     have hg0:=(hdom _ g hgY).1
     have hgl:=lh hg
     have y0:=cb hg 0 (.int .i64 0) rfl
     have f0:=ub hg 0
     have y1:=cb hg 1 (.int .i64 0) rfl
     have f1:=ub hg 1
     have y2:=cb hg 2 (.slice none 0 0) rfl
     have f2:=ub hg 2
     have y3:=cb hg 3 (.slice none 0 0) rfl
     have f3:=ub hg 3
     obtain ⟨W3,hW3⟩:∃ W3,W3=((((wx.setCell ⟨g,0,none⟩ (.int .i64 (l.send M).id)).setCell ⟨g,1,none⟩ (.int .i64 (l.send M).next)).setCell ⟨g,2,none⟩ (.slice oa5 (l.send M).out.length oc5)).setCell ⟨g,3,none⟩ (.slice sa5 (l.send M).seen.length sc5)):=⟨_,rfl⟩
     have eW:∀ b,b≠g→W3.heap[b]? = wx.heap[b]? := fun b hb=>by
      rw [hW3]
      simp only [Below.heap_setCell _ _ _ b (show b≠(⟨g,_,none⟩:Addr).block from hb)]
     have OB:W3.heap[g]? = some (.cells #[.int .i64 (l.send M).id,.int .i64 (l.send M).next,.slice oa5 (l.send M).out.length oc5,.slice sa5 (l.send M).seen.length sc5] 49):=by
      rw [hW3]
      have:=(block_setCell (i:=3) (block_setCell (i:=2) (block_setCell (i:=1) (block_setCell (i:=0) hg (.int .i64 (l.send M).id)) (.int .i64 (l.send M).next)) (.slice oa5 (l.send M).out.length oc5)) (.slice sa5 (l.send M).seen.length sc5))
      simpa only [List.setIfInBounds_toArray,List.set_cons_zero,List.set_cons_succ] using this
     have sW:W3.heap.size=wx.heap.size:=by rw [hW3]; simp
     have BW:Below W2.heap.size W2 W3:=by
      rw [hW3]
      iterate 4 refine Below.setCell ?_ (by simp; omega) _
      exact hFr
     have hk:=hK undef (X 11) W3 BW (HZ.out _ BW) (by omega) (fun b j hx hj=>eW b (fun e=>hj (by subst e; rw [hdis j _ _ hx hgY]; simp))) (fun b hb => .inl ⟨11,by simp,hb⟩) ⟨g,oa5,sa5,oc5,sc5,by show [val 8,val 11]=_; rw [e8,e11],OB,hgY⟩
     rw [hW3] at hk
     have r8:tm.getD 8 undef = .pointer (some ⟨g,0,none⟩):=(h11.1 8 undef rfl).trans e11
     have r45:tm.getD 45 undef = .agg #[.int .i64 (l.send M).id,.int .i64 (l.send M).next,.slice oa5 (l.send M).out.length oc5,.slice sa5 (l.send M).seen.length sc5]:=(h8.1 45 undef rfl).trans e8
     clear hK hN hT hdom hdis eW OB sW BW h8 h11 e8 e11 hW3
     go_simp
     exact hk
    ·refine .inr ⟨_,rfl,fun val X a wx K hFr hds hT hN hdom hdis hK => ?_⟩
     obtain ⟨tm,df⟩:=a
     obtain rfl:df=_:=hds
     have h9:=hN ⟨9,some 46,[7],[]⟩ (by simp) (by simp)
     have hlo:W2.heap.size≤wx.heap.size:=Below.size hFr
     have r46:tm.getD 46 undef = .string (l.sendText M):=(h9.1 46 undef rfl).trans h9.2
     have hk:=hK (.string (l.sendText M)) (fun _=>False) wx hFr (HZ.out _ hFr) (Nat.le_refl _) (fun _ _ _ _=>rfl) (fun b hb=>hb.elim) rfl
     clear hK hN hT hdom hdis h9
     go_simp
     exact hk
    ·refine .inr ⟨_,rfl,fun val X a wx K hFr hds hT hN hdom hdis hK => ?_⟩
     obtain ⟨tm,df⟩:=a
     obtain rfl:df=_:=hds
     have h10:=hN ⟨10,some 47,[7],[]⟩ (by simp) (by simp)
     have hlo:W2.heap.size≤wx.heap.size:=Below.size hFr
     have r47:tm.getD 47 undef = .bool (l.goes M):=(h10.1 47 undef rfl).trans h10.2
     have hk:=hK (.bool (l.goes M)) (fun _=>False) wx hFr (HZ.out _ hFr) (Nat.le_refl _) (fun _ _ _ _=>rfl) (fun b hb=>hb.elim) rfl
     clear hK hN hT hdom hdis h10
     go_simp
     exact hk
   ·intro val X W6 hFr hdom hdis hres
    obtain ⟨oa5,sa5,oc5,sc5,rs5,e7,L5,hY⟩:=hres ⟨7,some 37,[6],[6]⟩ (by simp) (by simp)
    obtain ⟨oa6,sa6,oc6,sc6,q7,e8⟩:=hres ⟨8,some 45,[7],[]⟩ (by simp) (by simp)
    obtain ⟨g,oa7,sa7,oc7,sc7,q8,LB,hgY⟩:=hres ⟨12,none,[8,11],[11]⟩ (by simp) (by simp)
    have e9:val 9=_:=hres ⟨9,some 46,[7],[]⟩ (by simp) (by simp)
    have e10:val 10=_:=hres ⟨10,some 47,[7],[]⟩ (by simp) (by simp)
    have e13:val 13=_:=hres ⟨13,some 9,[9],[]⟩ (by simp) (by simp)
    have e14:val 14=_:=hres ⟨14,some 10,[10],[]⟩ (by simp) (by simp)
    have e7:val 7 = .tuple #[.agg #[.int .i64 (l.send M).id,.int .i64 (l.send M).next,.slice oa5 (l.send M).out.length oc5,.slice sa5 (l.send M).seen.length sc5],.string (l.sendText M),.bool (l.goes M)]:=e7
    have e8:val 8 = .agg #[.int .i64 (l.send M).id,.int .i64 (l.send M).next,.slice oa6 (l.send M).out.length oc6,.slice sa6 (l.send M).seen.length sc6]:=e8
    have q7':val 7 = .tuple #[.agg #[.int .i64 (l.send M).id,.int .i64 (l.send M).next,.slice oa6 (l.send M).out.length oc6,.slice sa6 (l.send M).seen.length sc6],.string (l.sendText M),.bool (l.goes M)]:=by have:=congrArg (fun z:List Value=>z.getD 0 undef) q7; exact this
    rw [e7] at q7'
    simp only [Value.tuple.injEq,Array.mk.injEq,List.cons.injEq,Value.agg.injEq,Value.slice.injEq,and_true,true_and] at q7'
    obtain ⟨⟨rfl,rfl⟩,rfl,rfl⟩:=q7'
    have q8':val 8 = .agg #[.int .i64 (l.send M).id,.int .i64 (l.send M).next,.slice oa7 (l.send M).out.length oc7,.slice sa7 (l.send M).seen.length sc7]:=by have:=congrArg (fun z:List Value=>z.getD 0 undef) q8; exact this
    rw [e8] at q8'
    simp only [Array.mk.injEq,List.cons.injEq,Value.agg.injEq,Value.slice.injEq,and_true,true_and] at q8'
    obtain ⟨⟨rfl,rfl⟩,rfl,rfl⟩:=q8'
    have e11:val 11 = .pointer (some ⟨g,0,none⟩):=by have:=congrArg (fun z:List Value=>z.getD 1 undef) q8; exact this
    have hg0:=(hdom _ g hgY).1
    have F6:=HG.out.1.below hFr
    have N6:=(Below.block hFr _ (lh HG.out.2.1)).trans HG.out.2.1
    have R6:=(Below.block hFr _ (lh HG.out.2.2.1)).trans HG.out.2.2.1
    simp only [fillT,if_true,e7,e8,e9,e10,e11,e13,e14,List.setIfInBounds_toArray,List.set_cons_zero,List.set_cons_succ]
    have hlg:g<W6.heap.size:=lh LB
    have hln6:nb<W6.heap.size:=lh N6
    have hlW:W2.heap.size≤W6.heap.size:=Below.size hFr
    have H6:=(show Hid (_∧_∧_∧_∧_) from ⟨F6,N6,R6,L5,LB⟩)
    have hpv0:∀ q,Value.ownBlock (.slice pa k pc)=some q→q<wr.heap.size:=hpvw
    clear F6 N6 R6 L5 LB HG hdom hdis hres hY hgY q7 q8 e7 e8 e9 e10 e11 e13 e14 hFr HZ
    rcases (show l.goes M=true∨l.goes M=false from by cases l.goes M <;> simp) with hgo | hgo
    ·rw [hgo]
     have l0:=cb H6.out.2.2.2.2 0 (.int .i64 (l.send M).id) rfl
     have n9:=cb H6.out.2.1 9 (.int .i64 l.id) rfl
     have f9:=ub H6.out.2.1 9
     have l1:=cb H6.out.2.2.2.2 1 (.int .i64 (l.send M).next) rfl
     have n10:=cb H6.out.2.1 10 (.int .i64 l.next) rfl
     have f10:=ub H6.out.2.1 10
     have l2:=cb H6.out.2.2.2.2 2 (.slice oa5 (l.send M).out.length oc5) rfl
     have n11:=cb H6.out.2.1 11 (.slice oa' l.out.length oc') rfl
     have f11:=ub H6.out.2.1 11
     have l3:=cb H6.out.2.2.2.2 3 (.slice sa5 (l.send M).seen.length sc5) rfl
     have n12:=cb H6.out.2.1 12 (.slice sa' l.seen.length sc') rfl
     have f12:=ub H6.out.2.1 12
     go_upto_region 12 with fail
     obtain ⟨W7,hW7⟩:∃ W7,W7=((((W6.setCell ⟨nb,9,none⟩ (.int .i64 (l.send M).id)).setCell ⟨nb,10,none⟩ (.int .i64 (l.send M).next)).setCell ⟨nb,11,none⟩ (.slice oa5 (l.send M).out.length oc5)).setCell ⟨nb,12,none⟩ (.slice sa5 (l.send M).seen.length sc5)):=⟨_,rfl⟩
     rw [← hW7]
     have e7:∀ b,b≠nb→W7.heap[b]? = W6.heap[b]? := fun b hb=>by
      rw [hW7]
      simp only [Below.heap_setCell _ _ _ b (show b≠(⟨nb,_,none⟩:Addr).block from hb)]
     have s7:W7.heap.size=W6.heap.size:=by rw [hW7]; simp
     have hord:=H6.out.1.ord
     have hbs:=H6.out.1.base.size
     have b7:Below w0.heap.size w0 W7:=by
      rw [hW7]
      iterate 4 refine Below.setCell ?_ (by simp; omega) _
      exact H6.out.1.base
     have O7:W7.heap[nb]? = some (.cells #[.int .i32 1,.int .u32 0,.slice s0 x0.length t0,.slice s1 x1.length t1,.slice s2 x2.length t2,.slice s3 x3.length t3,.slice s4 x4.length t4,.slice s5 x5.length t5,.slice (some ⟨b,off,none⟩) x6.length t6,.int .i64 (l.send M).id,.int .i64 (l.send M).next,.slice oa5 (l.send M).out.length oc5,.slice sa5 (l.send M).seen.length sc5] 110):=by
      rw [hW7]
      have:=(block_setCell (i:=12) (block_setCell (i:=11) (block_setCell (i:=10) (block_setCell (i:=9) H6.out.2.1 (.int .i64 (l.send M).id)) (.int .i64 (l.send M).next)) (.slice oa5 (l.send M).out.length oc5)) (.slice sa5 (l.send M).seen.length sc5))
      simpa only [List.setIfInBounds_toArray,List.set_cons_zero,List.set_cons_succ] using this
     have hob:∀ q,Value.ownBlock (.slice pa k pc)=some q→q≠nb∧q≠w.heap.size∧m1≤q∧q<wr.heap.size:=fun q hq=>by
      have h1:=(own_type H6.out.1.pks q hq)
      refine ⟨fun e => ?_,fun e => ?_,h1.1,hpv0 q hq⟩
      ·obtain ⟨_,cs,h2⟩:=h1
       rw [e,H6.out.2.1] at h2
       cases h2
      ·obtain ⟨_,cs,h2⟩:=h1
       rw [e,H6.out.2.2.1] at h2
       cases h2
     have ow7:W7.ownsRow m1 9 1 (.slice pa k pc) k (ps.map Value.string):=own_moved H6.out.1.pks (fun q hq=>e7 q (hob q hq).1)
     have ow8:(W7.alloc (.cells #[.string (l.sendText M)] 9)).ownsRow m1 9 1 (.slice pa k pc) k (ps.map Value.string):=own_moved ow7 (fun q hq=>Below.heap_alloc _ _ _ (own_lt ow7 q hq))
     have hnews:∀ (j:Nat) (u:Value),([.string (l.sendText M)]:List Value)[j]? = some u→(W7.alloc (.cells #[.string (l.sendText M)] 9)).cell? ((⟨W7.heap.size,0,none⟩:Addr).add j)=some u:=by
      intro j u hj
      rw [addr_addI,Nat.zero_add,cell_of_block (MapKept.heap_alloc W7 _).1]
      simpa using hj
     have hone:∀ u ∈ ([.string (l.sendText M)]:List Value),u.oneCell'=true:=by intro u hu; simp at hu; subst hu; rfl
     have hm17:m1≤(W7.alloc (.cells #[.string (l.sendText M)] 9)).heap.size:=by simp; omega
     have hk1:k≤1048576:=by have:=HE.out.2.2.2.1; omega
     have H7:=(show Hid (_∧_∧_∧_∧_∧_∧_∧_) from ⟨ow8,hnews,hone,O7,e7,hob,s7,b7⟩)
     clear ow7 ow8 hnews hone O7 e7 hob s7 b7 hW7 l0 n9 f9 l1 n10 f10 l2 n11 f11 l3 n12 f12
     go_wp2_with (at_builtin; refine wpList_append_own_at _ rfl _ _ 52 rfl m1 9 iX _ 1 16 Tryz.underlying52 hiX hzX0 hzX1 hzX2 rfl (by decide) (.slice pa k pc) k _ rfl H7.out.1 ⟨W7.heap.size,0,none⟩ 1 1 [.string (l.sendText M)] rfl rfl H7.out.2.1 H7.out.2.2.1 (by unfold maxLen; omega) (by omega) hm17 ?_; intro v9 w9 hown9 hgrow9 hnil9 hat9; obtain ⟨a9,c9,rfl⟩:=own_form hown9; have H9:=(show Hid (_∧_∧_) from ⟨hown9,hgrow9,hat9⟩); clear hown9 hgrow9 hnil9 hat9)
     have s67:=H7.out.2.2.2.2.2.2.1
     have hob:=H7.out.2.2.2.2.2.1
     have e9:∀ b,b<W7.heap.size→Value.ownBlock (.slice pa k pc)≠some b→w9.heap[b]? = W7.heap[b]? := fun b hb hn=>(H9.out.2.1.block b (by simp; omega) (fun e=>hn e.symm)).trans (Below.heap_alloc _ _ _ hb)
     have hsz9:W7.heap.size<w9.heap.size:=by have:=H9.out.2.1.size; simp at this; omega
     have low6:∀ b,b<m1→w9.heap[b]? = W6.heap[b]? := fun b hb=>(e9 b (by omega) (fun e=>by have:=(hob b e).2.2.1; omega)).trans (H7.out.2.2.2.2.1 b (by omega))
     have up6:∀ b,W2.heap.size≤b→b<W6.heap.size→w9.heap[b]? = W6.heap[b]? := fun b h1 h2=>(e9 b (by omega) (fun e=>by have:=(hob b e).2.2.2; omega)).trans (H7.out.2.2.2.2.1 b (by omega))
     have b9:Below w0.heap.size w0 w9:=Below.grown (H7.out.2.2.2.2.2.2.2.alloc H7.out.2.2.2.2.2.2.2.size _) H9.out.2.1 (fun q hq=>by have:=(hob q hq).2.2.1; omega) (by have:=H7.out.2.2.2.2.2.2.2.size; simp; omega)
     have gk:=goes_ok hgo
     have hF10:FuSt w0 w9 x0 x1 x2 x3 x4 x5 x6 z7 (lkOf z7 z8 x9 x10) m1 (k+1) x6 (l.send M) (ps ++ [l.sendText M]) [.slice s0 x0.length t0,.slice s1 x1.length t1,.slice s2 x2.length t2,.slice s3 x3.length t3,.slice s4 x4.length t4,.slice s5 x5.length t5] (.slice (some ⟨b,off,none⟩) x6.length t6) (.slice oa5 (l.send M).out.length oc5) (.slice sa5 (l.send M).seen.length sc5) (.slice a9 (k+1) c9) rs5:=by
      refine ⟨?_,b9,?_,(H6.out.2.2.2.1.moved (fun b hb => ?_)).base (by omega),?_,⟨hord.1,by omega⟩,?_,?_,fun t ht => ?_⟩
      ·have:=FlSt.next H6.out.1.st HM5.out.2.2.1 (by rw [← HM5.out.2.1]; exact hgo)
       rw [← HM5.out.2.1] at this
       exact this
      ·exact OFs.moved H6.out.1.mach (fun b hb _=>low6 b hb.2)
      ·have:=H6.out.2.2.2.1.own hb
       exact up6 b this.1 this.2
      ·rw [List.map_append]
       exact H9.out.1
      ·rw [gk.2.2]
       exact Nat.le_trans (push_bulk gk.1 gk.2.1 HM5.out.1) (by decide)
      ·rw [gk.2.2]
       exact H6.out.1.lid
      ·rcases List.mem_append.1 ht with ht | ht
       ·exact H6.out.1.fit t ht
       ·rw [List.mem_singleton] at ht; subst ht; exact text_len HM5.out.2.2.2
     refine ⟨⟨k+1,l.send M,ps ++ [l.sendText M],oa5,sa5,a9,oc5,sc5,c9,rs5,rfl,by go_num,by omega,hF10,?_,?_⟩,by simp [intOf]; omega⟩
     ·exact (e9 nb (by omega) (fun e=>(hob nb e).1 rfl)).trans H7.out.2.2.2.1
     ·exact (e9 _ (by omega) (fun e=>(hob _ e).2.1 rfl)).trans ((H7.out.2.2.2.2.1 _ (by omega)).trans H6.out.2.2.1)
    ·rw [hgo]
     have hcap:x6.length≤t6:=OFs.lastCap (vs:=[.slice s0 x0.length t0,.slice s1 x1.length t1,.slice s2 x2.length t2,.slice s3 x3.length t3,.slice s4 x4.length t4,.slice s5 x5.length t5]) (ds:=[.row x0,.row x1,.row x2,.row x3,.row x4,.row x5]) rfl H6.out.1.mach
     have n8:=cb H6.out.2.1 8 (.slice (some ⟨b,off,none⟩) x6.length t6) rfl
     have f8:=ub H6.out.2.1 8
     have hki:((k:Nat):Int)≤((x6.length:Nat):Int):=by omega
     go_upto_region 15 with fail
     obtain ⟨W15,hW15⟩:∃ W15,W15=W6.setCell ⟨nb,8,none⟩ (.slice (some ⟨b,off+k * 9,none⟩) (x6.length - k) (t6 - k)):=⟨_,rfl⟩
     rw [← hW15]
     have e15:∀ b,b≠nb→W15.heap[b]? = W6.heap[b]? := fun b hb=>by rw [hW15]; exact Below.heap_setCell _ _ _ b hb
     have s15:W15.heap.size=W6.heap.size:=by rw [hW15]; simp
     have N15:W15.heap[nb]? = some (.cells #[.int .i32 1,.int .u32 0,.slice s0 x0.length t0,.slice s1 x1.length t1,.slice s2 x2.length t2,.slice s3 x3.length t3,.slice s4 x4.length t4,.slice s5 x5.length t5,.slice (some ⟨b,off+k * 9,none⟩) (x6.length - k) (t6 - k),.int .i64 l.id,.int .i64 l.next,.slice oa' l.out.length oc',.slice sa' l.seen.length sc'] 110):=by
      have:=block_setCell (i:=8) H6.out.2.1 (.slice (some ⟨b,off+k * 9,none⟩) (x6.length - k) (t6 - k))
      rw [← hW15] at this
      simp only [List.setIfInBounds_toArray,List.set_cons_zero,List.set_cons_succ] at this
      exact this
     have R15:=(e15 w.heap.size (by omega)).trans H6.out.2.2.1
     have b15:Below w0.heap.size w0 W15:=by rw [hW15]; exact H6.out.1.base.setCell (p:=⟨nb,8,none⟩) (by show w0.heap.size≤nb; have:=H6.out.1.ord; omega) _
     have F15:FuSt w0 W15 x0 x1 x2 x3 x4 x5 x6 z7 (lkOf z7 z8 x9 x10) m1 k (x6.drop k) l ps [.slice s0 x0.length t0,.slice s1 x1.length t1,.slice s2 x2.length t2,.slice s3 x3.length t3,.slice s4 x4.length t4,.slice s5 x5.length t5] (.slice (some ⟨b,off+k * 9,none⟩) (x6.length - k) (t6 - k)) (.slice oa' l.out.length oc') (.slice sa' l.seen.length sc') (.slice pa k pc) rs':=by
      have f0:=FuSt.away H6.out.1 b15 (by omega) e15 hnb (t:=110) (by rw [H6.out.2.1]; rfl) (by decide)
      exact ⟨f0.st,f0.base,OFs.lastMap (vs:=[.slice s0 x0.length t0,.slice s1 x1.length t1,.slice s2 x2.length t2,.slice s3 x3.length t3,.slice s4 x4.length t4,.slice s5 x5.length t5]) (ds:=[.row x0,.row x1,.row x2,.row x3,.row x4,.row x5]) rfl f0.mach (fun Y hY=>((hY.dropN (HE.out.2.2.1.len MsgR.len) (by omega)).1)),f0.link,f0.pks,f0.ord,f0.lb,f0.lid,f0.fit⟩
     have n0:=cb N15 0 (.int .i32 1) rfl
     have n1:=cb N15 1 (.int .u32 0) rfl
     have n2:=cb N15 2 (.slice s0 x0.length t0) rfl
     have n3:=cb N15 3 (.slice s1 x1.length t1) rfl
     have n4:=cb N15 4 (.slice s2 x2.length t2) rfl
     have n5:=cb N15 5 (.slice s3 x3.length t3) rfl
     have n6:=cb N15 6 (.slice s4 x4.length t4) rfl
     have n7:=cb N15 7 (.slice s5 x5.length t5) rfl
     have n8:=cb N15 8 (.slice (some ⟨b,off+k * 9,none⟩) (x6.length - k) (t6 - k)) rfl
     have n9:=cb N15 9 (.int .i64 l.id) rfl
     have n10:=cb N15 10 (.int .i64 l.next) rfl
     have n11:=cb N15 11 (.slice oa' l.out.length oc') rfl
     have n12:=cb N15 12 (.slice sa' l.seen.length sc') rfl
     have fz:=ub N15 0
     have D0:=cb R15 0 (.slice none 0 0) rfl
     have G0:=ub R15 0
     have D1:=cb R15 1 (.slice none 0 0) rfl
     have G1:=ub R15 1
     have D2:=cb R15 2 (.slice none 0 0) rfl
     have G2:=ub R15 2
     have D3:=cb R15 3 (.slice none 0 0) rfl
     have G3:=ub R15 3
     have D4:=cb R15 4 (.slice none 0 0) rfl
     have G4:=ub R15 4
     have D5:=cb R15 5 (.slice none 0 0) rfl
     have G5:=ub R15 5
     have D6:=cb R15 6 (.slice none 0 0) rfl
     have G6:=ub R15 6
     have D7:=cb R15 7 (.int .i64 0) rfl
     have G7:=ub R15 7
     have D8:=cb R15 8 (.int .i64 0) rfl
     have G8:=ub R15 8
     have D9:=cb R15 9 (.slice none 0 0) rfl
     have G9:=ub R15 9
     have D10:=cb R15 10 (.slice none 0 0) rfl
     have G10:=ub R15 10
     have hbn:w.heap.size≠nb:=by omega
     have H15:=(show Hid (_∧_∧_∧_) from ⟨F15,N15,R15,FlSt.stop H6.out.1.st HM5.out.2.2.1 (by rw [← HM5.out.2.1]; exact hgo)⟩)
     clear F15 N15 R15 b15 e15 s15 hW15
     go_wp2_with fail
     obtain ⟨W16,hW16⟩:∃ W16,W16=(((((((((((W15.setCell ⟨w.heap.size,0,none⟩ (.slice s0 x0.length t0)).setCell ⟨w.heap.size,1,none⟩ (.slice s1 x1.length t1)).setCell ⟨w.heap.size,2,none⟩ (.slice s2 x2.length t2)).setCell ⟨w.heap.size,3,none⟩ (.slice s3 x3.length t3)).setCell ⟨w.heap.size,4,none⟩ (.slice s4 x4.length t4)).setCell ⟨w.heap.size,5,none⟩ (.slice s5 x5.length t5)).setCell ⟨w.heap.size,6,none⟩ (.slice (some ⟨b,off+k * 9,none⟩) (x6.length - k) (t6 - k))).setCell ⟨w.heap.size,7,none⟩ (.int .i64 l.id)).setCell ⟨w.heap.size,8,none⟩ (.int .i64 l.next)).setCell ⟨w.heap.size,9,none⟩ (.slice oa' l.out.length oc')).setCell ⟨w.heap.size,10,none⟩ (.slice sa' l.seen.length sc')):=⟨_,rfl⟩
     rw [← hW16]
     have e16:∀ b,b≠w.heap.size→W16.heap[b]? = W15.heap[b]? := fun b hb=>by
      rw [hW16]
      simp only [Below.heap_setCell _ _ _ b (show b≠(⟨w.heap.size,_,none⟩:Addr).block from hb)]
     have s16:W16.heap.size=W15.heap.size:=by rw [hW16]; simp
     have N16:=(e16 nb (by omega)).trans H15.out.2.1
     have R16:W16.heap[w.heap.size]? = some (.cells #[.slice s0 x0.length t0,.slice s1 x1.length t1,.slice s2 x2.length t2,.slice s3 x3.length t3,.slice s4 x4.length t4,.slice s5 x5.length t5,.slice (some ⟨b,off+k * 9,none⟩) (x6.length - k) (t6 - k),.int .i64 l.id,.int .i64 l.next,.slice oa' l.out.length oc',.slice sa' l.seen.length sc'] 51):=by
      rw [hW16]
      have:=(block_setCell (i:=10) (block_setCell (i:=9) (block_setCell (i:=8) (block_setCell (i:=7) (block_setCell (i:=6) (block_setCell (i:=5) (block_setCell (i:=4) (block_setCell (i:=3) (block_setCell (i:=2) (block_setCell (i:=1) (block_setCell (i:=0) H15.out.2.2.1 (.slice s0 x0.length t0)) (.slice s1 x1.length t1)) (.slice s2 x2.length t2)) (.slice s3 x3.length t3)) (.slice s4 x4.length t4)) (.slice s5 x5.length t5)) (.slice (some ⟨b,off+k * 9,none⟩) (x6.length - k) (t6 - k))) (.int .i64 l.id)) (.int .i64 l.next)) (.slice oa' l.out.length oc')) (.slice sa' l.seen.length sc'))
      simpa only [List.setIfInBounds_toArray,List.set_cons_zero,List.set_cons_succ] using this
     have b16:Below w0.heap.size w0 W16:=by
      rw [hW16]
      iterate 11 refine Below.setCell ?_ (by show w0.heap.size≤w.heap.size; omega) _
      exact H15.out.1.base
     have u0:=cb N16 0 (.int .i32 1) rfl
     have uz:=ub N16 0
     clear hW16 n0 n1 n2 n3 n4 n5 n6 n7 n8 n9 n10 n11 n12 D0 G0 D1 G1 D2 G2 D3 G3 D4 G4 D5 G5 D6 G6 D7 G7 D8 G8 D9 G9 D10 G10
     refine leaves_cons (f:=51) (args:=#[.pointer (some ⟨nb,0,none⟩)]) (by simp) (by simp [go_sem]) ?_
     refine (unlock_deferred muLib ⟨nb,0,none⟩ .returning _ u0 uz).mono ?_
     rintro e u' w17 ⟨rfl,rfl,hw17⟩
     have e17:∀ b,b≠nb→w17.heap[b]? = W16.heap[b]? := fun b hb=>by rw [hw17]; exact Below.heap_setCell _ _ _ b hb
     have s17:w17.heap.size=W16.heap.size:=by rw [hw17]; simp
     have b17:Below w0.heap.size w0 w17:=by rw [hw17]; exact b16.setCell (p:=⟨nb,0,none⟩) (by show w0.heap.size≤nb; omega) _
     have R17:=(e17 _ (by omega)).trans R16
     have D0:=cb R17 0 (.slice s0 x0.length t0) rfl
     have D1:=cb R17 1 (.slice s1 x1.length t1) rfl
     have D2:=cb R17 2 (.slice s2 x2.length t2) rfl
     have D3:=cb R17 3 (.slice s3 x3.length t3) rfl
     have D4:=cb R17 4 (.slice s4 x4.length t4) rfl
     have D5:=cb R17 5 (.slice s5 x5.length t5) rfl
     have D6:=cb R17 6 (.slice (some ⟨b,off+k * 9,none⟩) (x6.length - k) (t6 - k)) rfl
     have D7:=cb R17 7 (.int .i64 l.id) rfl
     have D8:=cb R17 8 (.int .i64 l.next) rfl
     have D9:=cb R17 9 (.slice oa' l.out.length oc') rfl
     have D10:=cb R17 10 (.slice sa' l.seen.length sc') rfl
     clear hw17
     refine ⟨.tuple #[.agg #[.slice s0 x0.length t0,.slice s1 x1.length t1,.slice s2 x2.length t2,.slice s3 x3.length t3,.slice s4 x4.length t4,.slice s5 x5.length t5,.slice (some ⟨b,off+k * 9,none⟩) (x6.length - k) (t6 - k),.int .i64 l.id,.int .i64 l.next,.slice oa' l.out.length oc',.slice sa' l.seen.length sc'],.slice pa k pc],(by simp [results,Tryz.results21,go_sem,D0,D1,D2,D3,D4,D5,D6,D7,D8,D9,D10]),?_⟩
     refine FuSt.ans H15.out.1 H15.out.2.2.2 (fun q hq => ?_) (by omega) b17
     have h1:=H15.out.1.ne hnb (t:=110) (by rw [H15.out.2.1]; rfl) (by decide) q hq
     have h2:=H15.out.1.ne (g:=w.heap.size) (t:=51) (by omega) (by rw [H15.out.2.2.1]; rfl) (by decide) q hq
     exact (e17 q h1).trans (e16 q h2)
  ·obtain rfl:k=x6.length:=by omega
   have hnlt':¬ ((x6.length:Nat):Int)<((x6.length:Nat):Int):=by omega
   have hO:=HO.out
   have hR:=HR.out
   have hcp:=(OFs.fam hF.mach)
   obtain ⟨-,YY,-,-,y3⟩:=hcp
   have hown6:Own wr (.slice s6 x6.length t6) (.row x6) _:=y3 6 _ _ rfl rfl
   have hco:=hown6.capOf
   clear y3
   rcases s6 with _ | ⟨b,off,pth⟩
   ·have hx0:x6.length=0:=by have:=hco.2.2 rfl; omega
    obtain rfl:x6=[]:=List.length_eq_zero_iff.1 hx0
    obtain rfl:t6=0:=hco.2.2 rfl
    rw [List.length_nil] at *
    have hF:=HF.out
    have n8:=cb hO 8 (.slice none 0 0) rfl
    have f8:=ub hO 8
    go_upto_region 15 with fail
    obtain ⟨W15,hW15⟩:∃ W15,W15=wr.setCell ⟨nb,8,none⟩ (.slice none 0 0):=⟨_,rfl⟩
    rw [← hW15]
    have e15:∀ b,b≠nb→W15.heap[b]? = wr.heap[b]? := fun b hb=>by rw [hW15]; exact Below.heap_setCell _ _ _ b hb
    have s15:W15.heap.size=wr.heap.size:=by rw [hW15]; simp
    have N15:W15.heap[nb]? = some (.cells #[.int .i32 1,.int .u32 0,.slice s0 x0.length t0,.slice s1 x1.length t1,.slice s2 x2.length t2,.slice s3 x3.length t3,.slice s4 x4.length t4,.slice s5 x5.length t5,.slice none 0 0,.int .i64 l.id,.int .i64 l.next,.slice oa' l.out.length oc',.slice sa' l.seen.length sc'] 110):=by
     have:=block_setCell (i:=8) hO (.slice none 0 0)
     rw [← hW15] at this
     simp only [List.setIfInBounds_toArray,List.set_cons_zero,List.set_cons_succ] at this
     exact this
    have R15:=(e15 w.heap.size (by omega)).trans hR
    have b15:Below w0.heap.size w0 W15:=by rw [hW15]; exact hF.base.setCell (p:=⟨nb,8,none⟩) (by show w0.heap.size≤nb; have:=hF.ord; omega) _
    have F15:FuSt w0 W15 x0 x1 x2 x3 x4 x5 [] z7 (lkOf z7 z8 x9 x10) m1 0 ([].drop 0) l ps [.slice s0 x0.length t0,.slice s1 x1.length t1,.slice s2 x2.length t2,.slice s3 x3.length t3,.slice s4 x4.length t4,.slice s5 x5.length t5] (.slice none 0 0) (.slice oa' l.out.length oc') (.slice sa' l.seen.length sc') (.slice pa 0 pc) rs':=by
     have f0:=FuSt.away hF b15 (by omega) e15 hnb (t:=110) (by rw [hO]; rfl) (by decide)
     exact ⟨f0.st,f0.base,OFs.lastMap (vs:=[.slice s0 x0.length t0,.slice s1 x1.length t1,.slice s2 x2.length t2,.slice s3 x3.length t3,.slice s4 x4.length t4,.slice s5 x5.length t5]) (ds:=[.row x0,.row x1,.row x2,.row x3,.row x4,.row x5]) rfl f0.mach (fun Y hY=>hY),f0.link,f0.pks,f0.ord,f0.lb,f0.lid,f0.fit⟩
    have n0:=cb N15 0 (.int .i32 1) rfl
    have n1:=cb N15 1 (.int .u32 0) rfl
    have n2:=cb N15 2 (.slice s0 x0.length t0) rfl
    have n3:=cb N15 3 (.slice s1 x1.length t1) rfl
    have n4:=cb N15 4 (.slice s2 x2.length t2) rfl
    have n5:=cb N15 5 (.slice s3 x3.length t3) rfl
    have n6:=cb N15 6 (.slice s4 x4.length t4) rfl
    have n7:=cb N15 7 (.slice s5 x5.length t5) rfl
    have n8:=cb N15 8 (.slice none 0 0) rfl
    have n9:=cb N15 9 (.int .i64 l.id) rfl
    have n10:=cb N15 10 (.int .i64 l.next) rfl
    have n11:=cb N15 11 (.slice oa' l.out.length oc') rfl
    have n12:=cb N15 12 (.slice sa' l.seen.length sc') rfl
    have fz:=ub N15 0
    have D0:=cb R15 0 (.slice none 0 0) rfl
    have G0:=ub R15 0
    have D1:=cb R15 1 (.slice none 0 0) rfl
    have G1:=ub R15 1
    have D2:=cb R15 2 (.slice none 0 0) rfl
    have G2:=ub R15 2
    have D3:=cb R15 3 (.slice none 0 0) rfl
    have G3:=ub R15 3
    have D4:=cb R15 4 (.slice none 0 0) rfl
    have G4:=ub R15 4
    have D5:=cb R15 5 (.slice none 0 0) rfl
    have G5:=ub R15 5
    have D6:=cb R15 6 (.slice none 0 0) rfl
    have G6:=ub R15 6
    have D7:=cb R15 7 (.int .i64 0) rfl
    have G7:=ub R15 7
    have D8:=cb R15 8 (.int .i64 0) rfl
    have G8:=ub R15 8
    have D9:=cb R15 9 (.slice none 0 0) rfl
    have G9:=ub R15 9
    have D10:=cb R15 10 (.slice none 0 0) rfl
    have G10:=ub R15 10
    have hbn:w.heap.size≠nb:=by omega
    have H15:=(show Hid (_∧_∧_∧_) from ⟨F15,N15,R15,FlSt.done hF.st rfl⟩)
    clear F15 N15 R15 b15 e15 s15 hW15
    go_wp2_with fail
    obtain ⟨W16,hW16⟩:∃ W16,W16=(((((((((((W15.setCell ⟨w.heap.size,0,none⟩ (.slice s0 x0.length t0)).setCell ⟨w.heap.size,1,none⟩ (.slice s1 x1.length t1)).setCell ⟨w.heap.size,2,none⟩ (.slice s2 x2.length t2)).setCell ⟨w.heap.size,3,none⟩ (.slice s3 x3.length t3)).setCell ⟨w.heap.size,4,none⟩ (.slice s4 x4.length t4)).setCell ⟨w.heap.size,5,none⟩ (.slice s5 x5.length t5)).setCell ⟨w.heap.size,6,none⟩ (.slice none 0 0)).setCell ⟨w.heap.size,7,none⟩ (.int .i64 l.id)).setCell ⟨w.heap.size,8,none⟩ (.int .i64 l.next)).setCell ⟨w.heap.size,9,none⟩ (.slice oa' l.out.length oc')).setCell ⟨w.heap.size,10,none⟩ (.slice sa' l.seen.length sc')):=⟨_,rfl⟩
    rw [← hW16]
    have e16:∀ b,b≠w.heap.size→W16.heap[b]? = W15.heap[b]? := fun b hb=>by
     rw [hW16]
     simp only [Below.heap_setCell _ _ _ b (show b≠(⟨w.heap.size,_,none⟩:Addr).block from hb)]
    have s16:W16.heap.size=W15.heap.size:=by rw [hW16]; simp
    have N16:=(e16 nb (by omega)).trans H15.out.2.1
    have R16:W16.heap[w.heap.size]? = some (.cells #[.slice s0 x0.length t0,.slice s1 x1.length t1,.slice s2 x2.length t2,.slice s3 x3.length t3,.slice s4 x4.length t4,.slice s5 x5.length t5,.slice none 0 0,.int .i64 l.id,.int .i64 l.next,.slice oa' l.out.length oc',.slice sa' l.seen.length sc'] 51):=by
     rw [hW16]
     have:=(block_setCell (i:=10) (block_setCell (i:=9) (block_setCell (i:=8) (block_setCell (i:=7) (block_setCell (i:=6) (block_setCell (i:=5) (block_setCell (i:=4) (block_setCell (i:=3) (block_setCell (i:=2) (block_setCell (i:=1) (block_setCell (i:=0) H15.out.2.2.1 (.slice s0 x0.length t0)) (.slice s1 x1.length t1)) (.slice s2 x2.length t2)) (.slice s3 x3.length t3)) (.slice s4 x4.length t4)) (.slice s5 x5.length t5)) (.slice none 0 0)) (.int .i64 l.id)) (.int .i64 l.next)) (.slice oa' l.out.length oc')) (.slice sa' l.seen.length sc'))
     simpa only [List.setIfInBounds_toArray,List.set_cons_zero,List.set_cons_succ] using this
    have b16:Below w0.heap.size w0 W16:=by
     rw [hW16]
     iterate 11 refine Below.setCell ?_ (by show w0.heap.size≤w.heap.size; omega) _
     exact H15.out.1.base
    have u0:=cb N16 0 (.int .i32 1) rfl
    have uz:=ub N16 0
    clear hW16 n0 n1 n2 n3 n4 n5 n6 n7 n8 n9 n10 n11 n12 D0 G0 D1 G1 D2 G2 D3 G3 D4 G4 D5 G5 D6 G6 D7 G7 D8 G8 D9 G9 D10 G10
    refine leaves_cons (f:=51) (args:=#[.pointer (some ⟨nb,0,none⟩)]) (by simp) (by simp [go_sem]) ?_
    refine (unlock_deferred muLib ⟨nb,0,none⟩ .returning _ u0 uz).mono ?_
    rintro e u' w17 ⟨rfl,rfl,hw17⟩
    have e17:∀ b,b≠nb→w17.heap[b]? = W16.heap[b]? := fun b hb=>by rw [hw17]; exact Below.heap_setCell _ _ _ b hb
    have s17:w17.heap.size=W16.heap.size:=by rw [hw17]; simp
    have b17:Below w0.heap.size w0 w17:=by rw [hw17]; exact b16.setCell (p:=⟨nb,0,none⟩) (by show w0.heap.size≤nb; omega) _
    have R17:=(e17 _ (by omega)).trans R16
    have D0:=cb R17 0 (.slice s0 x0.length t0) rfl
    have D1:=cb R17 1 (.slice s1 x1.length t1) rfl
    have D2:=cb R17 2 (.slice s2 x2.length t2) rfl
    have D3:=cb R17 3 (.slice s3 x3.length t3) rfl
    have D4:=cb R17 4 (.slice s4 x4.length t4) rfl
    have D5:=cb R17 5 (.slice s5 x5.length t5) rfl
    have D6:=cb R17 6 (.slice none 0 0) rfl
    have D7:=cb R17 7 (.int .i64 l.id) rfl
    have D8:=cb R17 8 (.int .i64 l.next) rfl
    have D9:=cb R17 9 (.slice oa' l.out.length oc') rfl
    have D10:=cb R17 10 (.slice sa' l.seen.length sc') rfl
    clear hw17
    refine ⟨.tuple #[.agg #[.slice s0 x0.length t0,.slice s1 x1.length t1,.slice s2 x2.length t2,.slice s3 x3.length t3,.slice s4 x4.length t4,.slice s5 x5.length t5,.slice none 0 0,.int .i64 l.id,.int .i64 l.next,.slice oa' l.out.length oc',.slice sa' l.seen.length sc'],.slice pa 0 pc],(by simp [results,Tryz.results21,go_sem,D0,D1,D2,D3,D4,D5,D6,D7,D8,D9,D10]),?_⟩
    refine FuSt.ans H15.out.1 H15.out.2.2.2 (fun q hq => ?_) (by omega) b17
    have h1:=H15.out.1.ne hnb (t:=110) (by rw [H15.out.2.1]; rfl) (by decide) q hq
    have h2:=H15.out.1.ne (g:=w.heap.size) (t:=51) (by omega) (by rw [H15.out.2.2.1]; rfl) (by decide) q hq
    exact (e17 q h1).trans (e16 q h2)
   ·obtain rfl:pth=none:=hown6.pathOf
    have hF:=HF.out
    have hk:=Nat.le_refl x6.length
    have hcap:x6.length≤t6:=hco.1
    have n8:=cb hO 8 (.slice (some ⟨b,off,none⟩) x6.length t6) rfl
    have f8:=ub hO 8
    go_upto_region 15 with fail
    obtain ⟨sy,hsy⟩:∃ sy:Option Addr,sy=(if t6=x6.length then some ⟨b,off,none⟩ else some ⟨b,off+x6.length * 9,none⟩):=⟨_,rfl⟩
    rw [← hsy]
    have HSY:=(show Hid (_∧True) from ⟨hsy,trivial⟩)
    clear hsy
    obtain ⟨W15,hW15⟩:∃ W15,W15=wr.setCell ⟨nb,8,none⟩ (.slice sy 0 (t6 - x6.length)):=⟨_,rfl⟩
    rw [← hW15]
    have e15:∀ b,b≠nb→W15.heap[b]? = wr.heap[b]? := fun b hb=>by rw [hW15]; exact Below.heap_setCell _ _ _ b hb
    have s15:W15.heap.size=wr.heap.size:=by rw [hW15]; simp
    have N15:W15.heap[nb]? = some (.cells #[.int .i32 1,.int .u32 0,.slice s0 x0.length t0,.slice s1 x1.length t1,.slice s2 x2.length t2,.slice s3 x3.length t3,.slice s4 x4.length t4,.slice s5 x5.length t5,.slice sy 0 (t6 - x6.length),.int .i64 l.id,.int .i64 l.next,.slice oa' l.out.length oc',.slice sa' l.seen.length sc'] 110):=by
     have:=block_setCell (i:=8) hO (.slice sy 0 (t6 - x6.length))
     rw [← hW15] at this
     simp only [List.setIfInBounds_toArray,List.set_cons_zero,List.set_cons_succ] at this
     exact this
    have R15:=(e15 w.heap.size (by omega)).trans hR
    have b15:Below w0.heap.size w0 W15:=by rw [hW15]; exact hF.base.setCell (p:=⟨nb,8,none⟩) (by show w0.heap.size≤nb; have:=hF.ord; omega) _
    have F15:FuSt w0 W15 x0 x1 x2 x3 x4 x5 x6 z7 (lkOf z7 z8 x9 x10) m1 x6.length (x6.drop x6.length) l ps [.slice s0 x0.length t0,.slice s1 x1.length t1,.slice s2 x2.length t2,.slice s3 x3.length t3,.slice s4 x4.length t4,.slice s5 x5.length t5] (.slice sy 0 (t6 - x6.length)) (.slice oa' l.out.length oc') (.slice sa' l.seen.length sc') (.slice pa x6.length pc) rs':=by
     have f0:=FuSt.away hF b15 (by omega) e15 hnb (t:=110) (by rw [hO]; rfl) (by decide)
     exact ⟨f0.st,f0.base,OFs.lastMap (vs:=[.slice s0 x0.length t0,.slice s1 x1.length t1,.slice s2 x2.length t2,.slice s3 x3.length t3,.slice s4 x4.length t4,.slice s5 x5.length t5]) (ds:=[.row x0,.row x1,.row x2,.row x3,.row x4,.row x5]) rfl f0.mach (fun Y hY=>(by have hd:=hY.dropN (k:=x6.length) (HE.out.2.2.1.len MsgR.len) (Nat.le_refl _); rw [Nat.sub_self] at hd; rw [HSY.out.1]; by_cases hc:t6=x6.length <;> first | (rw [if_pos hc]; exact hd.2 hc) | (rw [if_neg hc]; exact hd.1))),f0.link,f0.pks,f0.ord,f0.lb,f0.lid,f0.fit⟩
    have n0:=cb N15 0 (.int .i32 1) rfl
    have n1:=cb N15 1 (.int .u32 0) rfl
    have n2:=cb N15 2 (.slice s0 x0.length t0) rfl
    have n3:=cb N15 3 (.slice s1 x1.length t1) rfl
    have n4:=cb N15 4 (.slice s2 x2.length t2) rfl
    have n5:=cb N15 5 (.slice s3 x3.length t3) rfl
    have n6:=cb N15 6 (.slice s4 x4.length t4) rfl
    have n7:=cb N15 7 (.slice s5 x5.length t5) rfl
    have n8:=cb N15 8 (.slice sy 0 (t6 - x6.length)) rfl
    have n9:=cb N15 9 (.int .i64 l.id) rfl
    have n10:=cb N15 10 (.int .i64 l.next) rfl
    have n11:=cb N15 11 (.slice oa' l.out.length oc') rfl
    have n12:=cb N15 12 (.slice sa' l.seen.length sc') rfl
    have fz:=ub N15 0
    have D0:=cb R15 0 (.slice none 0 0) rfl
    have G0:=ub R15 0
    have D1:=cb R15 1 (.slice none 0 0) rfl
    have G1:=ub R15 1
    have D2:=cb R15 2 (.slice none 0 0) rfl
    have G2:=ub R15 2
    have D3:=cb R15 3 (.slice none 0 0) rfl
    have G3:=ub R15 3
    have D4:=cb R15 4 (.slice none 0 0) rfl
    have G4:=ub R15 4
    have D5:=cb R15 5 (.slice none 0 0) rfl
    have G5:=ub R15 5
    have D6:=cb R15 6 (.slice none 0 0) rfl
    have G6:=ub R15 6
    have D7:=cb R15 7 (.int .i64 0) rfl
    have G7:=ub R15 7
    have D8:=cb R15 8 (.int .i64 0) rfl
    have G8:=ub R15 8
    have D9:=cb R15 9 (.slice none 0 0) rfl
    have G9:=ub R15 9
    have D10:=cb R15 10 (.slice none 0 0) rfl
    have G10:=ub R15 10
    have hbn:w.heap.size≠nb:=by omega
    have H15:=(show Hid (_∧_∧_∧_) from ⟨F15,N15,R15,FlSt.done hF.st (by rw [List.length_map])⟩)
    clear F15 N15 R15 b15 e15 s15 hW15
    go_wp2_with fail
    obtain ⟨W16,hW16⟩:∃ W16,W16=(((((((((((W15.setCell ⟨w.heap.size,0,none⟩ (.slice s0 x0.length t0)).setCell ⟨w.heap.size,1,none⟩ (.slice s1 x1.length t1)).setCell ⟨w.heap.size,2,none⟩ (.slice s2 x2.length t2)).setCell ⟨w.heap.size,3,none⟩ (.slice s3 x3.length t3)).setCell ⟨w.heap.size,4,none⟩ (.slice s4 x4.length t4)).setCell ⟨w.heap.size,5,none⟩ (.slice s5 x5.length t5)).setCell ⟨w.heap.size,6,none⟩ (.slice sy 0 (t6 - x6.length))).setCell ⟨w.heap.size,7,none⟩ (.int .i64 l.id)).setCell ⟨w.heap.size,8,none⟩ (.int .i64 l.next)).setCell ⟨w.heap.size,9,none⟩ (.slice oa' l.out.length oc')).setCell ⟨w.heap.size,10,none⟩ (.slice sa' l.seen.length sc')):=⟨_,rfl⟩
    rw [← hW16]
    have e16:∀ b,b≠w.heap.size→W16.heap[b]? = W15.heap[b]? := fun b hb=>by
     rw [hW16]
     simp only [Below.heap_setCell _ _ _ b (show b≠(⟨w.heap.size,_,none⟩:Addr).block from hb)]
    have s16:W16.heap.size=W15.heap.size:=by rw [hW16]; simp
    have N16:=(e16 nb (by omega)).trans H15.out.2.1
    have R16:W16.heap[w.heap.size]? = some (.cells #[.slice s0 x0.length t0,.slice s1 x1.length t1,.slice s2 x2.length t2,.slice s3 x3.length t3,.slice s4 x4.length t4,.slice s5 x5.length t5,.slice sy 0 (t6 - x6.length),.int .i64 l.id,.int .i64 l.next,.slice oa' l.out.length oc',.slice sa' l.seen.length sc'] 51):=by
     rw [hW16]
     have:=(block_setCell (i:=10) (block_setCell (i:=9) (block_setCell (i:=8) (block_setCell (i:=7) (block_setCell (i:=6) (block_setCell (i:=5) (block_setCell (i:=4) (block_setCell (i:=3) (block_setCell (i:=2) (block_setCell (i:=1) (block_setCell (i:=0) H15.out.2.2.1 (.slice s0 x0.length t0)) (.slice s1 x1.length t1)) (.slice s2 x2.length t2)) (.slice s3 x3.length t3)) (.slice s4 x4.length t4)) (.slice s5 x5.length t5)) (.slice sy 0 (t6 - x6.length))) (.int .i64 l.id)) (.int .i64 l.next)) (.slice oa' l.out.length oc')) (.slice sa' l.seen.length sc'))
     simpa only [List.setIfInBounds_toArray,List.set_cons_zero,List.set_cons_succ] using this
    have b16:Below w0.heap.size w0 W16:=by
     rw [hW16]
     iterate 11 refine Below.setCell ?_ (by show w0.heap.size≤w.heap.size; omega) _
     exact H15.out.1.base
    have u0:=cb N16 0 (.int .i32 1) rfl
    have uz:=ub N16 0
    clear hW16 n0 n1 n2 n3 n4 n5 n6 n7 n8 n9 n10 n11 n12 D0 G0 D1 G1 D2 G2 D3 G3 D4 G4 D5 G5 D6 G6 D7 G7 D8 G8 D9 G9 D10 G10
    refine leaves_cons (f:=51) (args:=#[.pointer (some ⟨nb,0,none⟩)]) (by simp) (by simp [go_sem]) ?_
    refine (unlock_deferred muLib ⟨nb,0,none⟩ .returning _ u0 uz).mono ?_
    rintro e u' w17 ⟨rfl,rfl,hw17⟩
    have e17:∀ b,b≠nb→w17.heap[b]? = W16.heap[b]? := fun b hb=>by rw [hw17]; exact Below.heap_setCell _ _ _ b hb
    have s17:w17.heap.size=W16.heap.size:=by rw [hw17]; simp
    have b17:Below w0.heap.size w0 w17:=by rw [hw17]; exact b16.setCell (p:=⟨nb,0,none⟩) (by show w0.heap.size≤nb; omega) _
    have R17:=(e17 _ (by omega)).trans R16
    have D0:=cb R17 0 (.slice s0 x0.length t0) rfl
    have D1:=cb R17 1 (.slice s1 x1.length t1) rfl
    have D2:=cb R17 2 (.slice s2 x2.length t2) rfl
    have D3:=cb R17 3 (.slice s3 x3.length t3) rfl
    have D4:=cb R17 4 (.slice s4 x4.length t4) rfl
    have D5:=cb R17 5 (.slice s5 x5.length t5) rfl
    have D6:=cb R17 6 (.slice sy 0 (t6 - x6.length)) rfl
    have D7:=cb R17 7 (.int .i64 l.id) rfl
    have D8:=cb R17 8 (.int .i64 l.next) rfl
    have D9:=cb R17 9 (.slice oa' l.out.length oc') rfl
    have D10:=cb R17 10 (.slice sa' l.seen.length sc') rfl
    clear hw17
    refine ⟨.tuple #[.agg #[.slice s0 x0.length t0,.slice s1 x1.length t1,.slice s2 x2.length t2,.slice s3 x3.length t3,.slice s4 x4.length t4,.slice s5 x5.length t5,.slice sy 0 (t6 - x6.length),.int .i64 l.id,.int .i64 l.next,.slice oa' l.out.length oc',.slice sa' l.seen.length sc'],.slice pa x6.length pc],(by simp [results,Tryz.results21,go_sem,D0,D1,D2,D3,D4,D5,D6,D7,D8,D9,D10]),?_⟩
    refine FuSt.ans H15.out.1 H15.out.2.2.2 (fun q hq => ?_) (by omega) b17
    have h1:=H15.out.1.ne hnb (t:=110) (by rw [H15.out.2.1]; rfl) (by decide) q hq
    have h2:=H15.out.1.ne (g:=w.heap.size) (t:=51) (by omega) (by rw [H15.out.2.2.1]; rfl) (by decide) q hq
    exact (e17 q h1).trans (e16 q h2)
end Go.Proofs.YtmmadoabejgffaaGreatDoor
