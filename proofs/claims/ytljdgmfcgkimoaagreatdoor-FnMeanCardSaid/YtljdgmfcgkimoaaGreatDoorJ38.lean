/-
  Proofs.
  Proofs.
  Proofs.
  Proofs.
-/
import Derived.Test.YtljdgmfcgkimoaaGreatDoorJ1
import Derived.Test.YtljdgmfcgkimoaaGreatDoorJ29
import Derived.Test.YtljdgmfcgkimoaaGreatDoorJ30
import Derived.Test.YtljdgmfcgkimoaaGreatDoorJ31
import Derived.Test.YtljdgmfcgkimoaaGreatDoorJ32
import Derived.Test.YtljdgmfcgkimoaaGreatDoorSpecEv5
import Derived.Test.YtljdgmfcgkimoaaGreatDoorJ34
import Derived.Test.YtljdgmfcgkimoaaGreatDoorSpecEv8
import Derived.Test.YtljdgmfcgkimoaaGreatDoorSpecEv9
import Derived.Test.YtljdgmfcgkimoaaGreatDoorJ37
import Derived.Test.YtljdgmfcgkimoaaGreatDoorRows
import Derived.WalkKit
import Derived.Lib.ItoaNum
import Derived.Lib.Strings
namespace Go.Proofs.YtljdgmfcgkimoaaGreatDoor
open Go.RowKit Go.Joins
set_option maxRecDepth 100000
set_option maxHeartbeats 3200000 in
theorem l03Eval_off (P:List Ex) (nv bv:Value) (rb d:Nat) (S:Nat→Prop) (f:Nat) (e:Ex) (env:List Clo) (xv envv:Value) (w:World) (c:Int)
  (hr:RunAt w rb nv bv f c) (hs:Sv w S d rb bv P) (hx:Cx w S d e env xv envv) (hc:c≠0) :
  Calls Tryz.prog 88 #[.pointer (some ⟨rb,0,none⟩),xv,envv] w fun r w'=>∃ v,r = .returned v∧Aft P S d rb nv bv w w' v (.err c,f):=by
 have hrl:rb<w.heap.size:=(Array.getElem?_eq_some_iff.1 hr).1
 have hd:0<d:=hs.bodies.pos
 obtain ⟨⟨kv,rfl,i1,i2,i3,hkd⟩,m,hen⟩:=hx
 obtain ⟨a1,c1,rfl⟩:=hkd.form
 obtain ⟨a2,c2,rfl,hz2⟩:=hen.form
 obtain ⟨W1,hW1⟩:∃ W1,W1=((w.alloc (.cells #[.int .i64 e.kind,.int .i64 e.n,.string e.text,.slice a1 e.kids.length c1] 52)).alloc (.cells #[.int .i64 0,.int .i64 0,.int .i64 0,.int .i64 0,.string ⟨#[]⟩,.slice none 0 0,.slice none 0 0] 127)):=⟨_,rfl⟩
 obtain ⟨s1,m1,kb1,q1,r1⟩:=two_boxes w S (.cells #[.int .i64 e.kind,.int .i64 e.n,.string e.text,.slice a1 e.kids.length c1] 52) (.cells #[.int .i64 0,.int .i64 0,.int .i64 0,.int .i64 0,.string ⟨#[]⟩,.slice none 0 0,.slice none 0 0] 127) W1 hW1 rb
 have y3:=cbk (hr.move (kb1.low hrl)) 3 (.int .i64 c) rfl
 have hq2:decide (c=0)=false:=by simpa using hc
 have hq4:(c != 0)=true:=by simpa using hc
 have u0:W1.cell? ⟨w.heap.size+1,0,none⟩=some (.int .i64 0):=(by rw [cell_of_block r1]; rfl)
 have uf0:=ubk r1 0
 have u1:W1.cell? ⟨w.heap.size+1,1,none⟩=some (.int .i64 0):=(by rw [cell_of_block r1]; rfl)
 have uf1:=ubk r1 1
 have u2:W1.cell? ⟨w.heap.size+1,2,none⟩=some (.int .i64 0):=(by rw [cell_of_block r1]; rfl)
 have uf2:=ubk r1 2
 have u3:W1.cell? ⟨w.heap.size+1,3,none⟩=some (.int .i64 0):=(by rw [cell_of_block r1]; rfl)
 have uf3:=ubk r1 3
 have u4:W1.cell? ⟨w.heap.size+1,4,none⟩=some (.string ⟨#[]⟩):=(by rw [cell_of_block r1]; rfl)
 have uf4:=ubk r1 4
 have u5:W1.cell? ⟨w.heap.size+1,5,none⟩=some (.slice none 0 0):=(by rw [cell_of_block r1]; rfl)
 have uf5:=ubk r1 5
 have u6:W1.cell? ⟨w.heap.size+1,6,none⟩=some (.slice none 0 0):=(by rw [cell_of_block r1]; rfl)
 have uf6:=ubk r1 6
 have HK:=(show Hid (_∧_∧_∧_) from ⟨kb1.kb,hr.move (kb1.low hrl),hd,hc⟩)
 clear s1 m1 kb1 q1 r1 hr hs hkd hen hz2 hd hc i1 i2 i3
 go_enter Tryz.func88,Tryz.ntmps88
 go_upto_region 1 with fail
 rw [← hW1]
 clear hW1
 go_wp2_with fail
 refine bodyPost_ret (v:=.agg #[.int .i64 0,.int .i64 0,.int .i64 0,.int .i64 0,.string ⟨#[]⟩,.slice none 0 0,.slice none 0 0]) (by simp [results,Tryz.results88,go_sem,u0,u1,u2,u3,u4,u5,u6]) rfl ?_
 exact ⟨_,rfl,aft_end (S':=(but (but S w.heap.size) (w.heap.size+1))) (R:=(.err c,f)) HK.out.1 ⟨1,VJ.zero' HK.out.2.2.1,HK.out.2.2.2⟩ (fun b h=>h.1.1) (fun h=>h.2 rfl) HK.out.2.1 (by omega) hrl (kb7 _ _ _ _ _ _ _ _ _)⟩
set_option maxHeartbeats 3200000 in
theorem l03Eval_out (P:List Ex) (nv bv:Value) (rb d:Nat) (S:Nat→Prop) (e:Ex) (env:List Clo) (xv envv:Value) (w:World)
  (hr:RunAt w rb nv bv 0 0) (hs:Sv w S d rb bv P) (hx:Cx w S d e env xv envv) :
  Calls Tryz.prog 88 #[.pointer (some ⟨rb,0,none⟩),xv,envv] w fun r w'=>∃ v,r = .returned v∧Aft P S d rb nv bv w w' v (.err 1,0):=by
 have hrl:rb<w.heap.size:=(Array.getElem?_eq_some_iff.1 hr).1
 have hd:0<d:=hs.bodies.pos
 obtain ⟨⟨kv,rfl,i1,i2,i3,hkd⟩,m,hen⟩:=hx
 obtain ⟨a1,c1,rfl⟩:=hkd.form
 obtain ⟨a2,c2,rfl,hz2⟩:=hen.form
 obtain ⟨W1,hW1⟩:∃ W1,W1=((w.alloc (.cells #[.int .i64 e.kind,.int .i64 e.n,.string e.text,.slice a1 e.kids.length c1] 52)).alloc (.cells #[.int .i64 0,.int .i64 0,.int .i64 0,.int .i64 0,.string ⟨#[]⟩,.slice none 0 0,.slice none 0 0] 127)):=⟨_,rfl⟩
 obtain ⟨s1,m1,kb1,q1,r1⟩:=two_boxes w S (.cells #[.int .i64 e.kind,.int .i64 e.n,.string e.text,.slice a1 e.kids.length c1] 52) (.cells #[.int .i64 0,.int .i64 0,.int .i64 0,.int .i64 0,.string ⟨#[]⟩,.slice none 0 0,.slice none 0 0] 127) W1 hW1 rb
 have hr1:=hr.move (kb1.low hrl)
 have y2:=cbk hr1 2 (.int .i64 0) rfl
 have y3:=cbk hr1 3 (.int .i64 0) rfl
 have y3f:=ubk hr1 3
 obtain ⟨W2,hW2⟩:∃ W2,W2=W1.setCell ⟨rb,3,none⟩ (.int .i64 1):=⟨_,rfl⟩
 have r2:W2.heap[w.heap.size+1]? = some (.cells #[.int .i64 0,.int .i64 0,.int .i64 0,.int .i64 0,.string ⟨#[]⟩,.slice none 0 0,.slice none 0 0] 127):=by rw [hW2]; exact (Below.heap_setCell _ _ _ _ (by simp; omega)).trans r1
 have k2:KB (· = rb) w W2:=by rw [hW2]; exact kb1.kb.trans (kb_set W1 rb 3 _)
 have run2:RunAt W2 rb nv bv 0 1:=by rw [hW2]; exact hr1.code_set 1
 have u0:W2.cell? ⟨w.heap.size+1,0,none⟩=some (.int .i64 0):=(by rw [cell_of_block r2]; rfl)
 have uf0:=ubk r2 0
 have u1:W2.cell? ⟨w.heap.size+1,1,none⟩=some (.int .i64 0):=(by rw [cell_of_block r2]; rfl)
 have uf1:=ubk r2 1
 have u2:W2.cell? ⟨w.heap.size+1,2,none⟩=some (.int .i64 0):=(by rw [cell_of_block r2]; rfl)
 have uf2:=ubk r2 2
 have u3:W2.cell? ⟨w.heap.size+1,3,none⟩=some (.int .i64 0):=(by rw [cell_of_block r2]; rfl)
 have uf3:=ubk r2 3
 have u4:W2.cell? ⟨w.heap.size+1,4,none⟩=some (.string ⟨#[]⟩):=(by rw [cell_of_block r2]; rfl)
 have uf4:=ubk r2 4
 have u5:W2.cell? ⟨w.heap.size+1,5,none⟩=some (.slice none 0 0):=(by rw [cell_of_block r2]; rfl)
 have uf5:=ubk r2 5
 have u6:W2.cell? ⟨w.heap.size+1,6,none⟩=some (.slice none 0 0):=(by rw [cell_of_block r2]; rfl)
 have uf6:=ubk r2 6
 have HK:=(show Hid (_∧_∧_) from ⟨k2,run2,hd⟩)
 clear s1 m1 kb1 q1 r1 hr hs hkd hen hz2 hd i1 i2 i3 r2 k2 run2 hr1
 go_enter Tryz.func88,Tryz.ntmps88
 go_upto_region 1 with fail
 rw [← hW1]
 clear hW1
 go_upto_region 5 with fail
 rw [← hW2]
 clear hW2
 go_wp2_with fail
 refine bodyPost_ret (v:=.agg #[.int .i64 0,.int .i64 0,.int .i64 0,.int .i64 0,.string ⟨#[]⟩,.slice none 0 0,.slice none 0 0]) (by simp [results,Tryz.results88,go_sem,u0,u1,u2,u3,u4,u5,u6]) rfl ?_
 exact ⟨_,rfl,aft_end (S':=(but (but S w.heap.size) (w.heap.size+1))) (R:=(.err 1,0)) HK.out.1 ⟨1,VJ.zero' HK.out.2.2,by decide⟩ (fun b h=>h.1.1) (fun h=>h.2 rfl) HK.out.2.1 (by omega) hrl (kb7 _ _ _ _ _ _ _ _ _)⟩
theorem field_n {e:Ex} {env:List Clo} {P:List Ex} (hg:Ok P e env):(e.kind=1→0≤e.n∧e.n<(env.length:Int))∧(e.kind=2→0≤e.n∧e.n<(P.length:Int))∧0≤e.kind∧e.kind≤11:=by
 obtain ⟨⟨deep,h⟩,-⟩:=hg
 obtain ⟨-,-,h3,h4,-⟩:=(right_iff _ _ _ _).1 h
 have hr:0≤e.kind∧e.kind≤11:=by
  unfold kidsOf at h3
  by_cases h0:0≤e.kind∧e.kind≤11
  ·exact h0
  ·rw [if_neg (by omega),if_neg (by omega),if_neg (by omega),if_neg (by omega)] at h3; omega
 refine ⟨fun hk => ?_,fun hk => ?_,hr⟩
 ·unfold fieldsB at h4
  rw [if_neg (by omega)] at h4
  by_cases ht:e.text.toList≠[]
  ·rw [if_pos ht] at h4; cases h4
  ·rw [if_neg ht,if_neg (by omega),if_pos hk] at h4
   unfold inR at h4
   simp only [Bool.and_eq_true,decide_eq_true_eq] at h4
   omega
 ·unfold fieldsB at h4
  rw [if_neg (by omega)] at h4
  by_cases ht:e.text.toList≠[]
  ·rw [if_pos ht] at h4; cases h4
  ·rw [if_neg ht,if_neg (by omega),if_neg (by omega),if_pos hk] at h4
   unfold inR at h4
   simp only [Bool.and_eq_true,decide_eq_true_eq] at h4
   omega
theorem evS_succ (P:List Ex) (nv bv:Value) (rb d b:Nat) (hP:∀ B ∈ P,Ok P B []) (hB:b<1000000) (ih:EvS P nv bv rb d b):EvS P nv bv rb d (b+1):=by
 intro S f e env xv envv w c hf hr hs hx hg
 by_cases hc:c=0
 ·subst hc
  rw [evC_zero]
  cases f with
  | zero =>
   rw [show ev P (b+1) 0 e env=(.err 1,0) by rw [ev,if_pos rfl]]
   exact l03Eval_out P nv bv rb d S e env xv envv w hr hs hx
  | succ f =>
   have hg:=hg rfl
   have hf':f≤b:=by omega
   obtain ⟨f1,f2,f3,f4⟩:=field_n hg
   rw [ev,if_neg (by omega),show f+1 - 1=f from rfl]
   have hk:e.kind=0∨e.kind=1∨e.kind=2∨e.kind=3∨e.kind=4∨e.kind=5∨e.kind=6∨e.kind=7∨e.kind=8∨e.kind=9∨e.kind=10∨e.kind=11:=by omega
   rcases hk with hk | hk | hk | hk | hk | hk | hk | hk | hk | hk | hk | hk
   ·rw [if_pos hk]
    exact l03Eval_0 P nv bv rb d b hB S f e env xv envv w hf' hr hs hx hg hk
   ·rw [if_neg (by omega),if_pos hk]
    obtain ⟨c,hc⟩:∃ c,env[e.n.toNat]? = some c:=⟨_,List.getElem?_eq_getElem (by have:=f1 hk; omega)⟩
    rw [hc]
    exact l03Eval_1 P nv bv rb d b ih hB S f e env xv envv w hf' hr hs hx hg hk e.n.toNat (by have:=f1 hk; omega) c hc
   ·rw [if_neg (by omega),if_neg (by omega),if_pos hk]
    obtain ⟨B,hb⟩:∃ B,P[e.n.toNat]? = some B:=⟨_,List.getElem?_eq_getElem (by have:=f2 hk; omega)⟩
    rw [show P.getD e.n.toNat exZ=B by rw [List.getD_eq_getElem?_getD,hb]; rfl]
    exact l03Eval_2 P nv bv rb d b ih hB S f e env xv envv w hf' hr hs hx hg hk e.n.toNat (by have:=f2 hk; omega) B hb (hP B (List.mem_of_getElem? hb))
   ·rw [if_neg (by omega),if_neg (by omega),if_neg (by omega),if_pos hk]
    exact l03Eval_3 P nv bv rb d b hB S f e env xv envv w hf' hr hs hx hg hk
   ·rw [if_neg (by omega),if_neg (by omega),if_neg (by omega),if_neg (by omega),if_pos hk]
    exact l03Eval_4 P nv bv rb d b ih hB S f e env xv envv w hf' hr hs hx hg hk
   ·rw [if_neg (by omega),if_neg (by omega),if_neg (by omega),if_neg (by omega),if_neg (by omega),if_pos hk]
    exact l03Eval_5 P nv bv rb d b ih hB S f e env xv envv w hf' hr hs hx hg hk
   ·rw [if_neg (by omega),if_neg (by omega),if_neg (by omega),if_neg (by omega),if_neg (by omega),if_neg (by omega),if_pos hk]
    exact l03Eval_6 P nv bv rb d b ih hB S f e env xv envv w hf' hr hs hx hg hk
   ·rw [if_neg (by omega),if_neg (by omega),if_neg (by omega),if_neg (by omega),if_neg (by omega),if_neg (by omega),if_neg (by omega),if_pos hk]
    exact l03Eval_7 P nv bv rb d b hB S f e env xv envv w hf' hr hs hx hg hk
   ·rw [if_neg (by omega),if_neg (by omega),if_neg (by omega),if_neg (by omega),if_neg (by omega),if_neg (by omega),if_neg (by omega),if_neg (by omega),if_pos hk]
    exact l03Eval_8 P nv bv rb d b hB S f e env xv envv w hf' hr hs hx hg hk
   ·rw [if_neg (by omega),if_neg (by omega),if_neg (by omega),if_neg (by omega),if_neg (by omega),if_neg (by omega),if_neg (by omega),if_neg (by omega),if_neg (by omega),if_pos hk]
    exact l03Eval_9 P nv bv rb d b ih hB S f e env xv envv w hf' hr hs hx hg hk
   ·rw [if_neg (by omega),if_neg (by omega),if_neg (by omega),if_neg (by omega),if_neg (by omega),if_neg (by omega),if_neg (by omega),if_neg (by omega),if_neg (by omega),if_neg (by omega),if_pos hk]
    exact l03Eval_10 P nv bv rb d b ih hB S f e env xv envv w hf' hr hs hx hg hk
   ·rw [if_neg (by omega),if_neg (by omega),if_neg (by omega),if_neg (by omega),if_neg (by omega),if_neg (by omega),if_neg (by omega),if_neg (by omega),if_neg (by omega),if_neg (by omega),if_neg (by omega)]
    exact l03Eval_11 P nv bv rb d b ih hB S f e env xv envv w hf' hr hs hx hg hk
 ·rw [evC_err _ _ _ _ _ hc]
  exact l03Eval_off P nv bv rb d S f e env xv envv w c hr hs hx hc
theorem evS_all (P:List Ex) (nv bv:Value) (rb d:Nat) (hP:∀ B ∈ P,Ok P B []):∀ b,b<1000000→EvS P nv bv rb d b
 | 0,_=>by
  intro S f e env xv envv w c hf hr hs hx hg
  obtain rfl:f=0:=by omega
  by_cases hc:c=0
  ·subst hc
   rw [evC_zero,ev]
   exact l03Eval_out P nv bv rb d S e env xv envv w hr hs hx
  ·rw [evC_err _ _ _ _ _ hc]
   exact l03Eval_off P nv bv rb d S 0 e env xv envv w c hr hs hx hc
 | b+1,h=>evS_succ P nv bv rb d b hP (by omega) (evS_all P nv bv rb d hP b (by omega))
end Go.Proofs.YtljdgmfcgkimoaaGreatDoor

namespace Go.Proofs.YtljdgmfcgkimoaaGreatDoor
open Go.RowKit
set_option maxRecDepth 100000
theorem dig_ext:∀ d,d<10→(⟨#[48,49,50,51,52,53,54,55,56,57]⟩:ByteArray).extract d (d+1)=⟨#[UInt8.ofNat (48+d)]⟩:=by decide
def decN (a:Nat):List UInt8:=if a=0 then [] else Lib.decDigits a
theorem decN_step (a:Nat) (h:0<a):decN a=decN (a / 10) ++ [UInt8.ofNat (48+a % 10)]:=by
 unfold decN
 rw [if_neg (by omega)]
 by_cases h10:a<10
 ·rw [if_pos (by omega),Lib.decDigits,dif_pos h10,Nat.mod_eq_of_lt h10]; rfl
 ·rw [if_neg (by omega),Lib.decDigits,dif_neg h10]
theorem dcat_cons (c:UInt8) (l:List UInt8):(⟨#[c]⟩ ++ ⟨l.toArray⟩:ByteArray)=⟨(c :: l).toArray⟩:=by
 apply ByteArray.ext
 simp [ByteArray.data_append]
theorem dig_slice (d:Nat) (hd:d<10) (w:World):(Instr.slice 9 (.string ⟨#[48,49,50,51,52,53,54,55,56,57]⟩) (some (.int .i64 (d:Int))) (some (.int .i64 ((d:Int)+1))) none).run Tryz.prog w = .ok (.string ⟨#[UInt8.ofNat (48+d)]⟩) w:=by
 have h:=run_slice_string (P:=Tryz.prog) w 9 ⟨#[48,49,50,51,52,53,54,55,56,57]⟩ .i64 .i64 (d:Int) ((d:Int)+1) Tryz.underlying9 (by omega) (by omega) (by show _≤((10:Nat):Int); omega)
 rw [show (d:Int).toNat=d by omega,show ((d:Int)+1).toNat=d+1 by omega,dig_ext d hd] at h
 exact h
theorem ret_str {a b:ByteArray} (h:a=b):Ending.returned (.string a) = .returned (.string b):=by rw [h]
theorem dec_len:∀ (k n:Nat),n<10 ^ (k+1)→(Lib.decDigits n).length≤k+1
 | 0,n,h=>by rw [Lib.decDigits,dif_pos (by simpa using h)]; simp
 | k+1,n,h=>by
  by_cases h10:n<10
  ·rw [Lib.decDigits,dif_pos h10]; simp
  ·rw [Lib.decDigits,dif_neg h10,List.length_append,List.length_singleton]
   have:=dec_len k (n / 10) (by rw [Nat.pow_succ] at h; omega)
   omega
theorem dec_len20 (n:Nat) (h:n≤9223372036854775808):(Lib.decDigits n).length≤20:=dec_len 19 n (by have:(10:Nat) ^ (19+1)=100000000000000000000:=(by decide); omega)
theorem acc_len {a n:Nat} {acc:List UInt8} (h:decN a ++ acc=Lib.decDigits n) (hl:(Lib.decDigits n).length≤20):acc.length≤20:=by
 rw [← h,List.length_append] at hl
 omega
theorem int_eq' {a b:Int} (h:a=b):Value.int .i64 a = .int .i64 b:=by rw [h]
set_option maxHeartbeats 1600000 in
theorem specDec_pos (n:Nat) (w:World) (h0:0<n) (h1:(n:Int)≤9223372036854775807) :
  Calls Tryz.prog 65 #[.int .i64 n] w fun e w'=>e = .returned (.string ⟨(Lib.decDigits n).toArray⟩)∧w'=w:=by
 have hz:((n:Int) == 0)=false:=by simp; omega
 have hneg:¬ (n:Int)<0:=by omega
 go_enter Tryz.func65,Tryz.ntmps65
 go_wp2
 go_loop [3,4] (fun t m=>∃ (a:Nat) (acc:List UInt8),acc.length+a≤n∧t = .string ⟨acc.toArray⟩∧m = .int .i64 a∧Hid (decN a ++ acc=Lib.decDigits n)) (fun _ m=>(intOf m).toNat)
 case atStart=>exact ⟨n,[],by simp,rfl,rfl,by show decN n ++ []=_; unfold decN; rw [if_neg (by omega),List.append_nil]⟩
 case round =>
  obtain ⟨a,acc,han,rfl,rfl,hinv⟩:=hrel
  by_cases ha:0<a
  ·have hst:=decN_step a ha
   have hinv2:Hid (decN (a / 10) ++ (UInt8.ofNat (48+a % 10) :: acc)=Lib.decDigits n):=by
    have:=hinv.out
    rw [hst,List.append_assoc] at this
    exact this
   have hsl:=dig_slice (a % 10) (by omega)
   rw [show ((a % 10:Nat):Int)=(a:Int) % 10 by omega] at hsl
   have hne:((a:Int) != 0)=true:=by simp; omega
   generalize UInt8.ofNat (48+a % 10)=c at hsl hinv2
   clear hst
   go_wp2
   go_round
   case rel=>exact ⟨a / 10,c :: acc,by simp; omega,by rw [dcat_cons],by go_num,hinv2⟩
   case measure=>simp [intOf]; omega
  ·obtain rfl:a=0:=by omega
   have HF:Hid (acc=Lib.decDigits n):=hinv.out
   go_wp2
   go_ret
   exact ⟨ret_str (by rw [HF.out]),rfl⟩
set_option maxHeartbeats 1600000 in
theorem specDec_neg (n:Nat) (w:World) (h0:0<n) (h1:(n:Int)≤9223372036854775808) :
  Calls Tryz.prog 65 #[.int .i64 (-(n:Int))] w fun e w'=>e = .returned (.string ⟨(45 :: Lib.decDigits n).toArray⟩)∧w'=w:=by
 have hz:((-(n:Int)) == 0)=false:=by simp; omega
 have hneg:(-(n:Int))<0:=by omega
 have hlen:=dec_len20 n (by omega)
 go_enter Tryz.func65,Tryz.ntmps65
 go_wp2
 go_loop [3,4] (fun t m=>∃ (a:Nat) (acc:List UInt8),acc.length+a≤n∧t = .string ⟨acc.toArray⟩∧m = .int .i64 (-(a:Int))∧Hid (decN a ++ acc=Lib.decDigits n)) (fun _ m=>(intOf m).natAbs)
 case atStart=>exact ⟨n,[],by simp,rfl,rfl,by show decN n ++ []=_; unfold decN; rw [if_neg (by omega),List.append_nil]⟩
 case round =>
  obtain ⟨a,acc,han,rfl,rfl,hinv⟩:=hrel
  by_cases ha:0<a
  ·have hst:=decN_step a ha
   have hinv2:Hid (decN (a / 10) ++ (UInt8.ofNat (48+a % 10) :: acc)=Lib.decDigits n):=by
    have:=hinv.out
    rw [hst,List.append_assoc] at this
    exact this
   have hsl:=dig_slice (a % 10) (by omega)
   rw [show ((a % 10:Nat):Int)=(a:Int) % 10 by omega] at hsl
   have hne:((-(a:Int)) != 0)=true:=by simp; omega
   have hal:acc.length≤20:=acc_len hinv.out hlen
   by_cases hm:a % 10=0
   ·have hsl0:∀ w,(Instr.slice 9 (.string ⟨#[48,49,50,51,52,53,54,55,56,57]⟩) (some (.int .i64 (-((a:Int) % 10)))) (some (.int .i64 (-((a:Int) % 10)+1))) none).run Tryz.prog w = .ok (.string ⟨#[UInt8.ofNat (48+a % 10)]⟩) w:=fun w=>by
     have h:=hsl w
     rw [show -((a:Int) % 10)=(a:Int) % 10 by omega]
     exact h
    have hmi:¬ (0:Int)<(a:Int) % 10:=by omega
    generalize UInt8.ofNat (48+a % 10)=c at hsl0 hinv2
    clear hst hsl
    go_wp2
    go_round
    case rel=>exact ⟨a / 10,c :: acc,by simp; omega,by rw [dcat_cons],int_eq' (by omega),hinv2⟩
    case measure=>simp [intOf]; omega
   ·have hmi:(0:Int)<(a:Int) % 10:=by omega
    generalize UInt8.ofNat (48+a % 10)=c at hsl hinv2
    clear hst
    go_wp2
    go_round
    case rel=>exact ⟨a / 10,c :: acc,by simp; omega,by rw [dcat_cons],int_eq' (by omega),hinv2⟩
    case measure=>simp [intOf]; omega
  ·obtain rfl:a=0:=by omega
   have HF:Hid (acc=Lib.decDigits n):=hinv.out
   have hal:acc.length≤20:=acc_len hinv.out hlen
   go_wp2
   go_ret
   exact ⟨ret_str (by rw [dcat_cons,HF.out]),rfl⟩
theorem specDec_any (n:Int) (w:World) (h0 : -9223372036854775808≤n) (h1:n≤9223372036854775807) :
  Calls Tryz.prog 65 #[.int .i64 n] w fun e w'=>e = .returned (.string ⟨(Lib.itoa n).toArray⟩)∧w'=w:=by
 rcases Int.lt_trichotomy n 0 with h | h | h
 ·obtain ⟨k,hk⟩:∃ k:Nat,n = -(k:Int):=⟨n.natAbs,by omega⟩
  subst hk
  have e:Lib.itoa (-(k:Int))=45 :: Lib.decDigits k:=by unfold Lib.itoa; rw [if_pos h]; simp
  rw [e]
  exact specDec_neg k w (by omega) (by omega)
 ·subst h
  have e:Lib.itoa 0=[48]:=by decide +kernel
  rw [e]
  go_enter Tryz.func65,Tryz.ntmps65
  go_wp2
  go_ret
  exact ⟨rfl,rfl⟩
 ·obtain ⟨k,rfl⟩:=Int.eq_ofNat_of_zero_le (show 0≤n by omega)
  have e:Lib.itoa (k:Int)=Lib.decDigits k:=by unfold Lib.itoa; rw [if_neg (by omega)]; simp
  rw [e]
  exact specDec_pos k w (by omega) (by omega)
end Go.Proofs.YtljdgmfcgkimoaaGreatDoor

namespace Go.Proofs.YtljdgmfcgkimoaaGreatDoor
open Go.RowKit
def bsOf (l:List UInt8):ByteArray:=⟨l.toArray⟩
theorem bsOf_app (a b:List UInt8):bsOf a ++ bsOf b=bsOf (a ++ b):=by
 apply ByteArray.ext
 simp [bsOf,ByteArray.data_append]
end Go.Proofs.YtljdgmfcgkimoaaGreatDoor

namespace Go.Proofs.YtljdgmfcgkimoaaGreatDoor
open Go.RowKit Go.Joins
set_option maxRecDepth 100000
def prC (P:List Ex) (B b:Nat) (q:Int) (f:Nat) (c:Clo):Except Int (List UInt8)×Nat:=if q=0 then pr P B b f c else (.error q,f)
def codeP:Except Int (List UInt8)→Int
 | .ok _=>0
 | .error k=>k
structure AftP (rb:Nat) (nv bv:Value) (w w':World) (f:Nat) (s:ByteArray) (r:Except Int (List UInt8)×Nat):Prop where
 kb:KB (· = rb) w w'
 run:RunAt w' rb nv bv r.2 (codeP r.1)
 ok:∀ t,r.1 = .ok t→s=bsOf t
 err:∀ k,r.1 = .error k→k≠0
 len:s.size+30 * r.2≤30 * f
def PrS (P:List Ex) (nv bv:Value) (rb d B b:Nat):Prop:=∀ (S:Nat→Prop) (f:Nat) (c:Clo) (cv:Value) (w:World) (q:Int),
 f<b→f≤B→RunAt w rb nv bv f q→Sv w S d rb bv P→ClAt w S d cv c→c.good (P.length:Int) →
 Calls Tryz.prog 35 #[.pointer (some ⟨rb,0,none⟩),cv] w fun r w'=>∃ s,r = .returned (.string s)∧AftP rb nv bv w w' f s (prC P B b q f c)
theorem ev_lt (P:List Ex) (b f:Nat) (e:Ex) (env:List Clo) {v:Vl} {f':Nat} (h:ev P b f e env=(.ok v,f')):f'+1≤f:=by
 cases b with
 | zero=>rw [ev] at h; cases h
 | succ b =>
  by_cases hf:f=0
  ·rw [ev,if_pos hf] at h; cases h
  have ih:∀ f' e env,f'≤f - 1→(ev P b f' e env).2≤f - 1:=fun f' e env h=>Nat.le_trans (ev_less P b f' e env) h
  have h7:f - 1≤f - 1:=Nat.le_refl _
  have key:(ev P (b+1) f e env).2≤f - 1:=by
   rw [ev,if_neg hf]
   refine ite_le h7 (ite_le ?_ (ite_le (ih _ _ _ h7) (ite_le h7 (ite_le ?_ (ite_le (ih _ _ _ h7) (ite_le ?_ (ite_le h7 (ite_le h7 (ite_le ?_ (ite_le ?_ (ih _ _ _ h7)))))))))))
   ·cases env[e.n.toNat]? with
    | none=>exact h7
    | some c=>exact ih _ _ _ h7
   ·exact onFn_le (ih _ _ _ h7) fun l x en f' hf=>ite_le hf (ih _ _ _ hf)
   ·exact onNum_le (ih _ _ _ h7) fun n f' hf=>ite_le (ih _ _ _ hf) (ih _ _ _ hf)
   ·exact onList_le (ih _ _ _ h7) (fun f' hf=>ih _ _ _ hf) (fun a b f' hf=>ih _ _ _ hf)
   ·exact onNum_le (ih _ _ _ h7) fun x f' hf=>onNum_le (ih _ _ _ hf) fun y f'' hf'=>hf'
  rw [h] at key
  have:f'≤f - 1:=key
  omega
theorem cat_len (a b:ByteArray):(a ++ b).size=a.size+b.size:=by simp
theorem itoa_len21 (n:Int) (h:inI64 n):(Lib.itoa n).length≤21:=by
 unfold inI64 at h
 unfold Lib.itoa
 split
 ·rw [List.length_cons]; have:=dec_len20 n.natAbs (by omega); omega
 ·have:=dec_len20 n.toNat (by omega); omega
theorem pair_end {P:List Ex} {B b f f':Nat} {c h t:Clo} {s1 s2:ByteArray} {rb:Nat} {nv bv:Value} {w1 w2 w3 w4 w':World} (hc:ev P B f c.ex c.scope=(.ok (.pair h t),f')) (h1:AftP rb nv bv w1 w2 f' s1 (prC P B b 0 f' h)) (h2:AftP rb nv bv w3 w4 (prC P B b 0 f' h).2 s2 (prC P B b (codeP (prC P B b 0 f' h).1) (prC P B b 0 f' h).2 t)) (hk:KB (· = rb) w' w4) :
  AftP rb nv bv w' w4 f (⟨#[40]⟩ ++ s1 ++ ⟨#[58]⟩ ++ s2 ++ ⟨#[41]⟩) (prC P B (b+1) 0 f c):=by
 have hlt:=ev_lt P B f c.ex c.scope hc
 have e0:prC P B b 0 f' h=pr P B b f' h:=by unfold prC; rw [if_pos rfl]
 have e1:prC P B (b+1) 0 f c=pr P B (b+1) f c:=by unfold prC; rw [if_pos rfl]
 rw [e0] at h1 h2
 rw [e1,pr,hc]
 have hl:=h1.len
 have hl2:=h2.len
 generalize hp:pr P B b f' h=p1 at h1 h2 hl hl2
 obtain ⟨p1,g1⟩:=p1
 cases p1 with
 | error k =>
  have hk0:=h1.err k rfl
  have e2:prC P B b (codeP (.error k)) g1 t=(.error k,g1):=by unfold prC codeP; simp only []; rw [if_neg hk0]
  have h2':=h2
  simp only [] at h2' hl2
  rw [e2] at h2' hl2
  refine ⟨hk,by simpa [hp] using h2'.run,fun z hz=>by simp [hp] at hz,fun k' hk'=>by simp [hp] at hk'; subst hk'; exact hk0,?_⟩
  simp only [hp,cat_len]
  have a1:ByteArray.size ⟨#[40]⟩=1:=rfl
  have a2:ByteArray.size ⟨#[58]⟩=1:=rfl
  have a3:ByteArray.size ⟨#[41]⟩=1:=rfl
  simp only [] at hl hl2
  omega
 | ok a =>
  have e2:prC P B b (codeP (.ok a)) g1 t=pr P B b g1 t:=by unfold prC codeP; simp
  have h2':=h2
  simp only [] at h2' hl2
  rw [e2] at h2' hl2
  generalize hp2:pr P B b g1 t=p2 at h2' hl2
  obtain ⟨p2,g2⟩:=p2
  have a1:ByteArray.size ⟨#[40]⟩=1:=rfl
  have a2:ByteArray.size ⟨#[58]⟩=1:=rfl
  have a3:ByteArray.size ⟨#[41]⟩=1:=rfl
  simp only [] at hl hl2
  cases p2 with
  | error k =>
   refine ⟨hk,by simpa [hp,hp2] using h2'.run,fun z hz=>by simp [hp,hp2] at hz,fun k' hk'=>by simp [hp,hp2] at hk'; subst hk'; exact h2'.err k rfl,?_⟩
   simp only [hp,hp2,cat_len]
   omega
  | ok a' =>
   refine ⟨hk,by simpa [hp,hp2,codeP] using h2'.run,fun z hz => ?_,fun k' hk'=>by simp [hp,hp2] at hk',?_⟩
   ·simp [hp,hp2] at hz
    subst hz
    rw [h1.ok a rfl,h2'.ok a' rfl]
    simp only [show (⟨#[40]⟩:ByteArray)=bsOf [40] from rfl,show (⟨#[58]⟩:ByteArray)=bsOf [58] from rfl,show (⟨#[41]⟩:ByteArray)=bsOf [41] from rfl,bsOf_app]
    simp
   ·simp only [hp,hp2,cat_len]
    omega
end Go.Proofs.YtljdgmfcgkimoaaGreatDoor
