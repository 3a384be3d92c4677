/-
  Proofs.
  Proofs.
  Proofs.
  Proofs.
  Proofs.
-/
import Derived.Test.YtljdgmfcgkimoaaGreatDoorJ1
import Derived.Test.YtljdgmfcgkimoaaGreatDoorRows
import Derived.WalkKit
import Derived.RegionTactic
import Derived.Deep.QuietTactic
import Derived.BigQuiet
import Derived.Laws.BitsLemmas
import Derived.Maps.AppendAt
import Derived.Maps.Range
import Derived.Lib.SmallJoins
import Derived.Lib.BufferOwn
import Derived.Test.YtljdgmfcgkimoaaGreatDoorJ2
namespace Go.Proofs.YtljdgmfcgkimoaaGreatDoor
open Go.RowKit Go.Joins
set_option maxRecDepth 100000
theorem and255 (n:Int):bits .and .i64 n 255=n % 256:=by
 have h:(BitVec.ofInt 64 255).toNat=2 ^ 8 - 1:=by decide
 have key:(BitVec.ofInt 64 n &&& BitVec.ofInt 64 255).toNat=(n % ((2 ^ 64:Nat):Int)).toNat % 2 ^ 8:=by
  rw [BitVec.toNat_and,BitVec.toNat_ofInt,h,Nat.and_two_pow_sub_one_eq_mod]
 show IntKind.i64.wrap ((BitVec.ofInt 64 n &&& BitVec.ofInt 64 255).toNat:Nat)=n % 256
 rw [key,IntKind.wrap_i64]
 omega
def CodeIs (B:Nat) (w:World) (V:Value) (len:Nat):Prop :=
 ∃ a cap,V = .slice a len cap∧len≤1048576∧(0<len→∃ b off,a=some ⟨b,off,none⟩∧b<B∧∀ j,j<len→∃ z:Int,0≤z∧z≤255∧w.cell? ⟨b,off+j,none⟩=some (.int .u8 z))
def Cur (B:Nat) (w:World) (g:Nat) (V:Value) (len:Nat):Prop :=
 B≤g∧∃ i h:Int,0≤i∧i≤len∧w.heap[g]? = some (.cells #[V,.int .i64 i,.int .i64 h] 46)
theorem CodeIs.kept {B:Nat} {w w':World} {V:Value} {len:Nat} (h:CodeIs B w V len) (hb:∀ k,k<B→w'.heap[k]? = w.heap[k]?):CodeIs B w' V len:=by
 obtain ⟨a,cap,hv,hl,hc⟩:=h
 refine ⟨a,cap,hv,hl,fun h0 => ?_⟩
 obtain ⟨b,off,ha,hb1,hcell⟩:=hc h0
 refine ⟨b,off,ha,hb1,fun j hj => ?_⟩
 obtain ⟨z,h1,h2,h3⟩:=hcell j hj
 exact ⟨z,h1,h2,(World.cell?_of_block (hb b hb1)).trans h3⟩
theorem CodeIs.grown {B:Nat} {w w':World} {V:Value} {len g:Nat} (h:CodeIs B w V len) (hg:w.grownBy w' (some g)) (hB:B≤g) (hBw:B≤w.heap.size):CodeIs B w' V len :=
 h.kept (fun k hk=>hg.block k (by omega) (fun e=>by cases e; omega))
theorem Cur.below {B B':Nat} {w w':World} {g:Nat} {V:Value} {len:Nat} (h:Cur B w g V len) (hb:Below B' w w') (hB:w.heap.size≤B'):Cur B w' g V len:=by
 obtain ⟨h0,i,hh,h1,h2,h3⟩:=h
 exact ⟨h0,i,hh,h1,h2,(hb.block g (Nat.lt_of_lt_of_le (Array.getElem?_eq_some_iff.1 h3).1 hB)).trans h3⟩
theorem Cur.lt {B:Nat} {w:World} {g:Nat} {V:Value} {len:Nat} (h:Cur B w g V len):g<w.heap.size:=by
 obtain ⟨_,i,hh,_,_,h3⟩:=h
 exact (Array.getElem?_eq_some_iff.1 h3).1
theorem grown_drewN {w:World} {n:Nat} {row:Option Nat}:w.grownBy (w.drewN n) row:=⟨rfl,rfl,rfl,Nat.le_refl _,fun _ _ _=>rfl⟩
set_option maxHeartbeats 1600000 in
theorem byte_any (B g:Nat) (V:Value) (len:Nat) (w:World) (hcode:CodeIs B w V len) (hcur:Cur B w g V len) :
  Calls Tryz.prog 45 #[.pointer (some ⟨g,0,none⟩)] w fun e w'=>∃ x:Int,e = .returned (.int .i64 x)∧0≤x∧x≤255∧Cur B w' g V len∧w.grownBy w' (some g):=by
 obtain ⟨a,cap,rfl,hlen,hcells⟩:=hcode
 obtain ⟨hBg,i,h,hi0,hi1,hg⟩:=hcur
 have c0:=cbk hg 0 (.slice a len cap) rfl
 have c1:=cbk hg 1 (.int .i64 i) rfl
 have c2:=cbk hg 2 (.int .i64 h) rfl
 have f1:=ubk hg 1
 have f2:=ubk hg 2
 have HG:Hid (w.heap[g]? = some (.cells #[.slice a len cap,.int .i64 i,.int .i64 h] 46)):=hg
 clear hg
 by_cases hlt:i<len
 ·obtain ⟨k,rfl⟩:=Int.eq_ofNat_of_zero_le hi0
  obtain ⟨b,off,rfl,hbB,hcell⟩:=hcells (by omega)
  obtain ⟨z,z0,z1,hz⟩:=hcell k (by omega)
  clear hcell hcells
  go_enter Tryz.func45,Tryz.ntmps45
  go_wp2
  have hB2:=block_setCell (i:=2) HG.out (.int .i64 (wrap64 (wrap64 (h * 6364136223846793005)+1442695040888963407)))
  have hG2:w.grownBy (w.setCell ⟨g,2,none⟩ (.int .i64 (wrap64 (wrap64 (h * 6364136223846793005)+1442695040888963407)))) (some g):=Go.Lib.grownBy_setCell w g 2 _
  have hz2:(w.setCell ⟨g,2,none⟩ (.int .i64 (wrap64 (wrap64 (h * 6364136223846793005)+1442695040888963407)))).cell? ⟨b,off+k,none⟩=some (.int .u8 z):=(World.cell?_setCell_other _ _ _ _ (fun e=>by have:=congrArg Addr.block e; simp at this; omega)).trans hz
  generalize w.setCell ⟨g,2,none⟩ (.int .i64 (wrap64 (wrap64 (h * 6364136223846793005)+1442695040888963407)))=w2 at *
  generalize wrap64 (wrap64 (h * 6364136223846793005)+1442695040888963407)=h2 at *
  have HB2:Hid (w2.heap[g]? = some (.cells #[.slice (some ⟨b,off,none⟩) len cap,.int .i64 k,.int .i64 h2] 46)):=hB2
  clear hB2 c0 c1 c2 f1 f2 hz
  have c0:=cbk HB2.out 0 (.slice (some ⟨b,off,none⟩) len cap) rfl
  have c1:=cbk HB2.out 1 (.int .i64 k) rfl
  have c2:=cbk HB2.out 2 (.int .i64 h2) rfl
  have f1:=ubk HB2.out 1
  go_quiet (fail)
  go_wp2
  go_quiet (fail)
  go_wp2
  go_quiet (fail)
  go_wp2
  go_ret
  refine ⟨_,rfl,by rw [and255]; omega,by rw [and255]; omega,⟨hBg,(k:Int)+1,h2,by omega,by omega,block_setCell (i:=1) HB2.out _⟩,hG2.trans (grown_drewN.trans (Go.Lib.grownBy_setCell _ g 1 _))⟩
 ·go_enter Tryz.func45,Tryz.ntmps45
  clear hcells
  go_wp2
  have hB2:=block_setCell (i:=2) HG.out (.int .i64 (wrap64 (wrap64 (h * 6364136223846793005)+1442695040888963407)))
  have hG2:w.grownBy (w.setCell ⟨g,2,none⟩ (.int .i64 (wrap64 (wrap64 (h * 6364136223846793005)+1442695040888963407)))) (some g):=Go.Lib.grownBy_setCell w g 2 _
  generalize w.setCell ⟨g,2,none⟩ (.int .i64 (wrap64 (wrap64 (h * 6364136223846793005)+1442695040888963407)))=w2 at *
  generalize wrap64 (wrap64 (h * 6364136223846793005)+1442695040888963407)=h2 at *
  have HB2:Hid (w2.heap[g]? = some (.cells #[.slice a len cap,.int .i64 i,.int .i64 h2] 46)):=hB2
  clear hB2 c0 c1 c2 f1 f2
  have c0:=cbk HB2.out 0 (.slice a len cap) rfl
  have c1:=cbk HB2.out 1 (.int .i64 i) rfl
  have c2:=cbk HB2.out 2 (.int .i64 h2) rfl
  go_quiet (fail)
  go_wp2
  go_quiet (fail)
  go_wp2
  go_ret
  refine ⟨_,rfl,by rw [and255]; omega,by rw [and255]; omega,⟨hBg,i,h2,by omega,by omega,HB2.out⟩,hG2.trans (grown_drewN.trans grown_drewN)⟩
def Dr (B:Nat) (w:World) (g:Nat) (V:Value) (len:Nat):Prop:=CodeIs B w V len∧Cur B w g V len∧B≤w.heap.size
theorem Dr.step {B:Nat} {w w':World} {g:Nat} {V:Value} {len:Nat} (h:Dr B w g V len) (hc:Cur B w' g V len) (hg:w.grownBy w' (some g)):Dr B w' g V len :=
 ⟨h.1.grown hg h.2.1.1 h.2.2,hc,Nat.le_trans h.2.2 hg.size⟩
theorem Dr.below {B:Nat} {w w':World} {g:Nat} {V:Value} {len:Nat} (h:Dr B w g V len) (hb:Below w.heap.size w w'):Dr B w' g V len :=
 ⟨h.1.kept (fun k hk=>hb.block k (Nat.lt_of_lt_of_le hk h.2.2)),h.2.1.below hb (Nat.le_refl _),Nat.le_trans h.2.2 hb.size⟩
theorem Dr.alloc {B:Nat} {w:World} {g:Nat} {V:Value} {len:Nat} (h:Dr B w g V len) (o:Obj):Dr B (w.alloc o) g V len:=h.below ((Below.refl _ w).alloc (Nat.le_refl _) o)
theorem byte_dr (B g:Nat) (V:Value) (len:Nat) (w:World) (h:Dr B w g V len) :
  Calls Tryz.prog 45 #[.pointer (some ⟨g,0,none⟩)] w fun e w'=>∃ x:Int,e = .returned (.int .i64 x)∧0≤x∧x≤255∧Dr B w' g V len∧w.grownBy w' (some g) :=
 (byte_any B g V len w h.1 h.2.1).mono fun _ _ ⟨x,he,h0,h1,hc,hg⟩=>⟨x,he,h0,h1,h.step hc hg,hg⟩
set_option maxHeartbeats 1600000 in
theorem below_dr (B g:Nat) (V:Value) (len:Nat) (n:Int) (w:World) (hn0:0<n) (hn1:n≤1000000000) (h:Dr B w g V len) :
  Calls Tryz.prog 25 #[.pointer (some ⟨g,0,none⟩),.int .i64 n] w fun e w'=>∃ x:Int,e = .returned (.int .i64 x)∧0≤x∧x<n∧Dr B w' g V len∧w.grownBy w' (some g):=by
 have hp:¬ n≤0:=by omega
 by_cases hs:n≤256
 ·go_enter Tryz.func25,Tryz.ntmps25
  go_wp2_with fail
  refine (byte_dr B g V len _ h).mono ?_
  rintro e w1 ⟨x,rfl,x0,x1,h1,g1⟩
  have hm0:0≤x % n:=Int.emod_nonneg _ (by omega)
  have hm1:x % n<n:=Int.emod_lt_of_pos _ hn0
  go_wp2
  go_ret
  exact ⟨_,rfl,hm0,hm1,h1,g1⟩
 ·go_enter Tryz.func25,Tryz.ntmps25
  go_wp2_with fail
  refine (byte_dr B g V len _ h).mono ?_
  rintro e w1 ⟨x,rfl,x0,x1,h1,g1⟩
  go_wp2_with fail
  refine (byte_dr B g V len _ h1).mono ?_
  rintro e w2 ⟨y,rfl,y0,y1,h2,g2⟩
  go_wp2_with fail
  refine (byte_dr B g V len _ h2).mono ?_
  rintro e w3 ⟨z,rfl,z0,z1,h3,g3⟩
  go_wp2_with fail
  refine (byte_dr B g V len _ h3).mono ?_
  rintro e w4 ⟨u,rfl,u0,u1,h4,g4⟩
  have hm0:0≤(x * 16777216+y * 65536+z * 256+u) % n:=Int.emod_nonneg _ (by omega)
  have hm1:(x * 16777216+y * 65536+z * 256+u) % n<n:=Int.emod_lt_of_pos _ hn0
  go_wp2
  go_ret
  exact ⟨_,rfl,hm0,hm1,h4,g1.trans (g2.trans (g3.trans g4))⟩
set_option maxHeartbeats 1600000 in
theorem pickInt_dr (B g:Nat) (V:Value) (len:Nat) (b n cap:Nat) (zs:List Int) (w:World) (hn:0<n) (hn1:n≤1000) (hzs:zs.length=n) (hbg:b≠g) (hc:∀ j z,zs[j]? = some z→w.cell? ⟨b,j,none⟩=some (.int .i64 z)) (h:Dr B w g V len) :
  Calls Tryz.prog 15 #[.pointer (some ⟨g,0,none⟩),.slice (some ⟨b,0,none⟩) n cap] w fun e w'=>∃ z:Int,e = .returned (.int .i64 z)∧z ∈ zs∧Dr B w' g V len∧w.grownBy w' (some g):=by
 have HT:Hid (zs.length=n):=hzs
 clear hzs
 go_enter Tryz.func15,Tryz.ntmps15
 go_wp2_with fail
 refine (below_dr B g V len _ _ (by omega) (by omega) h).mono ?_
 rintro e w1 ⟨x,rfl,x0,x1,h1,g1⟩
 obtain ⟨k,rfl⟩:=Int.eq_ofNat_of_zero_le x0
 have hk:k<zs.length:=by have:=HT.out; omega
 have hcell1:=g1.cell (hc k zs[k] (List.getElem?_eq_getElem hk)) (fun e=>hbg (Option.some.inj e))
 have ht:=List.getElem_mem hk
 generalize zs[k]=t at *
 clear hc
 go_wp2
 go_ret
 exact ⟨t,rfl,ht,h1,g1⟩
set_option maxHeartbeats 1600000 in
theorem new_dr (V:Value) (len:Nat) (w:World) (hcode:CodeIs w.heap.size w V len) :
  Calls Tryz.prog 13 #[V] w fun e w'=>e = .returned (.pointer (some ⟨w.heap.size,0,none⟩))∧Dr w.heap.size w' w.heap.size V len∧Below w.heap.size w w':=by
 have hcode0:=hcode
 obtain ⟨a,cap,rfl,hlen,hcells⟩:=hcode
 have HC:Hid (CodeIs w.heap.size w (.slice a len cap) len):=hcode0
 clear hcode0
 have fin:∀ h:Int,Dr w.heap.size (w.alloc (.cells #[.slice a len cap,.int .i64 0,.int .i64 h] 46)) w.heap.size (.slice a len cap) len:=fun h =>
  ⟨HC.out.kept (fun k hk=>Below.heap_alloc w _ k hk),⟨Nat.le_refl _,0,h,by omega,by omega,(MapKept.heap_alloc w _).1⟩,by simp⟩
 have HF:Hid (∀ h:Int,Dr w.heap.size (w.alloc (.cells #[.slice a len cap,.int .i64 0,.int .i64 h] 46)) w.heap.size (.slice a len cap) len):=fin
 clear fin
 go_enter Tryz.func13,Tryz.ntmps13
 go_wp2
 go_loop [3,4] (fun hv i=>∃ (k:Nat) (h:Int),k≤len∧i = .int .i64 k∧hv = .int .i64 h) (fun _ i=>len - (intOf i).toNat)
 case atStart=>exact ⟨0,_,Nat.zero_le _,rfl,rfl⟩
 case round =>
  obtain ⟨k,h,hk,rfl,rfl⟩:=hrel
  by_cases hlt:k<len
  ·obtain ⟨b,off,rfl,hbB,hcell⟩:=hcells (by omega)
   obtain ⟨z,z0,z1,hz⟩:=hcell k hlt
   have hlt':((k:Nat):Int)<((len:Nat):Int):=by omega
   clear hcell hcells
   by_cases h4:k<4000
   ·have h4':((k:Nat):Int)<4000:=by omega
    go_wp2
    go_round
    case rel=>exact ⟨k+1,_,by omega,by go_num,rfl⟩
    case measure=>simp [intOf]; omega
   ·have h4':¬ ((k:Nat):Int)<4000:=by omega
    go_wp2
    go_ret
    exact ⟨rfl,HF.out _,(Below.refl _ w).alloc (Nat.le_refl _) _⟩
  ·clear hcells
   go_wp2
   go_ret
   exact ⟨rfl,HF.out _,(Below.refl _ w).alloc (Nat.le_refl _) _⟩
end Go.Proofs.YtljdgmfcgkimoaaGreatDoor

namespace Go.Proofs.YtljdgmfcgkimoaaGreatDoor
open Go.RowKit Go.Joins
set_option maxRecDepth 100000
theorem ow_empty (w:World) (base:Nat) (e:TypeId) (h:base≤w.heap.size):(w.alloc (.cells #[] e)).ownsRow base e 1 (.slice (some ⟨w.heap.size,0,none⟩) 0 0) 0 [] :=
 World.ownsRow_made (size:=1) (e:=e) w #[] 0 h (Nat.zero_le _) (by simp)
theorem ints_one (zs:List Int):∀ u ∈ zs.map (fun z=>Value.int .i64 z),u.oneCell'=true:=by
 intro u hu
 obtain ⟨z,_,rfl⟩:=List.mem_map.1 hu
 rfl
theorem run_append_zero {w:World} (base:Nat) (t ty e:TypeId) (i:TypeInfo) (size:Nat) (ht:Tryz.prog.underlying t=some (.slice e)) (hi:Tryz.prog.info? e=some i)
  (v:Value) (n c:Nat) (xs:List Value) (hown:w.ownsRow base e size v n xs):(Builtin.append_ #[t,t] ty #[v,.slice none 0 c]).run Tryz.prog w = .ok v w:=by
 rcases hown.2 with ⟨rfl,rfl⟩ | ⟨g,cap,cur,rfl,_,_,hnc,_⟩
 ·simp [Builtin.append_,run_underlying ht,sizeOf,typeInfo,hi,Builtin.lenOf,Builtin.firstCells]
 ·simp [Builtin.append_,run_underlying ht,sizeOf,typeInfo,hi,Builtin.lenOf,Builtin.firstCells,hnc,storeCells]
theorem wpList_append_ints {w:World} {ops:Array Oper} {rest:List Oper} {o:Oper} {a:Act} {Q:Exit→Act→World→Prop} (hgd:o.guard=none) (s x:Operand)
  (ho:o.op = .call { callee:=.builtin .append,args:=#[s,x],argTypes:=#[32,32] })
  (base:Nat) (v:Value) (n:Nat) (xs:List Value) (hs:a.eval s=v) (hown:w.ownsRow base 3 1 v n xs)
  (sv:Value) (zs:List Int) (S:Nat→Prop) (hx:a.eval x=sv) (hsrc:IntsAt w S sv zs) (hn:n+zs.length≤1000000000) (hbase:base≤w.heap.size)
  (h:∀ v' w',w'.ownsRow base 3 1 v' (n+zs.length) (xs ++ zs.map (fun z=>Value.int .i64 z))→w.grownBy w' v.ownBlock→(v'.ownBlock=v.ownBlock∨v'.ownBlock=some w.heap.size)→wpList Tryz.prog ops Q rest (a.put o.dst v') w') :
  wpList Tryz.prog ops Q (o :: rest) a w:=by
 obtain ⟨i0,hi,hz0,hz1,hz2⟩:=info_parts infoCdI
 obtain ⟨ad,cap,rfl,hl,hc⟩:=hsrc
 cases ad with
 | none =>
  have hz:zs=[]:=by
   cases zs with
   | nil=>rfl
   | cons z zs=>obtain ⟨b,off,he,_⟩:=hc 0 z rfl; cases he
  subst hz
  refine wpList_plain hgd fun K hK => ?_
  have hrun:=run_append_zero (w:=w) base 32 o.type 3 i0 1 Tryz.underlying32 hi v n cap xs hown
  unfold Oper.wp
  simp only [List.length_nil] at hx
  simp [execOp,ho,resolve,invoke,builtin,hs,hx,hrun,Result.andThen]
  exact hK _ _ (h v w (by simpa using hown) (World.grownBy.refl _ _) (.inl rfl))
 | some ad =>
  refine wpList_append_own_at w hgd s x 32 ho base 3 i0 (.int .i64 0) 1 8 Tryz.underlying32 hi hz0 hz1 hz2 rfl (by decide) v n xs hs hown ad zs.length cap (zs.map (fun z=>Value.int .i64 z)) hx (by simp) (fun j u hj => ?_) (ints_one zs) (by unfold maxLen; omega) (by omega) hbase (fun v' w' h1 h2 _ h4=>h v' w' h1 h2 h4)
  rw [List.getElem?_map] at hj
  obtain ⟨z,hz,rfl⟩:=Option.map_eq_some_iff.1 hj
  obtain ⟨b,off,he,_,_,hcell,_⟩:=hc j z hz
  cases he
  rw [addr_add]
  exact hcell
end Go.Proofs.YtljdgmfcgkimoaaGreatDoor

namespace Go.Proofs.YtljdgmfcgkimoaaGreatDoor
open Go.RowKit Go.Joins
set_option maxRecDepth 100000
theorem Dr.glt {B:Nat} {w:World} {g:Nat} {V:Value} {len:Nat} (h:Dr B w g V len):g<w.heap.size:=h.2.1.lt
theorem Dr.grownOwn {B:Nat} {w w':World} {g:Nat} {V:Value} {len:Nat} {row:Option Nat} (h:Dr B w g V len) (hg:w.grownBy w' row) (hr:∀ q,row=some q→B≤q∧q≠g):Dr B w' g V len:=by
 obtain ⟨h1,⟨h2,i,hh,h3,h4,h5⟩,h6⟩:=h
 have hlt:=(Array.getElem?_eq_some_iff.1 h5).1
 refine ⟨h1.kept (fun k hk=>hg.block k (by omega) (fun e=>by have:=(hr k e.symm).1; omega)),⟨h2,i,hh,h3,h4,(hg.block g hlt (fun e=>(hr g e.symm).2 rfl)).trans h5⟩,Nat.le_trans h6 hg.size⟩
theorem Dr.set {B:Nat} {w:World} {g q off:Nat} {V:Value} {len:Nat} (h:Dr B w g V len) (hq:B≤q) (hne:q≠g) (u:Value):Dr B (w.setCell ⟨q,off,none⟩ u) g V len:=by
 obtain ⟨h1,⟨h2,i,hh,h3,h4,h5⟩,h6⟩:=h
 exact ⟨h1.kept (fun k hk=>Below.heap_setCell _ _ _ _ (by show k≠q; omega)),⟨h2,i,hh,h3,h4,(Below.heap_setCell _ _ _ _ (by show g≠q; omega)).trans h5⟩,by simpa using h6⟩
theorem grown_set {w W:World} {g q off:Nat} (h:w.grownBy W (some g)) (hq:w.heap.size≤q) (u:Value):w.grownBy (W.setCell ⟨q,off,none⟩ u) (some g) :=
 ⟨h.os,h.tape,h.output,by simpa using h.size,fun k hk hne=>(Below.heap_setCell _ _ _ _ (by show k≠q; omega)).trans (h.block k hk hne)⟩
theorem ints_lit (zs:List Int) (w:World):∀ j z,zs[j]? = some z→(w.alloc (.cells (zs.map (fun z=>Value.int .i64 z)).toArray 3)).cell? ⟨w.heap.size,j,none⟩=some (.int .i64 z):=by
 intro j z hj
 rw [cell_of_block (MapKept.heap_alloc w _).1]
 simp [hj]
end Go.Proofs.YtljdgmfcgkimoaaGreatDoor

namespace Go.Proofs.YtljdgmfcgkimoaaGreatDoor
open Go.RowKit Go.Joins
set_option maxRecDepth 100000
set_option maxHeartbeats 1600000 in
theorem once_dr (B g:Nat) (V:Value) (len:Nat) (n:Int) (w:World) (hn0:0<n) (hn1:n≤1000000000) (h:Dr B w g V len) :
  Calls Tryz.prog 43 #[.pointer (some ⟨g,0,none⟩),.int .i64 n] w fun e w'=>∃ x:Bool,e = .returned (.bool x)∧Dr B w' g V len∧w.grownBy w' (some g):=by
 go_enter Tryz.func43,Tryz.ntmps43
 go_wp2_with fail
 refine (below_dr B g V len n _ hn0 hn1 h).mono ?_
 rintro e w1 ⟨x,rfl,x0,x1,h1,g1⟩
 go_wp2
 go_ret
 exact ⟨_,rfl,h1,g1⟩
end Go.Proofs.YtljdgmfcgkimoaaGreatDoor

namespace Go.Proofs.YtljdgmfcgkimoaaGreatDoor
open Go.RowKit Go.Joins
set_option maxRecDepth 100000
def TextsIs (w:World) (v:Value) (n L:Nat) (g:Nat):Prop:=∃ b cap,∃ ts:List ByteArray,v = .slice (some ⟨b,0,none⟩) n cap∧ts.length=n∧b≠g∧b<w.heap.size∧n≤1000∧(∀ t ∈ ts,t.size≤L)∧∀ j t,ts[j]? = some t→w.cell? ⟨b,j,none⟩=some (.string t)
theorem TextsIs.grown {w w':World} {v:Value} {n L g:Nat} (h:TextsIs w v n L g) (hg:w.grownBy w' (some g)):TextsIs w' v n L g:=by
 obtain ⟨b,cap,ts,hv,hts,hb,hlt,hn,hL,hc⟩:=h
 exact ⟨b,cap,ts,hv,hts,hb,Nat.lt_of_lt_of_le hlt hg.size,hn,hL,fun j t hj=>hg.cell (hc j t hj) (fun e=>hb (Option.some.inj e))⟩
theorem grown_of_below' {w w':World} {row:Option Nat} (hb:Below w.heap.size w w'):w.grownBy w' row:=⟨hb.os,hb.tape,hb.output,hb.size,fun k hk _=>hb.block k hk⟩
theorem TextsIs.below {w w':World} {v:Value} {n L g:Nat} (h:TextsIs w v n L g) (hb:Below w.heap.size w w'):TextsIs w' v n L g:=h.grown (grown_of_below' hb)
theorem TextsIs.alloc {w:World} {v:Value} {n L g:Nat} (h:TextsIs w v n L g) (o:Obj):TextsIs (w.alloc o) v n L g:=h.grown (World.grownBy_alloc w o _)
theorem TextsIs.of_row {w:World} {base:Nat} {v:Value} {n L g:Nat} {ts:List ByteArray} (h:w.ownsRow base 9 1 v n (ts.map Value.string)) (hn:0<n) (hn1:n≤1000) (hts:ts.length=n) (hL:∀ t ∈ ts,t.size≤L) (hg:g<base):TextsIs w v n L g:=by
 rcases h.2 with ⟨_,h0⟩ | ⟨b,cap,cur,hv,hb,hgg,_,_,_,htake⟩
 ·omega
 refine ⟨b,cap,ts,hv,hts,by omega,(Array.getElem?_eq_some_iff.1 hgg).1,hn1,hL,fun k t ht => ?_⟩
 have hk:k<ts.length:=(List.getElem?_eq_some_iff.1 ht).1
 have:(cur.toList.take (n * 1))[k]? = some (.string t):=by rw [htake,List.getElem?_map,ht]; rfl
 rw [List.getElem?_take_of_lt (by omega)] at this
 rw [cell_of_block hgg,← Array.getElem?_toList]
 exact this
theorem texts_lit (ss:List ByteArray) (w:World) (n L g:Nat) (hn:ss.length=n) (hn1:n≤1000) (hL:∀ t ∈ ss,t.size≤L) (hg:g<w.heap.size) :
  TextsIs (w.alloc (.cells (ss.map Value.string).toArray 9)) (.slice (some ⟨w.heap.size,0,none⟩) n n) n L g:=by
 refine ⟨w.heap.size,n,ss,rfl,hn,by omega,by simp,hn1,hL,fun j t hj => ?_⟩
 rw [cell_of_block (MapKept.heap_alloc w _).1]
 simp [hj]
set_option maxHeartbeats 1600000 in
theorem pick_dr (B g:Nat) (V:Value) (len:Nat) (v:Value) (n L:Nat) (w:World) (hn:0<n) (hv:TextsIs w v n L g) (h:Dr B w g V len) :
  Calls Tryz.prog 26 #[.pointer (some ⟨g,0,none⟩),v] w fun e w'=>∃ t:ByteArray,e = .returned (.string t)∧t.size≤L∧Dr B w' g V len∧w.grownBy w' (some g):=by
 obtain ⟨b,cap,ts,rfl,hts,hbg,hlt,hn1,hL,hc⟩:=hv
 have HT:Hid (ts.length=n):=hts
 clear hts
 go_enter Tryz.func26,Tryz.ntmps26
 go_wp2_with fail
 refine (below_dr B g V len _ _ (by omega) (by omega) h).mono ?_
 rintro e w1 ⟨x,rfl,x0,x1,h1,g1⟩
 obtain ⟨k,rfl⟩:=Int.eq_ofNat_of_zero_le x0
 have hk:k<ts.length:=by have:=HT.out; omega
 have hcell1:=g1.cell (hc k ts[k] (List.getElem?_eq_getElem hk)) (fun e=>hbg (Option.some.inj e))
 have ht:=hL ts[k] (List.getElem_mem hk)
 generalize ts[k]=t at *
 clear hc hL
 go_wp2
 go_ret
 exact ⟨t,rfl,ht,h1,g1⟩
end Go.Proofs.YtljdgmfcgkimoaaGreatDoor
