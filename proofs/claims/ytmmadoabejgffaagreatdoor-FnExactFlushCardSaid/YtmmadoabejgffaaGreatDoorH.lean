/-
  Proofs.
-/
import Derived.Test.YtmmadoabejgffaaGreatDoorCB
import Derived.Test.YtmmadoabejgffaaGreatDoorF
import Derived.Test.YtmmadoabejgffaaGreatDoorG
namespace Go.Proofs.YtmmadoabejgffaaGreatDoor
open Go.RowKit Go.Joins
set_option maxRecDepth 100000
set_option maxHeartbeats 51200000
def amongB (node nodes:Int):Bool:=(decide (nodes≤31) && decide (0≤node)) && decide (node<nodes)
def ascB:List Int→Int→Int→Bool
 | [],_,_=>true
 | n :: l,a,b=>inB n a b && ascB l (n+1) b
def lastI:Int→List Int→Int
 | a,[]=>a
 | _,n :: l=>lastI (n+1) l
theorem ascB_app:∀ (l m:List Int) (a b:Int),ascB (l ++ m) a b=(ascB l a b && ascB m (lastI a l) b)
 | [],m,a,b=>by simp [ascB,lastI]
 | n :: l,m,a,b=>by rw [List.cons_append,ascB,ascB,lastI,ascB_app l m,Bool.and_assoc]
theorem lastI_app:∀ (l:List Int) (x a:Int),lastI a (l ++ [x])=x+1
 | [],x,a=>rfl
 | n :: l,x,a=>by rw [List.cons_append,lastI,lastI_app l x]
theorem lastI_ge:∀ (l:List Int) (a b:Int),ascB l a b=true→a≤lastI a l
 | [],a,b,_=>Int.le_refl _
 | n :: l,a,b,h=>by
  rw [ascB,Bool.and_eq_true] at h
  have h1:=lastI_ge l (n+1) b h.2
  have h2:=h.1
  unfold inB at h2
  simp only [Bool.and_eq_true,decide_eq_true_eq] at h2
  rw [lastI]
  omega
theorem asc_next {l:List Int} {k:Nat} {x a b:Int} (h:ascB (l.take k) a b=true) (hx:l[k]? = some x):ascB (l.take (k+1)) a b=inB x (lastI a (l.take k)) b:=by
 have hk:=(List.getElem?_eq_some_iff.1 hx).1
 rw [List.take_succ_eq_append_getElem hk,ascB_app,h,(List.getElem?_eq_some_iff.1 hx).2]
 simp [ascB]
theorem asc_not {l:List Int} {k:Nat} {x a b:Int} (hx:l[k]? = some x) (h:inB x (lastI a (l.take k)) b=false):ascB l a b=false:=by
 have hk:=(List.getElem?_eq_some_iff.1 hx).1
 conv=>lhs; rw [← List.take_append_drop k l,List.drop_eq_getElem_cons hk,(List.getElem?_eq_some_iff.1 hx).2]
 rw [ascB_app,ascB,h]
 simp
theorem asc_last {l:List Int} {k:Nat} {y a b:Int} (h:ascB (l.take (k+1)) a b=true) (hy:l[k]? = some y):lastI a (l.take (k+1))=y+1∧a≤y:=by
 have hk:=(List.getElem?_eq_some_iff.1 hy).1
 have e:l.take (k+1)=l.take k ++ [y]:=by rw [List.take_succ_eq_append_getElem hk,(List.getElem?_eq_some_iff.1 hy).2]
 rw [e] at h ⊢
 rw [ascB_app,Bool.and_eq_true] at h
 have h1:=lastI_ge _ _ _ h.1
 have h2:=h.2
 rw [ascB,Bool.and_eq_true] at h2
 have h3:=h2.1
 unfold inB at h3
 simp only [Bool.and_eq_true,decide_eq_true_eq] at h3
 exact ⟨lastI_app _ _ _,by omega⟩
theorem inB_next {x y a b:Int} (h:a≤y):inB x (y+1) b=(inB x a b && !decide (x≤y)):=by
 unfold inB
 by_cases h1:y+1≤x
 ·have h2:a≤x:=by omega
  have h3:¬ x≤y:=by omega
  simp [h1,h2,h3]
 ·have h3:x≤y:=by omega
  simp [h1,h3]
def Se.ok (s:Se):Bool:=(inB s.low 1 1000000 && decide ((s.ids.length:Int)≤60)) && ascB s.ids s.low 999999
theorem allT {α : Type} (p : α → Bool) (l:List α) (k:Nat) {x : α} (hx:l[k]? = some x) (h:(l.take k).all p=true) (hp:p x=true):(l.take (k+1)).all p=true:=by
 have hk:=(List.getElem?_eq_some_iff.1 hx).1
 rw [List.take_succ_eq_append_getElem hk,List.all_append,h,(List.getElem?_eq_some_iff.1 hx).2]
 simp [hp]
theorem allF {α : Type} (p : α → Bool) (l:List α) {k:Nat} {x : α} (hx:l[k]? = some x) (hp:p x=false):l.all p=false:=by
 cases h:l.all p with
 | false=>rfl
 | true =>
  rw [List.all_eq_true] at h
  have:=h x (List.mem_of_getElem? hx)
  rw [hp] at this
  cases this
theorem pow_small (n:Nat) (h:n≤8):256 ^ n≤18446744073709551616:=by
 have:n=0∨n=1∨n=2∨n=3∨n=4∨n=5∨n=6∨n=7∨n=8:=by omega
 rcases this with rfl | rfl | rfl | rfl | rfl | rfl | rfl | rfl | rfl <;> decide
theorem bytesU_digits:∀ (n:Nat) (l:List UInt8),l.length=n→n≤8→bytesU l<256 ^ n∧(List.range n).map (fun i=>byteAt (bytesU l) (n - 1 - i))=l
 | 0,l,hl,_=>by
  obtain rfl:=List.eq_nil_of_length_eq_zero hl
  exact ⟨by decide,rfl⟩
 | n+1,l,hl,hn=>by
  rcases nil_or_last l with rfl | ⟨l',b,rfl⟩
  ·simp at hl
  have hl':l'.length=n:=by simpa using hl
  obtain ⟨h1,h2⟩:=bytesU_digits n l' hl' (by omega)
  have hb:=b.toNat_lt
  have hp:=pow_small (n+1) hn
  have hu:bytesU (l' ++ [b])=256 * bytesU l'+b.toNat:=by
   rw [bytesU_more]
   rw [Nat.pow_succ] at hp
   omega
  rw [hu]
  generalize bytesU l'=u at *
  refine ⟨by rw [Nat.pow_succ]; omega,?_⟩
  rw [List.range_succ,List.map_append,List.map_singleton]
  congr 1
  ·rw [← h2]
   have:(List.range n).length=n:=List.length_range
   refine (List.map_congr_left fun i hi => ?_)
   have hi':i<n:=by simpa using hi
   unfold byteAt
   rw [show n+1 - 1 - i=(n - 1 - i)+1 by omega,Nat.pow_succ,Nat.mul_comm (256 ^ (n - 1 - i)) 256,← Nat.div_div_eq_div_mul,show (256 * u+b.toNat) / 256=u by omega]
  ·unfold byteAt
   rw [show n+1 - 1 - n=0 by omega,Nat.pow_zero,Nat.div_one,show (256 * u+b.toNat) % 256=b.toNat by omega,UInt8.ofNat_toNat]
theorem numB_back (l:List UInt8) (h:l.length=8):numB (wrap64 (bytesU l:Nat))=l:=by
 have hu:numU (wrap64 (bytesU l:Nat))=bytesU l:=by
  have:=bytesU_lt l
  unfold numU wrap64
  omega
 unfold numB
 rw [hu]
 exact (bytesU_digits 8 l h (by omega)).2
theorem numsB_back (l:List UInt8) (p:Nat):∀ n,p+8 * n≤l.length→numsB (numsL l p n)=(l.drop p).take (8 * n)
 | 0,_=>by simp [numsL,numsB]
 | n+1,h=>by
  rw [numsL_more,numsB_app,numsB_back l p n (by omega)]
  have e1:numsB [numL l (p+8 * n)]=numB (numL l (p+8 * n)):=by simp [numsB]
  rw [e1]
  unfold numL
  rw [numB_back _ (by rw [List.length_take,List.length_drop]; omega),show 8 * (n+1)=8 * n+8 by omega,List.take_add,List.drop_drop]
def msgL (l:List UInt8):Ms:=⟨numL l 0,numL l 8,numL l 16,numL l 24,numL l 32,⟨numL l 40,numL l 48,numL l 56,numsL l 72 (numL l 64).toNat⟩⟩
def msgFit (l:List UInt8):Bool:=decide (72≤l.length) && inB (numL l 64) 0 100 && decide (l.length=72+8 * (numL l 64).toNat) && (msgL l).ok
def zeroMs:Ms:=⟨0,0,0,0,0,⟨0,0,0,[]⟩⟩
def msgRes (l:List UInt8):Ms:=if msgFit l then msgL l else zeroMs
theorem msgL_bytes {l:List UInt8} (hc:inB (numL l 64) 0 100=true) (hl:l.length=72+8 * (numL l 64).toNat):numsB (msgL l).nums ++ numsB (msgL l).cell.kids=l:=by
 have h0:0≤numL l 64:=by unfold inB at hc; simp at hc; exact hc.1
 have e1:(msgL l).nums=numsL l 0 9:=by
  have:(((numsL l 72 (numL l 64).toNat).length:Nat):Int)=numL l 64:=by rw [numsL_len]; omega
  show [numL l 0,numL l 8,numL l 16,numL l 24,numL l 32,numL l 40,numL l 48,numL l 56,(((numsL l 72 (numL l 64).toNat).length:Nat):Int)]=_
  rw [this]
  rfl
 rw [e1,numsB_back l 0 9 (by omega),show (msgL l).cell.kids=numsL l 72 (numL l 64).toNat from rfl,numsB_back l 72 _ (by omega),List.drop_zero]
 have e2:(l.drop 72).take (8 * (numL l 64).toNat)=l.drop 72:=List.take_of_length_le (by rw [List.length_drop]; omega)
 rw [e2]
 exact List.take_append_drop 72 l
theorem msgFit_yes {l:List UInt8} (h:msgFit l=true):(msgL l).bytes=l:=by
 unfold msgFit at h
 simp only [Bool.and_eq_true,decide_eq_true_eq] at h
 unfold Ms.bytes
 rw [h.2,if_pos rfl]
 exact msgL_bytes h.1.1.2 h.1.2
theorem bytes_len (m:Ms) (h:m.ok=true):m.bytes.length=72+8 * m.cell.kids.length:=by
 unfold Ms.bytes
 rw [h,if_pos rfl,List.length_append,numsB_len,numsB_len]
 rfl
theorem msgFit_no {l:List UInt8} (h:msgFit l=false) (h1:72≤l.length) (h2:inB (numL l 64) 0 100=true):(msgL l).bytes≠l:=by
 intro hb
 cases hok:(msgL l).ok with
 | false =>
  have:(msgL l).bytes=[]:=by unfold Ms.bytes; rw [hok]; rfl
  rw [this] at hb
  rw [← hb] at h1
  simp at h1
 | true =>
  have hlen:=bytes_len (msgL l) hok
  rw [hb,show (msgL l).cell.kids=numsL l 72 (numL l 64).toNat from rfl,numsL_len] at hlen
  unfold msgFit at h
  rw [h2,hok,decide_eq_true h1,decide_eq_true hlen] at h
  cases h
theorem getN_is {s:ByteArray} {i:Nat} (h:i+8≤s.size):(getN s (i:Int)).1=numL s.data.toList i:=by
 unfold getN numL
 rw [if_pos (by omega),Int.toNat_natCast]
theorem numsAt_is {s:ByteArray} {i n:Nat} (h:n=0∨i+8 * n≤s.size):numsAt s (i:Int) n=numsL s.data.toList i n:=by
 unfold numsAt numsL
 refine List.map_congr_left fun k hk => ?_
 have hk':k<n:=by simpa using hk
 rw [show (i:Int)+8 * (k:Int)=((i+8 * k:Nat):Int) by omega,getN_is (by omega)]
theorem msgL_fits (l:List UInt8):(inI64 (msgL l).kind∧inI64 (msgL l).frm∧inI64 (msgL l).dst∧inI64 (msgL l).id∧inI64 (msgL l).want)∧inI64 (msgL l).cell.kind∧inI64 (msgL l).cell.n∧inI64 (msgL l).cell.pos∧∀ z ∈ (msgL l).cell.kids,inI64 z:=by
 refine ⟨⟨numL_fit _ _,numL_fit _ _,numL_fit _ _,numL_fit _ _,numL_fit _ _⟩,numL_fit _ _,numL_fit _ _,numL_fit _ _,?_⟩
 intro z hz
 have hz':z ∈ numsL l 72 (numL l 64).toNat:=hz
 unfold numsL at hz'
 obtain ⟨k,-,rfl⟩:=List.mem_map.1 hz'
 exact numL_fit _ _
def Sn.msg (s:Sn):Ms:=msgRes s.body.data.toList
def Sn.fit (s:Sn):Bool:=msgFit s.body.data.toList
def ownB (id nodes:Int) (m:Ms):Bool:=(m.frm == id) && amongB m.dst nodes
def Sn.fits (id nodes:Int) (s:Sn):Bool:=(s.fit && ownB id nodes s.msg) && (s.msg.dst == s.dst)
def Lk.outOk (l:Lk):Bool:=decide ((l.out.length:Int)≤60) && (l.out.all (Sn.fits l.id l.seen.length) && ascB (l.out.map Sn.seq) 1 (l.next - 1))
def Lk.ok (l:Lk):Bool:=((amongB l.id l.seen.length && inB l.next 1 999999) && l.outOk) && l.seen.all Se.ok
theorem fit_ok {l:List UInt8} (h:msgFit l=true):(msgRes l).ok=true∧0≤(msgRes l).dst:=by
 have h1:(msgRes l).ok=true:=by
  unfold msgRes
  rw [if_pos h]
  unfold msgFit at h
  simp only [Bool.and_eq_true] at h
  exact h.2
 refine ⟨h1,?_⟩
 unfold Ms.ok nodeOk inB at h1
 simp only [Bool.and_eq_true,decide_eq_true_eq] at h1
 omega
theorem fits_is (id nodes:Int) (s:Sn) (h:nodes≤31):s.fits id nodes=(((s.fit && (s.msg.frm == id)) && (s.msg.dst == s.dst)) && decide (s.dst<nodes)):=by
 unfold Sn.fits ownB amongB
 cases hf:s.fit with
 | false=>simp
 | true =>
  have h0:=(fit_ok hf).2
  have h0':(0:Int)≤s.msg.dst:=h0
  cases he:(s.msg.dst == s.dst) with
  | false=>simp
  | true =>
   have he':s.msg.dst=s.dst:=by simpa using he
   rw [← he']
   simp [h,h0']
theorem digits_back (k:Nat):∀ (u:Nat),k≤8→bytesU ((List.range k).map (fun i=>byteAt u (k - 1 - i)))=u % 256 ^ k:=by
 induction k with
 | zero=>intro u _; simp [bytesU,Nat.mod_one]
 | succ k ih =>
  intro u hk
  have e:(List.range (k+1)).map (fun i=>byteAt u (k+1 - 1 - i))=(List.range k).map (fun i=>byteAt (u / 256) (k - 1 - i)) ++ [byteAt u 0]:=by
   rw [List.range_succ,List.map_append,List.map_singleton]
   congr 1
   ·refine List.map_congr_left fun i hi => ?_
    have hi':i<k:=by simpa using hi
    unfold byteAt
    rw [show k+1 - 1 - i=(k - 1 - i)+1 by omega,Nat.pow_succ,Nat.mul_comm (256 ^ (k - 1 - i)) 256,← Nat.div_div_eq_div_mul]
   ·rw [show k+1 - 1 - k=0 by omega]
  rw [e,bytesU_more,ih (u / 256) (by omega)]
  have hb:(byteAt u 0).toNat=u % 256:=by unfold byteAt; rw [UInt8.toNat_ofNat',Nat.pow_zero,Nat.div_one]; omega
  rw [hb,Nat.pow_succ,Nat.mul_comm (256 ^ k) 256,Nat.mod_mul]
  have hp:=pow_small (k+1) hk
  have hl:u / 256 % 256 ^ k<256 ^ k:=Nat.mod_lt _ (Nat.pow_pos (by decide))
  rw [Nat.pow_succ] at hp
  generalize 256 ^ k=P at *
  generalize u / 256 % P=q at *
  have:256 * q+u % 256<18446744073709551616:=by omega
  rw [Nat.mod_eq_of_lt this]
  omega
theorem bytesU_numB (z:Int):bytesU (numB z)=numU z:=by
 have:=digits_back 8 (numU z) (by decide)
 rw [Nat.mod_eq_of_lt (show numU z<256 ^ 8 from numU_lt z)] at this
 exact this
theorem num_back {z:Int} (h:inI64 z):wrap64 (bytesU (numB z):Nat)=z:=by
 rw [bytesU_numB]
 unfold inI64 at h
 unfold wrap64 numU
 omega
theorem numL_of {l:List UInt8} {p:Nat} {z:Int} (h:(l.drop p).take 8=numB z) (hz:inI64 z):numL l p=z:=by
 unfold numL
 rw [h]
 exact num_back hz
theorem numsB_drop:∀ (zs:List Int) (b:List UInt8) (k:Nat) (z:Int),zs[k]? = some z→((numsB zs ++ b).drop (8 * k)).take 8=numB z
 | [],_,k,z,h=>by simp at h
 | y :: ys,b,0,z,h=>by
  have e:numsB (y :: ys)=numB y ++ numsB ys:=rfl
  cases h
  rw [e,List.append_assoc,Nat.mul_zero,List.drop_zero,List.take_append_of_le_length (by rw [numB_len]; exact Nat.le_refl 8),List.take_of_length_le (by rw [numB_len]; exact Nat.le_refl 8)]
 | y :: ys,b,k+1,z,h=>by
  have e:numsB (y :: ys)=numB y ++ numsB ys:=rfl
  have h':ys[k]? = some z:=by simpa using h
  rw [e,List.append_assoc,show 8 * (k+1)=(numB y).length+8 * k by rw [numB_len]; omega,List.drop_append,]
  simp only [Nat.add_sub_cancel_left]
  rw [List.drop_of_length_le (by rw [numB_len]; omega),List.nil_append]
  exact numsB_drop ys b k z h'
theorem numL_nums {zs:List Int} {b:List UInt8} {k p:Nat} {z:Int} (hp:p=8 * k) (h:zs[k]? = some z) (hz:inI64 z):numL (numsB zs ++ b) p=z:=by
 subst hp
 exact numL_of (numsB_drop zs b k z h) hz
def Ms.fits (m:Ms):Prop:=inI64 m.kind∧inI64 m.frm∧inI64 m.dst∧inI64 m.id∧inI64 m.want∧inI64 m.cell.kind∧inI64 m.cell.n∧inI64 m.cell.pos∧∀ z ∈ m.cell.kids,inI64 z
theorem msg_nums {m:Ms} (hok:m.ok=true):m.bytes=numsB m.nums ++ numsB m.cell.kids:=by unfold Ms.bytes; rw [hok]; rfl
theorem msg_at {m:Ms} (hok:m.ok=true) {k p:Nat} {z:Int} (hp:p=8 * k) (h:m.nums[k]? = some z) (hz:inI64 z):numL m.bytes p=z:=by
 rw [msg_nums hok]
 exact numL_nums hp h hz
theorem msg_kids {m:Ms} (hok:m.ok=true) (f8:∀ z ∈ m.cell.kids,inI64 z):numsL m.bytes 72 m.cell.kids.length=m.cell.kids:=by
 have hb2:m.bytes=numsB (m.nums ++ m.cell.kids) ++ []:=by rw [msg_nums hok,numsB_app,List.append_nil]
 have hnl:m.nums.length=9:=rfl
 generalize m.nums=ns at *
 generalize m.bytes=l at *
 generalize m.cell.kids=ks at *
 apply List.ext_getElem?
 intro k
 rcases Nat.lt_or_ge k ks.length with hk | hk
 ·have hz:=List.getElem?_eq_getElem hk
  rw [hz]
  unfold numsL
  rw [List.getElem?_map,List.getElem?_range hk,Option.map_some]
  congr 1
  rw [hb2]
  refine numL_nums (k:=9+k) (by omega) ?_ (f8 _ (List.mem_of_getElem? hz))
  rw [List.getElem?_append_right (by omega),show 9+k - ns.length=k by omega]
  exact hz
 ·rw [List.getElem?_eq_none (by rw [numsL_len]; exact hk),List.getElem?_eq_none hk]
theorem msg_back {m:Ms} (hok:m.ok=true) (hf:m.fits):msgL m.bytes=m:=by
 obtain ⟨f0,f1,f2,f3,f4,f5,f6,f7,f8⟩:=hf
 have h100:=ok_len hok
 have n0:=msg_at hok (k:=0) (p:=0) (by decide) rfl f0
 have n1:=msg_at hok (k:=1) (p:=8) (by decide) rfl f1
 have n2:=msg_at hok (k:=2) (p:=16) (by decide) rfl f2
 have n3:=msg_at hok (k:=3) (p:=24) (by decide) rfl f3
 have n4:=msg_at hok (k:=4) (p:=32) (by decide) rfl f4
 have n5:=msg_at hok (k:=5) (p:=40) (by decide) rfl f5
 have n6:=msg_at hok (k:=6) (p:=48) (by decide) rfl f6
 have n7:=msg_at hok (k:=7) (p:=56) (by decide) rfl f7
 have n8:=msg_at hok (k:=8) (p:=64) (z:=(m.cell.kids.length:Int)) (by decide) rfl (by unfold inI64; omega)
 have nk:=msg_kids hok f8
 unfold msgL
 generalize m.bytes=l at *
 simp only [n0,n1,n2,n3,n4,n5,n6,n7,n8,Int.toNat_natCast,nk]
theorem msg_back_fit {m:Ms} (hok:m.ok=true) (hf:m.fits):msgFit m.bytes=true:=by
 have h100:=ok_len hok
 have hm:=msg_back hok hf
 have hlen:m.bytes.length=72+8 * m.cell.kids.length:=bytes_len m hok
 have n8:=msg_at hok (k:=8) (p:=64) (z:=(m.cell.kids.length:Int)) (by decide) rfl (by unfold inI64; omega)
 unfold msgFit
 rw [hm,hok,n8]
 generalize m.bytes=l at *
 unfold inB
 simp only [Int.toNat_natCast]
 rw [decide_eq_true (show 72≤l.length by omega),decide_eq_true hlen,decide_eq_true (show (0:Int)≤(m.cell.kids.length:Int) by omega),decide_eq_true (show (m.cell.kids.length:Int)≤100 by omega)]
 rfl
def Lk.sentOf (l:Lk) (m:Ms):Sn:=⟨l.next,m.dst,⟨m.bytes.toArray⟩⟩
def Lk.push (l:Lk) (m:Ms):Lk:=⟨l.id,l.next+1,l.out ++ [l.sentOf m],l.seen⟩
def Lk.room (l:Lk):Bool:=!((l.out.length:Int) == 60) && !(l.next == 999999)
def Lk.goes (l:Lk) (m:Ms):Bool:=((l.ok && m.ok) && ownB l.id l.seen.length m) && l.room
def Lk.send (l:Lk) (m:Ms):Lk:=if l.goes m then l.push m else l
theorem asc_wide:∀ (l:List Int) (a b c:Int),b≤c→ascB l a b=true→ascB l a c=true
 | [],_,_,_,_,_=>rfl
 | x :: l,a,b,c,hbc,h=>by
  unfold ascB at h ⊢
  simp only [Bool.and_eq_true] at h ⊢
  refine ⟨?_,asc_wide l (x+1) b c hbc h.2⟩
  have h1:=h.1
  unfold inB at h1 ⊢
  simp only [Bool.and_eq_true,decide_eq_true_eq] at h1 ⊢
  omega
theorem asc_top:∀ (l:List Int) (a b:Int),ascB l a b=true→a≤b+1→lastI a l≤b+1
 | [],_,_,_,h=>h
 | x :: l,a,b,h,_=>by
  unfold ascB at h
  simp only [Bool.and_eq_true] at h
  have h1:=h.1
  unfold inB at h1
  simp only [Bool.and_eq_true,decide_eq_true_eq] at h1
  show lastI (x+1) l≤b+1
  exact asc_top l (x+1) b h.2 (by omega)
theorem Lk.parts {l:Lk} (h:l.ok=true):amongB l.id l.seen.length=true∧inB l.next 1 999999=true∧decide ((l.out.length:Int)≤60)=true∧l.out.all (Sn.fits l.id l.seen.length)=true∧ascB (l.out.map Sn.seq) 1 (l.next - 1)=true∧l.seen.all Se.ok=true:=by
 unfold Lk.ok Lk.outOk at h
 simp only [Bool.and_eq_true] at h
 exact ⟨h.1.1.1,h.1.1.2,h.1.2.1,h.1.2.2.1,h.1.2.2.2,h.2⟩
theorem push_ok {l:Lk} {m:Ms} (hl:l.ok=true) (hm:m.ok=true) (hf:m.fits) (hfrm:m.frm=l.id):(l.push m).ok=(amongB m.dst l.seen.length && l.room):=by
 obtain ⟨h1,h2,h3,h4,h5,h6⟩:=Lk.parts hl
 have hn:1≤l.next∧l.next≤999999:=by
  unfold inB at h2
  simpa using h2
 have hlen:(l.out.length:Int)≤60:=of_decide_eq_true h3
 have e1:(l.sentOf m).fit=true:=msg_back_fit hm hf
 have e2:(l.sentOf m).msg=m:=by
  show msgRes _=m
  unfold msgRes
  rw [show msgFit (l.sentOf m).body.data.toList=true from e1,if_pos rfl]
  exact msg_back hm hf
 have e3:(l.sentOf m).fits l.id l.seen.length=amongB m.dst l.seen.length:=by
  unfold Sn.fits ownB
  rw [e1,e2,hfrm]
  show ((true && ((l.id == l.id) && amongB m.dst l.seen.length)) && (m.dst == m.dst))=_
  simp
 have e4:ascB ((l.out ++ [l.sentOf m]).map Sn.seq) 1 (l.next+1 - 1)=true:=by
  rw [List.map_append,ascB_app,asc_wide _ 1 (l.next - 1) (l.next+1 - 1) (by omega) h5]
  have ht:=asc_top _ 1 (l.next - 1) h5 (by omega)
  show (true && ((inB l.next (lastI 1 (l.out.map Sn.seq)) (l.next+1 - 1)) && true))=true
  unfold inB
  simp only [Bool.true_and,Bool.and_true,Bool.and_eq_true,decide_eq_true_eq]
  omega
 unfold Lk.ok Lk.outOk
 show (((amongB l.id l.seen.length && inB (l.next+1) 1 999999) && (decide (((l.out ++ [l.sentOf m]).length:Int)≤60) && ((l.out ++ [l.sentOf m]).all (Sn.fits l.id l.seen.length) && ascB ((l.out ++ [l.sentOf m]).map Sn.seq) 1 (l.next+1 - 1)))) && l.seen.all Se.ok)=_
 rw [h1,h6,e4,List.all_append,h4]
 have e5:[l.sentOf m].all (Sn.fits l.id l.seen.length)=amongB m.dst l.seen.length:=by
  show ((l.sentOf m).fits l.id l.seen.length && true)=_
  rw [e3,Bool.and_true]
 rw [e5]
 have e6:inB (l.next+1) 1 999999 = !(l.next == 999999):=by
  unfold inB
  by_cases h:l.next=999999
  ·simp [h]
  ·have a1:(1:Int)≤l.next+1:=by omega
   have a2:l.next+1≤999999:=by omega
   simp [h,a1,a2]
 have e7:decide (((l.out ++ [l.sentOf m]).length:Int)≤60) = !((l.out.length:Int) == 60):=by
  rw [List.length_append,List.length_singleton]
  by_cases h:(l.out.length:Int)=60
  ·have a1:¬ (((l.out.length+1:Nat):Int)≤60):=by omega
   simp only [h,decide_eq_false a1]
   rfl
  ·have a1:(((l.out.length+1:Nat):Int)≤60):=by omega
   rw [decide_eq_true a1]
   simp [h]
 rw [e6,e7]
 unfold Lk.room
 cases amongB m.dst l.seen.length <;> cases ((l.out.length:Int) == 60) <;> cases (l.next == 999999) <;> rfl
end Go.Proofs.YtmmadoabejgffaaGreatDoor
