/-
  Proofs.
-/
import Derived.Test.YtmmadoabejgffaaGreatDoorE
import Derived.Test.YtmmadoabejgffaaGreatDoorD
import Derived.Test.YtmmadoabejgffaaGreatDoorH
import Derived.Test.YtmmadoabejgffaaGreatDoorLinkSendS
namespace Go.Proofs.YtmmadoabejgffaaGreatDoor
open Go.RowKit Go.Joins
set_option maxRecDepth 100000
set_option maxHeartbeats 51200000
def Ms.off (m:Ms) (i:Int):Ms:=⟨m.kind,i,m.dst,m.id,m.want,m.cell⟩
def flushL (i:Int):Lk→List Ms→Lk
 | l,[]=>l
 | l,m :: t=>if l.goes (m.off i) then flushL i (l.send (m.off i)) t else l
def flushP (i:Int):Lk→List Ms→List ByteArray
 | _,[]=>[]
 | l,m :: t=>if l.goes (m.off i) then l.sendText (m.off i) :: flushP i (l.send (m.off i)) t else []
def flushN (i:Int):Lk→List Ms→Nat
 | _,[]=>0
 | l,m :: t=>if l.goes (m.off i) then flushN i (l.send (m.off i)) t+1 else 0
theorem flushN_le (i:Int):∀ (l:Lk) (ms:List Ms),flushN i l ms≤ms.length
 | _,[]=>Nat.le_refl _
 | l,m :: t=>by
  rw [flushN]
  split
  ·have:=flushN_le i (l.send (m.off i)) t
   simp
   omega
  ·omega
theorem flushP_len (i:Int):∀ (l:Lk) (ms:List Ms),(flushP i l ms).length=flushN i l ms
 | _,[]=>rfl
 | l,m :: t=>by
  rw [flushN,flushP]
  split
  ·rw [List.length_cons,flushP_len]
  ·rfl
structure FlSt (i:Int) (l0:Lk) (ms:List Ms) (k:Nat) (l:Lk) (ps:List ByteArray):Prop where
 le:k≤ms.length
 lk:flushL i l0 ms=flushL i l (ms.drop k)
 pk:flushP i l0 ms=ps ++ flushP i l (ms.drop k)
 nk:flushN i l0 ms=k+flushN i l (ms.drop k)
 plen:ps.length=k
theorem FlSt.start (i:Int) (l:Lk) (ms:List Ms):FlSt i l ms 0 l []:=⟨Nat.zero_le _,rfl,rfl,by simp,rfl⟩
theorem FlSt.next {i:Int} {l0:Lk} {ms:List Ms} {k:Nat} {l:Lk} {ps:List ByteArray} {m:Ms} (h:FlSt i l0 ms k l ps) (hm:ms[k]? = some m) (hg:l.goes (m.off i)=true):FlSt i l0 ms (k+1) (l.send (m.off i)) (ps ++ [l.sendText (m.off i)]):=by
 have hk:k<ms.length:=(List.getElem?_eq_some_iff.1 hm).1
 have hd:ms.drop k=m :: ms.drop (k+1):=by rw [List.drop_eq_getElem_cons hk,(List.getElem?_eq_some_iff.1 hm).2]
 refine ⟨hk,?_,?_,?_,by rw [List.length_append,h.plen]; rfl⟩
 ·rw [h.lk,hd,flushL,if_pos hg]
 ·rw [h.pk,hd,flushP,if_pos hg,List.append_assoc]; rfl
 ·rw [h.nk,hd,flushN,if_pos hg]; omega
theorem FlSt.stop {i:Int} {l0:Lk} {ms:List Ms} {k:Nat} {l:Lk} {ps:List ByteArray} {m:Ms} (h:FlSt i l0 ms k l ps) (hm:ms[k]? = some m) (hg:l.goes (m.off i)=false):flushL i l0 ms=l∧flushP i l0 ms=ps∧flushN i l0 ms=k:=by
 have hk:k<ms.length:=(List.getElem?_eq_some_iff.1 hm).1
 have hd:ms.drop k=m :: ms.drop (k+1):=by rw [List.drop_eq_getElem_cons hk,(List.getElem?_eq_some_iff.1 hm).2]
 refine ⟨?_,?_,?_⟩
 ·rw [h.lk,hd,flushL,if_neg (by simp [hg])]
 ·rw [h.pk,hd,flushP,if_neg (by simp [hg]),List.append_nil]
 ·rw [h.nk,hd,flushN,if_neg (by simp [hg]),Nat.add_zero]
theorem FlSt.done {i:Int} {l0:Lk} {ms:List Ms} {l:Lk} {ps:List ByteArray} {k:Nat} (h:FlSt i l0 ms k l ps) (hk:k=ms.length):flushL i l0 ms=l∧flushP i l0 ms=ps∧flushN i l0 ms=k:=by
 subst hk
 refine ⟨?_,?_,?_⟩
 ·rw [h.lk,List.drop_length]; rfl
 ·rw [h.pk,List.drop_length]; simp [flushP]
 ·rw [h.nk,List.drop_length]; rfl
theorem Own.tail {w:World} {a:Option Addr} {n cap:Nat} {r:List Dt} {xs:List (List Dt)} {X:Nat→Prop} (h:Own w (.slice a n cap) (.row (r :: xs)) X) :
  ∃ g off,a=some ⟨g,off,none⟩∧n=xs.length+1∧xs.length+1≤cap∧Own w (.slice (if cap=1 then some ⟨g,off,none⟩ else some ⟨g,off+r.length,none⟩) xs.length (cap - 1)) (.row xs) X:=by
 cases h with
 | row g off cap n e cur xs' vs Y X hl hcap hs hg hblk hn hc hk hY hdis =>
  have hr:r.length=n:=hn 0 r rfl
  rw [List.length_cons] at hl
  refine ⟨g,off,rfl,List.length_cons,hl,?_⟩
  rw [hr]
  obtain ⟨c,rfl⟩:∃ c,cap=c+1:=⟨cap - 1,by omega⟩
  have hs':off+n+c * n≤cur.size:=by rw [Nat.add_mul] at hs; omega
  by_cases h1:c+1=1
  ·rw [if_pos h1]
   obtain rfl:xs=[]:=List.length_eq_zero_iff.1 (by omega)
   exact .row g off c n e cur [] (fun i j=>vs (i+1) j) (fun i j=>Y (i+1) j) X (Nat.zero_le _) (by omega) (by omega) hg hblk (fun i q hq=>by simp at hq) (fun i j q d hq hj=>by simp at hq) (fun i j q d hq hj=>by simp at hq) (fun i j=>hY (i+1) j) (fun i j i' j' b h1 h2=>by have:=hdis (i+1) j (i'+1) j' b h1 h2; omega)
  ·rw [if_neg h1]
   refine .row g (off+n) c n e cur xs (fun i j=>vs (i+1) j) (fun i j=>Y (i+1) j) X (by omega) (by omega) hs' hg hblk (fun i q hq=>hn (i+1) q (by simpa using hq)) (fun i j q d hq hj => ?_) (fun i j q d hq hj=>hk (i+1) j q d (by simpa using hq) hj) (fun i j=>hY (i+1) j) (fun i j i' j' b h1 h2 => ?_)
   ·have:=hc (i+1) j q d (by simpa using hq) hj
    rw [show off+n+i * n+j=off+(i+1) * n+j by rw [Nat.add_mul]; omega]
    exact this
   ·have:=hdis (i+1) j (i'+1) j' b h1 h2
    omega
theorem OFs.cutLast {w:World} {vs:List Value} {ds:List Dt} {a:Option Addr} {n cap:Nat} {r:List Dt} {xs:List (List Dt)} {X:Nat→Prop} (hl:vs.length=ds.length) (h:OFs w (vs ++ [.slice a n cap]) (ds ++ [.row (r :: xs)]) X) {g off:Nat} (ha:a=some ⟨g,off,none⟩) :
  OFs w (vs ++ [.slice (if cap=1 then some ⟨g,off,none⟩ else some ⟨g,off+r.length,none⟩) (n - 1) (cap - 1)]) (ds ++ [.row xs]) X∧n≤cap∧n=xs.length+1:=by
 obtain ⟨X1,X2,h1,h2,h3,h4,Z1,Z2,z1,z2,z3,z4,-⟩:=OFs.split hl h
 obtain ⟨g',off',ha',hn,hc,ho⟩:=Own.tail z4
 rw [ha] at ha'
 cases ha'
 refine ⟨OFs.join h1 (fun b hb=>h2 b (z1 b hb)) (fun b hb hb'=>h3 b hb (z1 b hb')) h4 ⟨Z1,fun _=>False,fun _ h=>h,fun _ h=>h.elim,fun _ _ h=>h,?_,trivial⟩,by omega,hn⟩
 rw [show n - 1=xs.length by omega]
 exact ho
theorem Own.capOf {w:World} {a:Option Addr} {n cap:Nat} {xs:List (List Dt)} {X:Nat→Prop} (h:Own w (.slice a n cap) (.row xs) X):n≤cap∧n=xs.length∧(a=none→cap=0):=by
 cases h with
 | nil=>exact ⟨Nat.le_refl _,rfl,fun _=>rfl⟩
 | row g off cap n e cur xs vs Y X hl=>exact ⟨hl,rfl,fun h=>by cases h⟩
theorem Own.pathOf {w:World} {b off:Nat} {pth:Option Nat} {n cap:Nat} {xs:List (List Dt)} {X:Nat→Prop} (h:Own w (.slice (some ⟨b,off,pth⟩) n cap) (.row xs) X):pth=none:=by
 cases h with
 | row g off cap n e cur xs vs Y X hl=>rfl
theorem OFs.lastCap {w:World} {vs:List Value} {ds:List Dt} {a:Option Addr} {n cap:Nat} {xs:List (List Dt)} {X:Nat→Prop} (hl:vs.length=ds.length) (h:OFs w (vs ++ [.slice a n cap]) (ds ++ [.row xs]) X):n≤cap:=by
 obtain ⟨_,_,-,-,-,-,_,_,-,-,-,z4,-⟩:=OFs.split hl h
 exact z4.capOf.1
theorem Own.dropN {w:World} {g off n cap m k:Nat} {xs:List (List Dt)} {X:Nat→Prop} (h:Own w (.slice (some ⟨g,off,none⟩) n cap) (.row xs) X) (hN:∀ (i:Nat) (r:List Dt),xs[i]? = some r→r.length=m) (hk:k≤xs.length) :
  Own w (.slice (some ⟨g,off+k * m,none⟩) (xs.length - k) (cap - k)) (.row (xs.drop k)) X∧(cap=k→Own w (.slice (some ⟨g,off,none⟩) (xs.length - k) (cap - k)) (.row (xs.drop k)) X):=by
 cases h with
 | row g off cap n e cur xs vs Y X hl hcap hs hg hblk hn hc hk' hY hdis =>
  have hlen:(xs.drop k).length=xs.length - k:=List.length_drop
  have hat:∀ (i:Nat) (r:List Dt),(xs.drop k)[i]? = some r→xs[k+i]? = some r:=fun i r h=>by rw [List.getElem?_drop] at h; exact h
  refine ⟨?_,fun hck => ?_⟩
  ·rw [← hlen]
   by_cases hx:xs=[]
   ·subst hx
    obtain rfl:k=0:=by simpa using hk
    refine .row g (off+0 * m) cap n e cur [] vs Y X (Nat.zero_le _) (by simpa using hcap) (by simpa using hs) hg hblk (fun i r h=>by simp at h) (fun i j r d h _=>by simp at h) (fun i j r d h _=>by simp at h) hY hdis
   ·have hnm:n=m:=by
     obtain ⟨r,t,rfl⟩:=List.exists_cons_of_ne_nil hx
     exact (hn 0 r rfl).symm.trans (hN 0 r rfl)
    subst hnm
    refine .row g (off+k * n) (cap - k) n e cur _ (fun i j=>vs (k+i) j) (fun i j=>Y (k+i) j) X (by omega) (by omega) ?_ hg hblk (fun i r h=>hn _ r (hat i r h)) (fun i j r d h hj => ?_) (fun i j r d h hj=>hk' _ j r d (hat i r h) hj) (fun i j=>hY (k+i) j) (fun i j i' j' b h1 h2 => ?_)
    ·have:k * n+(cap - k) * n=cap * n:=by rw [← Nat.add_mul]; congr 1; omega
     omega
    ·have:=hc (k+i) j r d (hat i r h) hj
     rw [show off+k * n+i * n+j=off+(k+i) * n+j by rw [Nat.add_mul]; omega]
     exact this
    ·have:=hdis (k+i) j (k+i') j' b h1 h2
     omega
  ·have hd:xs.drop k=[]:=List.length_eq_zero_iff.1 (by omega)
   rw [show xs.length - k=([]:List (List Dt)).length by simp; omega,hd]
   exact .row g off (cap - k) n e cur [] vs Y X (Nat.zero_le _) (by omega) (by rw [hck,Nat.sub_self]; omega) hg hblk (fun i r h=>by simp at h) (fun i j r d h _=>by simp at h) (fun i j r d h _=>by simp at h) hY hdis
theorem OFs.lastMap {w:World} {vs:List Value} {ds:List Dt} {v v':Value} {d d':Dt} {X:Nat→Prop} (hl:vs.length=ds.length) (h:OFs w (vs ++ [v]) (ds ++ [d]) X) (hm:∀ Y,Own w v d Y→Own w v' d' Y):OFs w (vs ++ [v']) (ds ++ [d']) X:=by
 obtain ⟨X1,X2,h1,h2,h3,h4,Z1,Z2,z1,z2,z3,z4,-⟩:=OFs.split hl h
 exact OFs.join h1 (fun b hb=>h2 b (z1 b hb)) (fun b hb hb'=>h3 b hb (z1 b hb')) h4 ⟨Z1,fun _=>False,fun _ h=>h,fun _ h=>h.elim,fun _ _ h=>h,hm _ z4,trivial⟩
theorem LkOwn.base {W:World} {B B':Nat} {v:Value} {l:Lk} {ov sv:Value} {rs:List (Se×Value)} (h:LkOwn W B v l ov sv rs) (hB:B'≤B):LkOwn W B' v l ov sv rs :=
 ⟨h.val,h.fits,⟨own_mono h.out.1 hB,h.out.2⟩,⟨own_mono h.seen.cells hB,fun r hr=>⟨own_mono (h.seen.kids r hr).1 hB,(h.seen.kids r hr).2⟩,h.seen.apart⟩,h.is⟩
theorem text_len {l:Lk} {m:Ms} (h:m.cell.kids.length≤1048576):(l.sendText m).size≤maxLen:=by
 unfold Lk.sendText
 split
 ·have h1:m.bytes.length≤72+8 * 1048576:=by
   cases hm:m.ok with
   | true=>rw [bytes_len m hm]; omega
   | false=>unfold Ms.bytes; rw [hm]; simp
  show (((l.push m).pack (l.sentOf m)).bytes.toArray).size≤maxLen
  rw [List.size_toArray]
  unfold Pa.bytes
  split
  ·rw [List.length_append,numsB_len]
   show 8 * 6+m.bytes.toArray.toList.length≤maxLen
   unfold maxLen
   simp
   omega
  ·exact Nat.zero_le _
 ·exact Nat.zero_le _
theorem goes_ok {l:Lk} {m:Ms} (h:l.goes m=true):l.ok=true∧m.ok=true∧l.send m=l.push m:=by
 have h':=h
 unfold Lk.goes at h'
 simp only [Bool.and_eq_true] at h'
 refine ⟨h'.1.1.1,h'.1.1.2,?_⟩
 unfold Lk.send
 rw [if_pos h]
def msL (r:List Dt):List Ms:=match (r[6]? : Option Dt) with | some (Dt.row x)=>x.map msOf | _=>[]
def flK (r:List Dt):Nat:=flushN (peL r).id (peL r) (msL r)
def flD (r:List Dt):List Dt:=r.take 6 ++ (match (r[6]? : Option Dt) with | some (Dt.row x)=>[.row (x.drop (flK r))] | _=>[]) ++ lkD (flushL (peL r).id (peL r) (msL r))
def flP (r:List Dt):List (List Dt):=(flushP (peL r).id (peL r) (msL r)).map fun b=>[Dt.str b]
def FlAns (r:List Dt) (w:World) (e:Ending) (w':World):Prop:=∃ (us:List Value) (v:Value) (X Y:Nat→Prop),e = .returned (.tuple #[.agg us.toArray,v])∧OFs w' us (flD r) X∧Own w' v (.row (flP r)) Y∧(∀ b,X b→Y b→False)∧(∀ b,X b∨Y b→w.heap.size≤b∧b<w'.heap.size)∧Below w.heap.size w w'∧(flushL (peL r).id (peL r) (msL r)).bulk≤1048576
structure FuSt (w W:World) (x0 x1 x2 x3 x4 x5 x6:List (List Dt)) (z7:Int) (l0:Lk) (m1 k:Nat) (xr:List (List Dt)) (l:Lk) (ps:List ByteArray) (six:List Value) (say ov sv pv:Value) (rs:List (Se×Value)):Prop where
 st:FlSt z7 l0 (x6.map msOf) k l ps
 base:Below w.heap.size w W
 mach:OFs W (six ++ [say]) [.row x0,.row x1,.row x2,.row x3,.row x4,.row x5,.row xr] (Btw (w.heap.size+2) m1)
 link:LkOwn W m1 (.agg #[.int .i64 l.id,.int .i64 l.next,ov,sv]) l ov sv rs
 pks:W.ownsRow m1 9 1 pv k (ps.map Value.string)
 ord:w.heap.size+2≤m1∧m1≤W.heap.size
 lb:l.bulk≤1048576
 lid:l.id=z7
 fit:∀ b ∈ ps,b.size≤maxLen
theorem FuSt.below {w W W':World} {x0 x1 x2 x3 x4 x5 x6:List (List Dt)} {z7:Int} {l0:Lk} {m1 k:Nat} {xr:List (List Dt)} {l:Lk} {ps:List ByteArray} {six:List Value} {say ov sv pv:Value} {rs:List (Se×Value)} (h:FuSt w W x0 x1 x2 x3 x4 x5 x6 z7 l0 m1 k xr l ps six say ov sv pv rs) (hb:Below W.heap.size W W'):FuSt w W' x0 x1 x2 x3 x4 x5 x6 z7 l0 m1 k xr l ps six say ov sv pv rs :=
 ⟨h.st,h.base.trans (hb.mono h.base.size),OFs.up h.mach hb,h.link.below hb,own_moved h.pks (fun g hg=>hb.block g (own_lt h.pks g hg)),⟨h.ord.1,Nat.le_trans h.ord.2 hb.size⟩,h.lb,h.lid,h.fit⟩
theorem FuSt.ne {w W:World} {x0 x1 x2 x3 x4 x5 x6:List (List Dt)} {z7:Int} {l0:Lk} {m1 k:Nat} {xr:List (List Dt)} {l:Lk} {ps:List ByteArray} {six:List Value} {say ov sv pv:Value} {rs:List (Se×Value)} {g:Nat} {t:TypeId} (h:FuSt w W x0 x1 x2 x3 x4 x5 x6 z7 l0 m1 k xr l ps six say ov sv pv rs)
  (hg:m1≤g) (ht:(W.heap[g]?).map (fun o=>match o with | .cells _ t _=>t | _=>0)=some t) (hn:t ∉ [9,3,93,147]):∀ b,(Btw (w.heap.size+2) m1 b∨LkBlk ov sv rs b∨pv.ownBlock=some b)→b≠g:=by
 have key:∀ (B n size:Nat) (e:TypeId) (v:Value) (vs:List Value),W.ownsRow B e size v n vs→e ∈ [9,3,93,147]→∀ b,v.ownBlock=some b→b≠g:=fun B n size e v vs ho he' b hb' hbg=>by
  obtain ⟨_,cs,h2⟩:=own_type ho b hb'
  rw [hbg] at h2
  rw [h2] at ht
  simp at ht
  exact hn (ht ▸ he')
 intro b hb
 rcases hb with hb | (hb | hb | ⟨p,hp,hb⟩) | hb
 ·have:=hb.2; omega
 ·exact key _ _ _ _ _ _ h.link.out.1 (by simp) b hb
 ·exact key _ _ _ _ _ _ h.link.seen.cells (by simp) b hb
 ·exact key _ _ _ _ _ _ (h.link.seen.kids p hp).1 (by simp) b hb
 ·exact key _ _ _ _ _ _ h.pks (by simp) b hb
theorem FuSt.away {w W W':World} {x0 x1 x2 x3 x4 x5 x6:List (List Dt)} {z7:Int} {l0:Lk} {m1 k:Nat} {xr:List (List Dt)} {l:Lk} {ps:List ByteArray} {six:List Value} {say ov sv pv:Value} {rs:List (Se×Value)} {g:Nat} {t:TypeId} (h:FuSt w W x0 x1 x2 x3 x4 x5 x6 z7 l0 m1 k xr l ps six say ov sv pv rs) (hb:Below w.heap.size w W') (hs:W.heap.size≤W'.heap.size)
  (he:∀ b,b≠g→W'.heap[b]? = W.heap[b]?) (hg:m1≤g) (ht:(W.heap[g]?).map (fun o=>match o with | .cells _ t _=>t | _=>0)=some t) (hn:t ∉ [9,3,93,147]):FuSt w W' x0 x1 x2 x3 x4 x5 x6 z7 l0 m1 k xr l ps six say ov sv pv rs:=by
 have key:=h.ne hg ht hn
 exact ⟨h.st,hb,OFs.moved h.mach (fun b hb' _=>he b (key b (.inl hb'))),h.link.moved (fun b hb'=>he b (key b (.inr (.inl hb')))),own_moved h.pks (fun b hb'=>he b (key b (.inr (.inr hb')))),⟨h.ord.1,Nat.le_trans h.ord.2 hs⟩,h.lb,h.lid,h.fit⟩
theorem strs_own {W:World} {B:Nat} {v:Value} {k:Nat} {ps:List ByteArray} (h:W.ownsRow B 9 1 v k (ps.map Value.string)) (hk:ps.length=k) (hf:∀ b ∈ ps,b.size≤maxLen):Own W v (.row (ps.map fun b=>[Dt.str b])) (fun b=>B≤b∧v.ownBlock=some b):=by
 have hlen:(ps.map fun b=>[Dt.str b]).length=k:=by rw [List.length_map]; exact hk
 have hall:AllR StringR (ps.map fun b=>[Dt.str b]):=fun i r hr=>by
  rw [List.getElem?_map] at hr
  obtain ⟨b,-,rfl⟩:=Option.map_eq_some_iff.1 hr
  exact ⟨b,rfl⟩
 refine own_atoms (w0:=W) (S:=fun _=>True) (n:=1) (e:=9) (flat:=ps.map Value.string) (by rw [hlen]; exact h) (fun i r hr=>StringR.len r (hall i r hr)) (fun i j r d hr hj => ?_) (fun i j r d hr hj=>(hall i r hr).atoms j d hj)
 rw [List.getElem?_map] at hr
 obtain ⟨b,hb,rfl⟩:=Option.map_eq_some_iff.1 hr
 match j,hj with
 | 0,hj =>
  simp at hj
  subst hj
  exact ⟨.string b,by rw [Nat.mul_one,Nat.add_zero,List.getElem?_map,hb]; rfl,.str b (hf b (List.mem_of_getElem? hb))⟩
theorem FuSt.ans {w W W':World} {x0 x1 x2 x3 x4 x5 x6:List (List Dt)} {z7 z8:Int} {x9 x10:List (List Dt)} {m1 k:Nat} {l:Lk} {ps:List ByteArray} {six:List Value} {say ov sv pv:Value} {rs:List (Se×Value)} (h:FuSt w W x0 x1 x2 x3 x4 x5 x6 z7 (lkOf z7 z8 x9 x10) m1 k (x6.drop k) l ps six say ov sv pv rs)
  (hend:flushL z7 (lkOf z7 z8 x9 x10) (x6.map msOf)=l∧flushP z7 (lkOf z7 z8 x9 x10) (x6.map msOf)=ps∧flushN z7 (lkOf z7 z8 x9 x10) (x6.map msOf)=k)
  (hW:∀ b,(Btw (w.heap.size+2) m1 b∨LkBlk ov sv rs b∨pv.ownBlock=some b)→W'.heap[b]? = W.heap[b]?) (hs:W.heap.size≤W'.heap.size) (hb:Below w.heap.size w W') :
  FlAns [.row x0,.row x1,.row x2,.row x3,.row x4,.row x5,.row x6,.int z7,.int z8,.row x9,.row x10] w (.returned (.tuple #[.agg (six ++ [say] ++ [.int .i64 l.id,.int .i64 l.next,ov,sv]).toArray,pv])) W':=by
 have hm1:=h.ord
 have hl:=lk_own h.link
 have hlo:∀ b,LkBlk ov sv rs b→m1≤b∧b<W.heap.size:=fun b hb=>h.link.own hb
 have hpv:=strs_own h.pks h.st.plen h.fit
 have hplt:∀ b,pv.ownBlock=some b→m1≤b∧b<W.heap.size:=fun b hb=>⟨(own_type h.pks b hb).1,own_lt h.pks b hb⟩
 refine ⟨_,pv,fun b=>Btw (w.heap.size+2) m1 b∨LkBlk ov sv rs b,fun b=>m1≤b∧pv.ownBlock=some b,rfl,?_,?_,fun b h1 h2 => ?_,fun b h1 => ?_,hb,(by show (flushL z7 (lkOf z7 z8 x9 x10) (x6.map msOf)).bulk≤_; rw [hend.1]; exact h.lb)⟩
 ·have e:flD [.row x0,.row x1,.row x2,.row x3,.row x4,.row x5,.row x6,.int z7,.int z8,.row x9,.row x10]=[.row x0,.row x1,.row x2,.row x3,.row x4,.row x5,.row (x6.drop k)] ++ lkD l:=by
   show [Dt.row x0,.row x1,.row x2,.row x3,.row x4,.row x5] ++ [.row (x6.drop (flushN z7 (lkOf z7 z8 x9 x10) (x6.map msOf)))] ++ lkD (flushL z7 (lkOf z7 z8 x9 x10) (x6.map msOf))=_
   rw [hend.1,hend.2.2]; rfl
  rw [e]
  refine OFs.join (fun b hb => .inl hb) (fun b hb => .inr hb) (fun b h1 h2 => ?_) (OFs.moved h.mach (fun b hb _=>hW b (.inl hb))) (OFs.moved hl (fun b hb _=>hW b (.inr (.inl hb))))
  have:=hlo b h2
  have:=h1.2
  omega
 ·have e:flP [.row x0,.row x1,.row x2,.row x3,.row x4,.row x5,.row x6,.int z7,.int z8,.row x9,.row x10]=ps.map fun b=>[Dt.str b]:=by
   show (flushP z7 (lkOf z7 z8 x9 x10) (x6.map msOf)).map _=_
   rw [hend.2.1]
  rw [e]
  exact hpv.moved (fun b hb _=>hW b (.inr (.inr hb.2)))
 ·rcases h1 with h1 | h1 | h1 | ⟨p,hp,h1⟩
  ·have:=h1.2; have:=h2.1; omega
  ·exact own_ne h.link.out.1 h.pks (by decide) b h1 h2.2.symm
  ·exact own_ne h.link.seen.cells h.pks (by decide) b h1 h2.2.symm
  ·exact own_ne (h.link.seen.kids p hp).1 h.pks (by decide) b h1 h2.2.symm
 ·rcases h1 with (h1 | h1) | h1
  ·have:=h1.1; have:=h1.2; omega
  ·have:=hlo b h1; omega
  ·have:=hplt b h1.2; omega
end Go.Proofs.YtmmadoabejgffaaGreatDoor
