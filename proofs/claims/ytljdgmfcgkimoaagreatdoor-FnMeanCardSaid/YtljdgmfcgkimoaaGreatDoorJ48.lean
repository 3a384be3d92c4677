/-
  Proofs.
  Proofs.
-/
import Derived.Test.YtljdgmfcgkimoaaGreatDoorJ1
import Derived.Test.YtljdgmfcgkimoaaGreatDoorJ47
import Derived.BigRegion
import Derived.Deep.RegionWith
import Derived.Test.YtljdgmfcgkimoaaGreatDoorJ4
namespace Go.Proofs.YtljdgmfcgkimoaaGreatDoor
open Go.RowKit Go.Joins
set_option maxRecDepth 100000
def PtrIntN (N:Nat) (w:World) (v:Value):Prop:=∃ (a:Addr) (n:Int),v = .agg #[.pointer (some a),.int .i64 n]∧a.block<N∧Pl w a.block
theorem PtrIntN.keys {P:Program} {k:TypeId} (K:KeysGo P k PtrIntK) (N:Nat):KeysGo P k (PtrIntN N) :=
 K.sub (fun _ _ ⟨a,n,hv,_,ha⟩=>⟨a,n,hv,ha⟩) (fun _ _ _ hg ⟨a,n,hv,h1,ha⟩=>⟨a,n,hv,h1,hg _ ha⟩)
theorem PtrIntN.kept {N:Nat} {w w':World} {v:Value} (h:PtrIntN N w v) (hb:∀ b,b<N→w'.heap[b]? = w.heap[b]?):PtrIntN N w' v:=by
 obtain ⟨a,n,hv,h1,ha⟩:=h
 exact ⟨a,n,hv,h1,ha.of (hb _ h1)⟩
theorem ptiKept {N:Nat} {w w':World} {b:Nat} {f:Value→Option Value} (h:PtMap (PtrIntN N) w b f) (hb:w'.heap[b]? = w.heap[b]?) (hN:∀ c,c<N→w'.heap[c]? = w.heap[c]?):PtMap (PtrIntN N) w' b f :=
 h.kept hb (fun _ hv=>hv.kept hN)
theorem grown_dr {w:World} {row:Option Nat}:w.grownBy w.drew row:=⟨rfl,rfl,rfl,Nat.le_refl _,fun _ _ _=>rfl⟩
theorem grown_drN {w:World} {n:Nat} {row:Option Nat}:w.grownBy (w.drewN n) row:=⟨rfl,rfl,rfl,Nat.le_refl _,fun _ _ _=>rfl⟩
theorem nodePlR {w:World} {d:Nat} {p:Addr} {e:Ex} (h:NodeAt w d p e):Pl w p.block:=by
 obtain ⟨b,o,kv,rfl,hp,_⟩:=h
 exact hp
theorem infoExpR:(Tryz.prog.info? 52).map (fun i=>i.size)=some 4:=by kernel_rfl
theorem fieldsKey : ∃ f1 f2 : Field, Tryz.prog.underlying 153 = some (.struct #[f1, f2]) ∧ f1.name ≠ "_" ∧ f2.name ≠ "_" ∧ f1.type = 68 ∧ f2.type = 3 ∧ f1.offset = 0 ∧ f2.offset = 1 :=
 ⟨_,_,Tryz.underlying153,by decide,by decide,rfl,rfl,rfl,rfl⟩
theorem keysPtrInt:KeysGo Tryz.prog 153 PtrIntK:=by
 obtain ⟨f1,f2,h1,h2,h3,h4,h5,h6,h7⟩:=fieldsKey
 cases hj:Tryz.prog.info? 52 with
 | none=>have:=infoExpR; rw [hj] at this; cases this
 | some j =>
  have h8:j.size=4:=by have:=infoExpR; rw [hj] at this; simpa using this
  exact ptrInt_keys h1 (by kernel_rfl) h2 h3 h4 h5 h6 h7 Tryz.underlying68 Tryz.underlying3 hj (by omega)
theorem zeroIntR (w:World):(zeroValue 3).run Tryz.prog w = .ok (.int .i64 0) w:=by kernel_rfl
def RFin (w:World) (tops:Int) (f:Value→Option Value):Prop:=∀ key u,f key=some u→∃ (p:Addr) (s k:Int) (d:Nat) (e:Ex),key = .agg #[.pointer (some p),.int .i64 s]∧u = .int .i64 k∧NodeAt w d p e∧e.right s tops (60 - k)=true
def ExpOk (w2:World) (d:Nat):Prop:=∀ (p:Addr) (e:Ex) (scope deep tops:Int) (cb M:Nat) (f:Value→Option Value) (w:World),Below w2.heap.size w2 w→w2.heap.size≤M→w2.heap.size≤cb→NodeAt w2 d p e→Chk w cb M tops→PtMap (PtrIntN w2.heap.size) w M f→RFin w2 tops f →
 0≤scope∧scope≤96→0≤deep∧deep≤61→0≤tops∧tops≤30 →
 Calls Tryz.prog 47 #[.pointer (some ⟨cb,0,none⟩),.pointer (some p),.int .i64 scope,.int .i64 deep] w fun r w'=>r = .returned (.bool (e.right scope tops (60 - deep)))∧∃ f',PtMap (PtrIntN w2.heap.size) w' M f'∧RFin w2 tops f'∧w.grownBy w' (some M)
def EGood (w2 w:World) (M:Nat) (tops:Int) (kb:Nat) (ko:Obj) (wx:World):Prop :=
 ∃ f,PtMap (PtrIntN w2.heap.size) wx M f∧RFin w2 tops f∧w.grownBy wx (some M)∧wx.heap[kb]? = some ko
theorem egood_call {w2 w:World} {M d cb kb:Nat} {tops scope deep:Int} {ko:Obj} {p:Addr} {y:Ex} (ih:ExpOk w2 d) (q:WIn (EGood w2 w M tops kb ko)) (hb:Below w2.heap.size w2 q.w) (hc:Chk q.w cb M tops) (hM:w2.heap.size≤M) (hcb:w2.heap.size≤cb)
  (hn:NodeAt w2 d p y) (hs:0≤scope∧scope≤96) (hd:0≤deep∧deep≤61) (ht:0≤tops∧tops≤30) (hk:kb≠M) :
  Calls Tryz.prog 47 #[.pointer (some ⟨cb,0,none⟩),.pointer (some p),.int .i64 scope,.int .i64 deep] q.w fun r w'=>r = .returned (.bool (y.right scope tops (60 - deep)))∧EGood w2 w M tops kb ko w':=by
 obtain ⟨f,h1,h2,h3,h4⟩:=q.ok
 refine (ih p y scope deep tops cb M f q.w hb hM hcb hn hc h1 h2 hs hd ht).mono ?_
 rintro r w' ⟨he,f',g1,g2,g3⟩
 exact ⟨he,f',g1,g2,h3.trans g3,(g3.block kb (Array.getElem?_eq_some_iff.1 h4).1 (by simp; exact hk)).trans h4⟩
set_option maxHeartbeats 6400000 in
theorem expOk_of (w2:World) (d:Nat) (ih:∀ d',d=d'+1→ExpOk w2 d'):ExpOk w2 d:=by
 intro p e scope deep tops cb M f w hb hM hcb hn hc hmap hfin hs hd ht
 have hri:=right_iff e scope tops (60 - deep)
 have hMw:M<w.heap.size:=hmap.lt
 have hcw:cb<w.heap.size:=(Array.getElem?_eq_some_iff.1 hc).1
 have hcM:cb≠M:=by
  rintro rfl
  obtain ⟨es,clock,hm,_⟩:=hmap
  rw [hc] at hm
  cases hm
 have hNw:=hb.size
 have hcbM:w.heap.size≠M:=by omega
 have lp:p.block<w2.heap.size:=(nodePlR hn).lt
 have pp:Pl w p.block:=(nodePlR hn).below hb
 have res:Hid (∃ f',PtMap (PtrIntN w2.heap.size) w M f'∧RFin w2 tops f'∧w.grownBy w (some M)):=⟨f,hmap,hfin,rfl,rfl,rfl,Nat.le_refl _,fun _ _ _=>rfl⟩
 by_cases hdp:(60:Int)<deep
 ·have hr:e.right scope tops (60 - deep)=false:=by
   cases h:e.right scope tops (60 - deep) with
   | false=>rfl
   | true=>have:=(hri.1 h).1; omega
  rw [hr]
  go_enter Tryz.func47,Tryz.ntmps47
  go_wp2
  go_ret
  exact ⟨rfl,res.out⟩
 by_cases hsp:(90:Int)<scope
 ·have hr:e.right scope tops (60 - deep)=false:=by
   cases h:e.right scope tops (60 - deep) with
   | false=>rfl
   | true=>have:=(hri.1 h).2.1; omega
  rw [hr]
  go_enter Tryz.func47,Tryz.ntmps47
  go_wp2
  go_ret
  exact ⟨rfl,res.out⟩
 obtain ⟨bp,op,rfl⟩:∃ b o,p=⟨b,o,none⟩:=by obtain ⟨b,o,kv,rfl,_⟩:=hn; exact ⟨b,o,rfl⟩
 have hmap1:PtMap (PtrIntN w2.heap.size) (w.alloc (.cells #[.pointer (some ⟨bp,op,none⟩),.int .i64 scope] 153)).drew M f:=ptiKept hmap (Below.heap_alloc _ _ _ hMw) (fun c hc=>Below.heap_alloc _ _ _ (by omega))
 have hlk:=hmap1.look (PtrIntN.keys keysPtrInt _) Tryz.underlying95 (zeroIntR _) (x:=.agg #[.pointer (some ⟨bp,op,none⟩),.int .i64 scope]) ⟨⟨bp,op,none⟩,scope,rfl,lp,pp.more _⟩ true
 have t1:(w.alloc (.cells #[.pointer (some ⟨bp,op,none⟩),.int .i64 scope] 153)).cell? ⟨cb,1,none⟩=some (.map (some M)):=by
  rw [cell_of_block ((Below.heap_alloc _ _ _ hcw).trans hc)]; rfl
 have HIH:=(show Hid (_∧True) from ⟨ih,trivial⟩)
 have HF:=(show Hid (_∧True) from ⟨hfin,trivial⟩)
 have HN:=(show Hid (_∧True) from ⟨hn,trivial⟩)
 have HC:=(show Hid (_∧True) from ⟨hc,trivial⟩)
 have HM:=(show Hid (_∧True) from ⟨hmap,trivial⟩)
 have HRI:=(show Hid (_∧True) from ⟨hri,trivial⟩)
 have HB:=(show Hid (_∧True) from ⟨hb,trivial⟩)
 have HP:Hid (Pl w bp):=pp
 clear ih hfin hn hc hmap hri hb pp hmap1
 by_cases hhit:∃ k,f (.agg #[.pointer (some ⟨bp,op,none⟩),.int .i64 scope])=some (.int .i64 k)∧deep≤k
 ·obtain ⟨k,hf,hle⟩:=hhit
  rw [hf] at hlk
  simp only [if_true,Option.getD_some,Option.isSome_some] at hlk
  have hr:e.right scope tops (60 - deep)=true:=by
   obtain ⟨p',s',k',d',e',h1,h2,h3,h4⟩:=HF.out.1 _ _ hf
   simp at h1 h2
   obtain ⟨rfl,rfl⟩:=h1
   subst h2
   obtain rfl:=h3.count HN.out.1
   exact Ex.right_mono _ _ _ _ _ (by omega) h4
  rw [hr]
  have HRes:Hid (∃ f',PtMap (PtrIntN w2.heap.size) (w.alloc (.cells #[.pointer (some ⟨bp,op,none⟩),.int .i64 scope] 153)).drew M f'∧RFin w2 tops f'∧w.grownBy (w.alloc (.cells #[.pointer (some ⟨bp,op,none⟩),.int .i64 scope] 153)).drew (some M)) :=
   ⟨f,ptiKept HM.out.1 (Below.heap_alloc _ _ _ hMw) (fun c hc=>Below.heap_alloc _ _ _ (by omega)),HF.out.1,(World.grownBy_alloc w _ _).trans grown_dr⟩
  clear hf
  go_enter Tryz.func47,Tryz.ntmps47
  go_wp2_with fail
  go_region
  all_goals
   go_wp2
   go_ret
   exact ⟨rfl,HRes.out⟩
 ·obtain ⟨k,fd,hlk',hng⟩:∃ (k:Int) (fd:Bool),(Instr.lookup 95 (.map (some M)) (.agg #[.pointer (some ⟨bp,op,none⟩),.int .i64 scope]) true).run Tryz.prog (w.alloc (.cells #[.pointer (some ⟨bp,op,none⟩),.int .i64 scope] 153)).drew = .ok (.tuple #[.int .i64 k,.bool fd]) (w.alloc (.cells #[.pointer (some ⟨bp,op,none⟩),.int .i64 scope] 153)).drew∧(fd=true→¬ deep≤k):=by
   cases hf:f (.agg #[.pointer (some ⟨bp,op,none⟩),.int .i64 scope]) with
   | none=>rw [hf] at hlk; exact ⟨0,false,hlk,fun h=>by cases h⟩
   | some u =>
    obtain ⟨p',s',k',d',e',h1,rfl,h3,h4⟩:=HF.out.1 _ _ hf
    rw [hf] at hlk
    exact ⟨k',true,hlk,fun _ hle=>hhit ⟨k',hf,hle⟩⟩
  clear hlk hhit
  obtain ⟨ap,kp,vp,hap⟩:=HN.out.1.kidsVal
  have c0w:w2.cell? ⟨bp,op,none⟩=some (.int .i64 e.kind):=by obtain ⟨b,o,kv,hpp,_,c0,_⟩:=HN.out.1; cases hpp; exact c0
  obtain ⟨b,o,hbo⟩:∃ b o,0<e.kids.length→ap=some ⟨b,o,none⟩:=by
   by_cases h0:0<e.kids.length
   ·obtain ⟨b,o,h⟩:=hap h0; exact ⟨b,o,fun _=>h⟩
   ·exact ⟨0,0,fun h=>absurd h h0⟩
  have hBX:Below w2.heap.size w2 (w.alloc (.cells #[.pointer (some ⟨bp,op,none⟩),.int .i64 scope] 153)).drew:=(HB.out.1.alloc hNw _).drew
  have vk:(w.alloc (.cells #[.pointer (some ⟨bp,op,none⟩),.int .i64 scope] 153)).drew.cell? ⟨bp,op+3,none⟩=some (.slice ap e.kids.length kp):=(hBX.cell (p:=⟨bp,op+3,none⟩) lp).trans vp
  have ck:(w.alloc (.cells #[.pointer (some ⟨bp,op,none⟩),.int .i64 scope] 153)).drew.cell? ⟨bp,op,none⟩=some (.int .i64 e.kind):=(hBX.cell (p:=⟨bp,op,none⟩) lp).trans c0w
  have hO:(w.alloc (.cells #[.pointer (some ⟨bp,op,none⟩),.int .i64 scope] 153)).drew.heap[w.heap.size]? = some (.cells #[.pointer (some ⟨bp,op,none⟩),.int .i64 scope] 153):=(MapKept.heap_alloc w _).1
  have hCW:Chk (w.alloc (.cells #[.pointer (some ⟨bp,op,none⟩),.int .i64 scope] 153)).drew cb M tops:=(Below.heap_alloc _ _ _ hcw).trans HC.out.1
  have hMX:PtMap (PtrIntN w2.heap.size) (w.alloc (.cells #[.pointer (some ⟨bp,op,none⟩),.int .i64 scope] 153)).drew M f:=ptiKept HM.out.1 (Below.heap_alloc _ _ _ hMw) (fun c hc=>Below.heap_alloc w (.cells #[.pointer (some ⟨bp,op,none⟩),.int .i64 scope] 153) c (by omega))
  have hGX:w.grownBy (w.alloc (.cells #[.pointer (some ⟨bp,op,none⟩),.int .i64 scope] 153)).drew (some M):=(World.grownBy_alloc w (.cells #[.pointer (some ⟨bp,op,none⟩),.int .i64 scope] 153) (some M)).trans grown_dr
  have hsX:(w.alloc (.cells #[.pointer (some ⟨bp,op,none⟩),.int .i64 scope] 153)).drew.heap.size=w.heap.size+1:=by simp
  have HI0:=(show Hid (_∧_∧_∧_) from ⟨hMX,hGX,hO,hCW⟩)
  have HNX:=(show Hid (_∧True) from ⟨HN.out.1.below hBX,trivial⟩)
  have HKN:Hid (∀ wx:World,Below w2.heap.size w2 wx→wx.cell? ⟨bp,op,none⟩=some (.int .i64 e.kind)∧wx.cell? ⟨bp,op+1,none⟩=some (.int .i64 e.n)):=fun wx hb=>by
   obtain ⟨b,o,kv,hpp,_,c0,c1,_⟩:=HN.out.1
   cases hpp
   exact ⟨(hb.cell (p:=⟨bp,op,none⟩) lp).trans c0,(hb.cell (p:=⟨bp,op+1,none⟩) lp).trans c1⟩
  have HEP:Hid (∀ wx:World,Below w2.heap.size w2 wx→wx.cell? ⟨bp,op+3,none⟩=some (.slice ap e.kids.length kp)):=fun wx hb=>(hb.cell (p:=⟨bp,op+3,none⟩) lp).trans vp
  have HBO:=(show Hid (_∧True) from ⟨hbo,trivial⟩)
  have HRes:Hid (∀ (n:Nat),∃ f',PtMap (PtrIntN w2.heap.size) ((w.alloc (.cells #[.pointer (some ⟨bp,op,none⟩),.int .i64 scope] 153)).drew.drewN n) M f'∧RFin w2 tops f'∧w.grownBy ((w.alloc (.cells #[.pointer (some ⟨bp,op,none⟩),.int .i64 scope] 153)).drew.drewN n) (some M)) :=
   fun n=>⟨f,HI0.out.1,HF.out.1,HI0.out.2.1.trans grown_drN⟩
  have HBL:Hid (∀ wx:World,w.grownBy wx (some M)→Below w2.heap.size w2 wx):=fun wx hg=>Below.grown HB.out.1 hg (fun k hk=>by cases hk; exact hM) hNw
  clear hbo hap vp c0w hBX hO hCW hMX hGX
  have hnot:∀ (x:Bool) (w:World),(Op.unary .not (.bool x)).run Tryz.prog w = .ok (.bool (!x)) w:=fun _ _=>rfl
  by_cases hlen:((e.kids.length:Nat):Int)=kidsOf e.kind
  ·cases hfo:fieldsB e.kind e.n e.text e.kids scope tops with
   | false =>
    have hr:e.right scope tops (60 - deep)=false:=by
     cases h:e.right scope tops (60 - deep) with
     | false=>rfl
     | true=>have:=(HRI.out.1.1 h).2.2.2.1; rw [hfo] at this; cases this
    rw [hr]
    go_enter Tryz.func47,Tryz.ntmps47
    go_wp2_with fail
    go_region
    clear hlk' t1
    generalize (w.alloc (.cells #[.pointer (some ⟨bp,op,none⟩),.int .i64 scope] 153)).drew=WD at *
    cases fd
    all_goals
     try have hng':=hng rfl
     go_wp2_with fail
     go_quiet (first
      | (go_at_call 77; refine Calls.quiet_of_same (kidCount_any _ _))
      | (go_at_call 78; refine Calls.quiet_of (hfo ▸ fieldsOk_any _ e d cb M scope tops _ (HNX.out.1.below (drewN_below (Below.refl _ _) _)) HI0.out.2.2.2 hlen ⟨hs.1,by omega⟩ ht)))
     go_wp2
     go_ret
     exact ⟨rfl,HRes.out _⟩
   | true =>
    go_enter Tryz.func47,Tryz.ntmps47
    go_wp2_with fail
    go_region
    clear hlk' t1
    generalize (w.alloc (.cells #[.pointer (some ⟨bp,op,none⟩),.int .i64 scope] 153)).drew=WD at *
    cases fd
    all_goals
     try have hng':=hng rfl
     go_wp2_with fail
     go_quiet (first
      | (go_at_call 77; refine Calls.quiet_of_same (kidCount_any _ _))
      | (go_at_call 78; refine Calls.quiet_of (hfo ▸ fieldsOk_any _ e d cb M scope tops _ (HNX.out.1.below (drewN_below (Below.refl _ _) _)) HI0.out.2.2.2 hlen ⟨hs.1,by omega⟩ ht)))
     go_wp2_with fail
     have HLEN:Hid (((e.kids.length:Nat):Int)=kidsOf e.kind):=hlen
     have hml:=fun i:Nat=>moreN_le hfo i
     have HFO:Hid (fieldsB e.kind e.n e.text e.kids scope tops=true):=hfo
     clear vk ck hfo hlen
     have hc60:kidsOf e.kind≤3:=by unfold kidsOf; split <;> (try split) <;> (try split) <;> (try split) <;> omega
     go_loopw [60] (fun i wr=>∃ j:Nat,j≤e.kids.length∧i = .int .i64 j∧(∀ (i:Nat) (k:Ex),i<j→e.kids[i]? = some k→k.right (scope+moreN e.kind e.n i) tops (60 - deep - 1)=true)∧∃ f,PtMap (PtrIntN w2.heap.size) wr M f∧RFin w2 tops f∧w.grownBy wr (some M)∧wr.heap[w.heap.size]? = some (.cells #[.pointer (some ⟨bp,op,none⟩),.int .i64 scope] 153)) (fun i _=>e.kids.length - (intOf i).toNat)
     case atStart=>exact ⟨0,Nat.zero_le _,rfl,fun i _ h=>by omega,f,HI0.out.1,HF.out.1,HI0.out.2.1.trans grown_drN,HI0.out.2.2.1⟩
     case round =>
      obtain ⟨j,hj,rfl,hall,f,hmap,hfin,hgr,hbx⟩:=hrel
      have hbel:=HBL.out wr hgr
      have hchk:Chk wr cb M tops:=(hgr.block cb hcw (by simp; omega)).trans HC.out.1
      have hwr:w.heap.size≤wr.heap.size:=hgr.size
      have HAll:=(show Hid (_∧True) from ⟨hall,trivial⟩)
      have HMj:=(show Hid (_∧_∧_∧_∧_∧_) from ⟨hmap,hfin,hgr,hbx,hbel,hchk⟩)
      have hlen:=HLEN.out
      by_cases hjl:j<e.kids.length
      ·have he:=List.getElem?_eq_getElem hjl
       generalize e.kids[j]=y at *
       obtain ⟨d',b',o',hd',hr',hn'⟩:=HN.out.1.kid he
       have vp:=HEP.out wr hbel
       obtain ⟨ckR,cnR⟩:=HKN.out wr hbel
       obtain ⟨lk,ckk,hr'⟩:=hr'
       have hap:ap=some ⟨b',o',none⟩:=by
        have:=HEP.out w2 (Below.refl _ _)
        rw [show w2.cell? ⟨bp,op+3,none⟩=some (.slice (some ⟨b',o',none⟩) lk ckk) from hr'] at this
        simp at this
        exact this.1.symm
       subst hap
       have hlt1:((j:Nat):Int)<((e.kids.length:Nat):Int):=by omega
       have hlt2:((j:Nat):Int)<kidsOf e.kind:=by omega
       have hmj:=hml j
       have HE:Hid (e.kids[j]? = some y):=he
       have HNK:=(show Hid (_∧True) from ⟨hn',trivial⟩)
       clear hall hmap hfin hgr hbx hbel hchk he hr' hn' hlen hml
       generalize hmm:moreN e.kind e.n j=mj at *
       have hw1:IntKind.i64.wrap (scope+mj)=scope+mj:=by rw [IntKind.wrap_i64]; omega
       have hw2:IntKind.i64.wrap (deep+1)=deep+1:=by rw [IntKind.wrap_i64]; omega
       have HGD:Hid (∀ q:WIn (EGood w2 w M tops (w.heap.size) (.cells #[.pointer (some ⟨bp,op,none⟩),.int .i64 scope] 153)),Below w2.heap.size w2 q.w∧Chk q.w cb M tops):=fun q=>by
        obtain ⟨f',-,-,hg,-⟩:=q.ok
        exact ⟨HBL.out _ hg,(hg.block cb hcw (by simp; omega)).trans HC.out.1⟩
       have K0:∀ q:WIn (EGood w2 w M tops (w.heap.size) (.cells #[.pointer (some ⟨bp,op,none⟩),.int .i64 scope] 153)),q.w.cell? ⟨bp,op,none⟩=some (.int .i64 e.kind):=fun q=>(HKN.out _ (HGD.out q).1).1
       have K1:∀ q:WIn (EGood w2 w M tops (w.heap.size) (.cells #[.pointer (some ⟨bp,op,none⟩),.int .i64 scope] 153)),q.w.cell? ⟨bp,op+1,none⟩=some (.int .i64 e.n):=fun q=>(HKN.out _ (HGD.out q).1).2
       have K3:∀ q:WIn (EGood w2 w M tops (w.heap.size) (.cells #[.pointer (some ⟨bp,op,none⟩),.int .i64 scope] 153)),q.w.cell? ⟨bp,op+3,none⟩=some (.slice (some ⟨b',o',none⟩) e.kids.length kp):=fun q=>HEP.out _ (HGD.out q).1
       have HG0:Hid (EGood w2 w M tops (w.heap.size) (.cells #[.pointer (some ⟨bp,op,none⟩),.int .i64 scope] 153) wr.drew):=⟨f,HMj.out.1,HMj.out.2.1,HMj.out.2.2.1.trans grown_dr,HMj.out.2.2.2.1⟩
       obtain ⟨rk,hk⟩:∃ b:Bool,y.right (scope+mj) tops (60 - (deep+1))=b:=⟨_,rfl⟩
       have HK:Hid (y.right (scope+mj) tops (60 - (deep+1))=rk):=hk
       clear hk
       go_wp2_with fail
       clear vp
       haveI:Nonempty (WIn (EGood w2 w M tops (w.heap.size) (.cells #[.pointer (some ⟨bp,op,none⟩),.int .i64 scope] 153))):=⟨⟨wr.drew,HG0.out⟩⟩
       refine wp_region_good (by kernel_rfl) (by kernel_rfl) HG0.out ?_
       repeat (go_big_quiet_step (first
        | (go_at_call 79; exact calls_good_same (hmm ▸ namesBehind_any e.kind e.n j _))
        | (go_at_call 47; exact calls_good (HK.out ▸ egood_call (HIH.out.1 d' hd') _ (HGD.out _).1 (HGD.out _).2 hM hcb HNK.out.1 ⟨by omega,by omega⟩ ⟨by omega,by omega⟩ ht hcbM))))
       refine wpQuiet_nil ?_
       intro _ hw'
       obtain ⟨⟨w5,f5,hm5,hf5,hg5,hx5⟩,hw''⟩:=hw'
       subst hw''
       have HR6:=(show Hid (_∧_∧_∧_) from ⟨hm5,hf5,hg5,hx5⟩)
       clear K0 K1 K3 hm5 hf5 hg5 hx5 HGD
       cases rk with
       | true =>
        go_wp2_with fail
        refine ⟨⟨j+1,by omega,by go_num,fun i k hi hki => ?_,f5,HR6.out⟩,by simp [intOf]; omega⟩
        by_cases hij:i<j
        ·exact HAll.out.1 i k hij hki
        ·obtain rfl:i=j:=by omega
         rw [HE.out] at hki
         cases hki
         rw [hmm,show 60 - deep - 1=60 - (deep+1) by omega]
         exact HK.out
       | false =>
        have hr:e.right scope tops (60 - deep)=false:=by
         cases h:e.right scope tops (60 - deep) with
         | false=>rfl
         | true =>
          have h1:=(HRI.out.1.1 h).2.2.2.2 j y HE.out
          rw [hmm,show 60 - deep - 1=60 - (deep+1) by omega,HK.out] at h1
          cases h1
        have HRR:Hid (e.right scope tops (60 - deep)=false):=hr
        clear hr
        go_wp2
        go_ret
        exact ⟨by rw [HRR.out]; rfl,f5,HR6.out.1,HR6.out.2.1,HR6.out.2.2.1⟩
      ·obtain rfl:j=e.kids.length:=by omega
       have hr:e.right scope tops (60 - deep)=true:=HRI.out.1.2 ⟨by omega,by omega,hlen,HFO.out,fun i k hki=>hall i k (List.getElem?_eq_some_iff.1 hki).1 hki⟩
       have HRR:Hid (e.right scope tops (60 - deep)=true):=hr
       have t1r:=cbk hchk 1 (.map (some M)) rfl
       have x0:=cbk hbx 0 (.pointer (some ⟨bp,op,none⟩)) rfl
       have x1:=cbk hbx 1 (.int .i64 scope) rfl
       have hmapD:PtMap (PtrIntN w2.heap.size) wr.drew M f:=hmap
       obtain ⟨w6,hst,hm6,ht6⟩:=hmapD.store (PtrIntN.keys keysPtrInt _) Tryz.underlying95 (x:=.agg #[.pointer (some ⟨bp,op,none⟩),.int .i64 scope]) (v:=.int .i64 deep) ⟨⟨bp,op,none⟩,scope,rfl,lp,(nodePlR HN.out.1).below hbel.drew⟩
       have HR6:Hid (∃ f',PtMap (PtrIntN w2.heap.size) w6 M f'∧RFin w2 tops f'∧w.grownBy w6 (some M)):=by
        refine ⟨_,hm6,fun key u hu => ?_,(hgr.trans grown_dr).trans ht6.grown⟩
        by_cases hkk:key = .agg #[.pointer (some ⟨bp,op,none⟩),.int .i64 scope]
        ·rw [hkk,setAt_same] at hu
         cases hu
         exact ⟨_,_,_,d,e,hkk,rfl,HN.out.1,hr⟩
        ·rw [setAt_other _ _ _ hkk] at hu
         exact hfin key u hu
       clear hall hmap hfin hgr hbx hbel hchk hm6 ht6 hmapD hml hr
       go_wp2_with fail
       go_region
       all_goals
        go_wp2
        go_ret
        exact ⟨by rw [HRR.out]; rfl,HR6.out⟩
  ·have gl:(((e.kids.length:Nat):Int) != kidsOf e.kind)=true:=by simp [hlen]
   have hr:e.right scope tops (60 - deep)=false:=by
    cases h:e.right scope tops (60 - deep) with
    | false=>rfl
    | true=>exact absurd (HRI.out.1.1 h).2.2.1 hlen
   rw [hr]
   go_enter Tryz.func47,Tryz.ntmps47
   go_wp2_with fail
   go_region
   clear hlk' t1
   generalize (w.alloc (.cells #[.pointer (some ⟨bp,op,none⟩),.int .i64 scope] 153)).drew=WD at *
   cases fd
   all_goals
    try have hng':=hng rfl
    go_wp2_with fail
    go_quiet (first | (go_at_call 77; refine Calls.quiet_of_same (kidCount_any _ _)))
    go_wp2
    go_ret
    exact ⟨rfl,HRes.out _⟩
theorem expOk_any (w2:World):∀ d,ExpOk w2 d
 | 0=>expOk_of w2 0 (fun d' h=>by omega)
 | d+1=>expOk_of w2 (d+1) (fun d' h=>by
   obtain rfl:d'=d:=by omega
   exact expOk_any w2 d')
end Go.Proofs.YtljdgmfcgkimoaaGreatDoor

namespace Go.Proofs.YtljdgmfcgkimoaaGreatDoor
open Go.RowKit Go.Joins Go.Maps Go.WideMaps
set_option maxRecDepth 100000
theorem setK_snoc (ts:List ByteArray) (k:Nat) (t:ByteArray) (h:ts[k]? = some t):setOf (H:=Unit) (.agg []) ((keysS (ts.take (k+1))).map Lit.string)=(setOf (.agg []) ((keysS (ts.take k)).map Lit.string)).put (.string t.data.toList) (.agg []):=by
 have hk:=(List.getElem?_eq_some_iff.1 h).1
 rw [← setOf_snoc,List.take_succ_eq_append_getElem hk,(List.getElem?_eq_some_iff.1 h).2]
 simp [keysS]
theorem makeMap_hint (n:Int) (w:World):(Instr.makeMap 148 (some (.int .i64 n))).run Tryz.prog w = .ok (.map (some w.heap.size)) (w.alloc (.map #[] 0)):=by
 have:=Tryz.underlying148
 simp [Instr.makeMap,run_underlying this,asInt]
 rfl
theorem owns_one {w:World} {b n n':Nat} {D D':DataW Unit} (h:w.ownsMap Tryz.prog 9 unitElem b n D) (h':w.ownsMap Tryz.prog 9 (unitElem (H:=Unit)) b n' D'):D=D':=by
 obtain ⟨es,clock,hb,-,-,rfl⟩:=h
 obtain ⟨es',clock',hb',-,-,rfl⟩:=h'
 rw [hb] at hb'
 cases hb'
 rfl
theorem book_apart {w:World} {b m n:Nat} {ts:List ByteArray} (hd:Done w b) (hm:w.ownsMap Tryz.prog 9 (unitElem (H:=Unit)) m n (setOf (.agg []) ((keysS ts).map Lit.string))) (hall:∀ t ∈ ts,nameOk t=true) :
  ∃ m',m'≠b∧m'≠m∧w.heap[b]? = some (.cells #[.int .u32 1,.int .i32 0,.int .u32 0,.map (some m')] 150)∧w.ownsMap Tryz.prog 9 unitElem m' 8 wordsD:=by
 obtain ⟨m',h1,h2,h3⟩:=hd
 refine ⟨m',h1,?_,h2,h3⟩
 rintro rfl
 have he:=owns_one h3 hm
 have hw:Maps.has wordsD (.string [108,101,116])=true:=(has_wordsD ⟨#[108,101,116]⟩).trans (by decide)
 rw [he,has_setOf _ _ _ (fun y hy=>by obtain ⟨_,_,rfl⟩:=List.mem_map.1 hy; trivial),List.any_map,List.any_eq_true] at hw
 obtain ⟨k,hk,hs⟩:=hw
 obtain ⟨t,ht,rfl⟩:=List.mem_map.1 hk
 have hs':t.data.toList=[108,101,116]:=by
  have:(t.data.toList == [108,101,116])=true:=hs
  simpa using this
 have hn:=hall t ht
 simp [nameOk,isW,words,hs'] at hn
theorem book_kept {w w':World} {b m n:Nat} {ts:List ByteArray} (hd:Fresh w b∨Done w b) (hbm:b≠m) (hm:w.ownsMap Tryz.prog 9 (unitElem (H:=Unit)) m n (setOf (.agg []) ((keysS ts).map Lit.string))) (hall:∀ t ∈ ts,nameOk t=true) (hg:w.grownBy w' (some m)):Fresh w' b∨Done w' b:=by
 rcases hd with h | h
 ·exact .inl ((hg.block b (Array.getElem?_eq_some_iff.1 h).1 (by simpa using hbm)).trans h)
 ·obtain ⟨m',h1,h2,h3,h4⟩:=book_apart h hm hall
  exact .inr ⟨m',h1,(hg.block b (Array.getElem?_eq_some_iff.1 h3).1 (by simpa using hbm)).trans h3,h4.kept hg (by simpa using h2)⟩
theorem ret_b {a b:Bool} (h:a=b):Ending.returned (.bool a) = .returned (.bool b):=by rw [h]
set_option maxHeartbeats 3200000 in
theorem namesOk_any (v:Value) (ts:List ByteArray) (S:Nat→Prop) (w:World) (h:StrsAt w S v ts) (hn:ts.length≤30) :
  Calls Tryz.prog 46 #[v] w fun e w'=>e = .returned (.bool (ts.all nameOk && decide (keysS ts).Nodup))∧Below w.heap.size w w':=by
 have hmm:=makeMap_hint
 obtain ⟨a,cap,rfl,hl,hc⟩:=h
 clear hl
 have HC:=(show Hid (_∧True) from ⟨hc,trivial⟩)
 have I0:(Fresh ((w.alloc (.cells #[.int .u32 0,.int .i32 0,.int .u32 0,.map none] 150)).alloc (.map #[] 0)) w.heap.size∨Done ((w.alloc (.cells #[.int .u32 0,.int .i32 0,.int .u32 0,.map none] 150)).alloc (.map #[] 0)) w.heap.size)∧((w.alloc (.cells #[.int .u32 0,.int .i32 0,.int .u32 0,.map none] 150)).alloc (.map #[] 0)).ownsMap Tryz.prog 9 (unitElem (H:=Unit)) (w.heap.size+1) 0 (setOf (.agg []) ((keysS (ts.take 0)).map Lit.string))∧Below w.heap.size w ((w.alloc (.cells #[.int .u32 0,.int .i32 0,.int .u32 0,.map none] 150)).alloc (.map #[] 0)):=by
  refine ⟨.inl ((Below.heap_alloc _ _ _ (by simp)).trans (fresh_new w)),?_,((Below.refl _ w).alloc (Nat.le_refl _) _).alloc (by simp) _⟩
  have:=World.ownsMap_made (w.alloc (.cells #[.int .u32 0,.int .i32 0,.int .u32 0,.map none] 150)) Tryz.prog 9 (unitElem (H:=Unit))
  have e:(w.alloc (.cells #[.int .u32 0,.int .i32 0,.int .u32 0,.map none] 150)).heap.size=w.heap.size+1:=by simp
  rw [e] at this
  exact this
 have HI:=(show Hid (_∧_∧_) from I0)
 clear hc I0
 go_enter Tryz.func46,Tryz.ntmps46
 go_wp2
 clear hmm
 go_loopw [12] (fun i wr=>∃ k:Nat,k≤ts.length∧i = .int .i64 k∧(∀ t ∈ ts.take k,nameOk t=true)∧(Fresh wr w.heap.size∨Done wr w.heap.size)∧wr.ownsMap Tryz.prog 9 (unitElem (H:=Unit)) (w.heap.size+1) k (setOf (.agg []) ((keysS (ts.take k)).map Lit.string))∧Below w.heap.size w wr) (fun i _=>ts.length - (intOf i).toNat)
 case atStart=>exact ⟨0,Nat.zero_le _,rfl,fun t ht=>by simp at ht,HI.out.1,HI.out.2.1,HI.out.2.2⟩
 case round =>
  obtain ⟨k,hk,rfl,hall,hbook,hown,hbw⟩:=hrel
  have HA:=(show Hid (_∧_∧_∧_) from ⟨hall,hbook,hown,hbw⟩)
  have hnot:∀ (x:Bool) (w:World),(Op.unary .not (.bool x)).run Tryz.prog w = .ok (.bool (!x)) w:=fun _ _=>rfl
  by_cases hlt:k<ts.length
  ·have he:=List.getElem?_eq_getElem hlt
   have hmem:ts[k] ∈ ts:=List.getElem_mem hlt
   have hst:ts.take (k+1)=ts.take k ++ [ts[k]]:=List.take_succ_eq_append_getElem hlt
   generalize ts[k]=x at *
   obtain ⟨b,off,rfl,-,hl1,c0,hxs⟩:=HC.out.1 k x he
   rw [← hbw.cell (by exact hl1)] at c0
   have HEx:=(show Hid (_∧_∧_) from ⟨he,hmem,hst⟩)
   clear hall hbook hown hbw he hmem hst HC
   have hlt':((k:Nat):Int)<((ts.length:Nat):Int):=by omega
   cases hx:nameOk x with
   | false =>
    have hres:(ts.all nameOk && decide (keysS ts).Nodup)=false:=by
     have:ts.all nameOk=false:=by rw [List.all_eq_false]; exact ⟨x,HEx.out.2.1,by simp [hx]⟩
     rw [this]; rfl
    have HR:Hid ((ts.all nameOk && decide (keysS ts).Nodup)=false):=hres
    clear hres
    go_wp2_with (go_at_call 76; refine (isName_any w.heap.size x _ hxs HA.out.2.1).mono ?_; rintro e w1 ⟨rfl,hb1,hg1⟩; rw [hx])
    go_ret
    exact ⟨ret_b HR.out.symm,Below.grown HA.out.2.2.2 hg1 (fun k hk=>by cases hk; exact Nat.le_refl _) HA.out.2.2.2.size⟩
   | true =>
    go_wp2_with (first
     | (go_at_call 76; refine (isName_any w.heap.size x _ hxs HA.out.2.1).mono ?_; rintro e w1 ⟨rfl,hb1,hg1⟩; rw [hx]; have hown1:=HA.out.2.2.1.kept hg1 (by simp))
     | (refine wpList_mapUpdate_own _ rfl _ _ _ 148 rfl 9 53 lawS Tryz.underlying148 (unitElem (H:=Unit)) (w.heap.size+1) k _ rfl hown1 (by unfold maxLen; omega) _ _ (.string x.data.toList) rfl rfl (keyOf_string_mk Tryz.underlying9 hxs) (.agg []) [] unitElem_mk ?_; intro w2 hown2 hg2))
    refine ⟨⟨k+1,by omega,by go_num,?_,book_kept hb1 (by omega) hown1 HA.out.1 hg2,?_,?_⟩,by simp [intOf]; omega⟩
    ·intro t ht
     rw [HEx.out.2.2,List.mem_append] at ht
     rcases ht with ht | ht
     ·exact HA.out.1 t ht
     ·simp at ht; subst ht; exact hx
    ·rw [setK_snoc ts k x HEx.out.1]; exact hown2
    ·have b1:=Below.grown HA.out.2.2.2 hg1 (fun k hk=>by cases hk; exact Nat.le_refl _) HA.out.2.2.2.size
     exact Below.grown b1 hg2 (fun k hk=>by cases hk; omega) b1.size
  ·obtain rfl:k=ts.length:=by omega
   rw [List.take_of_length_le (Nat.le_refl _)] at hall hown
   have hall':ts.all nameOk=true:=by rw [List.all_eq_true]; exact hall
   have hsz:=size_names (.agg []) ts
   have hle:=hown.size_le
   generalize hD:setOf (.agg []) ((keysS ts).map Lit.string)=D at *
   have HF:Hid ((((Maps.size D:Nat):Int) == ((ts.length:Nat):Int))=(ts.all nameOk && decide (keysS ts).Nodup)):=by
    show (((Maps.size D:Nat):Int) == ((ts.length:Nat):Int))=(ts.all nameOk && decide (keysS ts).Nodup)
    rw [hall',Bool.true_and]
    by_cases hz:Maps.size D=ts.length
    ·rw [hz]; simp [hsz.1 hz]
    ·have:¬ (keysS ts).Nodup:=fun h=>hz (hsz.2 h)
     simp [this]; omega
   have HBW:Hid (Below w.heap.size w wr):=hbw
   clear hall hall' hsz HA HC HI hbook hbw hD
   go_wp2_with (refine wpList_len_own _ rfl _ 148 rfl 9 53 Tryz.underlying148 _ _ _ _ rfl hown ?_)
   go_ret
   exact ⟨ret_b HF.out,HBW.out⟩
end Go.Proofs.YtljdgmfcgkimoaaGreatDoor
