/-
  Proofs.
  Proofs.
  Proofs.
-/
import Derived.Test.YtljdgmfcgkimoaaGreatDoorJ1
import Derived.Test.YtljdgmfcgkimoaaGreatDoorJ38
import Derived.Test.YtljdgmfcgkimoaaGreatDoorSpecProg
import Derived.Test.YtljdgmfcgkimoaaGreatDoorJ4
namespace Go.Proofs.YtljdgmfcgkimoaaGreatDoor
open Go.RowKit Go.Joins
set_option maxRecDepth 100000
set_option maxHeartbeats 3200000 in
theorem l03Print_of (P:List Ex) (nv bv:Value) (rb d B b:Nat) (hE:EvS P nv bv rb d B) (ih:PrS P nv bv rb d B b) (hBB:B<1000000):PrS P nv bv rb d B (b+1):=by
 intro S f c cv w q hf hfB hr hs hx hg
 have hrl:rb<w.heap.size:=(Array.getElem?_eq_some_iff.1 hr).1
 have hx0:=hx
 obtain ⟨kv,ev',m,rfl,i1,i2,i3,hk,hen⟩:=hx0
 obtain ⟨a1,c1,rfl⟩:=hk.form
 obtain ⟨a2,c2,rfl,hz2⟩:=hen.form
 obtain ⟨W1,hW1⟩:∃ W1,W1=w.alloc (.cells #[.int .i64 c.ex.kind,.int .i64 c.ex.n,.string c.ex.text,.slice a1 c.ex.kids.length c1,.slice a2 c.env.length c2,.bool c.own] 78):=⟨_,rfl⟩
 have s1:W1.heap.size=w.heap.size+1:=by rw [hW1]; simp
 have m1:Mv w W1 S (but S w.heap.size):=by rw [hW1]; exact Mv.alloc _ _ _
 have k1:KB (· = rb) w W1:=by rw [hW1]; exact (KB.refl _ _).alloc _
 have q1:W1.heap[w.heap.size]? = some (.cells #[.int .i64 c.ex.kind,.int .i64 c.ex.n,.string c.ex.text,.slice a1 c.ex.kids.length c1,.slice a2 c.env.length c2,.bool c.own] 78):=by rw [hW1]; exact block_alloc
 have hs1:Sv W1 (but S w.heap.size) d rb bv P:=hs.move m1 (by rw [s1]; exact but_new (new_le hs.new (by omega)) (by omega)) (but_not hs.rb)
 have hcall:=l03Force_of P nv bv rb d B hE (but S w.heap.size) f c (.agg #[.int .i64 c.ex.kind,.int .i64 c.ex.n,.string c.ex.text,.slice a1 c.ex.kids.length c1,.slice a2 c.env.length c2,.bool c.own]) W1 q hfB (hr.move (by rw [hW1]; exact Below.heap_alloc _ _ _ hrl)) hs1 (hx.move m1) hg
 have bx0:W1.cell? ⟨w.heap.size,0,none⟩=some (.int .i64 c.ex.kind):=(by rw [cell_of_block q1]; rfl)
 have bx1:W1.cell? ⟨w.heap.size,1,none⟩=some (.int .i64 c.ex.n):=(by rw [cell_of_block q1]; rfl)
 have bx2:W1.cell? ⟨w.heap.size,2,none⟩=some (.string c.ex.text):=(by rw [cell_of_block q1]; rfl)
 have bx3:W1.cell? ⟨w.heap.size,3,none⟩=some (.slice a1 c.ex.kids.length c1):=(by rw [cell_of_block q1]; rfl)
 have bx4:W1.cell? ⟨w.heap.size,4,none⟩=some (.slice a2 c.env.length c2):=(by rw [cell_of_block q1]; rfl)
 have bx5:W1.cell? ⟨w.heap.size,5,none⟩=some (.bool c.own):=(by rw [cell_of_block q1]; rfl)
 have HK:=(show Hid (_∧_∧_∧_) from ⟨hcall,k1,hf,hfB⟩)
 have HS1:=(show Hid _ from hs1)
 have HIH:=(show Hid _ from ih)
 clear hcall k1 hf hfB hs1 hs ih hE s1 m1 q1 hr hx hg hk hen hz2 i1 i2 i3
 obtain ⟨RES,hRES⟩:∃ RES,prC P B (b+1) q f c=RES:=⟨_,rfl⟩
 rw [hRES]
 have HRS:=(show Hid _ from hRES)
 clear hRES
 go_enter Tryz.func35,Tryz.ntmps35
 go_upto_region 1 with fail
 rw [← hW1]
 clear hW1
 go_wp2_with fail
 refine HK.out.1.mono ?_
 rintro r w3 ⟨v,rfl,haf⟩
 clear bx0 bx1 bx2 bx3 bx4 bx5
 by_cases hq:q=0
 ·subst hq
  rw [evC_zero] at haf
  generalize hR:ev P B f c.ex c.scope=R at haf
  obtain ⟨R,rf⟩:=R
  have hun:prC P B (b+1) 0 f c=pr P B (b+1) f c:=by unfold prC; rw [if_pos rfl]
  cases R with
  | err k0 =>
   obtain ⟨k,n,x,y,t,b1,l1,q1,b2,l2,q2,rfl⟩:=haf.form
   have hne:=haf.vr.err_ne
   have hq2:decide (k0=0)=false:=by simpa using hne
   have hq4:(k0 != 0)=true:=by simpa using hne
   have hev:=ev_less P B f c.ex c.scope
   rw [hR] at hev
   have HF:=(show Hid (_∧_∧_) from ⟨hne,(by rw [← HRS.out,hun,pr,hR]:RES=(.error k0,rf)),(hev:rf≤f)⟩)
   clear hne hR hun hev
   go_upto_region 2 with fail
   obtain ⟨W4,hW4⟩:∃ W4,W4=w3.alloc (.cells #[.int .i64 k,.int .i64 n,.int .i64 x,.int .i64 y,.string t,.slice b1 l1 q1,.slice b2 l2 q2] 127):=⟨_,rfl⟩
   rw [← hW4]
   have H4:=(show Hid _ from after_want haf HS1.out hW4)
   clear hW4
   have HA:=(show Hid _ from haf)
   clear haf
   have n4:=H4.out.2.2.2.2.1
   have v0:W4.cell? ⟨w3.heap.size,0,none⟩=some (.int .i64 k):=(by rw [cell_of_block n4]; rfl)
   have v1:W4.cell? ⟨w3.heap.size,1,none⟩=some (.int .i64 n):=(by rw [cell_of_block n4]; rfl)
   have v2:W4.cell? ⟨w3.heap.size,2,none⟩=some (.int .i64 x):=(by rw [cell_of_block n4]; rfl)
   have v3:W4.cell? ⟨w3.heap.size,3,none⟩=some (.int .i64 y):=(by rw [cell_of_block n4]; rfl)
   have v4:W4.cell? ⟨w3.heap.size,4,none⟩=some (.string t):=(by rw [cell_of_block n4]; rfl)
   have v5:W4.cell? ⟨w3.heap.size,5,none⟩=some (.slice b1 l1 q1):=(by rw [cell_of_block n4]; rfl)
   have v6:W4.cell? ⟨w3.heap.size,6,none⟩=some (.slice b2 l2 q2):=(by rw [cell_of_block n4]; rfl)
   have r4:=H4.out.2.2.2.1
   have yq:=cbk r4 3 (.int .i64 k0) rfl
   clear r4 n4
   go_wp2_with fail
   go_ret
   refine ⟨⟨#[]⟩,rfl,?_⟩
   rw [HF.out.2.1]
   exact ⟨HK.out.2.1.trans H4.out.2.2.1,H4.out.2.2.2.1,fun t ht=>(by cases ht),fun k hk=>(by cases hk; exact HF.out.1),(by have:=HF.out.2.2; show 0+30 * rf≤30 * f; omega)⟩
  | ok xv =>
   have hlt:=ev_lt P B f c.ex c.scope hR
   cases xv with
   | num z =>
    obtain ⟨x,y,t,b1,l1,q1,b2,l2,q2,rfl⟩:=haf.vr.num_form
    have hz:inI64 z:=by obtain ⟨_,h⟩:=haf.vr; exact h.2
    have HF:=(show Hid (_∧_∧_) from ⟨hz,(by rw [← HRS.out,hun,pr,hR]:RES=(.ok (Lib.itoa z),rf)),hlt⟩)
    clear hz hR hun hlt
    go_upto_region 2 with fail
    obtain ⟨W4,hW4⟩:∃ W4,W4=w3.alloc (.cells #[.int .i64 0,.int .i64 z,.int .i64 x,.int .i64 y,.string t,.slice b1 l1 q1,.slice b2 l2 q2] 127):=⟨_,rfl⟩
    rw [← hW4]
    have H4:=(show Hid _ from after_want haf HS1.out hW4)
    clear hW4
    have HA:=(show Hid _ from haf)
    clear haf
    have n4:=H4.out.2.2.2.2.1
    have v0:W4.cell? ⟨w3.heap.size,0,none⟩=some (.int .i64 0):=(by rw [cell_of_block n4]; rfl)
    have v1:W4.cell? ⟨w3.heap.size,1,none⟩=some (.int .i64 z):=(by rw [cell_of_block n4]; rfl)
    have v2:W4.cell? ⟨w3.heap.size,2,none⟩=some (.int .i64 x):=(by rw [cell_of_block n4]; rfl)
    have v3:W4.cell? ⟨w3.heap.size,3,none⟩=some (.int .i64 y):=(by rw [cell_of_block n4]; rfl)
    have v4:W4.cell? ⟨w3.heap.size,4,none⟩=some (.string t):=(by rw [cell_of_block n4]; rfl)
    have v5:W4.cell? ⟨w3.heap.size,5,none⟩=some (.slice b1 l1 q1):=(by rw [cell_of_block n4]; rfl)
    have v6:W4.cell? ⟨w3.heap.size,6,none⟩=some (.slice b2 l2 q2):=(by rw [cell_of_block n4]; rfl)
    have r4:=H4.out.2.2.2.1
    have yq:=cbk r4 3 (.int .i64 0) rfl
    clear r4 n4
    go_wp2_with fail
    refine (specDec_any z _ HF.out.1.1 HF.out.1.2).mono ?_
    rintro r w5 ⟨rfl,rfl⟩
    go_wp2_with fail
    go_ret
    refine ⟨_,rfl,?_⟩
    rw [HF.out.2.1]
    exact ⟨HK.out.2.1.trans H4.out.2.2.1,H4.out.2.2.2.1,fun t ht=>(by cases ht; rfl),fun k hk=>(by cases hk),(by have h1:=HF.out.2.2; have h2:=itoa_len21 z HF.out.1; have h3:ByteArray.size ⟨(Lib.itoa z).toArray⟩=(Lib.itoa z).length:=(by simp [ByteArray.size]); show ByteArray.size ⟨(Lib.itoa z).toArray⟩+30 * rf≤30 * f; omega)⟩
   | nil =>
    obtain ⟨m9,k,n,e3,en,hsh,-,hkk,-⟩:=haf.vr.junk
    obtain rfl:k=1:=hkk _ rfl
    obtain ⟨b1,q1,b2,q2,rfl,-⟩:=hsh.form
    have HF:=(show Hid (_∧_) from ⟨(by rw [← HRS.out,hun,pr,hR]:RES=(.ok [91,93],rf)),hlt⟩)
    clear hR hun hlt hsh hkk
    go_upto_region 2 with fail
    obtain ⟨W4,hW4⟩:∃ W4,W4=w3.alloc (.cells #[.int .i64 1,.int .i64 n,.int .i64 e3.kind,.int .i64 e3.n,.string e3.text,.slice b1 e3.kids.length q1,.slice b2 en.length q2] 127):=⟨_,rfl⟩
    rw [← hW4]
    have H4:=(show Hid _ from after_want haf HS1.out hW4)
    clear hW4
    have HA:=(show Hid _ from haf)
    clear haf
    have n4:=H4.out.2.2.2.2.1
    have v0:W4.cell? ⟨w3.heap.size,0,none⟩=some (.int .i64 1):=(by rw [cell_of_block n4]; rfl)
    have v1:W4.cell? ⟨w3.heap.size,1,none⟩=some (.int .i64 n):=(by rw [cell_of_block n4]; rfl)
    have v2:W4.cell? ⟨w3.heap.size,2,none⟩=some (.int .i64 e3.kind):=(by rw [cell_of_block n4]; rfl)
    have v3:W4.cell? ⟨w3.heap.size,3,none⟩=some (.int .i64 e3.n):=(by rw [cell_of_block n4]; rfl)
    have v4:W4.cell? ⟨w3.heap.size,4,none⟩=some (.string e3.text):=(by rw [cell_of_block n4]; rfl)
    have v5:W4.cell? ⟨w3.heap.size,5,none⟩=some (.slice b1 e3.kids.length q1):=(by rw [cell_of_block n4]; rfl)
    have v6:W4.cell? ⟨w3.heap.size,6,none⟩=some (.slice b2 en.length q2):=(by rw [cell_of_block n4]; rfl)
    have r4:=H4.out.2.2.2.1
    have yq:=cbk r4 3 (.int .i64 0) rfl
    clear r4 n4
    go_wp2_with fail
    go_ret
    refine ⟨⟨#[91,93]⟩,rfl,?_⟩
    rw [HF.out.1]
    exact ⟨HK.out.2.1.trans H4.out.2.2.1,H4.out.2.2.2.1,fun t ht=>(by cases ht; rfl),fun k hk=>(by cases hk),(by have:=HF.out.2; show 2+30 * rf≤30 * f; omega)⟩
   | fn l xx en9 =>
    obtain ⟨m9,k,n,e3,en,hsh,-,hkk,-⟩:=haf.vr.junk
    obtain rfl:k=3:=hkk _ rfl
    obtain ⟨b1,q1,b2,q2,rfl,-⟩:=hsh.form
    have HF:=(show Hid (_∧_) from ⟨(by rw [← HRS.out,hun,pr,hR]:RES=(.ok [102,117,110],rf)),hlt⟩)
    clear hR hun hlt hsh hkk
    go_upto_region 2 with fail
    obtain ⟨W4,hW4⟩:∃ W4,W4=w3.alloc (.cells #[.int .i64 3,.int .i64 n,.int .i64 e3.kind,.int .i64 e3.n,.string e3.text,.slice b1 e3.kids.length q1,.slice b2 en.length q2] 127):=⟨_,rfl⟩
    rw [← hW4]
    have H4:=(show Hid _ from after_want haf HS1.out hW4)
    clear hW4
    have HA:=(show Hid _ from haf)
    clear haf
    have n4:=H4.out.2.2.2.2.1
    have v0:W4.cell? ⟨w3.heap.size,0,none⟩=some (.int .i64 3):=(by rw [cell_of_block n4]; rfl)
    have v1:W4.cell? ⟨w3.heap.size,1,none⟩=some (.int .i64 n):=(by rw [cell_of_block n4]; rfl)
    have v2:W4.cell? ⟨w3.heap.size,2,none⟩=some (.int .i64 e3.kind):=(by rw [cell_of_block n4]; rfl)
    have v3:W4.cell? ⟨w3.heap.size,3,none⟩=some (.int .i64 e3.n):=(by rw [cell_of_block n4]; rfl)
    have v4:W4.cell? ⟨w3.heap.size,4,none⟩=some (.string e3.text):=(by rw [cell_of_block n4]; rfl)
    have v5:W4.cell? ⟨w3.heap.size,5,none⟩=some (.slice b1 e3.kids.length q1):=(by rw [cell_of_block n4]; rfl)
    have v6:W4.cell? ⟨w3.heap.size,6,none⟩=some (.slice b2 en.length q2):=(by rw [cell_of_block n4]; rfl)
    have r4:=H4.out.2.2.2.1
    have yq:=cbk r4 3 (.int .i64 0) rfl
    clear r4 n4
    go_wp2_with fail
    go_ret
    refine ⟨⟨#[102,117,110]⟩,rfl,?_⟩
    rw [HF.out.1]
    exact ⟨HK.out.2.1.trans H4.out.2.2.1,H4.out.2.2.2.1,fun t ht=>(by cases ht; rfl),fun k hk=>(by cases hk),(by have:=HF.out.2; show 3+30 * rf≤30 * f; omega)⟩
   | pair ch ct =>
    obtain ⟨m9,⟨n,e3,hsh⟩,gh,gt⟩:=haf.vr
    obtain ⟨b1,q1,b2,q2,rfl,-,he3,-⟩:=hsh.form
    obtain ⟨eb,eo,kah,kch,eah,ech,rfl,hSe,hle,cch,clh⟩:=env_cell he3 (i:=0) (c:=ch) rfl
    obtain ⟨eb',eo',kat,kct,eat,ect,hee,-,-,cct,clt⟩:=env_cell he3 (i:=1) (c:=ct) rfl
    obtain ⟨rfl,rfl⟩:eb=eb'∧eo=eo':=by simpa using hee
    have HF:=(show Hid (_∧_∧_∧_∧_∧_∧_) from ⟨hR,hlt,gh,gt,clh,clt,hSe⟩)
    have HC:=(show Hid (_∧_∧_) from ⟨cch,cct,hle⟩)
    clear hR hun hlt gh gt clh clt cch cct hSe hsh he3 hee
    simp only [List.length_cons,List.length_nil,Nat.zero_add,Nat.reduceAdd] at haf
    have hne3:eb≠rb:=fun e=>HS1.out.rb (e ▸ HF.out.2.2.2.2.2.2)
    go_upto_region 2 with fail
    obtain ⟨W4,hW4⟩:∃ W4,W4=w3.alloc (.cells #[.int .i64 2,.int .i64 n,.int .i64 e3.kind,.int .i64 e3.n,.string e3.text,.slice b1 e3.kids.length q1,.slice (some ⟨eb,eo,none⟩) 2 q2] 127):=⟨_,rfl⟩
    rw [← hW4]
    have e4:W4.heap[eb]? = w3.heap[eb]? := by rw [hW4]; exact Below.heap_alloc _ _ _ hle
    have H4:=(show Hid _ from after_want haf HS1.out hW4)
    clear hW4
    clear haf
    have n4:=H4.out.2.2.2.2.1
    have v0:W4.cell? ⟨w3.heap.size,0,none⟩=some (.int .i64 2):=(by rw [cell_of_block n4]; rfl)
    have v1:W4.cell? ⟨w3.heap.size,1,none⟩=some (.int .i64 n):=(by rw [cell_of_block n4]; rfl)
    have v2:W4.cell? ⟨w3.heap.size,2,none⟩=some (.int .i64 e3.kind):=(by rw [cell_of_block n4]; rfl)
    have v3:W4.cell? ⟨w3.heap.size,3,none⟩=some (.int .i64 e3.n):=(by rw [cell_of_block n4]; rfl)
    have v4:W4.cell? ⟨w3.heap.size,4,none⟩=some (.string e3.text):=(by rw [cell_of_block n4]; rfl)
    have v5:W4.cell? ⟨w3.heap.size,5,none⟩=some (.slice b1 e3.kids.length q1):=(by rw [cell_of_block n4]; rfl)
    have v6:W4.cell? ⟨w3.heap.size,6,none⟩=some (.slice (some ⟨eb,eo,none⟩) 2 q2):=(by rw [cell_of_block n4]; rfl)
    have r4:=H4.out.2.2.2.1
    have yq:=cbk r4 3 (.int .i64 0) rfl
    obtain ⟨o0,o1,o2,o3,o4,o5⟩:=HC.out.1.move e4
    simp only [Nat.zero_mul,Nat.add_zero] at o0 o1 o2 o3 o4 o5
    have HC4:=(show Hid (_∧_∧_) from ⟨HC.out.2.1.move e4,(by rw [H4.out.2.2.2.2.2.2.2.2.1]; omega:eb<W4.heap.size),n4⟩)
    clear r4 n4 e4 hle
    have hc1:=HIH.out (but (but S w.heap.size) w3.heap.size) rf ch (.agg #[.int .i64 ch.ex.kind,.int .i64 ch.ex.n,.string ch.ex.text,.slice kah ch.ex.kids.length kch,.slice eah ch.env.length ech,.bool ch.own]) W4 0 (by have:=HF.out.2.1; have:=HK.out.2.2.1; omega) (by have:=HF.out.2.1; have:=HK.out.2.2.2; omega) H4.out.2.2.2.1 H4.out.1 (HF.out.2.2.2.2.1.move H4.out.2.2.2.2.2.2.2.2.2) HF.out.2.2.1
    have H1C:=(show Hid (_∧True) from ⟨hc1,trivial⟩)
    clear hc1
    go_wp2_with fail
    refine H1C.out.1.mono ?_
    rintro r w5 ⟨s1,rfl,haf1⟩
    clear v0 v1 v2 v3 v4 v5 v6 yq o0 o1 o2 o3 o4 o5
    have n5:=haf1.kb.heap HC4.out.2.2 (by have:=lh H4.out.2.2.2.1; have:=H4.out.2.2.2.2.2.2.1; have:=HK.out.2.1.size; omega)
    have v0:w5.cell? ⟨w3.heap.size,0,none⟩=some (.int .i64 2):=(by rw [cell_of_block n5]; rfl)
    have v1:w5.cell? ⟨w3.heap.size,1,none⟩=some (.int .i64 n):=(by rw [cell_of_block n5]; rfl)
    have v2:w5.cell? ⟨w3.heap.size,2,none⟩=some (.int .i64 e3.kind):=(by rw [cell_of_block n5]; rfl)
    have v3:w5.cell? ⟨w3.heap.size,3,none⟩=some (.int .i64 e3.n):=(by rw [cell_of_block n5]; rfl)
    have v4:w5.cell? ⟨w3.heap.size,4,none⟩=some (.string e3.text):=(by rw [cell_of_block n5]; rfl)
    have v5:w5.cell? ⟨w3.heap.size,5,none⟩=some (.slice b1 e3.kids.length q1):=(by rw [cell_of_block n5]; rfl)
    have v6:w5.cell? ⟨w3.heap.size,6,none⟩=some (.slice (some ⟨eb,eo,none⟩) 2 q2):=(by rw [cell_of_block n5]; rfl)
    obtain ⟨o0,o1,o2,o3,o4,o5⟩:=HC4.out.1.move (haf1.kb.block eb HC4.out.2.1 hne3)
    simp only [Nat.one_mul] at o0 o1 o2 o3 o4 o5
    have m5:Mv W4 w5 (but (but S w.heap.size) w3.heap.size) (but (but S w.heap.size) w3.heap.size):=Mv.kb haf1.kb (fun x hx h=>H4.out.1.rb (hx ▸ h))
    have hp1:(prC P B b 0 rf ch).2≤rf:=by have:=haf1.len; omega
    have hc2:=HIH.out (but (but S w.heap.size) w3.heap.size) (prC P B b 0 rf ch).2 ct (.agg #[.int .i64 ct.ex.kind,.int .i64 ct.ex.n,.string ct.ex.text,.slice kat ct.ex.kids.length kct,.slice eat ct.env.length ect,.bool ct.own]) w5 (codeP (prC P B b 0 rf ch).1) (by have:=HF.out.2.1; have:=HK.out.2.2.1; omega) (by have:=HF.out.2.1; have:=HK.out.2.2.2; omega) haf1.run (H4.out.1.move m5 (fun x hx=>H4.out.1.new x (by have:=haf1.kb.size; omega)) H4.out.1.rb) (HF.out.2.2.2.2.2.1.move (H4.out.2.2.2.2.2.2.2.2.2.trans m5)) HF.out.2.2.2.1
    have hl1:s1.size≤100000000:=by have:=haf1.len; have:=HK.out.2.2.2; have:=HF.out.2.1; omega
    have H2C:=(show Hid (_∧_∧_) from ⟨hc2,haf1,hp1⟩)
    clear hc2 haf1 n5 m5 hp1
    go_wp2_with fail
    refine H2C.out.1.mono ?_
    rintro r w6 ⟨s2,rfl,haf2⟩
    have hl2:s2.size≤100000000:=by have:=haf2.len; have:=HK.out.2.2.2; have:=HF.out.2.1; have:=H2C.out.2.2; omega
    have H3C:=(show Hid _ from haf2)
    clear haf2
    go_wp2_with fail
    go_ret
    refine ⟨_,rfl,?_⟩
    rw [← HRS.out]
    exact pair_end HF.out.1 H2C.out.2.1 H3C.out (((HK.out.2.1.trans H4.out.2.2.1).trans H2C.out.2.1.kb).trans H3C.out.kb)
 ·rw [evC_err P B f _ _ hq] at haf
  obtain ⟨k,n,x,y,t,b1,l1,q1,b2,l2,q2,rfl⟩:=haf.form
  have hq2:decide (q=0)=false:=by simpa using hq
  have hq4:(q != 0)=true:=by simpa using hq
  have HF:=(show Hid (_∧_) from ⟨hq,(by rw [← HRS.out]; unfold prC; rw [if_neg hq]:RES=(.error q,f))⟩)
  clear hq
  go_upto_region 2 with fail
  obtain ⟨W4,hW4⟩:∃ W4,W4=w3.alloc (.cells #[.int .i64 k,.int .i64 n,.int .i64 x,.int .i64 y,.string t,.slice b1 l1 q1,.slice b2 l2 q2] 127):=⟨_,rfl⟩
  rw [← hW4]
  have H4:=(show Hid _ from after_want haf HS1.out hW4)
  clear hW4
  have HA:=(show Hid _ from haf)
  clear haf
  have n4:=H4.out.2.2.2.2.1
  have v0:W4.cell? ⟨w3.heap.size,0,none⟩=some (.int .i64 k):=(by rw [cell_of_block n4]; rfl)
  have v1:W4.cell? ⟨w3.heap.size,1,none⟩=some (.int .i64 n):=(by rw [cell_of_block n4]; rfl)
  have v2:W4.cell? ⟨w3.heap.size,2,none⟩=some (.int .i64 x):=(by rw [cell_of_block n4]; rfl)
  have v3:W4.cell? ⟨w3.heap.size,3,none⟩=some (.int .i64 y):=(by rw [cell_of_block n4]; rfl)
  have v4:W4.cell? ⟨w3.heap.size,4,none⟩=some (.string t):=(by rw [cell_of_block n4]; rfl)
  have v5:W4.cell? ⟨w3.heap.size,5,none⟩=some (.slice b1 l1 q1):=(by rw [cell_of_block n4]; rfl)
  have v6:W4.cell? ⟨w3.heap.size,6,none⟩=some (.slice b2 l2 q2):=(by rw [cell_of_block n4]; rfl)
  have r4:=H4.out.2.2.2.1
  have yq:=cbk r4 3 (.int .i64 q) rfl
  clear r4 n4
  go_wp2_with fail
  go_ret
  refine ⟨⟨#[]⟩,rfl,?_⟩
  rw [HF.out.2]
  exact ⟨HK.out.2.1.trans H4.out.2.2.1,H4.out.2.2.2.1,fun t ht=>(by cases ht),fun k hk=>(by cases hk; exact HF.out.1),(by show 0+30 * f≤30 * f; omega)⟩
theorem prS_all (P:List Ex) (nv bv:Value) (rb d B:Nat) (hP:∀ X ∈ P,Ok P X []) (hB:B<1000000):∀ b,PrS P nv bv rb d B b
 | 0=>fun _ _ _ _ _ _ hf=>by omega
 | b+1=>l03Print_of P nv bv rb d B b (evS_all P nv bv rb d hP B hB) (prS_all P nv bv rb d B hP hB b) hB
end Go.Proofs.YtljdgmfcgkimoaaGreatDoor

namespace Go.Proofs.YtljdgmfcgkimoaaGreatDoor
open Go.RowKit Go.Joins
set_option maxRecDepth 100000
def ofB (P:List Ex) (i F:Nat):ByteArray:=match pr P F (F+1) F (.mk (P.getD i exZ) [] false) with | (.ok s,_)=>bsOf s | (.error _,_)=>⟨#[]⟩
def ofC (P:List Ex) (i F:Nat):Int:=codeP (pr P F (F+1) F (.mk (P.getD i exZ) [] false)).1
theorem Ok.clo0 {P:List Ex} {e:Ex} (h:Ok P e []):(Clo.mk e [] false).good (P.length:Int):=h.clo
set_option maxHeartbeats 3200000 in
theorem l03Of_any (P:List Ex) (i F d:Nat) (T:Nat→Prop) (n1:Option Addr) (m1 o1:Nat) (bv:Value) (w:World) (hP:∀ X ∈ P,Ok P X []) (hi:i<P.length) (hF:F≤100000) (hb:KidsAt w T d bv P) :
  Calls Tryz.prog 22 #[.agg #[.slice n1 m1 o1,bv],.int .i64 (i:Int),.int .i64 (F:Int)] w fun r w'=>r = .returned (.tuple #[.string (ofB P i F),.int .i64 (ofC P i F)])∧Below w.heap.size w w':=by
 obtain ⟨a0,pc,rfl⟩:=hb.form
 obtain ⟨X,hX⟩:∃ X,P[i]? = some X:=⟨_,List.getElem?_eq_getElem hi⟩
 obtain ⟨pb,po,rfl⟩:=kid_row hb (by intro h; rw [h] at hi; simp at hi)
 have hgd:P.getD i exZ=X:=by rw [List.getD_eq_getElem?_getD,hX]; rfl
 have hT:KidsAt w (fun _=>True) d (.slice (some ⟨pb,po,none⟩) P.length pc) P:=hb.wide (fun _ _=>trivial)
 obtain ⟨ka,kc,cc,-,hlb,xX⟩:=kid_at hT hX
 obtain ⟨W1,hW1⟩:∃ W1,W1=((w.alloc (.cells #[.slice n1 m1 o1,.slice (some ⟨pb,po,none⟩) P.length pc] 27)).alloc (.cells #[.slice n1 m1 o1,.slice (some ⟨pb,po,none⟩) P.length pc,.int .i64 (F:Int),.int .i64 0] 74)):=⟨_,rfl⟩
 obtain ⟨s1,m1',kb1,q1,r1⟩:=two_boxes w (fun _=>True) (.cells #[.slice n1 m1 o1,.slice (some ⟨pb,po,none⟩) P.length pc] 27) (.cells #[.slice n1 m1 o1,.slice (some ⟨pb,po,none⟩) P.length pc,.int .i64 (F:Int),.int .i64 0] 74) W1 hW1 w.heap.size
 have b1:Below w.heap.size w W1:=by rw [hW1]; exact ((Below.refl _ w).alloc (Nat.le_refl _) _).alloc (by simp) _
 have hs1:Sv W1 (but (but (fun _=>True) w.heap.size) (w.heap.size+1)) d (w.heap.size+1) (.slice (some ⟨pb,po,none⟩) P.length pc) P:=⟨by rw [s1]; exact but_new (but_new (fun _ _=>trivial) (by omega)) (by omega),fun h=>h.2 rfl,hT.move m1'⟩
 obtain ⟨j1,j2,j3,hkk⟩:=(xX.move m1').parts
 have hcl:ClAt W1 (but (but (fun _=>True) w.heap.size) (w.heap.size+1)) d (.agg #[.int .i64 X.kind,.int .i64 X.n,.string X.text,.slice ka X.kids.length kc,.slice none 0 0,.bool false]) (.mk X [] false):=⟨_,_,1,rfl,j1,j2,j3,hkk,EnvAt.nil none 0 (fun _=>rfl)⟩
 have hcall:=prS_all P (.slice n1 m1 o1) (.slice (some ⟨pb,po,none⟩) P.length pc) (w.heap.size+1) d F hP (by omega) (F+1) _ F (.mk X [] false) _ W1 0 (by omega) (Nat.le_refl _) r1 hs1 hcl (hP X (List.mem_of_getElem? hX)).clo0
 rw [show prC P F (F+1) 0 F (.mk X [] false)=pr P F (F+1) F (.mk X [] false) by unfold prC; rw [if_pos rfl]] at hcall
 have hBe:ofB P i F=(match pr P F (F+1) F (.mk X [] false) with | (.ok s,_)=>bsOf s | (.error _,_)=>⟨#[]⟩):=by unfold ofB; rw [hgd]
 have hCe:ofC P i F=codeP (pr P F (F+1) F (.mk X [] false)).1:=by unfold ofC; rw [hgd]
 obtain ⟨g0,g1,g2,g3⟩:=cc.move (b1.block pb hlb)
 have hil:(i:Int)<(P.length:Int):=by omega
 have bx0:W1.cell? ⟨w.heap.size,0,none⟩=some (.slice n1 m1 o1):=(by rw [cell_of_block q1]; rfl)
 have bx1:W1.cell? ⟨w.heap.size,1,none⟩=some (.slice (some ⟨pb,po,none⟩) P.length pc):=(by rw [cell_of_block q1]; rfl)
 have by0:W1.cell? ⟨w.heap.size+1,0,none⟩=some (.slice n1 m1 o1):=(by rw [cell_of_block r1]; rfl)
 have by1:W1.cell? ⟨w.heap.size+1,1,none⟩=some (.slice (some ⟨pb,po,none⟩) P.length pc):=(by rw [cell_of_block r1]; rfl)
 have by2:W1.cell? ⟨w.heap.size+1,2,none⟩=some (.int .i64 (F:Int)):=(by rw [cell_of_block r1]; rfl)
 have by3:W1.cell? ⟨w.heap.size+1,3,none⟩=some (.int .i64 0):=(by rw [cell_of_block r1]; rfl)
 have HK:=(show Hid (_∧_∧_∧_∧_) from ⟨hcall,b1,hBe,hCe,s1⟩)
 clear hcall b1 hBe hCe s1 m1' kb1 q1 r1 hs1 hcl hkk j1 j2 j3 xX cc hT hb hX hgd hlb hi hF hP
 generalize pr P F (F+1) F (.mk X [] false)=R at HK
 obtain ⟨R,rf⟩:=R
 rw [HK.out.2.2.1,HK.out.2.2.2.1]
 go_enter Tryz.func22,Tryz.ntmps22
 go_upto_region 2 with fail
 rw [← hW1]
 clear hW1
 go_wp2_with fail
 refine HK.out.1.mono ?_
 rintro r w3 ⟨s,rfl,haf⟩
 have B3:=(show Hid (Below w.heap.size w w3) from HK.out.2.1.trans (haf.kb.below (fun k hk=>by have:k=w.heap.size+1:=hk; omega) (by have:=HK.out.2.2.2.2; omega)))
 cases R with
 | ok t =>
  obtain rfl:=haf.ok t rfl
  have y3:=cbk haf.run 3 (.int .i64 0) rfl
  clear haf
  go_wp2_with fail
  refine bodyPost_ret (v:=.tuple #[.string (bsOf t),.int .i64 0]) (by simp [results,Tryz.results22,go_sem]) rfl ?_
  exact ⟨rfl,B3.out⟩
 | error k =>
  have hk:=haf.err k rfl
  have y3:=cbk haf.run 3 (.int .i64 k) rfl
  have hq2:decide (k=0)=false:=by simpa using hk
  have hq4:(k != 0)=true:=by simpa using hk
  have BD:Hid (Below w.heap.size w w3.drew):=B3.out.drew
  clear haf hk
  go_wp2_with fail
  go_region_held3 (fun W=>W.cell? ⟨w.heap.size+1,3,none⟩=some (.int .i64 k)) (exact y3) (fail)
  all_goals
   go_wp2_with fail
   refine bodyPost_ret (v:=.tuple #[.string ⟨#[]⟩,.int .i64 k]) (by simp [results,Tryz.results22,go_sem]) rfl ?_
   exact ⟨rfl,BD.out⟩
end Go.Proofs.YtljdgmfcgkimoaaGreatDoor

namespace Go.Proofs.YtljdgmfcgkimoaaGreatDoor
open Go.RowKit Go.Joins
set_option maxRecDepth 100000
def mainB:ByteArray:=⟨#[109,97,105,110]⟩
def mainN (p:Pr):Int:=lastN p.names mainB p.names.length
def mOk (p:Pr) (F:Int):Prop:=p.ok=true∧0≤mainN p∧0≤F∧F≤100000
noncomputable def mB (p:Pr) (F:Int):ByteArray:=open Classical in if mOk p F then ofB p.bodies (mainN p).toNat F.toNat else ⟨#[]⟩
noncomputable def mC (p:Pr) (F:Int):Int:=open Classical in if mOk p F then ofC p.bodies (mainN p).toNat F.toNat else 3
theorem mB_ok {p:Pr} {F:Int} (h:mOk p F):mB p F=ofB p.bodies (mainN p).toNat F.toNat∧mC p F=ofC p.bodies (mainN p).toNat F.toNat:=by unfold mB mC; rw [if_pos h,if_pos h]; exact ⟨rfl,rfl⟩
theorem mB_no {p:Pr} {F:Int} (h:¬ mOk p F):mB p F=⟨#[]⟩∧mC p F=3:=by unfold mB mC; rw [if_neg h,if_neg h]; exact ⟨rfl,rfl⟩
theorem ok_bodies {p:Pr} (h:p.ok=true):∀ X ∈ p.bodies,Ok p.bodies X []:=by
 obtain ⟨h1,-,-,-,-,h6⟩:=p.ok_iff.1 h
 intro X hX
 have:=h6 X hX
 rw [h1] at this
 exact ⟨⟨60,this⟩,trivial⟩
theorem main_lt {p:Pr} (h:p.ok=true) (h0:0≤mainN p):(mainN p).toNat<p.bodies.length:=by
 have h1:=(p.ok_iff.1 h).1
 have h2:=(lastN_range p.names mainB p.names.length).2
 unfold mainN at *
 omega
set_option maxHeartbeats 3200000 in
theorem specMean_any (d:Nat) (v:Value) (p:Pr) (S:Nat→Prop) (F:Int) (w:World) (h:PrAt w S d v p) :
  Calls Tryz.prog 7 #[v,.int .i64 F] w fun r w'=>r = .returned (.tuple #[.string (mB p F),.int .i64 (mC p F)])∧Below w.heap.size w w':=by
 have hnot:∀ (x:Bool) (w:World),(Op.unary .not (.bool x)).run Tryz.prog w = .ok (.bool (!x)) w:=fun _ _=>rfl
 have H0:=(show Hid (PrAt w S d v p∧True) from ⟨h,trivial⟩)
 obtain ⟨nv,bv,rfl,hn,hk⟩:=h
 have hn0:=hn
 obtain ⟨a1,cap1,rfl,-,-⟩:=hn0
 obtain ⟨a2,cap2,rfl⟩:=hk.form
 obtain ⟨W1,hW1⟩:∃ W1,W1=w.alloc (.cells #[.slice a1 p.names.length cap1,.slice a2 p.bodies.length cap2] 27):=⟨_,rfl⟩
 have b1:Below w.heap.size w W1:=by rw [hW1]; exact (Below.refl _ w).alloc (Nat.le_refl _) _
 have q1:W1.heap[w.heap.size]? = some (.cells #[.slice a1 p.names.length cap1,.slice a2 p.bodies.length cap2] 27):=by rw [hW1]; exact block_alloc
 have hpl:=l02Place_any _ p.names mainB S W1 (hn.below b1)
 have hpr:=specProg_any d _ p S W1 (H0.out.1.below b1)
 have hof:=fun (w2:World) (hb:Below W1.heap.size W1 w2) (ho:mOk p F)=>l03Of_any p.bodies (mainN p).toNat F.toNat d S a1 p.names.length cap1 (.slice a2 p.bodies.length cap2) w2 (ok_bodies ho.1) (main_lt ho.1 ho.2.1) (by have:=ho.2.2; omega) (((hk.below b1).below hb))
 have x0:=cbk q1 0 (.slice a1 p.names.length cap1) rfl
 have x1:=cbk q1 1 (.slice a2 p.bodies.length cap2) rfl
 obtain ⟨z,hz⟩:∃ z,mainN p=z:=⟨_,rfl⟩
 rw [show lastN p.names mainB p.names.length=z from hz] at hpl
 unfold mainB at hpl
 have HK:=(show Hid (_∧_∧_∧_∧_∧_) from ⟨hpl,hpr,hof,b1,q1,hz⟩)
 have HW:=(show Hid (_∧True) from ⟨hW1,trivial⟩)
 clear hpl hpr hof b1 q1 hz hn hk H0 hW1
 by_cases ho:mOk p F
 ·obtain ⟨e1,e2⟩:=mB_ok ho
  rw [e1,e2,HK.out.2.2.2.2.2]
  have hok:p.ok=true:=ho.1
  have hz0:decide (z<0)=false:=by have:=ho.2.1; rw [HK.out.2.2.2.2.2] at this; simp; omega
  have hin:=fun w=>specIn_is F 0 100000 true (by unfold inB; have:=ho.2.2; simp [this.1,this.2]) w
  obtain ⟨zi,hzi⟩:∃ zi:Nat,zi=z.toNat:=⟨_,rfl⟩
  obtain ⟨Fi,hFi⟩:∃ Fi:Nat,Fi=F.toNat:=⟨_,rfl⟩
  have hzz:z=(zi:Int):=by have:=ho.2.1; rw [HK.out.2.2.2.2.2] at this; omega
  have hFF:F=(Fi:Int):=by have:=ho.2.2; omega
  have HE:=(show Hid (_∧_∧_∧_∧_) from ⟨ho,hin,hzi,hFi,e1⟩)
  have hof:=HK.out.2.2.1
  rw [HK.out.2.2.2.2.2,← hzi,← hFi] at hof
  have HO:=(show Hid (_∧True) from ⟨hof,trivial⟩)
  rw [← hzi,← hFi]
  clear ho hin hzi hFi hof e1 e2
  subst hzz
  subst hFF
  go_enter Tryz.func7,Tryz.ntmps7
  go_upto_region 1 with fail
  rw [← HW.out.1]
  go_wp2_with fail
  refine HK.out.1.mono ?_
  rintro r w1 ⟨rfl,rfl⟩
  go_wp2_with fail
  refine HK.out.2.1.mono ?_
  rintro r w2 ⟨rfl,b2⟩
  rw [hok]
  have B2:=(show Hid _ from b2)
  have x0':=(b2.cell (p:=⟨w.heap.size,0,none⟩) (lh HK.out.2.2.2.2.1)).trans x0
  have x1':=(b2.cell (p:=⟨w.heap.size,1,none⟩) (lh HK.out.2.2.2.2.1)).trans x1
  clear b2 x0 x1
  go_wp2_with fail
  refine (HE.out.2.1 _).mono ?_
  rintro r w3 ⟨rfl,rfl⟩
  go_wp2_with fail
  refine (HO.out.1 _ B2.out HE.out.1).mono ?_
  rintro r w4 ⟨rfl,b4⟩
  have B4:=(show Hid _ from b4)
  clear b4
  go_wp2_with fail
  refine bodyPost_ret (v:=.tuple #[.string (ofB p.bodies zi Fi),.int .i64 (ofC p.bodies zi Fi)]) (by simp [results,Tryz.results7,go_sem]) rfl ?_
  exact ⟨rfl,HK.out.2.2.2.1.trans ((B2.out.trans (B4.out.mono B2.out.size)).mono HK.out.2.2.2.1.size)⟩
 ·obtain ⟨e1,e2⟩:=mB_no ho
  rw [e1,e2]
  have HNO:=(show Hid (_∧True) from ⟨ho,trivial⟩)
  clear e1 e2 ho
  cases hok:p.ok with
  | false =>
   go_enter Tryz.func7,Tryz.ntmps7
   go_upto_region 1 with fail
   rw [← HW.out.1]
   go_wp2_with fail
   refine HK.out.1.mono ?_
   rintro r w1 ⟨rfl,rfl⟩
   go_wp2_with fail
   refine HK.out.2.1.mono ?_
   rintro r w2 ⟨rfl,b2⟩
   have B2:=(show Hid _ from b2)
   clear b2
   rw [hok]
   go_wp2_with fail
   refine bodyPost_ret (v:=.tuple #[.string ⟨#[]⟩,.int .i64 3]) (by simp [results,Tryz.results7,go_sem]) rfl ?_
   exact ⟨rfl,HK.out.2.2.2.1.trans (B2.out.mono HK.out.2.2.2.1.size)⟩
  | true =>
   by_cases hz:z<0
   ·have hz0:decide (z<0)=true:=by simpa using hz
    clear hz
    go_enter Tryz.func7,Tryz.ntmps7
    go_upto_region 1 with fail
    rw [← HW.out.1]
    go_wp2_with fail
    refine HK.out.1.mono ?_
    rintro r w1 ⟨rfl,rfl⟩
    go_wp2_with fail
    refine HK.out.2.1.mono ?_
    rintro r w2 ⟨rfl,b2⟩
    have B2:=(show Hid _ from b2)
    clear b2
    rw [hok]
    go_wp2_with fail
    refine bodyPost_ret (v:=.tuple #[.string ⟨#[]⟩,.int .i64 3]) (by simp [results,Tryz.results7,go_sem]) rfl ?_
    exact ⟨rfl,HK.out.2.2.2.1.trans (B2.out.mono HK.out.2.2.2.1.size)⟩
   ·have hz0:decide (z<0)=false:=by simpa using hz
    have hin:=fun w=>specIn_is F 0 100000 false (by
     unfold inB
     by_cases h1:0≤F <;> by_cases h2:F≤100000 <;> simp [h1,h2]
     exact absurd ⟨hok,by rw [HK.out.2.2.2.2.2]; omega,h1,h2⟩ HNO.out.1) w
    have HE:=(show Hid (_∧True) from ⟨hin,trivial⟩)
    clear hz hin
    go_enter Tryz.func7,Tryz.ntmps7
    go_upto_region 1 with fail
    rw [← HW.out.1]
    go_wp2_with fail
    refine HK.out.1.mono ?_
    rintro r w1 ⟨rfl,rfl⟩
    go_wp2_with fail
    refine HK.out.2.1.mono ?_
    rintro r w2 ⟨rfl,b2⟩
    have B2:=(show Hid _ from b2)
    clear b2
    rw [hok]
    go_wp2_with fail
    refine (HE.out.1 _).mono ?_
    rintro r w3 ⟨rfl,rfl⟩
    go_wp2_with fail
    refine bodyPost_ret (v:=.tuple #[.string ⟨#[]⟩,.int .i64 3]) (by simp [results,Tryz.results7,go_sem]) rfl ?_
    exact ⟨rfl,HK.out.2.2.2.1.trans (B2.out.mono HK.out.2.2.2.1.size)⟩
end Go.Proofs.YtljdgmfcgkimoaaGreatDoor
