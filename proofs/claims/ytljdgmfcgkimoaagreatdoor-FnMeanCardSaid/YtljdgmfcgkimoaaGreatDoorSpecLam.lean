/-
  Proofs.
-/
import Derived.Test.YtljdgmfcgkimoaaGreatDoorJ5
namespace Go.Proofs.YtljdgmfcgkimoaaGreatDoor
open Go.RowKit Go.Joins Go.Shelf
set_option maxRecDepth 100000
def lenV:Value→Nat
 | .slice _ n _=>n
 | _=>0
structure LamR (q:Ps) (w:World) (i:Nat) (bad:Bool) (wr:World) (nv:Value) (ns:List ByteArray):Prop where
 kb:KB (· = q.P) w wr
 st:∃ i' bad' lost',i≤i'∧(bad=true→bad'=true)∧(i<i'∨bad'=true)∧ParAt q wr i' bad' lost'
 bx0:wr.heap[w.heap.size]? = some (.cells zeroE 52)
 own:wr.ownsRow (w.heap.size+1) 9 1 nv ns.length (ns.map Value.string)
 len:1≤ns.length∧ns.length≤6
 sz:∀ t ∈ ns,t.size≤1048576
theorem LamR.form {q:Ps} {w:World} {i:Nat} {bad:Bool} {wr:World} {nv:Value} {ns:List ByteArray} (h:LamR q w i bad wr nv ns):∃ g cap,nv = .slice (some ⟨g,0,none⟩) ns.length cap:=own_some h.own (by have:=h.len; omega)
theorem LamR.sc {q:Ps} {w:World} {i:Nat} {bad:Bool} {wr:World} {nv:Value} {ns:List ByteArray} (h:LamR q w i bad wr nv ns) (hq:q.P<w.heap.size):PsAt wr q.P nv ns :=
 PsAt.of_own h.own rfl (by obtain ⟨g,cap,e⟩:=h.form; rw [e]; simp) (by omega) h.sz
theorem LamR.below {q:Ps} {w:World} {i:Nat} {bad:Bool} {wr w':World} {nv:Value} {ns:List ByteArray} (h:LamR q w i bad wr nv ns) (hb:Below wr.heap.size wr w'):LamR q w i bad w' nv ns:=by
 obtain ⟨i',bad',lost',h1,h2,h3,h4⟩:=h.st
 exact ⟨h.kb.trans (KB.of_below hb),⟨i',bad',lost',h1,h2,h3,h4.below hb⟩,(hb.block _ (lh h.bx0)).trans h.bx0,own_moved h.own (fun g hg=>hb.block g (own_lt h.own g hg)),h.len,h.sz⟩
theorem LamR.more {q:Ps} {w:World} {i i':Nat} {bad bad' lost lost':Bool} {W4 W5:World} {nv v5:Value} {ns:List ByteArray} {t:ByteArray} (h0:ParAt q w i bad lost) (kb:KB (· = q.P) w W4) (h1:i≤i') (h2:bad=true→bad'=true) (h3:i<i'∨bad'=true) (h4:ParAt q W4 i' bad' lost')
  (bx0:W4.heap[w.heap.size]? = some (.cells zeroE 52)) (own4:W4.ownsRow (w.heap.size+1) 9 1 nv ns.length (ns.map Value.string)) (gr:W4.grownBy W5 nv.ownBlock) (own5:W5.ownsRow (w.heap.size+1) 9 1 v5 (ns.length+1) (ns.map Value.string ++ [.string t])) (hl:ns.length<6) (hs:∀ t ∈ ns,t.size≤1048576) (ht:t.size≤1048576):LamR q w i bad W5 v5 (ns ++ [t]):=by
 have hq:=h0.lt
 have hne:∀ b,b≤w.heap.size→some b≠nv.ownBlock:=fun b hb e=>by have:=(own4.lt b e.symm).1; omega
 have kk:KB (· = q.P) w W5:=⟨gr.os.trans kb.os,gr.tape.trans kb.tape,gr.output.trans kb.output,Nat.le_trans kb.size gr.size,fun b hb hx=>(gr.block b (Nat.lt_of_lt_of_le hb kb.size) (hne b (Nat.le_of_lt hb))).trans (kb.block b hb hx)⟩
 exact ⟨kk,⟨i',bad',lost',h1,h2,h3,h0.on kk ((gr.block q.P h4.lt (hne _ (Nat.le_of_lt hq))).trans h4.1) h4.2.1⟩,(gr.block _ (lh bx0) (hne _ (Nat.le_refl _))).trans bx0,by rw [List.length_append,List.map_append]; exact own5,by simp; omega,fun x hx=>by rcases List.mem_append.1 hx with hx | hx; exact hs x hx; exact (List.mem_singleton.1 hx) ▸ ht⟩
theorem ex_len {a:Option Addr} {n c:Nat} (e:Operand→Value) (o:Oper) (x:Operand) (ho:o.op = .call { callee:=.builtin .len,args:=#[x],argTypes:=#[24] }) (hx:e x = .slice a n c) (w:World):(execOp e o).run Tryz.prog w = .ok (.value (.int .i64 n)) w:=by
 obtain ⟨d,op,t,ps,af,g⟩:=o
 cases ho
 simp [hx,go_sem,run_len_slice (P:=Tryz.prog) (w:=w) (t:=24) (ty:=t) (base:=a) (n:=n) (c:=c) (by kernel_rfl)]
set_option maxHeartbeats 1600000 in
theorem lam_of (q:Ps) (m:Nat) (hE:CC 41 q m 0):CC 69 q m 6:=by
 intro i bad lost V ss w h hm hs hl
 have hq:=h.lt
 obtain ⟨W1,hW1⟩:∃ W1,W1=w.alloc (.cells zeroE 52):=⟨_,rfl⟩
 have b1:Below w.heap.size w W1:=by rw [hW1]; exact (Below.refl _ w).alloc (Nat.le_refl _) _
 have z1:W1.heap.size=w.heap.size+1:=by rw [hW1]; simp
 have x1:W1.heap[w.heap.size]? = some (.cells zeroE 52):=by rw [hW1]; exact block_new w _
 have hs1:=hs.below b1
 have h1:=h.below b1
 have HC:=(show Hid (KB (· = q.P) w W1∧ParAt q W1 i bad lost∧PsAt W1 q.P V ss∧W1.heap.size=w.heap.size+1∧W1.heap[w.heap.size]? = some (.cells zeroE 52)) from ⟨KB.of_below b1,h1,hs1,z1,x1⟩)
 have HS:=(show Hid (PsAt w q.P V ss) from hs)
 have H0:=(show Hid (ParAt q w i bad lost∧q.n - i<m∧ss.length+6+6 * (q.n - i)≤20000∧q.P<w.heap.size) from ⟨h,hm,hl,hq⟩)
 clear h hm hs hl hq b1 z1 x1 hs1 h1
 go_enter Tryz.func69,Tryz.ntmps69
 refine wp_seq_k (fun K hK => ?_)
 refine wp_region_list ?_
 refine wpl_run rfl (.pointer (some ⟨w.heap.size,0,none⟩)) W1 (by rw [hW1]; exact ex_allocE _ _ rfl w) ?_
 simp only [Act.put,List.setIfInBounds_toArray,List.set_cons_zero,List.set_cons_succ]
 refine wpList_nil ?_
 refine hK _ _ ?_
 clear hK K hW1
 obtain ⟨kb1,h1,sc1,z1,bx1⟩:=HC.out
 obtain ⟨h0,hm,hl,hq⟩:=H0.out
 have hp1:¬ (fun b:Nat=>w.heap.size+1≤b) q.P:=fun hx=>by have hx':w.heap.size+1≤q.P:=hx; omega
 have il1:i≤i:=Nat.le_refl i
 have bm1:bad=true→bad=true:=fun e=>e
 refine wp_seq_k (fun K hK => ?_)
 refine wp_region_list ?_
 refine wpl_run rfl (.pointer (some ⟨q.P,0,none⟩)) W1 (ex_move _ _ _ _ rfl (by rfl) _) ?_
 simp only [Act.put,List.setIfInBounds_toArray,List.set_cons_zero,List.set_cons_succ]
 refine wpl_call1 rfl 38 (.tmp 6) _ rfl ent_name (.pointer (some ⟨q.P,0,none⟩)) (by rfl) (fun r w'=>∃ t:ByteArray,r = .string t∧t.size≤1048576∧AftS q W1 w' i bad) ((name_any q W1 i bad lost h1).mono (fun e w' ⟨t,he,hh⟩=>⟨_,he,t,rfl,hh⟩)) ?_
 rintro r W2 ⟨t2,rfl,ht2,k2,i2,bad2,lost2,hi2,hb2,hs2,h2⟩
 simp only [Act.put,List.setIfInBounds_toArray,List.set_cons_zero,List.set_cons_succ]
 have il2:i≤i2:=Nat.le_trans il1 hi2
 have st2:i<i2∨bad2=true:=st_new il1 hs2
 have bm2:bad=true→bad2=true:=fun e=>hb2 (bm1 e)
 have kb2:=kb1.trans k2
 have z2:=(k2).size
 have sc_1:PsAt W2 q.P (V) (ss):=sc1.kb k2
 have bx_2:W2.heap[w.heap.size]? = some (.cells (zeroE) 52):=(k2).heap bx1 (by show ¬ _=_; omega)
 obtain ⟨W3,e3⟩:∃ W',W'=W2.alloc (.cells #[.string t2] 9):=⟨_,rfl⟩
 have b3:Below W2.heap.size W2 W3:=by rw [e3]; exact (Below.refl _ _).alloc (Nat.le_refl _) _
 refine wpl_run rfl (.slice (some ⟨W2.heap.size,0,none⟩) 1 1) W3 (by rw [e3]; exact ex_strs1 _ _ (.tmp 7) (t2) rfl (by rfl) _) ?_
 simp only [Act.put,List.setIfInBounds_toArray,List.set_cons_zero,List.set_cons_succ]
 have sl3:PsAt W3 q.P (.slice (some ⟨W2.heap.size,0,none⟩) 1 1) [t2]:=by rw [e3]; exact strs1_at W2 q.P ht2 (by have:=kb2.size; omega)
 have kk_3:KB (· = q.P) W2 W3:=KB.of_below b3
 have hh_4:=h2.below b3
 have kb3:=kb2.trans kk_3
 have z3:=(kk_3).size
 have sc_5:PsAt W3 q.P (V) (ss):=sc_1.kb kk_3
 have bx_6:W3.heap[w.heap.size]? = some (.cells (zeroE) 52):=(kk_3).heap bx_2 (by show ¬ _=_; omega)
 refine wpl_run rfl (.slice (some ⟨W2.heap.size,0,none⟩) 1 1) W3 (ex_assign _ _ _ _ rfl (by rfl) _) ?_
 simp only [Act.put,List.setIfInBounds_toArray,List.set_cons_zero,List.set_cons_succ]
 refine wpList_nil ?_
 refine hK _ _ ?_
 clear hK K
 have own3:W3.ownsRow (w.heap.size+1) 9 1 (.slice (some ⟨W2.heap.size,0,none⟩) 1 1) 1 [.string t2]:=by rw [e3]; exact ⟨by simp,.inr ⟨_,1,_,rfl,by omega,block_new _ _,Nat.le_refl _,by unfold maxLen; omega,by simp,by simp⟩⟩
 have HR0:=(show Hid (LamR q w i bad W3 (.slice (some ⟨W2.heap.size,0,none⟩) 1 1) [t2]) from ⟨kb3,⟨i2,bad2,lost2,il2,bm2,st2,hh_4⟩,bx_6,own3,by simp,fun x hx=>(List.mem_singleton.1 hx) ▸ ht2⟩)
 have HE:=(show Hid (CC 41 q m 0) from hE)
 clear hp1 il1 bm1 il2 st2 bm2 kb2 z2 sc_1 bx_2 b3 sl3 kk_3 hh_4 kb3 z3 sc_5 bx_6 own3 kb1 h1 sc1 z1 bx1 h0 hm hl hq hE HC e3 ht2 k2 hi2 hb2 hs2 h2
 go_wp2_with fail
 go_loopw [5] (fun nv wr=>∃ ns,Hid (LamR q w i bad wr nv ns)) (fun nv _=>6 - lenV nv)
 case atStart=>exact ⟨_,HR0⟩
 case round =>
  clear HR0
  obtain ⟨ns,HR⟩:=hrel
  obtain ⟨g,cap,rfl⟩:=HR.out.form
  obtain ⟨i2,bad2,lost2,hi2,hb2,hs2,h2⟩:=HR.out.st
  have H2:=(show Hid (i≤i2∧(bad=true→bad2=true)∧(i<i2∨bad2=true)∧ParAt q wr i2 bad2 lost2) from ⟨hi2,hb2,hs2,h2⟩)
  clear hi2 hb2 hs2 h2
  go_wp2_with fail
  refine (kind_any q wr i2 bad2 lost2 _ H2.out.2.2.2).mono ?_
  rintro r w2 ⟨b2,c,rfl,hc⟩
  have HR2:=(show Hid (LamR q w i bad w2 (.slice (some ⟨g,0,none⟩) ns.length cap) ns) from HR.out.below b2)
  have HP2:=(show Hid (ParAt q w2 i2 bad2 lost2) from H2.out.2.2.2.below b2)
  have HC:=(show Hid (_∧_) from ⟨hc,b2⟩)
  clear hc b2
  cases c with
  | false =>
   have HB:=(show Hid (Br q w i bad w2 i2 bad2 lost2) from ⟨HR2.out.kb,H2.out.1,H2.out.2.1,HP2.out,HR2.out.bx0⟩)
   have HM:=(show Hid (PsAt w2 q.P (.slice (some ⟨g,0,none⟩) ns.length cap) ns∧(i<i2∨bad2=true)∧ns.length≤6) from ⟨HR2.out.sc H0.out.2.2.2,H2.out.2.2.1,HR2.out.len.2⟩)
   clear HR HR2 HP2 HC H2
   go_upto_region 4 with fail
   rename_i KK hKK
   obtain ⟨kb1,il1,bm1,h1,bx1⟩:=HB.out
   obtain ⟨h0,hm,hl,hq⟩:=H0.out
   have sc1:=HS.out.kb kb1
   have hp1:¬ (fun b:Nat=>w.heap.size+1≤b) q.P:=fun hx=>by have hx':w.heap.size+1≤q.P:=hx; omega
   have zw:w.heap.size+1≤w2.heap.size:=by have:=lh bx1; omega
   obtain ⟨scn,st1,hn6⟩:=HM.out
   have hE:=HE.out
   have hnum:inI64 (ns.length:Int):=by unfold inI64; omega
   refine wp_region_list ?_
   refine wpl_run rfl (.pointer (some ⟨q.P,0,none⟩)) w2 (ex_move _ _ _ _ rfl (by rfl) _) ?_
   simp only [Act.put,List.setIfInBounds_toArray,List.set_cons_zero,List.set_cons_succ]
   refine wpl_call2 rfl 40 (.tmp 21) _ _ rfl ent_take (.pointer (some ⟨q.P,0,none⟩)) (.string ⟨#[46]⟩) (by rfl) rfl (fun r w'=>PAft q w2 w' i2 bad2) ((take_any q w2 i2 bad2 lost2 _ h1).mono (fun e w' ⟨he,hh⟩=>⟨_,he,hh⟩)) ?_
   rintro r W21 ⟨k21,i21,bad21,lost21,hi21,hb21,h21⟩
   simp only [Act.put,List.setIfInBounds_toArray,List.set_cons_zero,List.set_cons_succ]
   have il21:i≤i21:=Nat.le_trans il1 hi21
   have st21:i<i21∨bad21=true:=st_on st1 hi21 hb21
   have bm21:bad=true→bad21=true:=fun e=>hb21 (bm1 e)
   have kb21:=kb1.trans k21
   have z21:=(k21).size
   have sc_1:PsAt W21 q.P (V) (ss):=sc1.kb k21
   have sc_2:PsAt W21 q.P (.slice (some ⟨g,0,none⟩) ns.length cap) (ns):=scn.kb k21
   have bx_3:W21.heap[w.heap.size]? = some (.cells (zeroE) 52):=(k21).heap bx1 (by show ¬ _=_; omega)
   refine wpList_nil ?_
   refine hKK _ _ ?_
   refine wp_seq_k (fun K hK => ?_)
   refine wp_region_list ?_
   refine wpl_run rfl (.slice (some ⟨g,0,none⟩) ns.length cap) W21 (ex_move _ _ _ _ rfl (by rfl) _) ?_
   simp only [Act.put,List.setIfInBounds_toArray,List.set_cons_zero,List.set_cons_succ]
   refine wpl_run rfl (.int .i64 (ns.length:Int)) W21 (ex_len _ _ (.tmp 23) rfl (by rfl) _) ?_
   simp only [Act.put,List.setIfInBounds_toArray,List.set_cons_zero,List.set_cons_succ]
   refine wpl_run rfl (.pointer (some ⟨q.P,0,none⟩)) W21 (ex_move _ _ _ _ rfl (by rfl) _) ?_
   simp only [Act.put,List.setIfInBounds_toArray,List.set_cons_zero,List.set_cons_succ]
   refine wpl_run rfl (V) W21 (ex_move _ _ _ _ rfl (by rfl) _) ?_
   simp only [Act.put,List.setIfInBounds_toArray,List.set_cons_zero,List.set_cons_succ]
   refine wpl_run rfl (.slice (some ⟨g,0,none⟩) ns.length cap) W21 (ex_move _ _ _ _ rfl (by rfl) _) ?_
   simp only [Act.put,List.setIfInBounds_toArray,List.set_cons_zero,List.set_cons_succ]
   refine wpl_call2 rfl 91 (.tmp 26) (.tmp 27) _ rfl ent_with (V) (.slice (some ⟨g,0,none⟩) ns.length cap) (by rfl) (by rfl) (fun r w'=>PsAt w' q.P r (ss ++ ns)∧Below W21.heap.size W21 w') ((pwith_any q.P _ _ (ss) (ns) W21 (by have:=kb21.size; omega) sc_1 sc_2 (by first | omega | (simp only [List.length_cons,List.length_nil]; omega))).mono (fun e w' ⟨v,he,hh⟩=>⟨v,he,hh⟩)) ?_
   rintro V22 W22 ⟨sw22,b22⟩
   simp only [Act.put,List.setIfInBounds_toArray,List.set_cons_zero,List.set_cons_succ]
   have kk_4:KB (· = q.P) W21 W22:=KB.of_below b22
   have hh_5:=h21.below b22
   have kb22:=kb21.trans kk_4
   have z22:=(kk_4).size
   have sc_6:PsAt W22 q.P (V) (ss):=sc_1.kb kk_4
   have bx_7:W22.heap[w.heap.size]? = some (.cells (zeroE) 52):=(kk_4).heap bx_3 (by show ¬ _=_; omega)
   refine wpl_call2 rfl 41 (.tmp 25) (.tmp 28) _ rfl ent_exp (.pointer (some ⟨q.P,0,none⟩)) (V22) (by rfl) (by rfl) (fun r w'=>EV (fun b=>W22.heap.size≤b) w' r∧AftS q W22 w' i21 bad21) ((hE i21 bad21 lost21 (V22) (ss ++ ns) W22 hh_5 (lt_on hm il21) sw22 (len_more hl hn6 il21)).mono (fun e w' ⟨v,he,hh⟩=>⟨v,he,hh⟩)) ?_
   rintro v23 W23 ⟨e23,k23,i23,bad23,lost23,hi23,hb23,hs23,h23⟩
   simp only [Act.put,List.setIfInBounds_toArray,List.set_cons_zero,List.set_cons_succ]
   have il23:i≤i23:=Nat.le_trans il21 hi23
   have st23:i<i23∨bad23=true:=st_new il21 hs23
   have bm23:bad=true→bad23=true:=fun e=>hb23 (bm21 e)
   have kb23:=kb22.trans k23
   have z23:=(k23).size
   have sc_8:PsAt W23 q.P (V) (ss):=sc_6.kb k23
   have sc_9:PsAt W23 q.P (V22) (ss ++ ns):=sw22.kb k23
   have bx_10:W23.heap[w.heap.size]? = some (.cells (zeroE) 52):=(k23).heap bx_7 (by show ¬ _=_; omega)
   have f23:EV (fun b=>w.heap.size+1≤b) W23 v23:=e23.wide (fun b hb _=>by have:=kb23.size; show w.heap.size+1≤b; have hb':W22.heap.size≤b:=hb; omega)
   obtain ⟨W24,e24⟩:∃ W',W'=W23.alloc (.cells ⟨[v23].flatMap cellsE⟩ 52):=⟨_,rfl⟩
   have b24:Below W23.heap.size W23 W24:=by rw [e24]; exact (Below.refl _ _).alloc (Nat.le_refl _) _
   have x24:W24.heap[W23.heap.size]? = some (.cells ⟨[v23].flatMap cellsE⟩ 52):=by rw [e24]; exact block_new _ _
   refine wpl_run rfl (.slice (some ⟨W23.heap.size,0,none⟩) 1 1) W24 (by rw [e24]; exact ex_rowE1 _ _ (.tmp 29) rfl f23 (by rfl) _) ?_
   simp only [Act.put,List.setIfInBounds_toArray,List.set_cons_zero,List.set_cons_succ]
   have kk_11:KB (· = q.P) W23 W24:=KB.of_below b24
   have hh_12:=h23.below b24
   have kb24:=kb23.trans kk_11
   have z24:=(kk_11).size
   have sc_13:PsAt W24 q.P (V) (ss):=sc_8.kb kk_11
   have sc_14:PsAt W24 q.P (V22) (ss ++ ns):=sc_9.kb kk_11
   have bx_15:W24.heap[w.heap.size]? = some (.cells (zeroE) 52):=(kk_11).heap bx_10 (by show ¬ _=_; omega)
   have ev_16:EV (fun b=>w.heap.size+1≤b) W24 v23:=f23.kb kk_11 hp1
   have fv:EV (fun b=>w.heap.size+1≤b) W24 (.agg #[.int .i64 3,.int .i64 (ns.length:Int),.string ⟨#[]⟩,.slice (some ⟨W23.heap.size,0,none⟩) 1 1]):=EV.over (vs:=[v23]) (by simp) (fun u hu=>by simp only [List.mem_cons,List.not_mem_nil,or_false] at hu; rcases hu with rfl; assumption) x24 (by have:=kb24.size; show w.heap.size+1≤W23.heap.size; omega) ⟨by omega,by omega⟩ (by exact hnum) (Nat.zero_le _)
   refine wpl_run rfl (.agg #[.int .i64 3,.int .i64 (ns.length:Int),.string ⟨#[]⟩,.slice (some ⟨W23.heap.size,0,none⟩) 1 1]) W24 (ex_build013 _ _ rfl (by rfl) (by rfl) _) ?_
   simp only [Act.put,List.setIfInBounds_toArray,List.set_cons_zero,List.set_cons_succ]
   refine wpl_skip rfl (W24.setRow w.heap.size (cellsV (.agg #[.int .i64 3,.int .i64 (ns.length:Int),.string ⟨#[]⟩,.slice (some ⟨W23.heap.size,0,none⟩) 1 1]))) (ex_storeE _ _ (.tmp 4) (.tmp 31) w.heap.size _ _ _ rfl (by rfl) (by rfl) W24 bx_15 rfl fv.agg.2.1 fv.agg.2.2.1) ?_
   simp only [Act.put]
   refine wpList_nil ?_
   refine hK _ _ ?_
   clear hK K
   have fin:=fin_box (v:=.agg #[.int .i64 3,.int .i64 (ns.length:Int),.string ⟨#[]⟩,.slice (some ⟨W23.heap.size,0,none⟩) 1 1]) h0 ⟨kb24,i23,bad23,lost23,il23,bm23,st23,hh_12⟩ fv bx_15
   have HF:=(show Hid (_∧_∧_) from fin)
   generalize W24.setRow w.heap.size (cellsV (.agg #[.int .i64 3,.int .i64 (ns.length:Int),.string ⟨#[]⟩,.slice (some ⟨W23.heap.size,0,none⟩) 1 1]))=WF at HF ⊢
   clear H0
   go_wp2
   refine bodyPost_ret (results_cell_row (p:=4) (ty:=52) rfl _ WF w.heap.size _ _ (0,0) _ rfl HF.out.2.2 Tryz.underlying52 rfl (by exact sizeE)) rfl ?_
   exact ⟨_,rfl,HF.out.1,HF.out.2.1⟩
  | true =>
   by_cases hlt:(ns.length:Int)<6
   ·obtain ⟨hbf,hlq⟩:=HC.out.1 rfl
    subst hbf
    go_upto_region 3 with fail
    obtain ⟨h0,hm,hl,hq⟩:=H0.out
    obtain ⟨hi2,hb2,hs2,-⟩:=H2.out
    obtain ⟨i0,hi,hz0,hz1,hz2⟩:=info_parts infoStrP
    refine wp_region_list ?_
    refine wpl_run rfl (.slice (some ⟨g,0,none⟩) ns.length cap) w2 (ex_move _ _ _ _ rfl (by rfl) _) ?_
    simp only [Act.put,List.setIfInBounds_toArray,List.set_cons_zero,List.set_cons_succ]
    refine wpl_run rfl (.pointer (some ⟨q.P,0,none⟩)) w2 (ex_move _ _ _ _ rfl (by rfl) _) ?_
    simp only [Act.put,List.setIfInBounds_toArray,List.set_cons_zero,List.set_cons_succ]
    refine wpl_call1 rfl 38 (.tmp 17) _ rfl ent_name (.pointer (some ⟨q.P,0,none⟩)) (by rfl) (fun r w'=>∃ t:ByteArray,r = .string t∧t.size≤1048576∧AftS q w2 w' i2 false) ((name_any q w2 i2 false lost2 HP2.out).mono (fun e w' ⟨t,he,hh⟩=>⟨_,he,t,rfl,hh⟩)) ?_
    rintro r W3 ⟨t3,rfl,ht3,k3,i3,bad3,lost3,hi3,hb3,hs3,h3⟩
    simp only [Act.put,List.setIfInBounds_toArray,List.set_cons_zero,List.set_cons_succ]
    obtain ⟨W4,e4⟩:∃ W',W'=W3.alloc (.cells #[.string t3] 9):=⟨_,rfl⟩
    have b4:Below W3.heap.size W3 W4:=by rw [e4]; exact (Below.refl _ _).alloc (Nat.le_refl _) _
    have z4:W4.heap.size=W3.heap.size+1:=by rw [e4]; simp
    have x4:W4.heap[W3.heap.size]? = some (.cells #[.string t3] 9):=by rw [e4]; exact block_new _ _
    refine wpl_run rfl (.slice (some ⟨W3.heap.size,0,none⟩) 1 1) W4 (by rw [e4]; exact ex_strs1 _ _ (.tmp 18) t3 rfl (by rfl) _) ?_
    simp only [Act.put,List.setIfInBounds_toArray,List.set_cons_zero,List.set_cons_succ]
    clear e4
    have kb4:KB (· = q.P) w W4:=(HR2.out.kb.trans k3).trans (KB.of_below b4)
    have h4:=h3.below b4
    have own4:W4.ownsRow (w.heap.size+1) 9 1 (.slice (some ⟨g,0,none⟩) ns.length cap) ns.length (ns.map Value.string):=own_moved HR2.out.own (fun b hb=>(b4.block b (Nat.lt_of_lt_of_le (own_lt HR2.out.own b hb) k3.size)).trans (k3.block b (own_lt HR2.out.own b hb) (by have:=(own_type HR2.out.own b hb).1; show ¬ _=_; omega)))
    have bx4:W4.heap[w.heap.size]? = some (.cells zeroE 52):=(b4.block _ (Nat.lt_of_lt_of_le (lh HR2.out.bx0) k3.size)).trans (k3.heap HR2.out.bx0 (by show ¬ _=_; omega))
    have hsz:w.heap.size+1≤W4.heap.size:=by have:=lh bx4; omega
    refine wpList_append_own _ rfl (.tmp 16) (.tmp 19) 24 rfl (w.heap.size+1) 9 i0 _ 1 16 Tryz.underlying24 hi hz0 hz1 hz2 rfl (by decide) (.slice (some ⟨g,0,none⟩) ns.length cap) ns.length _ (by rfl) own4 ⟨W3.heap.size,0,none⟩ 1 1 [.string t3] (by rfl) rfl (fun j u hu=>by
     match j,hu with
     | 0,hu=>simp at hu; subst hu; rw [addr_add,cell_of_block x4]; rfl
     | j+1,hu=>simp at hu) (fun u hu=>by simp at hu; subst hu; rfl) (by unfold maxLen; omega) (by omega) hsz ?_
    intro v5 W5 own5 gr5 nil5
    simp only [Act.put,List.setIfInBounds_toArray,List.set_cons_zero,List.set_cons_succ]
    refine wpl_run rfl v5 W5 (ex_assign _ _ _ _ rfl (by rfl) _) ?_
    simp only [Act.put,List.setIfInBounds_toArray,List.set_cons_zero,List.set_cons_succ]
    refine wpList_nil ?_
    have HR6:=(show Hid (LamR q w i bad W5 v5 (ns ++ [t3])) from LamR.more h0 kb4 (Nat.le_trans hi2 hi3) (fun e=>hb3 (hb2 e)) (st_new hi2 hs3) h4 bx4 own4 gr5 own5 (by omega) HR2.out.sz ht3)
    have HMS:=(show Hid (6 - lenV v5<6 - lenV (.slice (some ⟨g,0,none⟩) ns.length cap)) from by obtain ⟨g5,c5,e5⟩:=HR6.out.form; rw [e5]; show 6 - (ns ++ [t3]).length<6 - ns.length; rw [List.length_append]; simp only [List.length_cons,List.length_nil]; omega)
    clear kb4 h4 own4 bx4 hsz own5 gr5 nil5 x4 b4 z4 h3 hs3 hb3 hi3 k3 ht3 hz2 hz1 hz0 hi hi2 hb2 hs2 h0 hm hl hq HR HR2 HP2 HC H2
    go_roundw
    case rel=>exact ⟨_,_,_,_,_,_,_,_,_,_,_,_,_,⟨_,HR6⟩,rfl⟩
    case measure=>exact HMS.out
   ·have HB:=(show Hid (Br q w i bad w2 i2 bad2 lost2) from ⟨HR2.out.kb,H2.out.1,H2.out.2.1,HP2.out,HR2.out.bx0⟩)
    have HM:=(show Hid (PsAt w2 q.P (.slice (some ⟨g,0,none⟩) ns.length cap) ns∧(i<i2∨bad2=true)∧ns.length≤6) from ⟨HR2.out.sc H0.out.2.2.2,H2.out.2.2.1,HR2.out.len.2⟩)
    clear HR HR2 HP2 HC H2
    go_upto_region 4 with fail
    rename_i KK hKK
    obtain ⟨kb1,il1,bm1,h1,bx1⟩:=HB.out
    obtain ⟨h0,hm,hl,hq⟩:=H0.out
    have sc1:=HS.out.kb kb1
    have hp1:¬ (fun b:Nat=>w.heap.size+1≤b) q.P:=fun hx=>by have hx':w.heap.size+1≤q.P:=hx; omega
    have zw:w.heap.size+1≤w2.heap.size:=by have:=lh bx1; omega
    obtain ⟨scn,st1,hn6⟩:=HM.out
    have hE:=HE.out
    have hnum:inI64 (ns.length:Int):=by unfold inI64; omega
    refine wp_region_list ?_
    refine wpl_run rfl (.pointer (some ⟨q.P,0,none⟩)) w2 (ex_move _ _ _ _ rfl (by rfl) _) ?_
    simp only [Act.put,List.setIfInBounds_toArray,List.set_cons_zero,List.set_cons_succ]
    refine wpl_call2 rfl 40 (.tmp 21) _ _ rfl ent_take (.pointer (some ⟨q.P,0,none⟩)) (.string ⟨#[46]⟩) (by rfl) rfl (fun r w'=>PAft q w2 w' i2 bad2) ((take_any q w2 i2 bad2 lost2 _ h1).mono (fun e w' ⟨he,hh⟩=>⟨_,he,hh⟩)) ?_
    rintro r W21 ⟨k21,i21,bad21,lost21,hi21,hb21,h21⟩
    simp only [Act.put,List.setIfInBounds_toArray,List.set_cons_zero,List.set_cons_succ]
    have il21:i≤i21:=Nat.le_trans il1 hi21
    have st21:i<i21∨bad21=true:=st_on st1 hi21 hb21
    have bm21:bad=true→bad21=true:=fun e=>hb21 (bm1 e)
    have kb21:=kb1.trans k21
    have z21:=(k21).size
    have sc_1:PsAt W21 q.P (V) (ss):=sc1.kb k21
    have sc_2:PsAt W21 q.P (.slice (some ⟨g,0,none⟩) ns.length cap) (ns):=scn.kb k21
    have bx_3:W21.heap[w.heap.size]? = some (.cells (zeroE) 52):=(k21).heap bx1 (by show ¬ _=_; omega)
    refine wpList_nil ?_
    refine hKK _ _ ?_
    refine wp_seq_k (fun K hK => ?_)
    refine wp_region_list ?_
    refine wpl_run rfl (.slice (some ⟨g,0,none⟩) ns.length cap) W21 (ex_move _ _ _ _ rfl (by rfl) _) ?_
    simp only [Act.put,List.setIfInBounds_toArray,List.set_cons_zero,List.set_cons_succ]
    refine wpl_run rfl (.int .i64 (ns.length:Int)) W21 (ex_len _ _ (.tmp 23) rfl (by rfl) _) ?_
    simp only [Act.put,List.setIfInBounds_toArray,List.set_cons_zero,List.set_cons_succ]
    refine wpl_run rfl (.pointer (some ⟨q.P,0,none⟩)) W21 (ex_move _ _ _ _ rfl (by rfl) _) ?_
    simp only [Act.put,List.setIfInBounds_toArray,List.set_cons_zero,List.set_cons_succ]
    refine wpl_run rfl (V) W21 (ex_move _ _ _ _ rfl (by rfl) _) ?_
    simp only [Act.put,List.setIfInBounds_toArray,List.set_cons_zero,List.set_cons_succ]
    refine wpl_run rfl (.slice (some ⟨g,0,none⟩) ns.length cap) W21 (ex_move _ _ _ _ rfl (by rfl) _) ?_
    simp only [Act.put,List.setIfInBounds_toArray,List.set_cons_zero,List.set_cons_succ]
    refine wpl_call2 rfl 91 (.tmp 26) (.tmp 27) _ rfl ent_with (V) (.slice (some ⟨g,0,none⟩) ns.length cap) (by rfl) (by rfl) (fun r w'=>PsAt w' q.P r (ss ++ ns)∧Below W21.heap.size W21 w') ((pwith_any q.P _ _ (ss) (ns) W21 (by have:=kb21.size; omega) sc_1 sc_2 (by first | omega | (simp only [List.length_cons,List.length_nil]; omega))).mono (fun e w' ⟨v,he,hh⟩=>⟨v,he,hh⟩)) ?_
    rintro V22 W22 ⟨sw22,b22⟩
    simp only [Act.put,List.setIfInBounds_toArray,List.set_cons_zero,List.set_cons_succ]
    have kk_4:KB (· = q.P) W21 W22:=KB.of_below b22
    have hh_5:=h21.below b22
    have kb22:=kb21.trans kk_4
    have z22:=(kk_4).size
    have sc_6:PsAt W22 q.P (V) (ss):=sc_1.kb kk_4
    have bx_7:W22.heap[w.heap.size]? = some (.cells (zeroE) 52):=(kk_4).heap bx_3 (by show ¬ _=_; omega)
    refine wpl_call2 rfl 41 (.tmp 25) (.tmp 28) _ rfl ent_exp (.pointer (some ⟨q.P,0,none⟩)) (V22) (by rfl) (by rfl) (fun r w'=>EV (fun b=>W22.heap.size≤b) w' r∧AftS q W22 w' i21 bad21) ((hE i21 bad21 lost21 (V22) (ss ++ ns) W22 hh_5 (lt_on hm il21) sw22 (len_more hl hn6 il21)).mono (fun e w' ⟨v,he,hh⟩=>⟨v,he,hh⟩)) ?_
    rintro v23 W23 ⟨e23,k23,i23,bad23,lost23,hi23,hb23,hs23,h23⟩
    simp only [Act.put,List.setIfInBounds_toArray,List.set_cons_zero,List.set_cons_succ]
    have il23:i≤i23:=Nat.le_trans il21 hi23
    have st23:i<i23∨bad23=true:=st_new il21 hs23
    have bm23:bad=true→bad23=true:=fun e=>hb23 (bm21 e)
    have kb23:=kb22.trans k23
    have z23:=(k23).size
    have sc_8:PsAt W23 q.P (V) (ss):=sc_6.kb k23
    have sc_9:PsAt W23 q.P (V22) (ss ++ ns):=sw22.kb k23
    have bx_10:W23.heap[w.heap.size]? = some (.cells (zeroE) 52):=(k23).heap bx_7 (by show ¬ _=_; omega)
    have f23:EV (fun b=>w.heap.size+1≤b) W23 v23:=e23.wide (fun b hb _=>by have:=kb23.size; show w.heap.size+1≤b; have hb':W22.heap.size≤b:=hb; omega)
    obtain ⟨W24,e24⟩:∃ W',W'=W23.alloc (.cells ⟨[v23].flatMap cellsE⟩ 52):=⟨_,rfl⟩
    have b24:Below W23.heap.size W23 W24:=by rw [e24]; exact (Below.refl _ _).alloc (Nat.le_refl _) _
    have x24:W24.heap[W23.heap.size]? = some (.cells ⟨[v23].flatMap cellsE⟩ 52):=by rw [e24]; exact block_new _ _
    refine wpl_run rfl (.slice (some ⟨W23.heap.size,0,none⟩) 1 1) W24 (by rw [e24]; exact ex_rowE1 _ _ (.tmp 29) rfl f23 (by rfl) _) ?_
    simp only [Act.put,List.setIfInBounds_toArray,List.set_cons_zero,List.set_cons_succ]
    have kk_11:KB (· = q.P) W23 W24:=KB.of_below b24
    have hh_12:=h23.below b24
    have kb24:=kb23.trans kk_11
    have z24:=(kk_11).size
    have sc_13:PsAt W24 q.P (V) (ss):=sc_8.kb kk_11
    have sc_14:PsAt W24 q.P (V22) (ss ++ ns):=sc_9.kb kk_11
    have bx_15:W24.heap[w.heap.size]? = some (.cells (zeroE) 52):=(kk_11).heap bx_10 (by show ¬ _=_; omega)
    have ev_16:EV (fun b=>w.heap.size+1≤b) W24 v23:=f23.kb kk_11 hp1
    have fv:EV (fun b=>w.heap.size+1≤b) W24 (.agg #[.int .i64 3,.int .i64 (ns.length:Int),.string ⟨#[]⟩,.slice (some ⟨W23.heap.size,0,none⟩) 1 1]):=EV.over (vs:=[v23]) (by simp) (fun u hu=>by simp only [List.mem_cons,List.not_mem_nil,or_false] at hu; rcases hu with rfl; assumption) x24 (by have:=kb24.size; show w.heap.size+1≤W23.heap.size; omega) ⟨by omega,by omega⟩ (by exact hnum) (Nat.zero_le _)
    refine wpl_run rfl (.agg #[.int .i64 3,.int .i64 (ns.length:Int),.string ⟨#[]⟩,.slice (some ⟨W23.heap.size,0,none⟩) 1 1]) W24 (ex_build013 _ _ rfl (by rfl) (by rfl) _) ?_
    simp only [Act.put,List.setIfInBounds_toArray,List.set_cons_zero,List.set_cons_succ]
    refine wpl_skip rfl (W24.setRow w.heap.size (cellsV (.agg #[.int .i64 3,.int .i64 (ns.length:Int),.string ⟨#[]⟩,.slice (some ⟨W23.heap.size,0,none⟩) 1 1]))) (ex_storeE _ _ (.tmp 4) (.tmp 31) w.heap.size _ _ _ rfl (by rfl) (by rfl) W24 bx_15 rfl fv.agg.2.1 fv.agg.2.2.1) ?_
    simp only [Act.put]
    refine wpList_nil ?_
    refine hK _ _ ?_
    clear hK K
    have fin:=fin_box (v:=.agg #[.int .i64 3,.int .i64 (ns.length:Int),.string ⟨#[]⟩,.slice (some ⟨W23.heap.size,0,none⟩) 1 1]) h0 ⟨kb24,i23,bad23,lost23,il23,bm23,st23,hh_12⟩ fv bx_15
    have HF:=(show Hid (_∧_∧_) from fin)
    generalize W24.setRow w.heap.size (cellsV (.agg #[.int .i64 3,.int .i64 (ns.length:Int),.string ⟨#[]⟩,.slice (some ⟨W23.heap.size,0,none⟩) 1 1]))=WF at HF ⊢
    clear H0
    go_wp2
    refine bodyPost_ret (results_cell_row (p:=4) (ty:=52) rfl _ WF w.heap.size _ _ (0,0) _ rfl HF.out.2.2 Tryz.underlying52 rfl (by exact sizeE)) rfl ?_
    exact ⟨_,rfl,HF.out.1,HF.out.2.1⟩
end Go.Proofs.YtljdgmfcgkimoaaGreatDoor
