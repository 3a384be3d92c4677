/-
  Proofs.
-/
import Derived.Test.YtmmadoabejgffaaGreatDoorM
import Derived.Test.YtmmadoabejgffaaGreatDoorN
import Derived.BigRegion
import Derived.Test.YtmmadoabejgffaaGreatDoorShelf
import Derived.Deep.RegionHeld3
import Derived.Test.YtmmadoabejgffaaGreatDoorCB
import Derived.BigQuiet
import Derived.Deep.QuietTactic
namespace Go.Proofs.YtmmadoabejgffaaGreatDoor
open Go.RowKit Go.Joins
set_option maxRecDepth 100000
set_option maxHeartbeats 51200000
abbrev ptr5 (p:Nat):Array Value:=#[.pointer (some ⟨p,0,none⟩),.pointer (some ⟨p,1,none⟩),.pointer (some ⟨p,2,none⟩),.pointer (some ⟨p,3,none⟩),.pointer (some ⟨p,4,none⟩)]
theorem packFields_any (p:Nat) (w:World) :
  Calls Tryz.prog 190 #[.pointer (some ⟨p,0,none⟩)] w fun e w'=>e = .returned (.slice (some ⟨w.heap.size,0,none⟩) 5 5)∧w'.heap[w.heap.size]? = some (.cells (ptr5 p) 269)∧Below w.heap.size w w':=by
 go_enter Tryz.func190,Tryz.ntmps190
 go_wp2_with fail
 go_region
 go_wp2
 go_ret
 exact ⟨rfl,(MapKept.heap_alloc _ _).1,(Below.refl _ _).drew.alloc (Nat.le_refl _) _⟩
def Pa.nums (p:Pa):List Int:=[p.kind,p.frm,p.dst,p.seq,p.low,((crcSum p.body.data.toList:Nat):Int)]
def Pa.bytes (p:Pa):List UInt8:=if p.ok then numsB p.nums ++ p.body.data.toList else []
def Pa.fits (p:Pa):Prop:=inI64 p.kind∧inI64 p.frm∧inI64 p.dst∧inI64 p.seq∧inI64 p.low
theorem pack_flds {w:World} {b g fb:Nat} {p:Pa} (h1:g≠b) (h2:fb≠b) (hg:w.heap[g]? = some (.cells (ptr5 fb) 269)) (hf:w.heap[fb]? = some (.cells p.row 157)) (hp:p.fits) :
  Flds w b g fb [0,1,2,3,4] [p.kind,p.frm,p.dst,p.seq,p.low]:=by
 refine ⟨h1,h2,hg,⟨_,_,hf,by decide,?_⟩,rfl,?_⟩
 ·intro j o z ho hz
  have hj:j<5:=(List.getElem?_eq_some_iff.1 hz).1
  have:j=0∨j=1∨j=2∨j=3∨j=4:=by omega
  rcases this with rfl | rfl | rfl | rfl | rfl <;> (cases ho; cases hz; rfl)
 ·intro z hz
  simp only [List.mem_cons,List.not_mem_nil,or_false] at hz
  rcases hz with rfl | rfl | rfl | rfl | rfl
  ·exact hp.1
  ·exact hp.2.1
  ·exact hp.2.2.1
  ·exact hp.2.2.2.1
  ·exact hp.2.2.2.2
theorem implPutPack_any (p:Pa) (w:World) (hs:p.body.size≤1048576) (hp:p.fits) (hg:ET w) :
  Calls Tryz.prog 149 #[.agg p.row] w fun e w'=>e = .returned (.string ⟨p.bytes.toArray⟩)∧Below w.heap.size w w':=by
 obtain ⟨W0,hW0⟩:∃ W0,W0=w.alloc (.cells p.row 157):=⟨_,rfl⟩
 have B0:Below w.heap.size w W0:=by rw [hW0]; exact (Below.refl _ w).alloc (Nat.le_refl _) _
 have O0:W0.heap[w.heap.size]? = some (.cells p.row 157):=by rw [hW0]; exact (MapKept.heap_alloc w _).1
 have H0:=(show Hid (_∧_∧_∧_) from ⟨hg.below B0,B0,O0,hW0⟩)
 clear hg B0 O0 hW0
 have hnot:=ex_not
 have hlen:p.body.data.toList.length=p.body.size:=by simp
 have HLen:=(show Hid (_∧True) from ⟨hlen,trivial⟩)
 clear hlen
 go_enter Tryz.func149,Tryz.ntmps149
 go_wp2_with fail
 rw [← (show W0=_ from H0.out.2.2.2)]
 refine (implPackOk_any p W0 hs H0.out.1).mono ?_
 rintro e w1 ⟨rfl,b1⟩
 have o1:=(b1.block _ (lh H0.out.2.2.1)).trans H0.out.2.2.1
 have hs1:w.heap.size+1≤w1.heap.size:=lh o1
 have H1:=(show Hid (_∧_) from ⟨H0.out.2.1.trans (b1.mono H0.out.2.1.size),o1⟩)
 clear b1 o1 H0
 cases hok:p.ok with
 | false =>
  have HB:Hid (p.bytes=[]):=by unfold Pa.bytes; rw [hok]; exact rfl
  clear hok
  go_wp2
  all_goals (go_ret; exact ⟨by rw [HB.out]; exact rfl,H1.out.1⟩)
 | true =>
  have HB:Hid (p.bytes=numsB p.nums ++ p.body.data.toList):=by unfold Pa.bytes; rw [hok]; exact rfl
  clear hok
  obtain ⟨W2,hW2⟩:∃ W2,W2=w1.alloc (.cells #[.pointer none,.slice none 0 0] 240):=⟨_,rfl⟩
  have B2:Below w1.heap.size w1 W2:=by rw [hW2]; exact (Below.refl _ w1).alloc (Nat.le_refl _) _
  have O2:W2.heap[w1.heap.size]? = some (.cells #[.pointer none,.slice none 0 0] 240):=by rw [hW2]; exact (MapKept.heap_alloc w1 _).1
  have hBL:BL w1.heap.size w1.heap.size [] W2:=.inl ⟨Nat.le_refl _,.slice none 0 0,O2,World.ownsRowF_nil _ _ _ _,by simp [Value.ownBlock]⟩
  have M2:=(B2.block _ (lh H1.out.2)).trans H1.out.2
  have hs2:w1.heap.size+1≤W2.heap.size:=lh O2
  have H2:=(show Hid (_∧_∧_∧_) from ⟨hBL,B2,M2,hW2⟩)
  clear hBL B2 O2 M2 hW2
  go_wp2_with fail
  rw [← H2.out.2.2.2]
  refine (packFields_any w.heap.size W2).mono ?_
  rintro e w3 ⟨rfl,o3,b3⟩
  have M3:=(b3.block _ (lh H2.out.2.2.1)).trans H2.out.2.2.1
  have F3:=pack_flds (b:=w1.heap.size) (by omega) (by omega) o3 M3 hp
  have hP:=putFields_any w1.heap.size w1.heap.size W2.heap.size w.heap.size [] _ _ 5 w3 F3 (H2.out.1.below b3) (by have:=b3.size; omega) (by simp) (by simp)
  have HP:=(show Hid (_∧_∧_) from ⟨hP,M3,H2.out.2.1.trans (b3.mono (by omega))⟩)
  clear hP M3 F3 o3 b3
  go_wp2_with fail
  refine HP.out.1.mono ?_
  rintro e w4 ⟨rfl,hL4,hB4,hO4⟩
  have M4:=hO4 _ _ HP.out.2.1 (by simp; omega) (fun c fz e=>by simp at e)
  have H4:=(show Hid (_∧_∧_) from ⟨hL4,HP.out.2.2.trans hB4,M4⟩)
  clear hL4 hB4 hO4 HP
  obtain ⟨-,-,-,-,-,y5⟩:=pbox6 M4
  clear M4
  have hs4:=H4.out.2.1.size
  have hcl:=crcSum_lt p.body.data.toList
  have hcw:IntKind.i64.wrap ((crcSum p.body.data.toList:Nat):Int)=((crcSum p.body.data.toList:Nat):Int):=by rw [IntKind.wrap_i64]; omega
  go_wp2_with fail
  refine (implCrc_any p.body w4 (by unfold maxLen; omega)).mono ?_
  rintro e w5 ⟨rfl,hw5⟩
  rw [hw5]
  clear hw5
  go_wp2_with fail
  refine (implPutNum_any ((crcSum p.body.data.toList:Nat):Int) _ (by omega) (by omega)).mono ?_
  rintro e w5 ⟨rfl,b5⟩
  have hW5:=write_any w1.heap.size w1.heap.size _ (numB ((crcSum p.body.data.toList:Nat):Int)) w5 (H4.out.1.below b5) (by rw [List.nil_append,numsB_len,numB_len]; simp) (by have:=b5.size; omega)
  have HW5:=(show Hid (_∧_∧_) from ⟨hW5,H4.out.2.1.trans (b5.mono hs4),(b5.block _ (lh H4.out.2.2)).trans H4.out.2.2⟩)
  clear hW5 b5 y5
  rw [bs_is]
  go_wp2_with fail
  refine HW5.out.1.mono ?_
  rintro e w6 ⟨rfl,hL6,hB6,hO6⟩
  have M6:=hO6 _ _ HW5.out.2.2 (by simp; omega) (fun c fz e=>by simp at e)
  have hnu:([] ++ numsB [p.kind,p.frm,p.dst,p.seq,p.low]) ++ numB ((crcSum p.body.data.toList:Nat):Int)=numsB p.nums:=by
   rw [List.nil_append]
   have:p.nums=[p.kind,p.frm,p.dst,p.seq,p.low] ++ [((crcSum p.body.data.toList:Nat):Int)]:=rfl
   rw [this,numsB_app]
   simp [numsB]
  rw [hnu] at hL6
  obtain ⟨-,-,-,-,-,y5⟩:=pbox6 M6
  have hB7:=HW5.out.2.1.trans hB6
  have hs6:=hB7.size
  have hn6:Hid ((numsB p.nums).length=48):=by show _=_; rw [numsB_len]; rfl
  have hW7:=write_any w1.heap.size w1.heap.size _ p.body.data.toList w6 hL6 (by rw [hn6.out,HLen.out.1]; omega) (by omega)
  rw [bsOf_data] at hW7
  have H6:=(show Hid (_∧_) from ⟨hW7,hB7⟩)
  clear hL6 hB6 hO6 M6 hnu HW5 hB7 hW7 H4
  go_wp2_with fail
  refine H6.out.1.mono ?_
  rintro e w7 ⟨rfl,hL7,hB7,-⟩
  have hs7:w1.heap.size≤w7.heap.size:=(H6.out.2.trans hB7).size
  have hSt:=Tryz.Builder_String_any_k w1.heap.size w1.heap.size _ w7 hL7 hs7
  have HSt:=(show Hid (_∧_) from ⟨hSt,H1.out.1.trans ((H6.out.2.trans hB7).mono (by omega))⟩)
  clear hSt hL7 hB7 H6
  go_wp2_with fail
  refine HSt.out.1.mono ?_
  rintro e w9 ⟨rfl,-,hB9,-⟩
  go_wp2
  go_ret
  exact ⟨by rw [HB.out]; rfl,HSt.out.2.trans (hB9.mono (by omega))⟩
theorem specPutPack_any (p:Pa) (w:World) (hs:p.body.size≤1048576) (hp:p.fits) :
  Calls Tryz.prog 91 #[.agg p.row] w fun e w'=>e = .returned (.string ⟨p.bytes.toArray⟩)∧Below w.heap.size w w':=by
 obtain ⟨W0,hW0⟩:∃ W0,W0=w.alloc (.cells p.row 157):=⟨_,rfl⟩
 have B0:Below w.heap.size w W0:=by rw [hW0]; exact (Below.refl _ w).alloc (Nat.le_refl _) _
 have O0:W0.heap[w.heap.size]? = some (.cells p.row 157):=by rw [hW0]; exact (MapKept.heap_alloc w _).1
 have H0:=(show Hid (_∧_∧_) from ⟨B0,O0,hW0⟩)
 clear B0 O0 hW0
 have hnot:=ex_not
 go_enter Tryz.func91,Tryz.ntmps91
 go_wp2_with fail
 rw [← (show W0=_ from H0.out.2.2)]
 refine (specPackOk_any p W0 hs).mono ?_
 rintro e w1 ⟨rfl,b1⟩
 have o1:=(b1.block _ (lh H0.out.2.1)).trans H0.out.2.1
 have hs1:w.heap.size+1≤w1.heap.size:=lh o1
 have H1:=(show Hid (_∧_) from ⟨H0.out.1.trans (b1.mono H0.out.1.size),o1⟩)
 clear b1 o1 H0
 cases hok:p.ok with
 | false =>
  have HB:Hid (p.bytes=[]):=by unfold Pa.bytes; rw [hok]; exact rfl
  clear hok
  go_wp2
  all_goals (go_ret; exact ⟨by rw [HB.out]; exact rfl,H1.out.1⟩)
 | true =>
  have HB:Hid (p.bytes=numsB p.nums ++ p.body.data.toList):=by unfold Pa.bytes; rw [hok]; exact rfl
  clear hok
  have hcl:=crcSum_lt p.body.data.toList
  have hcw:IntKind.i64.wrap ((crcSum p.body.data.toList:Nat):Int)=((crcSum p.body.data.toList:Nat):Int):=by rw [IntKind.wrap_i64]; omega
  obtain ⟨y0,y1,y2,y3,y4,y5⟩:=pbox6 H1.out.2
  have hin:∀ z ∈ p.nums,inI64 z:=by
   intro z hz
   unfold Pa.nums at hz
   simp only [List.mem_cons,List.not_mem_nil,or_false] at hz
   rcases hz with rfl | rfl | rfl | rfl | rfl | rfl
   ·exact hp.1
   ·exact hp.2.1
   ·exact hp.2.2.1
   ·exact hp.2.2.2.1
   ·exact hp.2.2.2.2
   ·unfold inI64; omega
  have hlit:IntsAt (w1.drew.alloc (.cells #[.int .i64 p.kind,.int .i64 p.frm,.int .i64 p.dst,.int .i64 p.seq,.int .i64 p.low,.int .i64 ((crcSum p.body.data.toList:Nat):Int)] 3)) (fun _=>True) (.slice (some ⟨w1.heap.size,0,none⟩) 6 6) p.nums:=lit_ints p.nums w1.drew hin (by show 6≤maxLen; unfold maxLen; omega) 6 rfl _ rfl _
  have hbA:Below w1.heap.size w1 (w1.drew.alloc (.cells #[.int .i64 p.kind,.int .i64 p.frm,.int .i64 p.dst,.int .i64 p.seq,.int .i64 p.low,.int .i64 ((crcSum p.body.data.toList:Nat):Int)] 3)):=((Below.refl _ w1).drew).alloc (Nat.le_refl _) _
  have hoA:(w1.drew.alloc (.cells #[.int .i64 p.kind,.int .i64 p.frm,.int .i64 p.dst,.int .i64 p.seq,.int .i64 p.low,.int .i64 ((crcSum p.body.data.toList:Nat):Int)] 3)).heap[w.heap.size]? = some (.cells p.row 157):=box_alloc H1.out.2 _
  have HA:=(show Hid (_∧_∧_) from ⟨hlit,hbA,hoA⟩)
  clear hlit hbA hoA hin
  have hs1':((⟨(numsB p.nums).toArray⟩:ByteArray)).size=48:=by show (numsB p.nums).toArray.size=_; simp [numsB_len]; rfl
  have hadd:∀ wx:World,(Op.stringOp .add ⟨(numsB p.nums).toArray⟩ p.body).run Tryz.prog wx = .ok (.string (⟨(numsB p.nums).toArray⟩ ++ p.body)) wx:=fun wx=>run_string_add_sum wx _ _ (by rw [hs1']; omega)
  have HCat:Hid ((⟨(numsB p.nums).toArray⟩:ByteArray) ++ p.body=⟨(numsB p.nums ++ p.body.data.toList).toArray⟩):=by
   have:=cat_bytes (numsB p.nums) p.body.data.toList
   rwa [show (⟨p.body.data.toList.toArray⟩:ByteArray)=p.body from str_eq rfl] at this
  have HC:=(show Hid (_∧True) from ⟨fun wx=>specCrc_any p.body wx (by unfold maxLen; omega),trivial⟩)
  clear hs1'
  generalize crcSum p.body.data.toList=c at *
  go_wp2_with fail
  go_region_held3 (fun w'=>w'.cell? ⟨w.heap.size,0,none⟩=some (.int .i64 p.kind)∧w'.cell? ⟨w.heap.size,1,none⟩=some (.int .i64 p.frm)∧w'.cell? ⟨w.heap.size,2,none⟩=some (.int .i64 p.dst)∧w'.cell? ⟨w.heap.size,3,none⟩=some (.int .i64 p.seq)∧w'.cell? ⟨w.heap.size,4,none⟩=some (.int .i64 p.low)∧w'.cell? ⟨w.heap.size,5,none⟩=some (.string p.body)) (first | exact pbox6 H3.out.2 | go_keep) (first
   | (go_at_call 120; refine (HC.out.1 _).mono ?_; rintro e w2 ⟨rfl,rfl⟩)
   | (go_at_call 90; refine (l07Nums_any _ p.nums (fun _=>True) _ HA.out.1 (by show 6≤100000000; omega)).mono ?_; rintro e w3 ⟨rfl,b3⟩; have o3:=(b3.block _ (lh HA.out.2.2)).trans HA.out.2.2; have H3:=(show Hid (_∧_) from ⟨HA.out.2.1.trans (b3.mono HA.out.2.1.size),o3⟩); clear o3 b3))
  all_goals go_wp2
  all_goals (go_ret; exact ⟨by rw [HB.out,← HCat.out]; exact rfl,H1.out.1.trans (H3.out.1.mono H1.out.1.size)⟩)
def lowL:List Sn→Int→Int→Int
 | [],_,d=>d
 | s :: l,to,d=>if s.dst=to then s.seq else lowL l to d
def Lk.pack (l:Lk) (o:Sn):Pa:=⟨0,l.id,o.dst,o.seq,lowL l.out o.dst o.seq,o.body⟩
theorem lowL_in:∀ (l:List Sn) (to d:Int),(∀ s ∈ l,inI64 s.seq)→inI64 d→inI64 (lowL l to d)
 | [],_,_,_,h=>h
 | s :: l,to,d,hs,h=>by
  rw [lowL]
  split
  ·exact hs s (by simp)
  ·exact lowL_in l to d (fun x hx=>hs x (by simp [hx])) h
theorem lowL_drop {l:List Sn} {k:Nat} {x:Sn} (h:l[k]? = some x) (to d:Int):lowL (l.drop k) to d=if x.dst=to then x.seq else lowL (l.drop (k+1)) to d:=by
 have hk:=(List.getElem?_eq_some_iff.1 h).1
 rw [List.drop_eq_getElem_cons hk,(List.getElem?_eq_some_iff.1 h).2,lowL]
theorem SentsAt.fits {w:World} {S:Nat→Prop} {v:Value} {es:List Sn} (h:SentsAt w S v es):∀ s ∈ es,inI64 s.seq∧inI64 s.dst∧s.body.size≤maxLen:=fun s hs=>by
 obtain ⟨a,cap,_,_,hc⟩:=h
 obtain ⟨i,hi⟩:=List.getElem?_of_mem hs
 obtain ⟨_,_,_,_,_,_,_,_,r⟩:=hc i s hi
 exact r
theorem l08Pack_any (v:Value) (l:Lk) (o:Sn) (S:Nat→Prop) (w:World) (h:LkAt w S v l) (ho:inI64 o.seq∧inI64 o.dst) (hs:o.body.size≤1048576) :
  Calls Tryz.prog 41 #[v,.agg #[.int .i64 o.seq,.int .i64 o.dst,.string o.body]] w fun e w'=>e = .returned (.string ⟨(l.pack o).bytes.toArray⟩)∧Below w.heap.size w w':=by
 have hfit:inI64 l.id∧inI64 l.next:=by obtain ⟨_,_,_,a,b,_⟩:=h; exact ⟨a,b⟩
 obtain ⟨oa,oc,sa,sc,rfl,h3,h4⟩:=h.form
 have hol:=h3.len
 unfold maxLen at hol
 clear h
 obtain ⟨W0,hW0⟩:∃ W0,W0=(w.alloc (.cells (l.row (.slice oa l.out.length oc) (.slice sa l.seen.length sc)) 49)).alloc (.cells #[.int .i64 o.seq,.int .i64 o.dst,.string o.body] 93):=⟨_,rfl⟩
 have B0:Below w.heap.size w W0:=by rw [hW0]; exact ((Below.refl _ w).alloc (Nat.le_refl _) _).alloc (by simp) _
 have O0:W0.heap[w.heap.size]? = some (.cells (l.row (.slice oa l.out.length oc) (.slice sa l.seen.length sc)) 49):=by
  rw [hW0,Below.heap_alloc _ _ _ (by simp)]; exact (MapKept.heap_alloc w _).1
 have O1:W0.heap[w.heap.size+1]? = some (.cells #[.int .i64 o.seq,.int .i64 o.dst,.string o.body] 93):=by
  have:=(MapKept.heap_alloc (w.alloc (.cells (l.row (.slice oa l.out.length oc) (.slice sa l.seen.length sc)) 49)) (.cells #[.int .i64 o.seq,.int .i64 o.dst,.string o.body] 93)).1
  rw [hW0]
  simpa using this
 have hs0:w.heap.size+2≤W0.heap.size:=lh O1
 have H0:=(show Hid (_∧_∧_∧_∧_) from ⟨h3,B0,O0,O1,hW0⟩)
 clear B0 O0 O1 hW0 h3 h4
 go_enter Tryz.func41,Tryz.ntmps41
 go_wp2
 go_loopw [5,6] (fun lv i wr=>∃ k:Nat,k≤l.out.length∧i = .int .i64 ((k:Int) - 1)∧lv = .int .i64 (lowL (l.out.drop k) o.dst o.seq)∧wr.heap[w.heap.size]? = some (.cells (l.row (.slice oa l.out.length oc) (.slice sa l.seen.length sc)) 49)∧wr.heap[w.heap.size+1]? = some (.cells #[.int .i64 o.seq,.int .i64 o.dst,.string o.body] 93)∧Below w.heap.size w wr) (fun _ i _=>(intOf i+1).toNat)
 case atStart =>
  have hO:=H0.out.2.2.1
  have hB:=H0.out.2.1
  have hP:=H0.out.2.2.2.1
  rw [H0.out.2.2.2.2] at hO hB hP
  exact ⟨l.out.length,Nat.le_refl _,rfl,by simp [lowL],hO,hP,hB⟩
 case round =>
  obtain ⟨k,hk,rfl,rfl,hb0,hb1,hbw⟩:=hrel
  obtain ⟨q0,q1,q2,q3⟩:=lbox hb0
  have t0:wr.cell? ⟨w.heap.size+1,0,none⟩=some (.int .i64 o.seq):=(cell_of_block hb1 0).trans rfl
  have t1:wr.cell? ⟨w.heap.size+1,1,none⟩=some (.int .i64 o.dst):=(cell_of_block hb1 1).trans rfl
  have t2:wr.cell? ⟨w.heap.size+1,2,none⟩=some (.string o.body):=(cell_of_block hb1 2).trans rfl
  have hsz:=hbw.size
  cases k with
  | zero =>
   have hp:(l.pack o).fits:=⟨(inI64_small (k:=0) (by decide) (by decide):inI64 0),hfit.1,ho.2,ho.1,lowL_in _ _ _ (fun s hs=>(H0.out.1.fits s hs).1) ho.1⟩
   have hP:=specPutPack_any (l.pack o) wr hs hp
   have HP:=(show Hid (_∧_) from ⟨hP,hbw⟩)
   rw [show l.out.drop 0=l.out from rfl]
   obtain ⟨lw,hlw⟩:∃ lw,lw=lowL l.out o.dst o.seq:=⟨_,rfl⟩
   have HEQ:Hid (l.pack o=⟨0,l.id,o.dst,o.seq,lw,o.body⟩):=by show _=_; rw [hlw]; rfl
   rw [HEQ.out] at HP
   rw [← hlw]
   clear hP hp hb0 hb1 hbw hlw
   go_wp2_with (go_at_call 91; refine HP.out.1.mono ?_; rintro e w1 ⟨rfl,b1⟩)
   go_ret
   exact ⟨by rw [HEQ.out]; rfl,HP.out.2.trans (b1.mono hsz)⟩
  | succ k =>
   have he:=List.getElem?_eq_getElem (show k<l.out.length by omega)
   have hd:=lowL_drop he o.dst o.seq
   generalize l.out[k]=x at *
   obtain ⟨a',cap',hv',-,hc'⟩:=H0.out.1
   cases hv'
   obtain ⟨b,off,hoa,hSb,hlt2,c0,c1,c2,r1,r2,r3⟩:=hc' k x he
   subst hoa
   rw [← hbw.cell (by exact hlt2)] at c0 c1 c2
   have HB:=(show Hid (_∧_∧_∧_) from ⟨hb0,hb1,hbw,hd⟩)
   have hkk:((k+1:Nat):Int) - 1=(k:Int):=by omega
   rw [hkk]
   have hlt':((k:Nat):Int)<((l.out.length:Nat):Int):=by omega
   have hge:(0:Int)≤(k:Int):=by omega
   clear he hc' hb0 hb1 hbw hd hSb r3
   generalize lowL (l.out.drop (k+1)) o.dst o.seq=lw at *
   by_cases hdst:x.dst=o.dst
   ·have g1:(x.dst == o.dst)=true:=by simpa using hdst
    have HE:=(show Hid (_∧True) from ⟨(HB.out.2.2.2.trans (if_pos hdst):lowL (l.out.drop k) o.dst o.seq=x.seq),trivial⟩)
    clear hdst
    go_wp2_with fail
    go_quiet (fail)
    go_wp2
    refine ⟨⟨k,by omega,by go_num,by rw [HE.out.1],HB.out.1,HB.out.2.1,drewN_below HB.out.2.2.1 _⟩,by simp [intOf]⟩
   ·have g1:(x.dst == o.dst)=false:=by simpa using hdst
    have HE:=(show Hid (_∧True) from ⟨(HB.out.2.2.2.trans (if_neg hdst):lowL (l.out.drop k) o.dst o.seq=lw),trivial⟩)
    clear hdst
    go_wp2_with fail
    go_quiet (fail)
    go_wp2
    refine ⟨⟨k,by omega,by go_num,by rw [HE.out.1],HB.out.1,HB.out.2.1,drewN_below HB.out.2.2.1 _⟩,by simp [intOf]⟩
theorem lowC_any (s:Sn) (to:Int) (b:Nat) (w:World) (hb:w.cell? ⟨b,0,none⟩=some (.int .i64 to)):Calls Tryz.prog 193 #[.agg #[.int .i64 s.seq,.int .i64 s.dst,.string s.body],.pointer (some ⟨b,0,none⟩)] w fun e w'=>e = .returned (.bool (s.dst == to))∧Below w.heap.size w w':=by
 have B0:Hid (∀ o:Obj,Below w.heap.size w (w.alloc o)):=fun o=>(Below.refl _ w).alloc (Nat.le_refl _) o
 have hlt:b<w.heap.size:=World.block_lt_of_cell? _ _ hb
 go_enter Tryz.func193,Tryz.ntmps193
 go_wp2
 go_ret
 exact ⟨rfl,B0.out _⟩
theorem lowL_first {es:List Sn} {to d:Int}:∀ {j:Nat} {x:Sn},es[j]? = some x→x.dst=to→(∀ i y,i<j→es[i]? = some y→y.dst≠to)→lowL es to d=x.seq:=by
 induction es with
 | nil=>intro j x h; simp at h
 | cons e es ih =>
  intro j x h hx hb
  cases j with
  | zero =>
   simp at h
   subst h
   rw [lowL,if_pos hx]
  | succ j =>
   rw [lowL,if_neg (hb 0 e (by omega) rfl)]
   exact ih (j:=j) (by simpa using h) hx (fun i y hi hy=>hb (i+1) y (by omega) (by simpa using hy))
theorem indexFunc_any (v:Value) (es:List Sn) (to:Int) (b:Nat) (S:Nat→Prop) (w:World) (h:SentsAt w S v es) (hb:w.cell? ⟨b,0,none⟩=some (.int .i64 to)) (hex:∃ s ∈ es,s.dst=to) :
  Calls Tryz.prog 192 #[v,.func (.func 193) #[] #[.pointer (some ⟨b,0,none⟩)]] w fun e w'=>∃ (j:Nat) (x:Sn),es[j]? = some x∧(∀ d,lowL es to d=x.seq)∧e = .returned (.int .i64 j)∧Below w.heap.size w w':=by
 have hlb:b<w.heap.size:=World.block_lt_of_cell? _ _ hb
 obtain ⟨a,cap,rfl,hl,hc⟩:=h
 unfold maxLen at hl
 have HC:=(show Hid (_∧_∧_) from ⟨hc,hb,hex⟩)
 clear hc hb hex
 go_enter Tryz.func192,Tryz.ntmps192
 go_wp2
 go_loopw [8] (fun i wr=>∃ k:Nat,k≤es.length∧i = .int .i64 k∧(∀ (i:Nat) (y:Sn),i<k→es[i]? = some y→y.dst≠to)∧Below w.heap.size w wr) (fun i _=>es.length - (intOf i).toNat)
 case atStart=>exact ⟨0,Nat.zero_le _,rfl,fun i y hi=>by omega,Below.refl _ _⟩
 case round =>
  obtain ⟨k,hk,rfl,hno,hbw⟩:=hrel
  by_cases hkl:k<es.length
  ·have he:=List.getElem?_eq_getElem hkl
   generalize es[k]=x at *
   obtain ⟨b',off,rfl,hSb,hlt2,c0,c1,c2,-⟩:=HC.out.1 k x he
   rw [← hbw.cell (by exact hlt2)] at c0 c1 c2
   have hlt':((k:Nat):Int)<((es.length:Nat):Int):=by omega
   have hcb:wr.cell? ⟨b,0,none⟩=some (.int .i64 to):=(hbw.cell (p:=⟨b,0,none⟩) hlb).trans HC.out.2.1
   have HX:=(show Hid (_∧_∧_∧_) from ⟨lowC_any x to b wr hcb,hno,hbw,he⟩)
   have hsz:=hbw.size
   clear hno hbw he hcb hSb
   by_cases hd:x.dst=to
   ·have g1:(x.dst == to)=true:=by simpa using hd
    have HF:=(show Hid (_∧True) from ⟨fun d=>lowL_first (d:=d) HX.out.2.2.2 hd HX.out.2.1,trivial⟩)
    clear hd
    go_wp2_with (go_at_call 193; refine HX.out.1.mono ?_; rw [g1]; rintro e w1 ⟨rfl,b1⟩)
    go_ret
    exact ⟨k,x,HX.out.2.2.2,HF.out.1,rfl,HX.out.2.2.1.trans (b1.mono hsz)⟩
   ·have g1:(x.dst == to)=false:=by simpa using hd
    have HF:=(show Hid (_∧True) from ⟨hd,trivial⟩)
    clear hd
    go_wp2_with (go_at_call 193; refine HX.out.1.mono ?_; rw [g1]; rintro e w1 ⟨rfl,b1⟩)
    refine ⟨⟨k+1,by omega,by go_num,fun i y hi hy => ?_,HX.out.2.2.1.trans (b1.mono hsz)⟩,by simp [intOf]; omega⟩
    by_cases hik:i=k
    ·subst hik
     obtain rfl:x=y:=Option.some.inj (HX.out.2.2.2.symm.trans hy)
     exact HF.out.1
    ·exact HX.out.2.1 i y (by omega) hy
  ·exfalso
   obtain ⟨s,hs,hd⟩:=HC.out.2.2
   obtain ⟨i,hi⟩:=List.getElem?_of_mem hs
   exact hno i s (by have:=(List.getElem?_eq_some_iff.1 hi).1; omega) hi hd
theorem lowTo_any (v:Value) (l:Lk) (to d:Int) (S:Nat→Prop) (w:World) (h:LkAt w S v l) (hex:∃ s ∈ l.out,s.dst=to) :
  Calls Tryz.prog 150 #[v,.int .i64 to] w fun e w'=>e = .returned (.int .i64 (lowL l.out to d))∧Below w.heap.size w w':=by
 obtain ⟨oa,oc,sa,sc,rfl,h3,h4⟩:=h.form
 have hol:=h3.len
 unfold maxLen at hol
 clear h h4
 obtain ⟨W0,hW0⟩:∃ W0,W0=(w.alloc (.cells (l.row (.slice oa l.out.length oc) (.slice sa l.seen.length sc)) 49)).alloc (.cells #[.int .i64 to] 3):=⟨_,rfl⟩
 have B0:Below w.heap.size w W0:=by rw [hW0]; exact ((Below.refl _ w).alloc (Nat.le_refl _) _).alloc (by simp) _
 have O0:W0.heap[w.heap.size]? = some (.cells (l.row (.slice oa l.out.length oc) (.slice sa l.seen.length sc)) 49):=by
  rw [hW0,Below.heap_alloc _ _ _ (by simp)]; exact (MapKept.heap_alloc w _).1
 have O1:W0.heap[w.heap.size+1]? = some (.cells #[.int .i64 to] 3):=by
  have:=(MapKept.heap_alloc (w.alloc (.cells (l.row (.slice oa l.out.length oc) (.slice sa l.seen.length sc)) 49)) (.cells #[.int .i64 to] 3)).1
  rw [hW0]
  simpa using this
 have hs0:w.heap.size+2≤W0.heap.size:=lh O1
 have hI:=indexFunc_any _ l.out to (w.heap.size+1) S W0 (h3.below B0) ((cell_of_block O1 0).trans rfl) hex
 have H0:=(show Hid (_∧_∧_∧_∧_) from ⟨hI,h3,B0,O0,hW0⟩)
 clear hI B0 O0 O1 hW0 h3
 go_enter Tryz.func150,Tryz.ntmps150
 go_wp2_with fail
 rw [← (show W0=_ from H0.out.2.2.2.2)]
 refine H0.out.1.mono ?_
 rintro e w1 ⟨j,x,hj,hlow,rfl,b1⟩
 obtain ⟨q0,q1,q2,q3⟩:=lbox ((b1.block _ (lh H0.out.2.2.2.1)).trans H0.out.2.2.2.1)
 obtain ⟨a',cap',hv',-,hc'⟩:=H0.out.2.1
 cases hv'
 obtain ⟨b,off,hoa,hSb,hlt2,c0,c1,c2,r1,r2,r3⟩:=hc' j x hj
 subst hoa
 have B1:Below w.heap.size w w1:=H0.out.2.2.1.trans (b1.mono (by omega))
 rw [← B1.cell (by exact hlt2)] at c0 c1 c2
 have hjl:=(List.getElem?_eq_some_iff.1 hj).1
 have hlt':((j:Nat):Int)<((l.out.length:Nat):Int):=by omega
 have HF:=(show Hid (_∧_) from ⟨hlow d,B1⟩)
 clear hc' hj hlow b1 B1 hSb r2 r3 H0
 go_wp2
 go_ret
 exact ⟨by rw [HF.out.1]; rfl,HF.out.2⟩
end Go.Proofs.YtmmadoabejgffaaGreatDoor
