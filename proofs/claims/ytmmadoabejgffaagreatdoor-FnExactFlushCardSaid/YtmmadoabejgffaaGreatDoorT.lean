/-
  Proofs.
-/
import Derived.Test.YtmmadoabejgffaaGreatDoorA
import Derived.Test.YtmmadoabejgffaaGreatDoorD
namespace Go.Proofs.YtmmadoabejgffaaGreatDoor
open Go.RowKit Go.Joins
set_option maxRecDepth 100000
set_option maxHeartbeats 51200000
theorem infoACode:(Tryz.prog.info? 182).map (fun i=>(i.zero,i.size,i.bytes))=some (some (.agg #[.int .i64 0,.int .i64 0,.string ⟨#[]⟩,.slice none 0 0]),4,56):=by kernel_rfl
theorem l06CopyTable_dt:ToC 80 TableR:=by
 rintro vs r S w ⟨X0,X1,rfl,Q0,Q1⟩ h hb
 obtain ⟨v0,v1,rfl,A0,A1⟩:=fs2 h
 obtain ⟨P0,C0,rfl⟩:=A0.form
 obtain ⟨P1,C1,rfl⟩:=A1.form
 rw [show Dt.bR [.row X0,.row X1]=Dt.bS X0+Dt.bS X1 from by simp [Dt.bR,Dt.bulk]] at hb
 have hl0:=bulkS_len X0
 have hl1:=bulkS_len X1
 have hBA:=@bulkS_at X0
 obtain ⟨iI,hiI,hzI0,hzI1,hzI2⟩:=info_parts infoAI
 obtain ⟨iX,hiX,hzX0,hzX1,hzX2⟩:=info_parts infoACode
 have HT:=(show Hid (_∧_∧_) from ⟨Q0,Q0.len CodeR.len,A0⟩)
 obtain ⟨W1,hW1⟩:∃ W1,W1=((w.alloc (.cells #[.slice P0 X0.length C0,.slice P1 X1.length C1] 40)).alloc (.cells #[.slice none 0 0,.slice none 0 0] 40)).alloc (.cells #[] 3):=⟨_,rfl⟩
 have B1:Below w.heap.size w W1:=by rw [hW1]; exact (((Below.refl _ w).alloc (Nat.le_refl _) _).alloc (by simp) _).alloc (by simp; omega) _
 have s1:W1.heap.size=w.heap.size+3:=by rw [hW1]; simp
 have O0:W1.heap[w.heap.size]? = some (.cells #[.slice P0 X0.length C0,.slice P1 X1.length C1] 40):=by rw [hW1]; exact (Below.heap_alloc _ _ _ (by simp; omega)).trans ((Below.heap_alloc _ _ _ (by simp)).trans (MapKept.heap_alloc w _).1)
 have O1:W1.heap[w.heap.size+1]? = some (.cells #[.slice none 0 0,.slice none 0 0] 40):=by
  rw [hW1]
  have:=(MapKept.heap_alloc (w.alloc (.cells #[.slice P0 X0.length C0,.slice P1 X1.length C1] 40)) (.cells #[.slice none 0 0,.slice none 0 0] 40)).1
  exact (Below.heap_alloc _ _ _ (by simp)).trans (by simpa using this)
 have R1:W1.ownsRow (w.heap.size+2) 3 1 (.slice (some ⟨w.heap.size+1+1,0,none⟩) 0 0) 0 []:=by
  rw [hW1]
  have:=World.ownsRow_made (size:=1) (e:=3) ((w.alloc (.cells #[.slice P0 X0.length C0,.slice P1 X1.length C1] 40)).alloc (.cells #[.slice none 0 0,.slice none 0 0] 40)) #[] 0 (show w.heap.size+2≤((w.alloc (.cells #[.slice P0 X0.length C0,.slice P1 X1.length C1] 40)).alloc (.cells #[.slice none 0 0,.slice none 0 0] 40)).heap.size by simp) (Nat.zero_le _) (by simp)
  simpa using this
 have HX0:=(show Hid (_∧_∧_∧_∧_∧_∧_) from ⟨R1,A1.up B1,B1,O0,O1,s1,Q1⟩)
 have HW1:=(show Hid (_∧True) from ⟨hW1,trivial⟩)
 clear B1 s1 O0 O1 R1 hW1 A0 A1 Q0 Q1 h
 go_enter Tryz.func80,Tryz.ntmps80
 go_wp2_with (at_builtin; rw [← HW1.out.1]; refine wpList_append_fat rfl _ _ 23 rfl (w.heap.size+2) 3 iI (.int .i64 0) 1 8 Tryz.underlying23 hiI hzI0 hzI1 hzI2 rfl (by decide) (.slice (some ⟨w.heap.size+1+1,0,none⟩) 0 0) 0 _ rfl HX0.out.1 _ rfl X1 S HX0.out.2.1 (HX0.out.2.2.2.2.2.2.len IntR.len) (by unfold maxLen; omega) (by omega) (by have:=HX0.out.2.2.2.2.2.1; omega) ?_; intro vA wA flatA hownA hgrowA hatA hfA; have HA5:=(show Hid (_∧_∧_∧_) from ⟨hownA,hgrowA,hatA,hfA⟩); rw [Nat.zero_add] at hownA; obtain ⟨aA,cA,rfl⟩:=own_form hownA; clear hownA hgrowA hatA hfA; refine Hid.out ?_)
 obtain ⟨R1,F1,B1,O0,O1,s1,Q1⟩:=HX0.out
 obtain ⟨hownA,hgrowA,hatA,hfA⟩:=HA5.out
 have OA0:=(hgrowA.block w.heap.size (lh O0) (fun e=>by simp [Value.ownBlock] at e; omega)).trans O0
 have OA1:=(hgrowA.block (w.heap.size+1) (lh O1) (fun e=>by simp [Value.ownBlock] at e)).trans O1
 have BA:Below w.heap.size w wA:=Below.grown B1 hgrowA B1.size (fun b hb=>by have:=(own_type R1 b hb).1; omega)
 have hsA:w.heap.size+3≤wA.heap.size:=by have:=hgrowA.size; omega
 rw [Nat.zero_add,List.nil_append] at hownA
 have ownA:=own_atoms hownA (Q1.len IntR.len) hfA (fun i j r d hr hj=>(Q1 i r hr).atoms j d hj)
 obtain ⟨Ws,hWs⟩:∃ Ws,Ws=wA.alloc (.cells #[.slice none 0 0,.slice aA X1.length cA] 40):=⟨_,rfl⟩
 have ss:Ws.heap.size=wA.heap.size+1:=by rw [hWs]; simp
 have eS:Below wA.heap.size wA Ws:=by rw [hWs]; exact (Below.refl _ wA).alloc (Nat.le_refl _) _
 have OS0:=(eS.block _ (lh OA0)).trans OA0
 have OS1:=(eS.block _ (lh OA1)).trans OA1
 have OSb:Ws.heap[wA.heap.size]? = some (.cells #[.slice none 0 0,.slice aA X1.length cA] 40):=by rw [hWs]; exact (MapKept.heap_alloc wA _).1
 have BS:Below w.heap.size w Ws:=BA.trans (eS.mono BA.size)
 have ownS:Own Ws (.slice aA X1.length cA) (.row X1) (Btw (w.heap.size+2) wA.heap.size):=(ownA.dom.up eS).mono (fun b hb=>⟨hb.1.1,hb.2⟩)
 have GS:Grow Ws (wA.heap.size+1) 182 4 (.slice none 0 0) 0 X0:=Grow.start ⟨rfl,.inl ⟨rfl,rfl⟩⟩ X0
 have HSs:=(show Hid (_∧_∧_∧_∧_∧_∧_) from ⟨OS0,OS1,BS,ownS,GS,ss,OSb⟩)
 have HWs:=(show Hid (_∧True) from ⟨hWs,trivial⟩)
 clear R1 F1 B1 O0 O1 s1 Q1 hownA hgrowA hatA hfA OA0 OA1 BA ownA hWs eS OS0 OS1 BS ownS GS ss OSb HA5 HX0 HW1
 unfold Hid
 go_wp2
 go_loopw [4] (fun i wr=>∃ (k:Nat) (oa:Option Addr) (oc:Nat),k≤X0.length∧i = .int .i64 k∧Hid (Grow wr (wA.heap.size+1) 182 4 (.slice oa k oc) k X0)∧Hid (wr.heap[wA.heap.size]? = some (.cells #[.slice oa k oc,.slice aA X1.length cA] 40))∧Hid (Below wA.heap.size Ws wr)) (fun i _=>X0.length - (intOf i).toNat)
 case atStart =>
  rw [← HWs.out.1]
  exact ⟨0,_,_,Nat.zero_le _,rfl,HSs.out.2.2.2.2.1,HSs.out.2.2.2.2.2.2,Below.refl _ _⟩
 case round =>
  clear HWs
  obtain ⟨k,oa,oc,hk,rfl,HG,HOB,HBs⟩:=hrel
  have hlw0:w.heap.size<wA.heap.size:=by omega
  have hbw:Below w.heap.size w wr:=HSs.out.2.2.1.trans (HBs.out.mono (by omega))
  have ob:=(HBs.out.block w.heap.size hlw0).trans HSs.out.1
  have Y0:=cb ob 0 (.slice P0 X0.length C0) rfl
  have hobw:wA.heap.size<wr.heap.size:=lh HOB.out
  by_cases hkl:k<X0.length
  ·have he:=List.getElem?_eq_getElem hkl
   have hbk:=hBA he
   generalize X0[k]=r at *
   obtain ⟨z0,z1,b2,x3,rfl,q3⟩:=HT.out.1 k r he
   obtain ⟨b,off,rfl,-,hlb,us,hhus⟩:=HT.out.2.2.at he
   have c0:w.cell? ⟨b,off+k * 4,none⟩=some (us 0):=(hhus 0 _ rfl).1
   have a0:=(hhus 0 _ rfl).2
   have c1:w.cell? ⟨b,off+k * 4+1,none⟩=some (us 1):=(hhus 1 _ rfl).1
   have a1:=(hhus 1 _ rfl).2
   have c2:w.cell? ⟨b,off+k * 4+2,none⟩=some (us 2):=(hhus 2 _ rfl).1
   have a2:=(hhus 2 _ rfl).2
   have c3:w.cell? ⟨b,off+k * 4+3,none⟩=some (us 3):=(hhus 3 _ rfl).1
   have a3:=(hhus 3 _ rfl).2
   clear hhus
   obtain ⟨a0e,a0r⟩:=a0.ofInt
   rw [a0e] at c0 a0
   clear a0e
   obtain ⟨a1e,a1r⟩:=a1.ofInt
   rw [a1e] at c1 a1
   clear a1e
   obtain ⟨a2e,a2r⟩:=a2.ofStr
   rw [a2e] at c2 a2
   clear a2e
   obtain ⟨p3,d3,a3e⟩:=a3.form
   rw [a3e] at c3 a3
   clear a3e
   rw [← hbw.cell (by exact hlb)] at c0 c1 c2 c3
   have hlw:b<wr.heap.size:=Nat.lt_of_lt_of_le hlb hbw.size
   have hlt':((k:Nat):Int)<((X0.length:Nat):Int):=by omega
   have hlo:wA.heap.size+1≤wr.heap.size:=hobw
   have hwlo:w.heap.size≤wA.heap.size+1:=by omega
   have hoblo:wA.heap.size<wA.heap.size+1:=by omega
   have HP:=HT
   clear hBA ob
   have hkl3:x3.length≤1048576:=by
    have h1:=bulkS_len x3
    have h2:Dt.bS x3≤Dt.bR [.int z0,.int z1,.str b2,.row x3]:=by simp [Dt.bR,Dt.bulk]
    omega
   have B2:Below wr.heap.size wr ((wr.alloc (.cells #[.int .i64 z0,.int .i64 z1,.string b2,.slice p3 x3.length d3] 182)).alloc (.cells #[] 3)):=((Below.refl _ wr).alloc (Nat.le_refl _) _).alloc (by simp) _
   have R2:((wr.alloc (.cells #[.int .i64 z0,.int .i64 z1,.string b2,.slice p3 x3.length d3] 182)).alloc (.cells #[] 3)).ownsRow wr.heap.size 3 1 (.slice (some ⟨wr.heap.size+1,0,none⟩) 0 0) 0 []:=by
    have:=World.ownsRow_made (size:=1) (e:=3) (wr.alloc (.cells #[.int .i64 z0,.int .i64 z1,.string b2,.slice p3 x3.length d3] 182)) #[] 0 (show wr.heap.size≤(wr.alloc (.cells #[.int .i64 z0,.int .i64 z1,.string b2,.slice p3 x3.length d3] 182)).heap.size by simp) (Nat.zero_le _) (by simp)
    simpa using this
   have O2:((wr.alloc (.cells #[.int .i64 z0,.int .i64 z1,.string b2,.slice p3 x3.length d3] 182)).alloc (.cells #[] 3)).heap[wr.heap.size]? = some (.cells #[.int .i64 z0,.int .i64 z1,.string b2,.slice p3 x3.length d3] 182):=(Below.heap_alloc _ _ _ (by simp)).trans (MapKept.heap_alloc wr _).1
   have HX:=(show Hid (_∧_∧_∧_∧_∧_∧_∧_∧_∧_∧_) from ⟨R2,(a3.up hbw).up B2,B2,O2,q3,he,hbw,a0r,a1r,a2r,trivial⟩)
   clear B2 R2 O2 he hbw q3 a0 a1 a2 a3 a0r a1r a2r
   go_wp2_with (at_builtin; refine wpList_append_fat rfl _ _ 23 rfl wr.heap.size 3 iI (.int .i64 0) 1 8 Tryz.underlying23 hiI hzI0 hzI1 hzI2 rfl (by decide) (.slice (some ⟨wr.heap.size+1,0,none⟩) 0 0) 0 _ rfl HX.out.1 _ rfl x3 S HX.out.2.1 (HX.out.2.2.2.2.1.len IntR.len) (by unfold maxLen; omega) (by omega) HX.out.2.2.1.size ?_; intro v5 w5 flat5 hown5 hgrow5 hat5 hf5; have H5:=(show Hid (_∧_∧_∧_) from ⟨hown5,hgrow5,hat5,hf5⟩); rw [Nat.zero_add] at hown5; obtain ⟨a5,c5,rfl⟩:=own_form hown5; have o5:=(hgrow5.block wr.heap.size (lh HX.out.2.2.2.1) (fun e=>(by simp [Value.ownBlock] at e))).trans HX.out.2.2.2.1; have y0:w5.cell? ⟨wr.heap.size,0,none⟩=some (.int .i64 z0):=(by rw [cell_of_block o5]; rfl); have y1:w5.cell? ⟨wr.heap.size,1,none⟩=some (.int .i64 z1):=(by rw [cell_of_block o5]; rfl); have y2:w5.cell? ⟨wr.heap.size,2,none⟩=some (.string b2):=(by rw [cell_of_block o5]; rfl); have y3:w5.cell? ⟨wr.heap.size,3,none⟩=some (.slice p3 x3.length d3):=(by rw [cell_of_block o5]; rfl); have f3:w5.frozen? ⟨wr.heap.size,3,none⟩=false:=unfrozen_of_block o5 3; have ob5:=(hgrow5.block wA.heap.size (Nat.lt_of_lt_of_le (lh HOB.out) HX.out.2.2.1.size) (fun e=>(by simp [Value.ownBlock] at e; have:=lh HOB.out; omega))).trans ((HX.out.2.2.1.block _ (lh HOB.out)).trans HOB.out); have yo5:w5.cell? ⟨wA.heap.size,0,none⟩=some (.slice oa k oc):=(by rw [cell_of_block ob5]; rfl); have HO5:=(show Hid (_∧True) from ⟨o5,trivial⟩); clear hown5 hgrow5 hat5 hf5 o5; refine Hid.out ?_)
   have B5:Below wr.heap.size wr w5:=Below.grown HX.out.2.2.1 H5.out.2.1 HX.out.2.2.1.size (fun b hb=>(own_type HX.out.1 b hb).1)
   have B7:Below wr.heap.size wr ((w5.setCell ⟨wr.heap.size,3,none⟩ (.slice a5 x3.length c5)).alloc (.cells #[.int .i64 z0,.int .i64 z1,.string b2,.slice a5 x3.length c5] 182)):=(B5.setCell (p:=⟨wr.heap.size,3,none⟩) (Nat.le_refl _) _).alloc (by simp; exact B5.size) _
   obtain ⟨flatk,hflatk⟩:=HG.out.row
   have R7:=own_moved (W':=((w5.setCell ⟨wr.heap.size,3,none⟩ (.slice a5 x3.length c5)).alloc (.cells #[.int .i64 z0,.int .i64 z1,.string b2,.slice a5 x3.length c5] 182))) hflatk (fun b hb=>B7.block b (own_lt hflatk b hb))
   have hown5:=H5.out.1
   rw [Nat.zero_add,List.nil_append] at hown5
   have own5:=own_atoms hown5 (HX.out.2.2.2.2.1.len IntR.len) H5.out.2.2.2 (fun i j r d hr hj=>(HX.out.2.2.2.2.1 i r hr).atoms j d hj)
   have hne5:∀ b,Value.ownBlock (.slice a5 x3.length c5)=some b→b≠wr.heap.size:=fun b hb e=>by
    subst e
    rcases H5.out.2.2.1 with h | h
    ·rw [h] at hb; simp [Value.ownBlock] at hb
    ·rw [h] at hb; simp at hb; omega
   have own7:Own ((w5.setCell ⟨wr.heap.size,3,none⟩ (.slice a5 x3.length c5)).alloc (.cells #[.int .i64 z0,.int .i64 z1,.string b2,.slice a5 x3.length c5] 182)) (.slice a5 x3.length c5) (.row x3) (Btw wr.heap.size ((w5.setCell ⟨wr.heap.size,3,none⟩ (.slice a5 x3.length c5)).alloc (.cells #[.int .i64 z0,.int .i64 z1,.string b2,.slice a5 x3.length c5] 182)).heap.size):=by
    refine (own5.dom.moved (w':=((w5.setCell ⟨wr.heap.size,3,none⟩ (.slice a5 x3.length c5)).alloc (.cells #[.int .i64 z0,.int .i64 z1,.string b2,.slice a5 x3.length c5] 182))) (fun b hb hlt => ?_)).mono (fun b hb=>⟨hb.1.1,by simp; have:=hb.2; omega⟩)
    rw [Below.heap_alloc _ _ _ (by simpa using hlt),Below.heap_setCell _ _ _ _ (by simpa using hne5 b hb.1.2)]
   have ofs:OFs ((w5.setCell ⟨wr.heap.size,3,none⟩ (.slice a5 x3.length c5)).alloc (.cells #[.int .i64 z0,.int .i64 z1,.string b2,.slice a5 x3.length c5] 182)) [.int .i64 z0,.int .i64 z1,.string b2,.slice a5 x3.length c5] [.int z0,.int z1,.str b2,.row x3] (Btw wr.heap.size ((w5.setCell ⟨wr.heap.size,3,none⟩ (.slice a5 x3.length c5)).alloc (.cells #[.int .i64 z0,.int .i64 z1,.string b2,.slice a5 x3.length c5] 182)).heap.size):=(OFs.int HX.out.2.2.2.2.2.2.2.1 (OFs.int HX.out.2.2.2.2.2.2.2.2.1 (OFs.str HX.out.2.2.2.2.2.2.2.2.2.1 (OFs.cons own7 (show OFs _ [] [] _ from trivial) B7.size (Nat.le_refl _)))))
   have hnews:∀ (j:Nat) (u:Value),([.int .i64 z0,.int .i64 z1,.string b2,.slice a5 x3.length c5]:List Value)[j]? = some u→((w5.setCell ⟨wr.heap.size,3,none⟩ (.slice a5 x3.length c5)).alloc (.cells #[.int .i64 z0,.int .i64 z1,.string b2,.slice a5 x3.length c5] 182)).cell? ((⟨w5.heap.size,0,none⟩:Addr).add j)=some u:=fun j u hj=>by
    rw [addr_add,Nat.zero_add]
    have hb7:=(MapKept.heap_alloc (w5.setCell ⟨wr.heap.size,3,none⟩ (.slice a5 x3.length c5)) (.cells #[.int .i64 z0,.int .i64 z1,.string b2,.slice a5 x3.length c5] 182)).1
    rw [show (w5.setCell ⟨wr.heap.size,3,none⟩ (.slice a5 x3.length c5)).heap.size=w5.heap.size by simp] at hb7
    rw [cell_of_block hb7]
    simpa using hj
   have h1:∀ u ∈ ([.int .i64 z0,.int .i64 z1,.string b2,.slice a5 x3.length c5]:List Value),u.oneCell'=true:=by intro u hu; simp at hu; rcases hu with rfl | rfl | rfl | rfl <;> rfl
   have H7:=(show Hid (_∧_∧_∧_∧_∧_) from ⟨R7,hnews,h1,B7,ofs,hflatk⟩)
   clear B5 B7 R7 hnews h1 hown5 own5 hne5 own7 ofs hflatk
   unfold Hid
   go_wp2_with (at_builtin; refine wpList_append_own_at _ rfl _ _ 38 rfl (wA.heap.size+1) 182 iX _ 4 56 Tryz.underlying38 hiX hzX0 hzX1 hzX2 rfl (by decide) (.slice oa k oc) k _ rfl H7.out.1 ⟨w5.heap.size,0,none⟩ 1 1 [.int .i64 z0,.int .i64 z1,.string b2,.slice a5 x3.length c5] rfl rfl H7.out.2.1 H7.out.2.2.1 (by unfold maxLen; omega) (by omega) (Nat.le_trans hlo H7.out.2.2.2.1.size) ?_; intro v8 w8 hown8 hgrow8 hnil8 hat8; obtain ⟨a8,c8,rfl⟩:=own_form hown8; have H8:=(show Hid (_∧_∧_) from ⟨Grow.next HG.out H7.out.2.2.2.1 hlo HX.out.2.2.2.2.2.1 HP.out.2.1 H7.out.2.2.2.2.1 H7.out.2.2.2.2.2 hown8 hgrow8 hat8,Below.grown (HX.out.2.2.2.2.2.2.1.trans (H7.out.2.2.2.1.mono HX.out.2.2.2.2.2.2.1.size)) hgrow8 (Nat.le_trans HX.out.2.2.2.2.2.2.1.size H7.out.2.2.2.1.size) (fun b hb=>Nat.le_trans hwlo (own_type H7.out.1 b hb).1),Below.grown (H7.out.2.2.2.1.mono hlo) hgrow8 (Nat.le_trans hlo H7.out.2.2.2.1.size) (fun b hb=>(own_type H7.out.1 b hb).1)⟩); have ob8:=(H8.out.2.2.block _ hoblo).trans HOB.out; have yo8:w8.cell? ⟨wA.heap.size,0,none⟩=some (.slice oa k oc):=(by rw [cell_of_block ob8]; rfl); have fo8:w8.frozen? ⟨wA.heap.size,0,none⟩=false:=unfrozen_of_block ob8 0; clear hown8 hgrow8 hnil8 hat8)
   refine ⟨⟨k+1,a8,c8,by omega,by go_num,H8.out.1.moved (fun b hb _=>Below.heap_setCell _ _ _ _ (by simp; omega)) (by simp),?_,?_⟩,by simp [intOf]; omega⟩
   ·have ob8:=(H8.out.2.2.block _ hoblo).trans HOB.out
    have:=block_setCell (i:=0) ob8 (.slice a8 (k+1) c8)
    simp only [List.setIfInBounds_toArray,List.set_cons_zero] at this
    exact this
   ·exact (HBs.out.trans (H8.out.2.2.mono (by omega))).setCell (p:=⟨wA.heap.size,0,none⟩) (Nat.le_refl _) _
  ·obtain rfl:k=X0.length:=by omega
   have ob1:=(HBs.out.block (w.heap.size+1) (by omega)).trans HSs.out.2.1
   have U0:=cb HOB.out 0 (.slice oa X0.length oc) rfl
   have U1:=cb HOB.out 1 (.slice aA X1.length cA) rfl
   have D0:=cb ob1 0 (.slice none 0 0) rfl
   have D1:=cb ob1 1 (.slice none 0 0) rfl
   have G0:=ub ob1 0
   have G1:=ub ob1 1
   have oK:Own wr (.slice aA X1.length cA) (.row X1) (Btw (w.heap.size+2) wA.heap.size):=HSs.out.2.2.2.1.moved (fun b hb _=>HBs.out.block b hb.2)
   have key:OFs wr [.slice oa X0.length oc,.slice aA X1.length cA] [.row X0,.row X1] (Btw (w.heap.size+2) wr.heap.size) :=
    ⟨_,_,fun b hb=>⟨by have:=hb.1; omega,hb.2⟩,fun b hb=>⟨hb.1,by have:=hb.2; omega⟩,fun b hb hb'=>by have:=hb.1; have:=hb'.2; omega,HG.out.done HT.out.2.1,⟨_,fun _=>False,fun _ hb=>hb,fun _ hf=>hf.elim,fun _ _ hf=>hf,oK,trivial⟩⟩
   have HF:=(show Hid (_∧_) from ⟨key,hbw⟩)
   clear key oK hbw ob ob1 HG HBs HOB
   go_wp2
   refine bodyPost_ret (v:=.agg #[.slice oa X0.length oc,.slice aA X1.length cA]) (by simp [results,Tryz.results80,go_sem,D0,D1]) rfl ⟨_,rfl,?_,?_⟩
   ·refine (HF.out.1.moved (fun b hb' _ => ?_)).mono (fun b hb'=>⟨by have:=hb'.1; omega,by have:=hb'.2; simpa using this⟩)
    have e1:∀ (j:Nat) (u:Value) (W:World),(W.setCell ⟨w.heap.size+1,j,none⟩ u).heap[b]? = W.heap[b]? := fun j u W=>Below.heap_setCell W _ u b (by have:=hb'.1; simp; omega)
    simp only [e1]
   ·iterate 2 refine Below.setCell ?_ (by simp) _
    exact HF.out.2
theorem infoAFrame:(Tryz.prog.info? 184).map (fun i=>(i.zero,i.size,i.bytes))=some (some (.agg #[.int .i64 0,.int .i64 0,.int .i64 0,.slice none 0 0]),4,48):=by kernel_rfl
theorem l06CopyThread_dt:ToC 83 ThreadR:=by
 rintro vs r S w ⟨Z0,Z1,X2,X3,T4,rfl,Q2,Q3⟩ h hb
 obtain ⟨v0,v1,v2,v3,v4,rfl,A0,A1,A2,A3,A4⟩:=fs5 h
 obtain ⟨rfl,I0⟩:=A0.ofInt
 obtain ⟨rfl,I1⟩:=A1.ofInt
 obtain ⟨P2,C2,rfl⟩:=A2.form
 obtain ⟨P3,C3,rfl⟩:=A3.form
 obtain ⟨rfl,I4⟩:=A4.ofStr
 rw [show Dt.bR [.int Z0,.int Z1,.row X2,.row X3,.str T4]=Dt.bS X2+Dt.bS X3+T4.size from by simp [Dt.bR,Dt.bulk]; try omega] at hb
 have hl2:=bulkS_len X2
 have hl3:=bulkS_len X3
 have hBA:=@bulkS_at X3
 obtain ⟨iI,hiI,hzI0,hzI1,hzI2⟩:=info_parts infoAI
 obtain ⟨iX,hiX,hzX0,hzX1,hzX2⟩:=info_parts infoAFrame
 have HI:=(show Hid (_∧_∧_) from ⟨I0,I1,I4⟩)
 have HT:=(show Hid (_∧_∧_) from ⟨Q3,Q3.len FrameR.len,A3⟩)
 obtain ⟨W1,hW1⟩:∃ W1,W1=((w.alloc (.cells #[.int .i64 Z0,.int .i64 Z1,.slice P2 X2.length C2,.slice P3 X3.length C3,.string T4] 145)).alloc (.cells #[.int .i64 0,.int .i64 0,.slice none 0 0,.slice none 0 0,.string ⟨#[]⟩] 145)).alloc (.cells #[] 3):=⟨_,rfl⟩
 have B1:Below w.heap.size w W1:=by rw [hW1]; exact (((Below.refl _ w).alloc (Nat.le_refl _) _).alloc (by simp) _).alloc (by simp; omega) _
 have s1:W1.heap.size=w.heap.size+3:=by rw [hW1]; simp
 have O0:W1.heap[w.heap.size]? = some (.cells #[.int .i64 Z0,.int .i64 Z1,.slice P2 X2.length C2,.slice P3 X3.length C3,.string T4] 145):=by rw [hW1]; exact (Below.heap_alloc _ _ _ (by simp; omega)).trans ((Below.heap_alloc _ _ _ (by simp)).trans (MapKept.heap_alloc w _).1)
 have O1:W1.heap[w.heap.size+1]? = some (.cells #[.int .i64 0,.int .i64 0,.slice none 0 0,.slice none 0 0,.string ⟨#[]⟩] 145):=by
  rw [hW1]
  have:=(MapKept.heap_alloc (w.alloc (.cells #[.int .i64 Z0,.int .i64 Z1,.slice P2 X2.length C2,.slice P3 X3.length C3,.string T4] 145)) (.cells #[.int .i64 0,.int .i64 0,.slice none 0 0,.slice none 0 0,.string ⟨#[]⟩] 145)).1
  exact (Below.heap_alloc _ _ _ (by simp)).trans (by simpa using this)
 have R1:W1.ownsRow (w.heap.size+2) 3 1 (.slice (some ⟨w.heap.size+1+1,0,none⟩) 0 0) 0 []:=by
  rw [hW1]
  have:=World.ownsRow_made (size:=1) (e:=3) ((w.alloc (.cells #[.int .i64 Z0,.int .i64 Z1,.slice P2 X2.length C2,.slice P3 X3.length C3,.string T4] 145)).alloc (.cells #[.int .i64 0,.int .i64 0,.slice none 0 0,.slice none 0 0,.string ⟨#[]⟩] 145)) #[] 0 (show w.heap.size+2≤((w.alloc (.cells #[.int .i64 Z0,.int .i64 Z1,.slice P2 X2.length C2,.slice P3 X3.length C3,.string T4] 145)).alloc (.cells #[.int .i64 0,.int .i64 0,.slice none 0 0,.slice none 0 0,.string ⟨#[]⟩] 145)).heap.size by simp) (Nat.zero_le _) (by simp)
  simpa using this
 have HX0:=(show Hid (_∧_∧_∧_∧_∧_∧_) from ⟨R1,A2.up B1,B1,O0,O1,s1,Q2⟩)
 have HW1:=(show Hid (_∧True) from ⟨hW1,trivial⟩)
 clear B1 s1 O0 O1 R1 hW1 A0 A1 A2 A3 A4 I0 I1 I4 Q2 Q3 h
 go_enter Tryz.func83,Tryz.ntmps83
 go_wp2_with (at_builtin; rw [← HW1.out.1]; refine wpList_append_fat rfl _ _ 23 rfl (w.heap.size+2) 3 iI (.int .i64 0) 1 8 Tryz.underlying23 hiI hzI0 hzI1 hzI2 rfl (by decide) (.slice (some ⟨w.heap.size+1+1,0,none⟩) 0 0) 0 _ rfl HX0.out.1 _ rfl X2 S HX0.out.2.1 (HX0.out.2.2.2.2.2.2.len IntR.len) (by unfold maxLen; omega) (by omega) (by have:=HX0.out.2.2.2.2.2.1; omega) ?_; intro vA wA flatA hownA hgrowA hatA hfA; have HA5:=(show Hid (_∧_∧_∧_) from ⟨hownA,hgrowA,hatA,hfA⟩); rw [Nat.zero_add] at hownA; obtain ⟨aA,cA,rfl⟩:=own_form hownA; clear hownA hgrowA hatA hfA; refine Hid.out ?_)
 obtain ⟨R1,F1,B1,O0,O1,s1,Q2⟩:=HX0.out
 obtain ⟨hownA,hgrowA,hatA,hfA⟩:=HA5.out
 have OA0:=(hgrowA.block w.heap.size (lh O0) (fun e=>by simp [Value.ownBlock] at e; omega)).trans O0
 have OA1:=(hgrowA.block (w.heap.size+1) (lh O1) (fun e=>by simp [Value.ownBlock] at e)).trans O1
 have BA:Below w.heap.size w wA:=Below.grown B1 hgrowA B1.size (fun b hb=>by have:=(own_type R1 b hb).1; omega)
 have hsA:w.heap.size+3≤wA.heap.size:=by have:=hgrowA.size; omega
 rw [Nat.zero_add,List.nil_append] at hownA
 have ownA:=own_atoms hownA (Q2.len IntR.len) hfA (fun i j r d hr hj=>(Q2 i r hr).atoms j d hj)
 obtain ⟨Ws,hWs⟩:∃ Ws,Ws=(wA.setCell ⟨w.heap.size,2,none⟩ (.slice aA X2.length cA)).alloc (.cells #[] 184):=⟨_,rfl⟩
 have ss:Ws.heap.size=wA.heap.size+1:=by rw [hWs]; simp
 have eS:∀ b,b<wA.heap.size→b≠w.heap.size→Ws.heap[b]? = wA.heap[b]? := fun b hb hne=>by
  rw [hWs,Below.heap_alloc _ _ _ (by simpa using hb),Below.heap_setCell _ _ _ _ (by simpa using hne)]
 have OS0:Ws.heap[w.heap.size]? = some (.cells #[.int .i64 Z0,.int .i64 Z1,.slice aA X2.length cA,.slice P3 X3.length C3,.string T4] 145):=by
  rw [hWs,Below.heap_alloc _ _ _ (by simp; omega)]
  have:=block_setCell (i:=2) OA0 (.slice aA X2.length cA)
  simpa only [List.setIfInBounds_toArray,List.set_cons_zero,List.set_cons_succ] using this
 have OS1:=(eS (w.heap.size+1) (by omega) (by omega)).trans OA1
 have BS:Below w.heap.size w Ws:=by rw [hWs]; exact (BA.setCell (p:=⟨w.heap.size,2,none⟩) (Nat.le_refl _) _).alloc (by simp; omega) _
 have ownS:Own Ws (.slice aA X2.length cA) (.row X2) (Btw (w.heap.size+2) wA.heap.size):=(ownA.dom.moved (fun b hb hlt=>eS b hlt (by have:=hb.1.1; omega))).mono (fun b hb=>⟨hb.1.1,hb.2⟩)
 have GS:Grow Ws wA.heap.size 184 4 (.slice (some ⟨wA.heap.size,0,none⟩) 0 0) 0 X3:=by
  refine Grow.start ?_ X3
  rw [hWs]
  have:=World.ownsRow_made (size:=4) (e:=184) (wA.setCell ⟨w.heap.size,2,none⟩ (.slice aA X2.length cA)) #[] 0 (show wA.heap.size≤_ by simp) (Nat.zero_le _) (by simp)
  simpa using this
 have yA2:=cb OA0 2 (.slice P2 X2.length C2) rfl
 have fA2:=ub OA0 2
 have HSs:=(show Hid (_∧_∧_∧_∧_∧_) from ⟨OS0,OS1,BS,ownS,GS,ss⟩)
 have HWs:=(show Hid (_∧True) from ⟨hWs,trivial⟩)
 clear R1 F1 B1 O0 O1 s1 Q2 hownA hgrowA hatA hfA OA0 OA1 BA ownA hWs eS OS0 OS1 BS ownS GS ss HA5 HX0 HW1
 unfold Hid
 go_wp2
 go_loopw [3,4] (fun ov i wr=>∃ (k:Nat) (oa:Option Addr) (oc:Nat),k≤X3.length∧i = .int .i64 k∧ov = .slice oa k oc∧Hid (Grow wr wA.heap.size 184 4 (.slice oa k oc) k X3)∧Hid (Below wA.heap.size Ws wr)) (fun _ i _=>X3.length - (intOf i).toNat)
 case atStart =>
  rw [← HWs.out.1]
  exact ⟨0,_,_,Nat.zero_le _,rfl,rfl,HSs.out.2.2.2.2.1,Below.refl _ _⟩
 case round =>
  clear HWs yA2 fA2
  obtain ⟨k,oa,oc,hk,rfl,rfl,HG,HBs⟩:=hrel
  have hlw0:w.heap.size<wA.heap.size:=by omega
  have hbw:Below w.heap.size w wr:=HSs.out.2.2.1.trans (HBs.out.mono (by omega))
  have ob:=(HBs.out.block w.heap.size hlw0).trans HSs.out.1
  have Y3:=cb ob 3 (.slice P3 X3.length C3) rfl
  by_cases hkl:k<X3.length
  ·have he:=List.getElem?_eq_getElem hkl
   have hbk:=hBA he
   generalize X3[k]=r at *
   obtain ⟨z0,z1,z2,x3,rfl,q3⟩:=HT.out.1 k r he
   obtain ⟨b,off,rfl,-,hlb,us,hhus⟩:=HT.out.2.2.at he
   have c0:w.cell? ⟨b,off+k * 4,none⟩=some (us 0):=(hhus 0 _ rfl).1
   have a0:=(hhus 0 _ rfl).2
   have c1:w.cell? ⟨b,off+k * 4+1,none⟩=some (us 1):=(hhus 1 _ rfl).1
   have a1:=(hhus 1 _ rfl).2
   have c2:w.cell? ⟨b,off+k * 4+2,none⟩=some (us 2):=(hhus 2 _ rfl).1
   have a2:=(hhus 2 _ rfl).2
   have c3:w.cell? ⟨b,off+k * 4+3,none⟩=some (us 3):=(hhus 3 _ rfl).1
   have a3:=(hhus 3 _ rfl).2
   clear hhus
   obtain ⟨a0e,a0r⟩:=a0.ofInt
   rw [a0e] at c0 a0
   clear a0e
   obtain ⟨a1e,a1r⟩:=a1.ofInt
   rw [a1e] at c1 a1
   clear a1e
   obtain ⟨a2e,a2r⟩:=a2.ofInt
   rw [a2e] at c2 a2
   clear a2e
   obtain ⟨p3,d3,a3e⟩:=a3.form
   rw [a3e] at c3 a3
   clear a3e
   rw [← hbw.cell (by exact hlb)] at c0 c1 c2 c3
   have hlw:b<wr.heap.size:=Nat.lt_of_lt_of_le hlb hbw.size
   have hlt':((k:Nat):Int)<((X3.length:Nat):Int):=by omega
   have hlo:wA.heap.size≤wr.heap.size:=by have:=HBs.out.size; have:=HSs.out.2.2.2.2.2; omega
   have hwlo:w.heap.size≤wA.heap.size:=by omega
   have HP:=HT
   clear hBA ob
   have hkl3:x3.length≤1048576:=by
    have h1:=bulkS_len x3
    have h2:Dt.bS x3≤Dt.bR [.int z0,.int z1,.int z2,.row x3]:=by simp [Dt.bR,Dt.bulk]
    omega
   have B2:Below wr.heap.size wr ((wr.alloc (.cells #[.int .i64 z0,.int .i64 z1,.int .i64 z2,.slice p3 x3.length d3] 184)).alloc (.cells #[] 3)):=((Below.refl _ wr).alloc (Nat.le_refl _) _).alloc (by simp) _
   have R2:((wr.alloc (.cells #[.int .i64 z0,.int .i64 z1,.int .i64 z2,.slice p3 x3.length d3] 184)).alloc (.cells #[] 3)).ownsRow wr.heap.size 3 1 (.slice (some ⟨wr.heap.size+1,0,none⟩) 0 0) 0 []:=by
    have:=World.ownsRow_made (size:=1) (e:=3) (wr.alloc (.cells #[.int .i64 z0,.int .i64 z1,.int .i64 z2,.slice p3 x3.length d3] 184)) #[] 0 (show wr.heap.size≤(wr.alloc (.cells #[.int .i64 z0,.int .i64 z1,.int .i64 z2,.slice p3 x3.length d3] 184)).heap.size by simp) (Nat.zero_le _) (by simp)
    simpa using this
   have O2:((wr.alloc (.cells #[.int .i64 z0,.int .i64 z1,.int .i64 z2,.slice p3 x3.length d3] 184)).alloc (.cells #[] 3)).heap[wr.heap.size]? = some (.cells #[.int .i64 z0,.int .i64 z1,.int .i64 z2,.slice p3 x3.length d3] 184):=(Below.heap_alloc _ _ _ (by simp)).trans (MapKept.heap_alloc wr _).1
   have HX:=(show Hid (_∧_∧_∧_∧_∧_∧_∧_∧_∧_∧_) from ⟨R2,(a3.up hbw).up B2,B2,O2,q3,he,hbw,a0r,a1r,a2r,trivial⟩)
   clear B2 R2 O2 he hbw q3 a0 a1 a2 a3 a0r a1r a2r
   go_wp2_with (at_builtin; refine wpList_append_fat rfl _ _ 23 rfl wr.heap.size 3 iI (.int .i64 0) 1 8 Tryz.underlying23 hiI hzI0 hzI1 hzI2 rfl (by decide) (.slice (some ⟨wr.heap.size+1,0,none⟩) 0 0) 0 _ rfl HX.out.1 _ rfl x3 S HX.out.2.1 (HX.out.2.2.2.2.1.len IntR.len) (by unfold maxLen; omega) (by omega) HX.out.2.2.1.size ?_; intro v5 w5 flat5 hown5 hgrow5 hat5 hf5; have H5:=(show Hid (_∧_∧_∧_) from ⟨hown5,hgrow5,hat5,hf5⟩); rw [Nat.zero_add] at hown5; obtain ⟨a5,c5,rfl⟩:=own_form hown5; have o5:=(hgrow5.block wr.heap.size (lh HX.out.2.2.2.1) (fun e=>(by simp [Value.ownBlock] at e))).trans HX.out.2.2.2.1; have y0:w5.cell? ⟨wr.heap.size,0,none⟩=some (.int .i64 z0):=(by rw [cell_of_block o5]; rfl); have y1:w5.cell? ⟨wr.heap.size,1,none⟩=some (.int .i64 z1):=(by rw [cell_of_block o5]; rfl); have y2:w5.cell? ⟨wr.heap.size,2,none⟩=some (.int .i64 z2):=(by rw [cell_of_block o5]; rfl); have y3:w5.cell? ⟨wr.heap.size,3,none⟩=some (.slice p3 x3.length d3):=(by rw [cell_of_block o5]; rfl); have f3:w5.frozen? ⟨wr.heap.size,3,none⟩=false:=unfrozen_of_block o5 3; have HO5:=(show Hid (_∧True) from ⟨o5,trivial⟩); clear hown5 hgrow5 hat5 hf5 o5; refine Hid.out ?_)
   have B5:Below wr.heap.size wr w5:=Below.grown HX.out.2.2.1 H5.out.2.1 HX.out.2.2.1.size (fun b hb=>(own_type HX.out.1 b hb).1)
   have B7:Below wr.heap.size wr ((w5.setCell ⟨wr.heap.size,3,none⟩ (.slice a5 x3.length c5)).alloc (.cells #[.int .i64 z0,.int .i64 z1,.int .i64 z2,.slice a5 x3.length c5] 184)):=(B5.setCell (p:=⟨wr.heap.size,3,none⟩) (Nat.le_refl _) _).alloc (by simp; exact B5.size) _
   obtain ⟨flatk,hflatk⟩:=HG.out.row
   have R7:=own_moved (W':=((w5.setCell ⟨wr.heap.size,3,none⟩ (.slice a5 x3.length c5)).alloc (.cells #[.int .i64 z0,.int .i64 z1,.int .i64 z2,.slice a5 x3.length c5] 184))) hflatk (fun b hb=>B7.block b (own_lt hflatk b hb))
   have hown5:=H5.out.1
   rw [Nat.zero_add,List.nil_append] at hown5
   have own5:=own_atoms hown5 (HX.out.2.2.2.2.1.len IntR.len) H5.out.2.2.2 (fun i j r d hr hj=>(HX.out.2.2.2.2.1 i r hr).atoms j d hj)
   have hne5:∀ b,Value.ownBlock (.slice a5 x3.length c5)=some b→b≠wr.heap.size:=fun b hb e=>by
    subst e
    rcases H5.out.2.2.1 with h | h
    ·rw [h] at hb; simp [Value.ownBlock] at hb
    ·rw [h] at hb; simp at hb; omega
   have own7:Own ((w5.setCell ⟨wr.heap.size,3,none⟩ (.slice a5 x3.length c5)).alloc (.cells #[.int .i64 z0,.int .i64 z1,.int .i64 z2,.slice a5 x3.length c5] 184)) (.slice a5 x3.length c5) (.row x3) (Btw wr.heap.size ((w5.setCell ⟨wr.heap.size,3,none⟩ (.slice a5 x3.length c5)).alloc (.cells #[.int .i64 z0,.int .i64 z1,.int .i64 z2,.slice a5 x3.length c5] 184)).heap.size):=by
    refine (own5.dom.moved (w':=((w5.setCell ⟨wr.heap.size,3,none⟩ (.slice a5 x3.length c5)).alloc (.cells #[.int .i64 z0,.int .i64 z1,.int .i64 z2,.slice a5 x3.length c5] 184))) (fun b hb hlt => ?_)).mono (fun b hb=>⟨hb.1.1,by simp; have:=hb.2; omega⟩)
    rw [Below.heap_alloc _ _ _ (by simpa using hlt),Below.heap_setCell _ _ _ _ (by simpa using hne5 b hb.1.2)]
   have ofs:OFs ((w5.setCell ⟨wr.heap.size,3,none⟩ (.slice a5 x3.length c5)).alloc (.cells #[.int .i64 z0,.int .i64 z1,.int .i64 z2,.slice a5 x3.length c5] 184)) [.int .i64 z0,.int .i64 z1,.int .i64 z2,.slice a5 x3.length c5] [.int z0,.int z1,.int z2,.row x3] (Btw wr.heap.size ((w5.setCell ⟨wr.heap.size,3,none⟩ (.slice a5 x3.length c5)).alloc (.cells #[.int .i64 z0,.int .i64 z1,.int .i64 z2,.slice a5 x3.length c5] 184)).heap.size):=(OFs.int HX.out.2.2.2.2.2.2.2.1 (OFs.int HX.out.2.2.2.2.2.2.2.2.1 (OFs.int HX.out.2.2.2.2.2.2.2.2.2.1 (OFs.cons own7 (show OFs _ [] [] _ from trivial) B7.size (Nat.le_refl _)))))
   have hnews:∀ (j:Nat) (u:Value),([.int .i64 z0,.int .i64 z1,.int .i64 z2,.slice a5 x3.length c5]:List Value)[j]? = some u→((w5.setCell ⟨wr.heap.size,3,none⟩ (.slice a5 x3.length c5)).alloc (.cells #[.int .i64 z0,.int .i64 z1,.int .i64 z2,.slice a5 x3.length c5] 184)).cell? ((⟨w5.heap.size,0,none⟩:Addr).add j)=some u:=fun j u hj=>by
    rw [addr_add,Nat.zero_add]
    have hb7:=(MapKept.heap_alloc (w5.setCell ⟨wr.heap.size,3,none⟩ (.slice a5 x3.length c5)) (.cells #[.int .i64 z0,.int .i64 z1,.int .i64 z2,.slice a5 x3.length c5] 184)).1
    rw [show (w5.setCell ⟨wr.heap.size,3,none⟩ (.slice a5 x3.length c5)).heap.size=w5.heap.size by simp] at hb7
    rw [cell_of_block hb7]
    simpa using hj
   have h1:∀ u ∈ ([.int .i64 z0,.int .i64 z1,.int .i64 z2,.slice a5 x3.length c5]:List Value),u.oneCell'=true:=by intro u hu; simp at hu; rcases hu with rfl | rfl | rfl | rfl <;> rfl
   have H7:=(show Hid (_∧_∧_∧_∧_∧_) from ⟨R7,hnews,h1,B7,ofs,hflatk⟩)
   clear B5 B7 R7 hnews h1 hown5 own5 hne5 own7 ofs hflatk
   unfold Hid
   go_wp2_with (at_builtin; refine wpList_append_own_at _ rfl _ _ 143 rfl wA.heap.size 184 iX _ 4 48 Tryz.underlying143 hiX hzX0 hzX1 hzX2 rfl (by decide) (.slice oa k oc) k _ rfl H7.out.1 ⟨w5.heap.size,0,none⟩ 1 1 [.int .i64 z0,.int .i64 z1,.int .i64 z2,.slice a5 x3.length c5] rfl rfl H7.out.2.1 H7.out.2.2.1 (by unfold maxLen; omega) (by omega) (Nat.le_trans hlo H7.out.2.2.2.1.size) ?_; intro v8 w8 hown8 hgrow8 hnil8 hat8; obtain ⟨a8,c8,rfl⟩:=own_form hown8; have H8:=(show Hid (_∧_∧_) from ⟨Grow.next HG.out H7.out.2.2.2.1 hlo HX.out.2.2.2.2.2.1 HP.out.2.1 H7.out.2.2.2.2.1 H7.out.2.2.2.2.2 hown8 hgrow8 hat8,Below.grown (HX.out.2.2.2.2.2.2.1.trans (H7.out.2.2.2.1.mono HX.out.2.2.2.2.2.2.1.size)) hgrow8 (Nat.le_trans HX.out.2.2.2.2.2.2.1.size H7.out.2.2.2.1.size) (fun b hb=>Nat.le_trans hwlo (own_type H7.out.1 b hb).1),Below.grown (H7.out.2.2.2.1.mono hlo) hgrow8 (Nat.le_trans hlo H7.out.2.2.2.1.size) (fun b hb=>(own_type H7.out.1 b hb).1)⟩); clear hown8 hgrow8 hnil8 hat8)
   exact ⟨⟨k+1,_,_,by omega,by go_num,rfl,H8.out.1,HBs.out.trans H8.out.2.2⟩,by simp [intOf]; omega⟩
  ·obtain rfl:k=X3.length:=by omega
   have ob1:=(HBs.out.block (w.heap.size+1) (by omega)).trans HSs.out.2.1
   have Y0:=cb ob 0 (.int .i64 Z0) rfl
   have Y1:=cb ob 1 (.int .i64 Z1) rfl
   have Y2:=cb ob 2 (.slice aA X2.length cA) rfl
   have Y4:=cb ob 4 (.string T4) rfl
   have F3:=ub ob 3
   have D0:=cb ob1 0 (.int .i64 0) rfl
   have D1:=cb ob1 1 (.int .i64 0) rfl
   have D2:=cb ob1 2 (.slice none 0 0) rfl
   have D3:=cb ob1 3 (.slice none 0 0) rfl
   have D4:=cb ob1 4 (.string ⟨#[]⟩) rfl
   have G0:=ub ob1 0
   have G1:=ub ob1 1
   have G2:=ub ob1 2
   have G3:=ub ob1 3
   have G4:=ub ob1 4
   have hszr:wA.heap.size≤wr.heap.size:=by have:=HBs.out.size; have:=HSs.out.2.2.2.2.2; omega
   have oK:Own wr (.slice aA X2.length cA) (.row X2) (Btw (w.heap.size+2) wA.heap.size):=HSs.out.2.2.2.1.moved (fun b hb _=>HBs.out.block b hb.2)
   have key:OFs wr [.int .i64 Z0,.int .i64 Z1,.slice aA X2.length cA,.slice oa X3.length oc,.string T4] [.int Z0,.int Z1,.row X2,.row X3,.str T4] (Btw (w.heap.size+2) wr.heap.size) :=
    OFs.int HI.out.1 (OFs.int HI.out.2.1 (OFs.cons oK (OFs.cons (HG.out.done HT.out.2.1) (OFs.str HI.out.2.2 (show OFs _ [] [] _ from trivial)) hszr (Nat.le_refl _)) (by omega) hszr))
   have HF:=(show Hid (_∧_) from ⟨key,hbw⟩)
   clear key oK hbw ob ob1 HG HBs
   go_wp2
   refine bodyPost_ret (v:=.agg #[.int .i64 Z0,.int .i64 Z1,.slice aA X2.length cA,.slice oa X3.length oc,.string T4]) (by simp [results,Tryz.results83,go_sem,D0,D1,D2,D3,D4]) rfl ⟨_,rfl,?_,?_⟩
   ·refine (HF.out.1.moved (fun b hb' _ => ?_)).mono (fun b hb'=>⟨by have:=hb'.1; omega,by have:=hb'.2; simpa using this⟩)
    have e1:∀ (j:Nat) (u:Value) (W:World),(W.setCell ⟨w.heap.size+1,j,none⟩ u).heap[b]? = W.heap[b]? := fun j u W=>Below.heap_setCell W _ u b (by have:=hb'.1; simp; omega)
    have e2:∀ (j:Nat) (u:Value) (W:World),(W.setCell ⟨w.heap.size,j,none⟩ u).heap[b]? = W.heap[b]? := fun j u W=>Below.heap_setCell W _ u b (by have:=hb'.1; simp; omega)
    simp only [e1,e2]
   ·iterate 6 refine Below.setCell ?_ (by simp) _
    exact HF.out.2
theorem infoACell:(Tryz.prog.info? 65).map (fun i=>(i.zero,i.size,i.bytes))=some (some (.agg #[.int .i64 0,.int .i64 0,.int .i64 0,.slice none 0 0]),4,48):=by kernel_rfl
theorem l05Copy_dt:ToS 81 CellR:=by
 intro v xs S w hP h hb
 have hlen:=bulkS_len xs
 have hBA:=@bulkS_at xs
 obtain ⟨iI,hiI,hzI0,hzI1,hzI2⟩:=info_parts infoAI
 obtain ⟨iX,hiX,hzX0,hzX1,hzX2⟩:=info_parts infoACell
 have HP:=(show Hid (_∧_∧_) from ⟨hP,hP.len CellR.len,h⟩)
 obtain ⟨a,cap,rfl⟩:=h.form
 have G0:Grow (w.alloc (.cells #[] 65)) w.heap.size 65 4 (.slice (some ⟨w.heap.size,0,none⟩) 0 0) 0 xs:=Grow.start (World.ownsRow_made (size:=4) (e:=65) w #[] 0 (Nat.le_refl _) (Nat.zero_le _) (by simp)) xs
 have H0:=(show Hid (_∧_) from ⟨G0,(Below.refl _ w).alloc (Nat.le_refl _) (.cells #[] 65)⟩)
 clear h hP G0
 go_enter Tryz.func81,Tryz.ntmps81
 go_wp2
 go_loopw [3,4] (fun ov i wr=>∃ (k:Nat) (oa:Option Addr) (oc:Nat),k≤xs.length∧i = .int .i64 k∧ov = .slice oa k oc∧Hid (Grow wr w.heap.size 65 4 (.slice oa k oc) k xs)∧Below w.heap.size w wr) (fun _ i _=>xs.length - (intOf i).toNat)
 case atStart=>exact ⟨0,_,_,Nat.zero_le _,rfl,rfl,H0.out.1,H0.out.2⟩
 case round =>
  clear H0
  obtain ⟨k,oa,oc,hk,rfl,rfl,HG,hbw⟩:=hrel
  by_cases hkl:k<xs.length
  ·have he:=List.getElem?_eq_getElem hkl
   have hbk:=hBA he
   generalize xs[k]=r at *
   obtain ⟨z0,z1,z2,x3,rfl,q3⟩:=HP.out.1 k r he
   obtain ⟨b,off,rfl,-,hlb,us,hhus⟩:=HP.out.2.2.at he
   have c0:w.cell? ⟨b,off+k * 4,none⟩=some (us 0):=(hhus 0 _ rfl).1
   have a0:=(hhus 0 _ rfl).2
   have c1:w.cell? ⟨b,off+k * 4+1,none⟩=some (us 1):=(hhus 1 _ rfl).1
   have a1:=(hhus 1 _ rfl).2
   have c2:w.cell? ⟨b,off+k * 4+2,none⟩=some (us 2):=(hhus 2 _ rfl).1
   have a2:=(hhus 2 _ rfl).2
   have c3:w.cell? ⟨b,off+k * 4+3,none⟩=some (us 3):=(hhus 3 _ rfl).1
   have a3:=(hhus 3 _ rfl).2
   clear hhus
   obtain ⟨a0e,a0r⟩:=a0.ofInt
   rw [a0e] at c0 a0
   clear a0e
   obtain ⟨a1e,a1r⟩:=a1.ofInt
   rw [a1e] at c1 a1
   clear a1e
   obtain ⟨a2e,a2r⟩:=a2.ofInt
   rw [a2e] at c2 a2
   clear a2e
   obtain ⟨p3,d3,a3e⟩:=a3.form
   rw [a3e] at c3 a3
   clear a3e
   rw [← hbw.cell (by exact hlb)] at c0 c1 c2 c3
   have hlw:b<wr.heap.size:=Nat.lt_of_lt_of_le hlb hbw.size
   have hlt':((k:Nat):Int)<((xs.length:Nat):Int):=by omega
   have hlo:w.heap.size≤wr.heap.size:=hbw.size
   have hwlo:w.heap.size≤w.heap.size:=Nat.le_refl _
   clear hBA
   have hkl3:x3.length≤1048576:=by
    have h1:=bulkS_len x3
    have h2:Dt.bS x3≤Dt.bR [.int z0,.int z1,.int z2,.row x3]:=by simp [Dt.bR,Dt.bulk]
    omega
   have B2:Below wr.heap.size wr ((wr.alloc (.cells #[.int .i64 z0,.int .i64 z1,.int .i64 z2,.slice p3 x3.length d3] 65)).alloc (.cells #[] 3)):=((Below.refl _ wr).alloc (Nat.le_refl _) _).alloc (by simp) _
   have R2:((wr.alloc (.cells #[.int .i64 z0,.int .i64 z1,.int .i64 z2,.slice p3 x3.length d3] 65)).alloc (.cells #[] 3)).ownsRow wr.heap.size 3 1 (.slice (some ⟨wr.heap.size+1,0,none⟩) 0 0) 0 []:=by
    have:=World.ownsRow_made (size:=1) (e:=3) (wr.alloc (.cells #[.int .i64 z0,.int .i64 z1,.int .i64 z2,.slice p3 x3.length d3] 65)) #[] 0 (show wr.heap.size≤(wr.alloc (.cells #[.int .i64 z0,.int .i64 z1,.int .i64 z2,.slice p3 x3.length d3] 65)).heap.size by simp) (Nat.zero_le _) (by simp)
    simpa using this
   have O2:((wr.alloc (.cells #[.int .i64 z0,.int .i64 z1,.int .i64 z2,.slice p3 x3.length d3] 65)).alloc (.cells #[] 3)).heap[wr.heap.size]? = some (.cells #[.int .i64 z0,.int .i64 z1,.int .i64 z2,.slice p3 x3.length d3] 65):=(Below.heap_alloc _ _ _ (by simp)).trans (MapKept.heap_alloc wr _).1
   have HX:=(show Hid (_∧_∧_∧_∧_∧_∧_∧_∧_∧_∧_) from ⟨R2,(a3.up hbw).up B2,B2,O2,q3,he,hbw,a0r,a1r,a2r,trivial⟩)
   clear B2 R2 O2 he hbw q3 a0 a1 a2 a3 a0r a1r a2r
   go_wp2_with (at_builtin; refine wpList_append_fat rfl _ _ 23 rfl wr.heap.size 3 iI (.int .i64 0) 1 8 Tryz.underlying23 hiI hzI0 hzI1 hzI2 rfl (by decide) (.slice (some ⟨wr.heap.size+1,0,none⟩) 0 0) 0 _ rfl HX.out.1 _ rfl x3 S HX.out.2.1 (HX.out.2.2.2.2.1.len IntR.len) (by unfold maxLen; omega) (by omega) HX.out.2.2.1.size ?_; intro v5 w5 flat5 hown5 hgrow5 hat5 hf5; have H5:=(show Hid (_∧_∧_∧_) from ⟨hown5,hgrow5,hat5,hf5⟩); rw [Nat.zero_add] at hown5; obtain ⟨a5,c5,rfl⟩:=own_form hown5; have o5:=(hgrow5.block wr.heap.size (lh HX.out.2.2.2.1) (fun e=>(by simp [Value.ownBlock] at e))).trans HX.out.2.2.2.1; have y0:w5.cell? ⟨wr.heap.size,0,none⟩=some (.int .i64 z0):=(by rw [cell_of_block o5]; rfl); have y1:w5.cell? ⟨wr.heap.size,1,none⟩=some (.int .i64 z1):=(by rw [cell_of_block o5]; rfl); have y2:w5.cell? ⟨wr.heap.size,2,none⟩=some (.int .i64 z2):=(by rw [cell_of_block o5]; rfl); have y3:w5.cell? ⟨wr.heap.size,3,none⟩=some (.slice p3 x3.length d3):=(by rw [cell_of_block o5]; rfl); have f3:w5.frozen? ⟨wr.heap.size,3,none⟩=false:=unfrozen_of_block o5 3; have HO5:=(show Hid (_∧True) from ⟨o5,trivial⟩); clear hown5 hgrow5 hat5 hf5 o5; refine Hid.out ?_)
   have B5:Below wr.heap.size wr w5:=Below.grown HX.out.2.2.1 H5.out.2.1 HX.out.2.2.1.size (fun b hb=>(own_type HX.out.1 b hb).1)
   have B7:Below wr.heap.size wr ((w5.setCell ⟨wr.heap.size,3,none⟩ (.slice a5 x3.length c5)).alloc (.cells #[.int .i64 z0,.int .i64 z1,.int .i64 z2,.slice a5 x3.length c5] 65)):=(B5.setCell (p:=⟨wr.heap.size,3,none⟩) (Nat.le_refl _) _).alloc (by simp; exact B5.size) _
   obtain ⟨flatk,hflatk⟩:=HG.out.row
   have R7:=own_moved (W':=((w5.setCell ⟨wr.heap.size,3,none⟩ (.slice a5 x3.length c5)).alloc (.cells #[.int .i64 z0,.int .i64 z1,.int .i64 z2,.slice a5 x3.length c5] 65))) hflatk (fun b hb=>B7.block b (own_lt hflatk b hb))
   have hown5:=H5.out.1
   rw [Nat.zero_add,List.nil_append] at hown5
   have own5:=own_atoms hown5 (HX.out.2.2.2.2.1.len IntR.len) H5.out.2.2.2 (fun i j r d hr hj=>(HX.out.2.2.2.2.1 i r hr).atoms j d hj)
   have hne5:∀ b,Value.ownBlock (.slice a5 x3.length c5)=some b→b≠wr.heap.size:=fun b hb e=>by
    subst e
    rcases H5.out.2.2.1 with h | h
    ·rw [h] at hb; simp [Value.ownBlock] at hb
    ·rw [h] at hb; simp at hb; omega
   have own7:Own ((w5.setCell ⟨wr.heap.size,3,none⟩ (.slice a5 x3.length c5)).alloc (.cells #[.int .i64 z0,.int .i64 z1,.int .i64 z2,.slice a5 x3.length c5] 65)) (.slice a5 x3.length c5) (.row x3) (Btw wr.heap.size ((w5.setCell ⟨wr.heap.size,3,none⟩ (.slice a5 x3.length c5)).alloc (.cells #[.int .i64 z0,.int .i64 z1,.int .i64 z2,.slice a5 x3.length c5] 65)).heap.size):=by
    refine (own5.dom.moved (w':=((w5.setCell ⟨wr.heap.size,3,none⟩ (.slice a5 x3.length c5)).alloc (.cells #[.int .i64 z0,.int .i64 z1,.int .i64 z2,.slice a5 x3.length c5] 65))) (fun b hb hlt => ?_)).mono (fun b hb=>⟨hb.1.1,by simp; have:=hb.2; omega⟩)
    rw [Below.heap_alloc _ _ _ (by simpa using hlt),Below.heap_setCell _ _ _ _ (by simpa using hne5 b hb.1.2)]
   have ofs:OFs ((w5.setCell ⟨wr.heap.size,3,none⟩ (.slice a5 x3.length c5)).alloc (.cells #[.int .i64 z0,.int .i64 z1,.int .i64 z2,.slice a5 x3.length c5] 65)) [.int .i64 z0,.int .i64 z1,.int .i64 z2,.slice a5 x3.length c5] [.int z0,.int z1,.int z2,.row x3] (Btw wr.heap.size ((w5.setCell ⟨wr.heap.size,3,none⟩ (.slice a5 x3.length c5)).alloc (.cells #[.int .i64 z0,.int .i64 z1,.int .i64 z2,.slice a5 x3.length c5] 65)).heap.size):=(OFs.int HX.out.2.2.2.2.2.2.2.1 (OFs.int HX.out.2.2.2.2.2.2.2.2.1 (OFs.int HX.out.2.2.2.2.2.2.2.2.2.1 (OFs.cons own7 (show OFs _ [] [] _ from trivial) B7.size (Nat.le_refl _)))))
   have hnews:∀ (j:Nat) (u:Value),([.int .i64 z0,.int .i64 z1,.int .i64 z2,.slice a5 x3.length c5]:List Value)[j]? = some u→((w5.setCell ⟨wr.heap.size,3,none⟩ (.slice a5 x3.length c5)).alloc (.cells #[.int .i64 z0,.int .i64 z1,.int .i64 z2,.slice a5 x3.length c5] 65)).cell? ((⟨w5.heap.size,0,none⟩:Addr).add j)=some u:=fun j u hj=>by
    rw [addr_add,Nat.zero_add]
    have hb7:=(MapKept.heap_alloc (w5.setCell ⟨wr.heap.size,3,none⟩ (.slice a5 x3.length c5)) (.cells #[.int .i64 z0,.int .i64 z1,.int .i64 z2,.slice a5 x3.length c5] 65)).1
    rw [show (w5.setCell ⟨wr.heap.size,3,none⟩ (.slice a5 x3.length c5)).heap.size=w5.heap.size by simp] at hb7
    rw [cell_of_block hb7]
    simpa using hj
   have h1:∀ u ∈ ([.int .i64 z0,.int .i64 z1,.int .i64 z2,.slice a5 x3.length c5]:List Value),u.oneCell'=true:=by intro u hu; simp at hu; rcases hu with rfl | rfl | rfl | rfl <;> rfl
   have H7:=(show Hid (_∧_∧_∧_∧_∧_) from ⟨R7,hnews,h1,B7,ofs,hflatk⟩)
   clear B5 B7 R7 hnews h1 hown5 own5 hne5 own7 ofs hflatk
   unfold Hid
   go_wp2_with (at_builtin; refine wpList_append_own_at _ rfl _ _ 41 rfl w.heap.size 65 iX _ 4 48 Tryz.underlying41 hiX hzX0 hzX1 hzX2 rfl (by decide) (.slice oa k oc) k _ rfl H7.out.1 ⟨w5.heap.size,0,none⟩ 1 1 [.int .i64 z0,.int .i64 z1,.int .i64 z2,.slice a5 x3.length c5] rfl rfl H7.out.2.1 H7.out.2.2.1 (by unfold maxLen; omega) (by omega) (Nat.le_trans hlo H7.out.2.2.2.1.size) ?_; intro v8 w8 hown8 hgrow8 hnil8 hat8; obtain ⟨a8,c8,rfl⟩:=own_form hown8; have H8:=(show Hid (_∧_∧_) from ⟨Grow.next HG.out H7.out.2.2.2.1 hlo HX.out.2.2.2.2.2.1 HP.out.2.1 H7.out.2.2.2.2.1 H7.out.2.2.2.2.2 hown8 hgrow8 hat8,Below.grown (HX.out.2.2.2.2.2.2.1.trans (H7.out.2.2.2.1.mono HX.out.2.2.2.2.2.2.1.size)) hgrow8 (Nat.le_trans HX.out.2.2.2.2.2.2.1.size H7.out.2.2.2.1.size) (fun b hb=>Nat.le_trans hwlo (own_type H7.out.1 b hb).1),Below.grown (H7.out.2.2.2.1.mono hlo) hgrow8 (Nat.le_trans hlo H7.out.2.2.2.1.size) (fun b hb=>(own_type H7.out.1 b hb).1)⟩); clear hown8 hgrow8 hnil8 hat8)
   exact ⟨⟨k+1,_,_,by omega,by go_num,rfl,H8.out.1,H8.out.2.1⟩,by simp [intOf]; omega⟩
  ·obtain rfl:k=xs.length:=by omega
   have HF:=(show Hid (_∧_) from ⟨HG.out.done HP.out.2.1,trivial⟩)
   clear HG HP
   go_wp2
   go_ret
   exact ⟨_,rfl,HF.out.1,hbw⟩
theorem infoAMsg:(Tryz.prog.info? 67).map (fun i=>(i.zero,i.size,i.bytes))=some (some (.agg #[.int .i64 0,.int .i64 0,.int .i64 0,.int .i64 0,.int .i64 0,.int .i64 0,.int .i64 0,.int .i64 0,.slice none 0 0]),9,88):=by kernel_rfl
theorem l06CopyMsgs_dt:ToS 82 MsgR:=by
 intro v xs S w hP h hb
 have hlen:=bulkS_len xs
 have hBA:=@bulkS_at xs
 obtain ⟨iI,hiI,hzI0,hzI1,hzI2⟩:=info_parts infoAI
 obtain ⟨iX,hiX,hzX0,hzX1,hzX2⟩:=info_parts infoAMsg
 have HP:=(show Hid (_∧_∧_) from ⟨hP,hP.len MsgR.len,h⟩)
 obtain ⟨a,cap,rfl⟩:=h.form
 have G0:Grow (w.alloc (.cells #[] 67)) w.heap.size 67 9 (.slice (some ⟨w.heap.size,0,none⟩) 0 0) 0 xs:=Grow.start (World.ownsRow_made (size:=9) (e:=67) w #[] 0 (Nat.le_refl _) (Nat.zero_le _) (by simp)) xs
 have H0:=(show Hid (_∧_) from ⟨G0,(Below.refl _ w).alloc (Nat.le_refl _) (.cells #[] 67)⟩)
 clear h hP G0
 go_enter Tryz.func82,Tryz.ntmps82
 go_wp2
 go_loopw [3,4] (fun ov i wr=>∃ (k:Nat) (oa:Option Addr) (oc:Nat),k≤xs.length∧i = .int .i64 k∧ov = .slice oa k oc∧Hid (Grow wr w.heap.size 67 9 (.slice oa k oc) k xs)∧Below w.heap.size w wr) (fun _ i _=>xs.length - (intOf i).toNat)
 case atStart=>exact ⟨0,_,_,Nat.zero_le _,rfl,rfl,H0.out.1,H0.out.2⟩
 case round =>
  clear H0
  obtain ⟨k,oa,oc,hk,rfl,rfl,HG,hbw⟩:=hrel
  by_cases hkl:k<xs.length
  ·have he:=List.getElem?_eq_getElem hkl
   have hbk:=hBA he
   generalize xs[k]=r at *
   obtain ⟨z0,z1,z2,z3,z4,z5,z6,z7,x8,rfl,q8⟩:=HP.out.1 k r he
   obtain ⟨b,off,rfl,-,hlb,us,hhus⟩:=HP.out.2.2.at he
   have c0:w.cell? ⟨b,off+k * 9,none⟩=some (us 0):=(hhus 0 _ rfl).1
   have a0:=(hhus 0 _ rfl).2
   have c1:w.cell? ⟨b,off+k * 9+1,none⟩=some (us 1):=(hhus 1 _ rfl).1
   have a1:=(hhus 1 _ rfl).2
   have c2:w.cell? ⟨b,off+k * 9+2,none⟩=some (us 2):=(hhus 2 _ rfl).1
   have a2:=(hhus 2 _ rfl).2
   have c3:w.cell? ⟨b,off+k * 9+3,none⟩=some (us 3):=(hhus 3 _ rfl).1
   have a3:=(hhus 3 _ rfl).2
   have c4:w.cell? ⟨b,off+k * 9+4,none⟩=some (us 4):=(hhus 4 _ rfl).1
   have a4:=(hhus 4 _ rfl).2
   have c5:w.cell? ⟨b,off+k * 9+5,none⟩=some (us 5):=(hhus 5 _ rfl).1
   have a5:=(hhus 5 _ rfl).2
   have c6:w.cell? ⟨b,off+k * 9+6,none⟩=some (us 6):=(hhus 6 _ rfl).1
   have a6:=(hhus 6 _ rfl).2
   have c7:w.cell? ⟨b,off+k * 9+7,none⟩=some (us 7):=(hhus 7 _ rfl).1
   have a7:=(hhus 7 _ rfl).2
   have c8:w.cell? ⟨b,off+k * 9+8,none⟩=some (us 8):=(hhus 8 _ rfl).1
   have a8:=(hhus 8 _ rfl).2
   clear hhus
   obtain ⟨a0e,a0r⟩:=a0.ofInt
   rw [a0e] at c0 a0
   clear a0e
   obtain ⟨a1e,a1r⟩:=a1.ofInt
   rw [a1e] at c1 a1
   clear a1e
   obtain ⟨a2e,a2r⟩:=a2.ofInt
   rw [a2e] at c2 a2
   clear a2e
   obtain ⟨a3e,a3r⟩:=a3.ofInt
   rw [a3e] at c3 a3
   clear a3e
   obtain ⟨a4e,a4r⟩:=a4.ofInt
   rw [a4e] at c4 a4
   clear a4e
   obtain ⟨a5e,a5r⟩:=a5.ofInt
   rw [a5e] at c5 a5
   clear a5e
   obtain ⟨a6e,a6r⟩:=a6.ofInt
   rw [a6e] at c6 a6
   clear a6e
   obtain ⟨a7e,a7r⟩:=a7.ofInt
   rw [a7e] at c7 a7
   clear a7e
   obtain ⟨p8,d8,a8e⟩:=a8.form
   rw [a8e] at c8 a8
   clear a8e
   rw [← hbw.cell (by exact hlb)] at c0 c1 c2 c3 c4 c5 c6 c7 c8
   have hlw:b<wr.heap.size:=Nat.lt_of_lt_of_le hlb hbw.size
   have hlt':((k:Nat):Int)<((xs.length:Nat):Int):=by omega
   have hlo:w.heap.size≤wr.heap.size:=hbw.size
   have hwlo:w.heap.size≤w.heap.size:=Nat.le_refl _
   clear hBA
   have hkl3:x8.length≤1048576:=by
    have h1:=bulkS_len x8
    have h2:Dt.bS x8≤Dt.bR [.int z0,.int z1,.int z2,.int z3,.int z4,.int z5,.int z6,.int z7,.row x8]:=by simp [Dt.bR,Dt.bulk]
    omega
   have B2:Below wr.heap.size wr ((wr.alloc (.cells #[.int .i64 z0,.int .i64 z1,.int .i64 z2,.int .i64 z3,.int .i64 z4,.int .i64 z5,.int .i64 z6,.int .i64 z7,.slice p8 x8.length d8] 67)).alloc (.cells #[] 3)):=((Below.refl _ wr).alloc (Nat.le_refl _) _).alloc (by simp) _
   have R2:((wr.alloc (.cells #[.int .i64 z0,.int .i64 z1,.int .i64 z2,.int .i64 z3,.int .i64 z4,.int .i64 z5,.int .i64 z6,.int .i64 z7,.slice p8 x8.length d8] 67)).alloc (.cells #[] 3)).ownsRow wr.heap.size 3 1 (.slice (some ⟨wr.heap.size+1,0,none⟩) 0 0) 0 []:=by
    have:=World.ownsRow_made (size:=1) (e:=3) (wr.alloc (.cells #[.int .i64 z0,.int .i64 z1,.int .i64 z2,.int .i64 z3,.int .i64 z4,.int .i64 z5,.int .i64 z6,.int .i64 z7,.slice p8 x8.length d8] 67)) #[] 0 (show wr.heap.size≤(wr.alloc (.cells #[.int .i64 z0,.int .i64 z1,.int .i64 z2,.int .i64 z3,.int .i64 z4,.int .i64 z5,.int .i64 z6,.int .i64 z7,.slice p8 x8.length d8] 67)).heap.size by simp) (Nat.zero_le _) (by simp)
    simpa using this
   have O2:((wr.alloc (.cells #[.int .i64 z0,.int .i64 z1,.int .i64 z2,.int .i64 z3,.int .i64 z4,.int .i64 z5,.int .i64 z6,.int .i64 z7,.slice p8 x8.length d8] 67)).alloc (.cells #[] 3)).heap[wr.heap.size]? = some (.cells #[.int .i64 z0,.int .i64 z1,.int .i64 z2,.int .i64 z3,.int .i64 z4,.int .i64 z5,.int .i64 z6,.int .i64 z7,.slice p8 x8.length d8] 67):=(Below.heap_alloc _ _ _ (by simp)).trans (MapKept.heap_alloc wr _).1
   have HX:=(show Hid (_∧_∧_∧_∧_∧_∧_∧_∧_∧_∧_∧_∧_∧_∧_∧_) from ⟨R2,(a8.up hbw).up B2,B2,O2,q8,he,hbw,a0r,a1r,a2r,a3r,a4r,a5r,a6r,a7r,trivial⟩)
   clear B2 R2 O2 he hbw q8 a0 a1 a2 a3 a4 a5 a6 a7 a8 a0r a1r a2r a3r a4r a5r a6r a7r
   go_wp2_with (at_builtin; refine wpList_append_fat rfl _ _ 23 rfl wr.heap.size 3 iI (.int .i64 0) 1 8 Tryz.underlying23 hiI hzI0 hzI1 hzI2 rfl (by decide) (.slice (some ⟨wr.heap.size+1,0,none⟩) 0 0) 0 _ rfl HX.out.1 _ rfl x8 S HX.out.2.1 (HX.out.2.2.2.2.1.len IntR.len) (by unfold maxLen; omega) (by omega) HX.out.2.2.1.size ?_; intro v5 w5 flat5 hown5 hgrow5 hat5 hf5; have H5:=(show Hid (_∧_∧_∧_) from ⟨hown5,hgrow5,hat5,hf5⟩); rw [Nat.zero_add] at hown5; obtain ⟨a5,c5,rfl⟩:=own_form hown5; have o5:=(hgrow5.block wr.heap.size (lh HX.out.2.2.2.1) (fun e=>(by simp [Value.ownBlock] at e))).trans HX.out.2.2.2.1; have y0:w5.cell? ⟨wr.heap.size,0,none⟩=some (.int .i64 z0):=(by rw [cell_of_block o5]; rfl); have y1:w5.cell? ⟨wr.heap.size,1,none⟩=some (.int .i64 z1):=(by rw [cell_of_block o5]; rfl); have y2:w5.cell? ⟨wr.heap.size,2,none⟩=some (.int .i64 z2):=(by rw [cell_of_block o5]; rfl); have y3:w5.cell? ⟨wr.heap.size,3,none⟩=some (.int .i64 z3):=(by rw [cell_of_block o5]; rfl); have y4:w5.cell? ⟨wr.heap.size,4,none⟩=some (.int .i64 z4):=(by rw [cell_of_block o5]; rfl); have y5:w5.cell? ⟨wr.heap.size,5,none⟩=some (.int .i64 z5):=(by rw [cell_of_block o5]; rfl); have y6:w5.cell? ⟨wr.heap.size,6,none⟩=some (.int .i64 z6):=(by rw [cell_of_block o5]; rfl); have y7:w5.cell? ⟨wr.heap.size,7,none⟩=some (.int .i64 z7):=(by rw [cell_of_block o5]; rfl); have y8:w5.cell? ⟨wr.heap.size,8,none⟩=some (.slice p8 x8.length d8):=(by rw [cell_of_block o5]; rfl); have f8:w5.frozen? ⟨wr.heap.size,8,none⟩=false:=unfrozen_of_block o5 8; have HO5:=(show Hid (_∧True) from ⟨o5,trivial⟩); clear hown5 hgrow5 hat5 hf5 o5; refine Hid.out ?_)
   have B5:Below wr.heap.size wr w5:=Below.grown HX.out.2.2.1 H5.out.2.1 HX.out.2.2.1.size (fun b hb=>(own_type HX.out.1 b hb).1)
   have B7:Below wr.heap.size wr ((w5.setCell ⟨wr.heap.size,8,none⟩ (.slice a5 x8.length c5)).alloc (.cells #[.int .i64 z0,.int .i64 z1,.int .i64 z2,.int .i64 z3,.int .i64 z4,.int .i64 z5,.int .i64 z6,.int .i64 z7,.slice a5 x8.length c5] 67)):=(B5.setCell (p:=⟨wr.heap.size,8,none⟩) (Nat.le_refl _) _).alloc (by simp; exact B5.size) _
   obtain ⟨flatk,hflatk⟩:=HG.out.row
   have R7:=own_moved (W':=((w5.setCell ⟨wr.heap.size,8,none⟩ (.slice a5 x8.length c5)).alloc (.cells #[.int .i64 z0,.int .i64 z1,.int .i64 z2,.int .i64 z3,.int .i64 z4,.int .i64 z5,.int .i64 z6,.int .i64 z7,.slice a5 x8.length c5] 67))) hflatk (fun b hb=>B7.block b (own_lt hflatk b hb))
   have hown5:=H5.out.1
   rw [Nat.zero_add,List.nil_append] at hown5
   have own5:=own_atoms hown5 (HX.out.2.2.2.2.1.len IntR.len) H5.out.2.2.2 (fun i j r d hr hj=>(HX.out.2.2.2.2.1 i r hr).atoms j d hj)
   have hne5:∀ b,Value.ownBlock (.slice a5 x8.length c5)=some b→b≠wr.heap.size:=fun b hb e=>by
    subst e
    rcases H5.out.2.2.1 with h | h
    ·rw [h] at hb; simp [Value.ownBlock] at hb
    ·rw [h] at hb; simp at hb; omega
   have own7:Own ((w5.setCell ⟨wr.heap.size,8,none⟩ (.slice a5 x8.length c5)).alloc (.cells #[.int .i64 z0,.int .i64 z1,.int .i64 z2,.int .i64 z3,.int .i64 z4,.int .i64 z5,.int .i64 z6,.int .i64 z7,.slice a5 x8.length c5] 67)) (.slice a5 x8.length c5) (.row x8) (Btw wr.heap.size ((w5.setCell ⟨wr.heap.size,8,none⟩ (.slice a5 x8.length c5)).alloc (.cells #[.int .i64 z0,.int .i64 z1,.int .i64 z2,.int .i64 z3,.int .i64 z4,.int .i64 z5,.int .i64 z6,.int .i64 z7,.slice a5 x8.length c5] 67)).heap.size):=by
    refine (own5.dom.moved (w':=((w5.setCell ⟨wr.heap.size,8,none⟩ (.slice a5 x8.length c5)).alloc (.cells #[.int .i64 z0,.int .i64 z1,.int .i64 z2,.int .i64 z3,.int .i64 z4,.int .i64 z5,.int .i64 z6,.int .i64 z7,.slice a5 x8.length c5] 67))) (fun b hb hlt => ?_)).mono (fun b hb=>⟨hb.1.1,by simp; have:=hb.2; omega⟩)
    rw [Below.heap_alloc _ _ _ (by simpa using hlt),Below.heap_setCell _ _ _ _ (by simpa using hne5 b hb.1.2)]
   have ofs:OFs ((w5.setCell ⟨wr.heap.size,8,none⟩ (.slice a5 x8.length c5)).alloc (.cells #[.int .i64 z0,.int .i64 z1,.int .i64 z2,.int .i64 z3,.int .i64 z4,.int .i64 z5,.int .i64 z6,.int .i64 z7,.slice a5 x8.length c5] 67)) [.int .i64 z0,.int .i64 z1,.int .i64 z2,.int .i64 z3,.int .i64 z4,.int .i64 z5,.int .i64 z6,.int .i64 z7,.slice a5 x8.length c5] [.int z0,.int z1,.int z2,.int z3,.int z4,.int z5,.int z6,.int z7,.row x8] (Btw wr.heap.size ((w5.setCell ⟨wr.heap.size,8,none⟩ (.slice a5 x8.length c5)).alloc (.cells #[.int .i64 z0,.int .i64 z1,.int .i64 z2,.int .i64 z3,.int .i64 z4,.int .i64 z5,.int .i64 z6,.int .i64 z7,.slice a5 x8.length c5] 67)).heap.size):=(OFs.int HX.out.2.2.2.2.2.2.2.1 (OFs.int HX.out.2.2.2.2.2.2.2.2.1 (OFs.int HX.out.2.2.2.2.2.2.2.2.2.1 (OFs.int HX.out.2.2.2.2.2.2.2.2.2.2.1 (OFs.int HX.out.2.2.2.2.2.2.2.2.2.2.2.1 (OFs.int HX.out.2.2.2.2.2.2.2.2.2.2.2.2.1 (OFs.int HX.out.2.2.2.2.2.2.2.2.2.2.2.2.2.1 (OFs.int HX.out.2.2.2.2.2.2.2.2.2.2.2.2.2.2.1 (OFs.cons own7 (show OFs _ [] [] _ from trivial) B7.size (Nat.le_refl _))))))))))
   have hnews:∀ (j:Nat) (u:Value),([.int .i64 z0,.int .i64 z1,.int .i64 z2,.int .i64 z3,.int .i64 z4,.int .i64 z5,.int .i64 z6,.int .i64 z7,.slice a5 x8.length c5]:List Value)[j]? = some u→((w5.setCell ⟨wr.heap.size,8,none⟩ (.slice a5 x8.length c5)).alloc (.cells #[.int .i64 z0,.int .i64 z1,.int .i64 z2,.int .i64 z3,.int .i64 z4,.int .i64 z5,.int .i64 z6,.int .i64 z7,.slice a5 x8.length c5] 67)).cell? ((⟨w5.heap.size,0,none⟩:Addr).add j)=some u:=fun j u hj=>by
    rw [addr_add,Nat.zero_add]
    have hb7:=(MapKept.heap_alloc (w5.setCell ⟨wr.heap.size,8,none⟩ (.slice a5 x8.length c5)) (.cells #[.int .i64 z0,.int .i64 z1,.int .i64 z2,.int .i64 z3,.int .i64 z4,.int .i64 z5,.int .i64 z6,.int .i64 z7,.slice a5 x8.length c5] 67)).1
    rw [show (w5.setCell ⟨wr.heap.size,8,none⟩ (.slice a5 x8.length c5)).heap.size=w5.heap.size by simp] at hb7
    rw [cell_of_block hb7]
    simpa using hj
   have h1:∀ u ∈ ([.int .i64 z0,.int .i64 z1,.int .i64 z2,.int .i64 z3,.int .i64 z4,.int .i64 z5,.int .i64 z6,.int .i64 z7,.slice a5 x8.length c5]:List Value),u.oneCell'=true:=by intro u hu; simp at hu; rcases hu with rfl | rfl | rfl | rfl | rfl | rfl | rfl | rfl | rfl <;> rfl
   have H7:=(show Hid (_∧_∧_∧_∧_∧_) from ⟨R7,hnews,h1,B7,ofs,hflatk⟩)
   clear B5 B7 R7 hnews h1 hown5 own5 hne5 own7 ofs hflatk
   unfold Hid
   go_wp2_with (at_builtin; refine wpList_append_own_at _ rfl _ _ 43 rfl w.heap.size 67 iX _ 9 88 Tryz.underlying43 hiX hzX0 hzX1 hzX2 rfl (by decide) (.slice oa k oc) k _ rfl H7.out.1 ⟨w5.heap.size,0,none⟩ 1 1 [.int .i64 z0,.int .i64 z1,.int .i64 z2,.int .i64 z3,.int .i64 z4,.int .i64 z5,.int .i64 z6,.int .i64 z7,.slice a5 x8.length c5] rfl rfl H7.out.2.1 H7.out.2.2.1 (by unfold maxLen; omega) (by omega) (Nat.le_trans hlo H7.out.2.2.2.1.size) ?_; intro v8 w8 hown8 hgrow8 hnil8 hat8; obtain ⟨a8,c8,rfl⟩:=own_form hown8; have H8:=(show Hid (_∧_∧_) from ⟨Grow.next HG.out H7.out.2.2.2.1 hlo HX.out.2.2.2.2.2.1 HP.out.2.1 H7.out.2.2.2.2.1 H7.out.2.2.2.2.2 hown8 hgrow8 hat8,Below.grown (HX.out.2.2.2.2.2.2.1.trans (H7.out.2.2.2.1.mono HX.out.2.2.2.2.2.2.1.size)) hgrow8 (Nat.le_trans HX.out.2.2.2.2.2.2.1.size H7.out.2.2.2.1.size) (fun b hb=>Nat.le_trans hwlo (own_type H7.out.1 b hb).1),Below.grown (H7.out.2.2.2.1.mono hlo) hgrow8 (Nat.le_trans hlo H7.out.2.2.2.1.size) (fun b hb=>(own_type H7.out.1 b hb).1)⟩); clear hown8 hgrow8 hnil8 hat8)
   exact ⟨⟨k+1,_,_,by omega,by go_num,rfl,H8.out.1,H8.out.2.1⟩,by simp [intOf]; omega⟩
  ·obtain rfl:k=xs.length:=by omega
   have HF:=(show Hid (_∧_) from ⟨HG.out.done HP.out.2.1,trivial⟩)
   clear HG HP
   go_wp2
   go_ret
   exact ⟨_,rfl,HF.out.1,hbw⟩
end Go.Proofs.YtmmadoabejgffaaGreatDoor
