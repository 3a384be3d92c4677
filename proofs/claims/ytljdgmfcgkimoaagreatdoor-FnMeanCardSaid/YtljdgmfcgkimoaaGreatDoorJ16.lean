/-
  Proofs.
  Proofs.
  Proofs.
  Proofs.
-/
import Derived.Test.YtljdgmfcgkimoaaGreatDoorJ15
import Derived.Lib.IndexBytes
namespace Go.Proofs.YtljdgmfcgkimoaaGreatDoor
open Go.RowKit Go.Maps Go.Joins Go.WideMaps
set_option maxRecDepth 100000
def Nx.valAt (q:Nx) (i:Nat):Value:=.tuple #[.agg #[.int .i64 q.kind,.string q.text,.int .i64 q.n,.int .i64 0],.int .i64 (if q.len=0 then -1 else ((i+q.len:Nat):Int))]
theorem ext_ext (s:ByteArray) (i m:Nat):(s.extract i s.size).extract 0 m=s.extract i (i+m):=by
 apply Go.WideShapes.bytes_inj
 rw [Go.Lib.extract_data,Go.Lib.extract_to_end,Go.Lib.extract_data]
 simp
theorem ext_at (s:ByteArray) (i k:Nat) (hik:i≤k) (h:k<s.size):∃ hh:k - i<(s.extract i s.size).data.toList.length,(s.extract i s.size).data.toList[k - i]=s[k]:=by
 have e:=Go.Lib.extract_to_end s i
 have hl:s.data.toList.length=s.size:=by simp
 refine ⟨by rw [e,List.length_drop]; omega,?_⟩
 have h2:k - i<(s.data.toList.drop i).length:=by rw [List.length_drop]; omega
 have:(s.extract i s.size).data.toList[k - i]'(by rw [e]; exact h2)=(s.data.toList.drop i)[k - i]:=by congr 1
 rw [this,List.getElem_drop]
 have h3:i+(k - i)=k:=by omega
 simp only [h3]
 rfl
theorem ext_len (s:ByteArray) (i:Nat):(s.extract i s.size).data.toList.length=s.size - i:=by
 rw [Go.Lib.extract_to_end,List.length_drop]
 simp
theorem ext_fst (s:ByteArray) (i:Nat) (h:i<s.size):(s.extract i s.size).data.toList.getD 0 0=s[i]:=by
 obtain ⟨h1,h2⟩:=ext_at s i i (Nat.le_refl _) h
 simp only [Nat.sub_self] at h1 h2
 rw [List.getD,List.getElem?_eq_getElem h1,Option.getD_some]
 exact h2
theorem letter_is (s:ByteArray) (i k:Nat) (hik:i≤k) (hk:nameLen (s.extract i s.size).data.toList=k - i) :
  letterNx (s.extract i s.size)=if isW (s.extract i k) then ⟨2,s.extract i k,0,k - i⟩ else if nameOk (s.extract i k) then ⟨0,s.extract i k,0,k - i⟩ else Nx.none:=by
 unfold letterNx
 rw [hk,ext_ext,show i+(k - i)=k by omega]
set_option maxHeartbeats 3200000 in
theorem next_letter (s:ByteArray) (i:Nat) (w:World) (hs:s.size≤1048576) (hi:i<s.size) (hl:lti (s[i].toNat:Int)=true) :
  Calls Tryz.prog 66 #[.string s,.int .i64 i] w fun e w'=>e = .returned ((firstNx (s.extract i s.size)).valAt i)∧Below w.heap.size w w':=by
 have b0:∀ k (h:k<s.size),(0:Int)≤(s[k].toNat:Int):=fun k h=>by omega
 have b9:∀ k (h:k<s.size),(s[k].toNat:Int)≤255:=fun k h=>by have:=UInt8.toNat_lt s[k]; omega
 have hnot:=hn_not
 have hq:firstNx (s.extract i s.size)=letterNx (s.extract i s.size):=by unfold firstNx; rw [ext_fst s i hi,if_pos (show ltb s[i]=true from hl)]
 have HQ:Hid (firstNx (s.extract i s.size)=letterNx (s.extract i s.size)):=hq
 clear hq
 have hi':((i:Nat):Int)<(s.size:Int):=by omega
 have a0:=b0 i hi
 have a9:=b9 i hi
 go_enter Tryz.func66,Tryz.ntmps66
 go_wp2_with (go_at_call 60; refine (specLetter_is _ true a0 a9 hl _).mono ?_; rintro e w' ⟨rfl,rfl⟩)
 go_loop [6] (fun v=>∃ k:Nat,i≤k∧k≤s.size∧v = .int .i64 k∧Hid (∀ y ∈ (s.extract i s.size).data.toList.take (k - i),nmb y=true)) (fun v=>s.size - (intOf v).toNat)
 case atStart=>exact ⟨i,Nat.le_refl _,by omega,rfl,fun y hy=>by simp at hy⟩
 case round =>
  obtain ⟨k,hik,hk,rfl,hall⟩:=hrel
  by_cases hlt:k<s.size
  ·have d0:=b0 k hlt
   have d9:=b9 k hlt
   obtain ⟨hh,hat⟩:=ext_at s i k hik hlt
   have HA:Hid ((s.extract i s.size).data.toList[k - i]=s[k]):=hat
   clear hat
   have next:nmb s[k]=true→Hid (∀ y ∈ (s.extract i s.size).data.toList.take (k+1 - i),nmb y=true):=fun hn=>by
    rw [show k+1 - i=(k - i)+1 by omega]
    exact mem_take_succ hh hall.out (by rw [HA.out]; exact hn)
   cases hl2:lti (s[k].toNat:Int)
   ·cases hd2:dgi (s[k].toNat:Int)
    ·have HF:Hid (nameLen (s.extract i s.size).data.toList=k - i):=takeWhile_len nmb _ _ (Nat.le_of_lt hh) hall.out (fun _=>by rw [HA.out]; simp [nmb,ltb,dgb,hl2,hd2])
     have hpos:i<k:=by
      rcases Nat.lt_or_ge i k with h | h
      ·exact h
      ·obtain rfl:i=k:=by omega
       rw [hl] at hl2
       cases hl2
     clear next
     go_wp2_with (first
      | (go_at_call 60; refine (specLetter_is _ false d0 d9 hl2 _).mono ?_; rintro e w' ⟨rfl,rfl⟩)
      | (go_at_call 61; refine (specDigit_is _ false d0 d9 hd2 _).mono ?_; rintro e w' ⟨rfl,rfl⟩))
     refine (specIsWord_any (s.extract i k) _).mono ?_
     rintro e w1 ⟨rfl,hb1⟩
     have HB1:Hid (w1.heap[w.heap.size]? = some (.cells #[.int .i64 0,.string ⟨#[]⟩,.int .i64 0,.int .i64 0] 130)):=(hb1.block w.heap.size (by simp)).trans (MapKept.heap_alloc w _).1
     have hbw1:Below w.heap.size w w1:=((Below.refl _ w).alloc (Nat.le_refl _) _).trans (hb1.mono (by simp))
     clear hb1
     cases hw:isW (s.extract i k)
     ·go_wp2_with fail
      refine (specNameOk_any (s.extract i k) _ (by unfold maxLen; simp; omega)).mono ?_
      rintro e w2 ⟨rfl,hb2⟩
      have HB2:Hid (w2.heap[w.heap.size]? = some (.cells #[.int .i64 0,.string ⟨#[]⟩,.int .i64 0,.int .i64 0] 130)):=(hb2.block w.heap.size (Array.getElem?_eq_some_iff.1 HB1.out).1).trans HB1.out
      have hbw2:Below w.heap.size w w2:=hbw1.trans (hb2.mono hbw1.size)
      clear hb2
      obtain ⟨c0,c1,c2,c3⟩:=tok_cells HB2.out
      obtain ⟨f0,f1,f2,f3⟩:=tok_frozen HB2.out
      cases hn:nameOk (s.extract i k)
      ·have HE:Hid (firstNx (s.extract i s.size)=Nx.none):=by rw [HQ.out,letter_is s i k hik HF.out,hw,hn]; rfl
       go_wp2
       obtain ⟨t0,t1,t2,t3⟩:=tok_cells (tok_stored HB2.out (.int .i64 0) (.string ⟨#[]⟩) (.int .i64 0) (.int .i64 0))
       refine bodyPost_ret (v:=Nx.none.valAt i) (by simp [results,Tryz.results66,go_sem,t0,t1,t2,t3,Nx.valAt,Nx.none]) rfl ⟨by rw [HE.out],below_of_tok hbw2 (Nat.le_refl _) _ _ _ _⟩
      ·have HE:Hid (firstNx (s.extract i s.size)=⟨0,s.extract i k,0,k - i⟩):=by rw [HQ.out,letter_is s i k hik HF.out,hw,hn]; rfl
       go_wp2
       obtain ⟨t0,t1,t2,t3⟩:=tok_cells (tok_stored HB2.out (.int .i64 0) (.string (s.extract i k)) (.int .i64 0) (.int .i64 0))
       refine bodyPost_ret (v:=(⟨0,s.extract i k,0,k - i⟩:Nx).valAt i) (by simp [results,Tryz.results66,go_sem,t0,t1,t2,t3,Nx.valAt]; rw [if_neg (by omega)]; omega) rfl ⟨by rw [HE.out],below_of_tok hbw2 (Nat.le_refl _) _ _ _ _⟩
     ·have HE:Hid (firstNx (s.extract i s.size)=⟨2,s.extract i k,0,k - i⟩):=by rw [HQ.out,letter_is s i k hik HF.out,hw]; rfl
      obtain ⟨c0,c1,c2,c3⟩:=tok_cells HB1.out
      obtain ⟨f0,f1,f2,f3⟩:=tok_frozen HB1.out
      go_wp2
      obtain ⟨t0,t1,t2,t3⟩:=tok_cells (tok_stored HB1.out (.int .i64 2) (.string (s.extract i k)) (.int .i64 0) (.int .i64 0))
      refine bodyPost_ret (v:=(⟨2,s.extract i k,0,k - i⟩:Nx).valAt i) (by simp [results,Tryz.results66,go_sem,t0,t1,t2,t3,Nx.valAt]; rw [if_neg (by omega)]; omega) rfl ⟨by rw [HE.out],below_of_tok hbw1 (Nat.le_refl _) _ _ _ _⟩
    ·have HG:=next (by simp [nmb,ltb,dgb,hd2])
     clear next
     go_wp2_with (first
      | (go_at_call 60; refine (specLetter_is _ false d0 d9 hl2 _).mono ?_; rintro e w' ⟨rfl,rfl⟩)
      | (go_at_call 61; refine (specDigit_is _ true d0 d9 hd2 _).mono ?_; rintro e w' ⟨rfl,rfl⟩))
     go_round
     case rel=>exact ⟨k+1,by omega,by omega,by go_num,HG⟩
     case measure=>simp [intOf]; omega
   ·have HG:=next (by simp [nmb,ltb,hl2])
    clear next
    go_wp2_with (go_at_call 60; refine (specLetter_is _ true d0 d9 hl2 _).mono ?_; rintro e w' ⟨rfl,rfl⟩)
    go_round
    case rel=>exact ⟨k+1,by omega,by omega,by go_num,HG⟩
    case measure=>simp [intOf]; omega
  ·have HF:Hid (nameLen (s.extract i s.size).data.toList=k - i):=takeWhile_len nmb _ _ (by rw [ext_len]; omega) hall.out (fun h=>absurd h (by rw [ext_len]; omega))
   have hpos:i<k:=by omega
   go_wp2_with fail
   refine (specIsWord_any (s.extract i k) _).mono ?_
   rintro e w1 ⟨rfl,hb1⟩
   have HB1:Hid (w1.heap[w.heap.size]? = some (.cells #[.int .i64 0,.string ⟨#[]⟩,.int .i64 0,.int .i64 0] 130)):=(hb1.block w.heap.size (by simp)).trans (MapKept.heap_alloc w _).1
   have hbw1:Below w.heap.size w w1:=((Below.refl _ w).alloc (Nat.le_refl _) _).trans (hb1.mono (by simp))
   clear hb1
   cases hw:isW (s.extract i k)
   ·go_wp2_with fail
    refine (specNameOk_any (s.extract i k) _ (by unfold maxLen; simp; omega)).mono ?_
    rintro e w2 ⟨rfl,hb2⟩
    have HB2:Hid (w2.heap[w.heap.size]? = some (.cells #[.int .i64 0,.string ⟨#[]⟩,.int .i64 0,.int .i64 0] 130)):=(hb2.block w.heap.size (Array.getElem?_eq_some_iff.1 HB1.out).1).trans HB1.out
    have hbw2:Below w.heap.size w w2:=hbw1.trans (hb2.mono hbw1.size)
    clear hb2
    obtain ⟨c0,c1,c2,c3⟩:=tok_cells HB2.out
    obtain ⟨f0,f1,f2,f3⟩:=tok_frozen HB2.out
    cases hn:nameOk (s.extract i k)
    ·have HE:Hid (firstNx (s.extract i s.size)=Nx.none):=by rw [HQ.out,letter_is s i k hik HF.out,hw,hn]; rfl
     go_wp2
     obtain ⟨t0,t1,t2,t3⟩:=tok_cells (tok_stored HB2.out (.int .i64 0) (.string ⟨#[]⟩) (.int .i64 0) (.int .i64 0))
     refine bodyPost_ret (v:=Nx.none.valAt i) (by simp [results,Tryz.results66,go_sem,t0,t1,t2,t3,Nx.valAt,Nx.none]) rfl ⟨by rw [HE.out],below_of_tok hbw2 (Nat.le_refl _) _ _ _ _⟩
    ·have HE:Hid (firstNx (s.extract i s.size)=⟨0,s.extract i k,0,k - i⟩):=by rw [HQ.out,letter_is s i k hik HF.out,hw,hn]; rfl
     go_wp2
     obtain ⟨t0,t1,t2,t3⟩:=tok_cells (tok_stored HB2.out (.int .i64 0) (.string (s.extract i k)) (.int .i64 0) (.int .i64 0))
     refine bodyPost_ret (v:=(⟨0,s.extract i k,0,k - i⟩:Nx).valAt i) (by simp [results,Tryz.results66,go_sem,t0,t1,t2,t3,Nx.valAt]; rw [if_neg (by omega)]; omega) rfl ⟨by rw [HE.out],below_of_tok hbw2 (Nat.le_refl _) _ _ _ _⟩
   ·have HE:Hid (firstNx (s.extract i s.size)=⟨2,s.extract i k,0,k - i⟩):=by rw [HQ.out,letter_is s i k hik HF.out,hw]; rfl
    obtain ⟨c0,c1,c2,c3⟩:=tok_cells HB1.out
    obtain ⟨f0,f1,f2,f3⟩:=tok_frozen HB1.out
    go_wp2
    obtain ⟨t0,t1,t2,t3⟩:=tok_cells (tok_stored HB1.out (.int .i64 2) (.string (s.extract i k)) (.int .i64 0) (.int .i64 0))
    refine bodyPost_ret (v:=(⟨2,s.extract i k,0,k - i⟩:Nx).valAt i) (by simp [results,Tryz.results66,go_sem,t0,t1,t2,t3,Nx.valAt]; rw [if_neg (by omega)]; omega) rfl ⟨by rw [HE.out],below_of_tok hbw1 (Nat.le_refl _) _ _ _ _⟩
theorem digVal_ten (l:List UInt8) (k:Nat) (hk:k≤l.length) (h9:k≤10) (h:∀ x ∈ l.take k,dgb x=true):0≤digVal (l.take k)∧digVal (l.take k)<10000000000:=by
 obtain ⟨h1,h2⟩:=digVal_bd l k hk h
 have:(10:Int) ^ k≤10 ^ 10:=by
  have h':(10:Nat) ^ k≤10 ^ 10:=Nat.pow_le_pow_right (by decide) h9
  exact_mod_cast h'
 exact ⟨h1,by omega⟩
theorem digs_ge (l:List UInt8) (k:Nat) (hk:k≤l.length) (h:∀ x ∈ l.take k,dgb x=true):k≤digsLen l:=by
 unfold digsLen
 induction l generalizing k with
 | nil=>simpa using hk
 | cons a r ih =>
  cases k with
  | zero=>exact Nat.zero_le _
  | succ k =>
   rw [List.takeWhile_cons,if_pos (h a (by simp)),List.length_cons]
   exact Nat.succ_le_succ (ih k (by simpa using hk) (fun x hx=>h x (by simp [hx])))
theorem int_eq {a b:Int} (h:a=b):Value.int .i64 a = .int .i64 b:=by rw [h]
set_option maxHeartbeats 3200000 in
theorem next_digit (s:ByteArray) (i:Nat) (w:World) (hs:s.size≤1048576) (hi:i<s.size) (hl:lti (s[i].toNat:Int)=false) (hd:dgi (s[i].toNat:Int)=true) :
  Calls Tryz.prog 66 #[.string s,.int .i64 i] w fun e w'=>e = .returned ((firstNx (s.extract i s.size)).valAt i)∧Below w.heap.size w w':=by
 have b0:∀ k (h:k<s.size),(0:Int)≤(s[k].toNat:Int):=fun k h=>by omega
 have b9:∀ k (h:k<s.size),(s[k].toNat:Int)≤255:=fun k h=>by have:=UInt8.toNat_lt s[k]; omega
 have HQ:Hid (firstNx (s.extract i s.size)=numberNx (s.extract i s.size)):=by
  unfold firstNx
  rw [ext_fst s i hi,show ltb s[i]=false from hl,show dgb s[i]=true from hd]
  rfl
 have hi':((i:Nat):Int)<(s.size:Int):=by omega
 have a0:=b0 i hi
 have a9:=b9 i hi
 go_enter Tryz.func66,Tryz.ntmps66
 go_wp2_with (first
  | (go_at_call 60; refine (specLetter_is _ false a0 a9 hl _).mono ?_; rintro e w' ⟨rfl,rfl⟩)
  | (go_at_call 61; refine (specDigit_is _ true a0 a9 hd _).mono ?_; rintro e w' ⟨rfl,rfl⟩))
 go_loop [6,7] (fun v n=>∃ k:Nat,i≤k∧k≤s.size∧k - i≤10∧v = .int .i64 k∧n = .int .i64 (digVal ((s.extract i s.size).data.toList.take (k - i)))∧Hid (∀ y ∈ (s.extract i s.size).data.toList.take (k - i),dgb y=true)) (fun v _=>s.size - (intOf v).toNat)
 case atStart=>exact ⟨i,Nat.le_refl _,by omega,by omega,rfl,by simp [digVal],fun y hy=>by simp at hy⟩
 case round =>
  obtain ⟨k,hik,hk,hk10,rfl,rfl,hall⟩:=hrel
  have hlenx:=ext_len s i
  obtain ⟨n1,n2⟩:=digVal_ten _ (k - i) (by rw [hlenx]; omega) hk10 hall.out
  have HL:Hid ((s.extract i s.size).data.toList.length=s.size - i):=hlenx
  clear hlenx
  by_cases hten:k - i=10
  ·-- ten digits: none
   have HE:Hid (firstNx (s.extract i s.size)=Nx.none):=by
    have:=digs_ge _ (k - i) (by rw [HL.out]; omega) hall.out
    rw [HQ.out]
    unfold numberNx
    rw [if_neg (by omega)]
    rfl
   have ht:decide (((k:Nat):Int) - (i:Int)<10)=false:=by simp; omega
   have ht2:(9:Int)<((k:Nat):Int) - (i:Int):=by omega
   generalize digVal ((s.extract i s.size).data.toList.take (k - i))=n at *
   by_cases hlt:k<s.size
   ·have d0:=b0 k hlt
    have d9:=b9 k hlt
    cases hd2:dgi (s[k].toNat:Int)
    ·go_wp2_with (go_at_call 61; refine (specDigit_is _ false d0 d9 hd2 _).mono ?_; rintro e w' ⟨rfl,rfl⟩)
     refine bodyPost_ret (v:=Nx.none.valAt i) (by simp [results,Tryz.results66,go_sem,Nx.valAt,Nx.none]) rfl ⟨by rw [HE.out],(Below.refl _ w).alloc (Nat.le_refl _) _⟩
    ·go_wp2_with (go_at_call 61; refine (specDigit_is _ true d0 d9 hd2 _).mono ?_; rintro e w' ⟨rfl,rfl⟩)
     refine bodyPost_ret (v:=Nx.none.valAt i) (by simp [results,Tryz.results66,go_sem,Nx.valAt,Nx.none]) rfl ⟨by rw [HE.out],(Below.refl _ w).alloc (Nat.le_refl _) _⟩
   ·go_wp2
    refine bodyPost_ret (v:=Nx.none.valAt i) (by simp [results,Tryz.results66,go_sem,Nx.valAt,Nx.none]) rfl ⟨by rw [HE.out],(Below.refl _ w).alloc (Nat.le_refl _) _⟩
  ·have ht:((k:Nat):Int) - (i:Int)<10:=by omega
   by_cases hlt:k<s.size
   ·have d0:=b0 k hlt
    have d9:=b9 k hlt
    obtain ⟨hh,hat⟩:=ext_at s i k hik hlt
    have HA:Hid ((s.extract i s.size).data.toList[k - i]=s[k]):=hat
    clear hat
    cases hd2:dgi (s[k].toNat:Int)
    ·have hF:digsLen (s.extract i s.size).data.toList=k - i:=takeWhile_len dgb _ _ (Nat.le_of_lt hh) hall.out (fun _=>by rw [HA.out]; exact hd2)
     have hpos:i<k:=by
      rcases Nat.lt_or_ge i k with h | h
      ·exact h
      ·obtain rfl:i=k:=by omega
       rw [hd] at hd2
       cases hd2
     have HE:Hid (firstNx (s.extract i s.size)=⟨1,⟨#[]⟩,digVal ((s.extract i s.size).data.toList.take (k - i)),k - i⟩):=by
      rw [HQ.out]
      unfold numberNx
      rw [hF,if_pos (by omega)]
      rfl
     have ht2:¬ (9:Int)<((k:Nat):Int) - (i:Int):=by omega
     clear hF
     generalize digVal ((s.extract i s.size).data.toList.take (k - i))=n at *
     go_wp2_with (go_at_call 61; refine (specDigit_is _ false d0 d9 hd2 _).mono ?_; rintro e w' ⟨rfl,rfl⟩)
     refine bodyPost_ret (v:=(⟨1,⟨#[]⟩,n,k - i⟩:Nx).valAt i) (by simp [results,Tryz.results66,go_sem,Nx.valAt]; rw [if_neg (by omega)]; omega) rfl ⟨by rw [HE.out],(Below.refl _ w).alloc (Nat.le_refl _) _⟩
    ·have HG:Hid (∀ y ∈ (s.extract i s.size).data.toList.take (k+1 - i),dgb y=true):=by
      rw [show k+1 - i=(k - i)+1 by omega]
      exact mem_take_succ hh hall.out (by rw [HA.out]; exact hd2)
     have HS:Hid (digVal ((s.extract i s.size).data.toList.take (k+1 - i))=digVal ((s.extract i s.size).data.toList.take (k - i)) * 10+((s[k].toNat:Int) - 48)):=by
      rw [show k+1 - i=(k - i)+1 by omega,digVal_take _ _ hh,HA.out]
      rfl
     obtain ⟨c1,c2⟩:=dgi_t hd2
     generalize digVal ((s.extract i s.size).data.toList.take (k - i))=n at *
     go_wp2_with (go_at_call 61; refine (specDigit_is _ true d0 d9 hd2 _).mono ?_; rintro e w' ⟨rfl,rfl⟩)
     go_round
     case rel=>exact ⟨k+1,by omega,by omega,by omega,by go_num,int_eq (by rw [HS.out]; omega),HG⟩
     case measure=>simp [intOf]; omega
   ·have hF:digsLen (s.extract i s.size).data.toList=k - i:=takeWhile_len dgb _ _ (by rw [HL.out]; omega) hall.out (fun h=>absurd h (by rw [HL.out]; omega))
    have HE:Hid (firstNx (s.extract i s.size)=⟨1,⟨#[]⟩,digVal ((s.extract i s.size).data.toList.take (k - i)),k - i⟩):=by
     rw [HQ.out]
     unfold numberNx
     rw [hF,if_pos (by omega)]
     rfl
    have ht2:¬ (9:Int)<((k:Nat):Int) - (i:Int):=by omega
    clear hF
    generalize digVal ((s.extract i s.size).data.toList.take (k - i))=n at *
    go_wp2
    refine bodyPost_ret (v:=(⟨1,⟨#[]⟩,n,k - i⟩:Nx).valAt i) (by simp [results,Tryz.results66,go_sem,Nx.valAt]; rw [if_neg (by omega)]; omega) rfl ⟨by rw [HE.out],(Below.refl _ w).alloc (Nat.le_refl _) _⟩
end Go.Proofs.YtljdgmfcgkimoaaGreatDoor

namespace Go.Proofs.YtljdgmfcgkimoaaGreatDoor
open Go.RowKit Go.Maps Go.Joins Go.WideMaps
set_option maxRecDepth 100000
def twoB:List ByteArray:=[⟨#[91,93]⟩,⟨#[45,62]⟩,⟨#[61,61]⟩]
def oneB:List ByteArray:=[⟨#[92]⟩,⟨#[46]⟩,⟨#[61]⟩,⟨#[59]⟩,⟨#[58]⟩,⟨#[124]⟩,⟨#[60]⟩,⟨#[43]⟩,⟨#[45]⟩,⟨#[42]⟩,⟨#[40]⟩,⟨#[41]⟩]
theorem beq_swap (a b:List UInt8):(a == b)=(b == a):=Bool.eq_iff_iff.2 (by simp only [beq_iff_eq]; exact ⟨fun h=>h.symm,fun h=>h.symm⟩)
theorem two_is (t:ByteArray) (h:t.size=2):among twoB t=isSg t:=by
 have hl:t.toList.length=2:=by rw [ByteArray.toList_eq]; simpa using h
 unfold among isSg twoB signs
 simp only [ByteArray.toList_eq] at hl ⊢
 match e:t.data.toList,hl with
 | [a,b],_ =>
  simp only [List.any_cons,List.any_nil,beq_swap [a,b]]
  simp
theorem one_is (t:ByteArray) (h:t.size=1):among oneB t=isSg t:=by
 have hl:t.toList.length=1:=by rw [ByteArray.toList_eq]; simpa using h
 unfold among isSg oneB signs
 simp only [ByteArray.toList_eq] at hl ⊢
 match e:t.data.toList,hl with
 | [a],_ =>
  simp only [List.any_cons,List.any_nil,beq_swap [a]]
  simp
theorem sign_is (s:ByteArray) (i:Nat) (h:i<s.size):signNx (s.extract i s.size)=if i+2≤s.size∧isSg (s.extract i (i+2))=true then ⟨2,s.extract i (i+2),0,2⟩ else if isSg (s.extract i (i+1)) then ⟨2,s.extract i (i+1),0,1⟩ else Nx.none:=by
 unfold signNx
 rw [ext_ext,ext_ext]
 by_cases h2:i+2≤s.size
 ·have h2':2≤(s.extract i s.size).size:=by simp; omega
  simp only [h2,h2',true_and]
 ·have h2':¬ 2≤(s.extract i s.size).size:=by simp; omega
  simp only [h2,h2',false_and,if_false]
theorem has_is (g n cap:Nat) (ss:List ByteArray) (s:ByteArray) (b:Bool) (w:World) (h:among ss s=b) (hn:n=ss.length) (hm:n≤maxLen)
  (hc:∀ j,j<n→w.cell? ⟨g,j,none⟩=some (.string (ss.getD j ByteArray.empty))) :
  Calls Tryz.prog 39 #[.slice (some ⟨g,0,none⟩) n cap,.string s] w fun e w'=>e = .returned (.bool b)∧w'=w:=by
 rw [← h]; exact has_any g n cap ss s w hn hm hc
theorem lit_cells1 (ss:List ByteArray) (w:World) (o:Obj) (t:TypeId) (j:Nat) (h:j<ss.length):((w.alloc o).alloc (.cells (ss.map Value.string).toArray t)).cell? ⟨w.heap.size+1,j,none⟩=some (.string (ss.getD j ByteArray.empty)):=by
 have:=lit_cells ss (w.alloc o) t j h
 have e:(w.alloc o).heap.size=w.heap.size+1:=by simp
 rw [e] at this
 exact this
theorem lit_cells2 (ss:List ByteArray) (w:World) (o o':Obj) (t:TypeId) (j:Nat) (h:j<ss.length):(((w.alloc o).alloc o').alloc (.cells (ss.map Value.string).toArray t)).cell? ⟨w.heap.size+1+1,j,none⟩=some (.string (ss.getD j ByteArray.empty)):=by
 have:=lit_cells1 ss (w.alloc o) o' t j h
 have e:(w.alloc o).heap.size=w.heap.size+1:=by simp
 rw [e] at this
 exact this
set_option maxHeartbeats 3200000 in
theorem next_sign (s:ByteArray) (i:Nat) (w:World) (hs:s.size≤1048576) (hi:i<s.size) (hl:lti (s[i].toNat:Int)=false) (hd:dgi (s[i].toNat:Int)=false) :
  Calls Tryz.prog 66 #[.string s,.int .i64 i] w fun e w'=>e = .returned ((firstNx (s.extract i s.size)).valAt i)∧Below w.heap.size w w':=by
 have a0:(0:Int)≤(s[i].toNat:Int):=by omega
 have a9:(s[i].toNat:Int)≤255:=by have:=UInt8.toNat_lt s[i]; omega
 have HQ:Hid (firstNx (s.extract i s.size)=signNx (s.extract i s.size)):=by
  unfold firstNx
  rw [ext_fst s i hi,show ltb s[i]=false from hl,show dgb s[i]=false from hd]
  rfl
 have hi':((i:Nat):Int)<(s.size:Int):=by omega
 have HI:=sign_is s i hi
 have hs1:(s.extract i (i+1)).size=1:=by simp; omega
 have h1is:=one_is (s.extract i (i+1)) hs1
 have hsl1:∀ wx,(Instr.slice 9 (.string s) (some (.int .i64 (i:Int))) (some (.int .i64 ((i:Int)+1))) none).run Tryz.prog wx = .ok (.string (s.extract i (i+1))) wx:=fun wx=>by
  have h:=run_slice_string (P:=Tryz.prog) wx 9 s .i64 .i64 (i:Int) ((i:Int)+1) Tryz.underlying9 (by omega) (by omega) (by omega)
  rw [show (i:Int).toNat=i by omega,show ((i:Int)+1).toNat=i+1 by omega] at h
  exact h
 by_cases h2:i+2≤s.size
 ·have hs2:(s.extract i (i+2)).size=2:=by simp; omega
  have h2is:=two_is (s.extract i (i+2)) hs2
  have h2':((i:Nat):Int)+2≤(s.size:Int):=by omega
  have hsl2:∀ wx,(Instr.slice 9 (.string s) (some (.int .i64 (i:Int))) (some (.int .i64 ((i:Int)+2))) none).run Tryz.prog wx = .ok (.string (s.extract i (i+2))) wx:=fun wx=>by
   have h:=run_slice_string (P:=Tryz.prog) wx 9 s .i64 .i64 (i:Int) ((i:Int)+2) Tryz.underlying9 (by omega) (by omega) (by omega)
   rw [show (i:Int).toNat=i by omega,show ((i:Int)+2).toNat=i+2 by omega] at h
   exact h
  cases hg2:isSg (s.extract i (i+2))
  ·have am2:among twoB (s.extract i (i+2))=false:=h2is.trans hg2
   cases hg1:isSg (s.extract i (i+1))
   ·have HE:Hid (firstNx (s.extract i s.size)=Nx.none):=by rw [HQ.out,HI,if_neg (fun e=>by rw [hg2] at e; exact absurd e.2 Bool.false_ne_true),hg1]; rfl
    have am1:among oneB (s.extract i (i+1))=false:=h1is.trans hg1
    clear HI hs1 h1is hs2 h2is hg2 hg1
    go_enter Tryz.func66,Tryz.ntmps66
    go_wp2_with (first
     | (go_at_call 60; refine (specLetter_is _ false a0 a9 hl _).mono ?_; rintro e w' ⟨rfl,rfl⟩)
     | (go_at_call 61; refine (specDigit_is _ false a0 a9 hd _).mono ?_; rintro e w' ⟨rfl,rfl⟩))
    refine (has_is (w.heap.size+1) 3 3 twoB _ false _ am2 rfl (by decide) (lit_cells1 twoB w _ 9)).mono ?_
    rintro e w' ⟨rfl,rfl⟩
    go_wp2_with fail
    refine (has_is (w.heap.size+1+1) 12 12 oneB _ false _ am1 rfl (by decide) (lit_cells2 oneB w _ _ 9)).mono ?_
    rintro e w' ⟨rfl,rfl⟩
    go_wp2
    refine bodyPost_ret (v:=Nx.none.valAt i) (by simp [results,Tryz.results66,go_sem,Nx.valAt,Nx.none]) rfl ⟨by rw [HE.out],(((Below.refl _ w).alloc (Nat.le_refl _) _).alloc (by simp) _).alloc (by simp; omega) _⟩
   ·have HE:Hid (firstNx (s.extract i s.size)=⟨2,s.extract i (i+1),0,1⟩):=by rw [HQ.out,HI,if_neg (fun e=>by rw [hg2] at e; exact absurd e.2 Bool.false_ne_true),hg1]; rfl
    have am1:among oneB (s.extract i (i+1))=true:=h1is.trans hg1
    clear HI hs1 h1is hs2 h2is hg2 hg1
    go_enter Tryz.func66,Tryz.ntmps66
    go_wp2_with (first
     | (go_at_call 60; refine (specLetter_is _ false a0 a9 hl _).mono ?_; rintro e w' ⟨rfl,rfl⟩)
     | (go_at_call 61; refine (specDigit_is _ false a0 a9 hd _).mono ?_; rintro e w' ⟨rfl,rfl⟩))
    refine (has_is (w.heap.size+1) 3 3 twoB _ false _ am2 rfl (by decide) (lit_cells1 twoB w _ 9)).mono ?_
    rintro e w' ⟨rfl,rfl⟩
    go_wp2_with fail
    refine (has_is (w.heap.size+1+1) 12 12 oneB _ true _ am1 rfl (by decide) (lit_cells2 oneB w _ _ 9)).mono ?_
    rintro e w' ⟨rfl,rfl⟩
    go_wp2
    refine bodyPost_ret (v:=(⟨2,s.extract i (i+1),0,1⟩:Nx).valAt i) (by simp [results,Tryz.results66,go_sem,Nx.valAt]) rfl ⟨by rw [HE.out],(((Below.refl _ w).alloc (Nat.le_refl _) _).alloc (by simp) _).alloc (by simp; omega) _⟩
  ·have HE:Hid (firstNx (s.extract i s.size)=⟨2,s.extract i (i+2),0,2⟩):=by rw [HQ.out,HI,if_pos ⟨h2,hg2⟩]; rfl
   have am2:among twoB (s.extract i (i+2))=true:=h2is.trans hg2
   clear HI hs1 h1is hs2 h2is hg2
   go_enter Tryz.func66,Tryz.ntmps66
   go_wp2_with (first
    | (go_at_call 60; refine (specLetter_is _ false a0 a9 hl _).mono ?_; rintro e w' ⟨rfl,rfl⟩)
    | (go_at_call 61; refine (specDigit_is _ false a0 a9 hd _).mono ?_; rintro e w' ⟨rfl,rfl⟩))
   refine (has_is (w.heap.size+1) 3 3 twoB _ true _ am2 rfl (by decide) (lit_cells1 twoB w _ 9)).mono ?_
   rintro e w' ⟨rfl,rfl⟩
   go_wp2
   refine bodyPost_ret (v:=(⟨2,s.extract i (i+2),0,2⟩:Nx).valAt i) (by simp [results,Tryz.results66,go_sem,Nx.valAt]) rfl ⟨by rw [HE.out],((Below.refl _ w).alloc (Nat.le_refl _) _).alloc (by simp) _⟩
 ·have h2':decide (((i:Nat):Int)+2≤(s.size:Int))=false:=by simp; omega
  cases hg1:isSg (s.extract i (i+1))
  ·have HE:Hid (firstNx (s.extract i s.size)=Nx.none):=by rw [HQ.out,HI,if_neg (fun e=>h2 e.1),hg1]; rfl
   have am1:among oneB (s.extract i (i+1))=false:=h1is.trans hg1
   clear HI hs1 h1is hg1
   go_enter Tryz.func66,Tryz.ntmps66
   go_wp2_with (first
    | (go_at_call 60; refine (specLetter_is _ false a0 a9 hl _).mono ?_; rintro e w' ⟨rfl,rfl⟩)
    | (go_at_call 61; refine (specDigit_is _ false a0 a9 hd _).mono ?_; rintro e w' ⟨rfl,rfl⟩))
   refine (has_is (w.heap.size+1) 12 12 oneB _ false _ am1 rfl (by decide) (lit_cells1 oneB w _ 9)).mono ?_
   rintro e w' ⟨rfl,rfl⟩
   go_wp2
   refine bodyPost_ret (v:=Nx.none.valAt i) (by simp [results,Tryz.results66,go_sem,Nx.valAt,Nx.none]) rfl ⟨by rw [HE.out],((Below.refl _ w).alloc (Nat.le_refl _) _).alloc (by simp) _⟩
  ·have HE:Hid (firstNx (s.extract i s.size)=⟨2,s.extract i (i+1),0,1⟩):=by rw [HQ.out,HI,if_neg (fun e=>h2 e.1),hg1]; rfl
   have am1:among oneB (s.extract i (i+1))=true:=h1is.trans hg1
   clear HI hs1 h1is hg1
   go_enter Tryz.func66,Tryz.ntmps66
   go_wp2_with (first
    | (go_at_call 60; refine (specLetter_is _ false a0 a9 hl _).mono ?_; rintro e w' ⟨rfl,rfl⟩)
    | (go_at_call 61; refine (specDigit_is _ false a0 a9 hd _).mono ?_; rintro e w' ⟨rfl,rfl⟩))
   refine (has_is (w.heap.size+1) 12 12 oneB _ true _ am1 rfl (by decide) (lit_cells1 oneB w _ 9)).mono ?_
   rintro e w' ⟨rfl,rfl⟩
   go_wp2
   refine bodyPost_ret (v:=(⟨2,s.extract i (i+1),0,1⟩:Nx).valAt i) (by simp [results,Tryz.results66,go_sem,Nx.valAt]) rfl ⟨by rw [HE.out],((Below.refl _ w).alloc (Nat.le_refl _) _).alloc (by simp) _⟩
theorem next_any (s:ByteArray) (i:Nat) (w:World) (hs:s.size≤1048576) (hi:i<s.size) :
  Calls Tryz.prog 66 #[.string s,.int .i64 i] w fun e w'=>e = .returned ((firstNx (s.extract i s.size)).valAt i)∧Below w.heap.size w w':=by
 cases hl:lti (s[i].toNat:Int)
 ·cases hd:dgi (s[i].toNat:Int)
  ·exact next_sign s i w hs hi hl hd
  ·exact next_digit s i w hs hi hl hd
 ·exact next_letter s i w hs hi hl
end Go.Proofs.YtljdgmfcgkimoaaGreatDoor

namespace Go.Proofs.YtljdgmfcgkimoaaGreatDoor
open Go.RowKit Go.Maps Go.Joins Go.WideMaps
set_option maxRecDepth 100000
theorem grown_of_below {w w':World} {row:Option Nat} (h:Below w.heap.size w w'):w.grownBy w' row:=⟨h.os,h.tape,h.output,h.size,fun k hk _=>h.block k hk⟩
end Go.Proofs.YtljdgmfcgkimoaaGreatDoor

namespace Go.Proofs.YtljdgmfcgkimoaaGreatDoor
open Go.RowKit Go.Maps Go.Joins Go.WideMaps
set_option maxRecDepth 100000
theorem infoTok:(Tryz.prog.info? 130).map (fun i=>(i.zero,i.size,i.bytes))=some (some (.agg #[.int .i64 0,.string ⟨#[]⟩,.int .i64 0,.int .i64 0]),4,40):=by kernel_rfl
theorem cell_four_new (w:World) (x0 x1 x2 x3:Value) (t:TypeId):∀ j u,[x0,x1,x2,x3][j]? = some u→(w.alloc (.cells #[x0,x1,x2,x3] t)).cell? ((⟨w.heap.size,0,none⟩:Addr).add j)=some u:=by
 intro j u hj
 match j,hj with
 | 0,hj=>simp at hj; subst hj; simp [Addr.add]
 | 1,hj=>simp at hj; subst hj; simp [Addr.add]
 | 2,hj=>simp at hj; subst hj; simp [Addr.add]
 | 3,hj=>simp at hj; subst hj; simp [Addr.add]
 | (j+4),hj=>simp at hj
theorem cell_four_new2 (w:World) (o:Obj) (x0 x1 x2 x3:Value) (t:TypeId):∀ j u,[x0,x1,x2,x3][j]? = some u→((w.alloc o).alloc (.cells #[x0,x1,x2,x3] t)).cell? ((⟨w.heap.size+1,0,none⟩:Addr).add j)=some u:=by
 have h:=cell_four_new (w.alloc o) x0 x1 x2 x3 t
 have e:(w.alloc o).heap.size=w.heap.size+1:=by simp
 rw [e] at h
 exact h
theorem tok_oneCell (a c d:Int) (b:ByteArray):∀ u ∈ [Value.int .i64 a,.string b,.int .i64 c,.int .i64 d],u.oneCell'=true:=by
 intro u hu
 simp at hu
 rcases hu with rfl | rfl | rfl | rfl <;> rfl
theorem ret2 {v:Value} {a b:Int} (h:b=a):Ending.returned (.tuple #[v,.int .i64 a]) = .returned (.tuple #[v,.int .i64 b]):=by rw [h]
theorem row_ne {w:World} {base:Nat} {e:TypeId} {size:Nat} {v:Value} {n:Nat} {xs:List Value} (h:w.ownsRow base e size v n xs) {b:Nat} (hb:b<base):v.ownBlock≠some b:=fun e1=>by
 have:=(h.lt b e1).1
 omega
theorem Book.row {w w':World} {b base:Nat} {e:TypeId} {size n:Nat} {v:Value} {xs:List Value} (h:Book w b) (hg:w.grownBy w' v.ownBlock) (hrow:w.ownsRow base e size v n xs) (hb:b<base):Book w' b:=by
 have hne:=row_ne hrow hb
 rcases h with h | ⟨m,hmb,h,ho⟩
 ·exact .inl ((hg.block b (Array.getElem?_eq_some_iff.1 h).1 (fun e1=>hne e1.symm)).trans h)
 ·refine .inr ⟨m,hmb,(hg.block b (Array.getElem?_eq_some_iff.1 h).1 (fun e1=>hne e1.symm)).trans h,ho.kept hg (fun e1 => ?_)⟩
  obtain ⟨es,clock,h1,_⟩:=ho
  rcases hrow.2 with ⟨h2,_⟩ | ⟨g,cap,cur,h2,_,h3,_⟩
  ·rw [h2] at e1
   simp [Value.ownBlock] at e1
  ·rw [h2] at e1
   simp [Value.ownBlock] at e1
   rw [← e1,h1] at h3
   cases h3
end Go.Proofs.YtljdgmfcgkimoaaGreatDoor
