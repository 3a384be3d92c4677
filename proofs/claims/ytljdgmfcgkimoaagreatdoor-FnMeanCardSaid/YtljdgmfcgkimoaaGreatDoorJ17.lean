/-
  Proofs.
  Proofs.
  Proofs.
  Proofs.
-/
import Derived.Test.YtljdgmfcgkimoaaGreatDoorJ16
import Derived.Test.YtljdgmfcgkimoaaGreatDoorJ4
namespace Go.Proofs.YtljdgmfcgkimoaaGreatDoor
open Go.RowKit Go.Maps Go.Joins Go.WideMaps
set_option maxRecDepth 100000
theorem row_empty (w:World) (base:Nat) (e:TypeId) (size:Nat) (h:base≤w.heap.size):(w.alloc (.cells #[] e)).ownsRow base e size (.slice (some ⟨w.heap.size,0,none⟩) 0 0) 0 []:=by
 have:=World.ownsRow_made (size:=size) (e:=e) w #[] 0 h (Nat.zero_le _) (by simp)
 exact this
theorem row_none {w w':World} {base:Nat} {e:TypeId} {size:Nat} {v:Value} {n:Nat} {xs:List Value} (h:w.ownsRow base e size v n xs) (hg:w.grownBy w' none):w'.ownsRow base e size v n xs :=
 h.kept hg (by cases hv:v.ownBlock <;> simp)
theorem row_two (w:World) (o:Obj) (base:Nat) (e:TypeId) (size:Nat) (h:base≤w.heap.size):((w.alloc o).alloc (.cells #[] e)).ownsRow base e size (.slice (some ⟨w.heap.size+1,0,none⟩) 0 0) 0 []:=by
 have h1:=row_empty (w.alloc o) base e size (by simp; omega)
 have e1:(w.alloc o).heap.size=w.heap.size+1:=by simp
 rw [e1] at h1
 exact h1
set_option maxHeartbeats 3200000 in
theorem specLex_any (s:ByteArray) (w:World) (hs:s.size≤1048576) :
  Calls Tryz.prog 36 #[.string s] w fun e w'=>∃ v,e = .returned (.tuple #[v,.int .i64 (lexR s).2])∧w'.ownsRow w.heap.size 130 4 v (lexR s).1.length (toksCells (lexR s).1)∧Below w.heap.size w w':=by
 by_cases hbig:2000<s.size
 ·have HR:Hid (lexR s=([],1)):=by unfold lexR; rw [if_pos hbig]; rfl
  have hb':(2000:Int)<(s.size:Int):=by omega
  go_enter Tryz.func36,Tryz.ntmps36
  go_wp2
  go_ret2
  exact ⟨_,ret2 (by rw [HR.out]),by rw [HR.out]; exact row_empty w _ _ _ (Nat.le_refl _),(Below.refl _ w).alloc (Nat.le_refl _) _⟩
 have HR:Hid (lexR s=lexS s s.size 0 1 []):=by unfold lexR; rw [if_neg hbig]; rfl
 have hb':(s.size:Int)≤2000:=by omega
 obtain ⟨i0,hi,hz0,hz1,hz2⟩:=info_parts infoTok
 go_enter Tryz.func36,Tryz.ntmps36
 go_wp2
 go_loopw [4,5,6] (fun v ln i wr=>∃ (k f:Nat) (l:Int) (acc:List Tok),k≤s.size∧i = .int .i64 k∧ln = .int .i64 l∧1≤l∧l≤k+1∧acc.length≤k ∧
   wr.ownsRow w.heap.size 130 4 v acc.length (toksCells acc)∧Below w.heap.size w wr∧Hid (lexR s=lexS s f k l acc∧s.size - k≤f))
  (fun _ _ i _=>s.size - (intOf i).toNat)
 case atStart=>exact ⟨0,s.size,1,[],Nat.zero_le _,rfl,rfl,by omega,by omega,Nat.zero_le _,row_empty w _ _ _ (Nat.le_refl _),(Below.refl _ w).alloc (Nat.le_refl _) _,HR.out,by omega⟩
 case round =>
  obtain ⟨k,f,l,acc,hk,rfl,rfl,hl1,hl2,hal,hrow,hbw,hlex⟩:=hrel
  by_cases hlt:k<s.size
  ·by_cases h32:(s[k].toNat:Int)=32
   ·obtain ⟨g,hg1,hg2⟩:=lexS_blank s f k l acc hlt hlex.out.2 h32
    have HX:Hid (lexR s=lexS s g (k+1) l acc∧s.size - (k+1)≤g):=⟨hlex.out.1.trans hg1,hg2⟩
    have hb32:((s[k].toNat:Int) == 32)=true:=by simp [h32]
    have hb10:((s[k].toNat:Int) == 10)=false:=by simp [h32]
    clear hg1 hg2 hlex h32
    go_wp2
    go_roundw
    case rel=>exact ⟨k+1,g,l,acc,by omega,by go_num,rfl,hl1,by omega,by omega,hrow,hbw,HX⟩
    case measure=>simp [intOf]; omega
   ·by_cases h10:(s[k].toNat:Int)=10
    ·obtain ⟨g,hg1,hg2⟩:=lexS_line s f k l acc hlt hlex.out.2 h10
     have HX:Hid (lexR s=lexS s g (k+1) (l+1) acc∧s.size - (k+1)≤g):=⟨hlex.out.1.trans hg1,hg2⟩
     have hb32:((s[k].toNat:Int) == 32)=false:=by simp [h32]
     have hb10:((s[k].toNat:Int) == 10)=true:=by simp [h10]
     clear hg1 hg2 hlex h32 h10
     go_wp2
     go_roundw
     case rel=>exact ⟨k+1,g,l+1,acc,by omega,by go_num,rfl,by omega,by omega,by omega,hrow,hbw,HX⟩
     case measure=>simp [intOf]; omega
    ·have hb32:((s[k].toNat:Int) == 32)=false:=by simp [h32]
     have hb10:((s[k].toNat:Int) == 10)=false:=by simp [h10]
     have hxs:(s.extract k s.size).size=s.size - k:=by simp
     have hln:=firstNx_len (s.extract k s.size) (by omega)
     have hnone:=lexS_none s f k l acc hlt hlex.out.2 h32 h10
     have hword:=lexS_word s f k l acc hlt hlex.out.2 h32 h10
     have hl0:=hlex.out.1
     clear hlex h32 h10
     go_wp2_with fail
     refine (next_any s k _ hs hlt).mono ?_
     rintro e w1 ⟨rfl,hb1⟩
     generalize firstNx (s.extract k s.size)=q at *
     have hg1:wr.grownBy w1 none:=grown_of_below hb1
     have hrow1:=row_none hrow hg1
     have hbw1:Below w.heap.size w w1:=hbw.trans (hb1.mono hbw.size)
     have hsz1:=hbw1.size
     unfold Nx.valAt
     by_cases hz:q.len=0
     ·have HF:Hid (lexR s=([],l)):=hl0.trans (hnone hz)
      rw [if_pos hz]
      clear hnone hword hl0
      go_wp2
      go_ret2
      exact ⟨_,ret2 (by rw [HF.out]),by rw [HF.out]; exact row_two w1 _ _ _ _ hsz1,(hbw1.alloc (by omega) _).alloc (by simp; omega) _⟩
     ·obtain ⟨g,hx1,hx2⟩:=hword hz
      have HX:Hid (lexR s=lexS s g (k+q.len) l (acc ++ [q.tok l])∧s.size - (k+q.len)≤g):=⟨hl0.trans hx1,hx2⟩
      rw [if_neg hz]
      have hz':¬ (((k+q.len:Nat):Int)<0):=by omega
      clear hnone hword hl0 hx1 hx2
      go_wp2_with (at_builtin; refine wpList_append_own _ rfl _ _ 79 rfl w.heap.size 130 i0 (.agg #[.int .i64 0,.string ⟨#[]⟩,.int .i64 0,.int .i64 0]) 4 40 Tryz.underlying79 hi hz0 hz1 hz2 rfl (by decide) _ _ _ rfl ((hrow1.alloc _).alloc _) ⟨w1.heap.size+1,0,none⟩ 1 1 [.int .i64 q.kind,.string q.text,.int .i64 q.n,.int .i64 l] rfl rfl (cell_four_new2 _ _ _ _ _ _ _) (tok_oneCell _ _ _ _) (by unfold maxLen; omega) (by omega) (by simp; omega) ?_; intro v2 w2 hown2 hgrow2 hnil2)
      have s2:=hgrow2.size
      simp at s2
      go_roundw
      case rel =>
       refine ⟨k+q.len,g,l,acc ++ [q.tok l],by omega,by go_num,rfl,hl1,by omega,by simp; omega,?_,?_,HX⟩
       ·rw [toksCells_snoc,List.length_append]; exact hown2
       ·exact ((hbw1.alloc (by omega) _).alloc (by simp; omega) _).grown hgrow2 (by simp; omega) (fun j hj=>by have:=(hrow1.lt j hj).1; omega)
      case measure=>simp [intOf]; omega
  ·have HF:Hid (lexR s=(acc,0)):=hlex.out.1.trans (lexS_end s f k l acc hlt)
   clear hlex
   go_wp2
   go_ret2
   exact ⟨_,ret2 (by rw [HF.out]),by rw [HF.out]; exact hrow,hbw⟩
end Go.Proofs.YtljdgmfcgkimoaaGreatDoor

namespace Go.Proofs.YtljdgmfcgkimoaaGreatDoor
open Go.RowKit Go.Joins
set_option maxRecDepth 100000
theorem ToksAt.at {w:World} {P n b off cap:Nat} (h:ToksAt w P (.slice (some ⟨b,off,none⟩) n cap) n) {i:Nat} (hi:i<n):b≠P∧b<w.heap.size∧∃ k t z l,w.cell? ⟨b,off+i * 4,none⟩=some (.int .i64 k)∧w.cell? ⟨b,off+i * 4+1,none⟩=some (.string t)∧w.cell? ⟨b,off+i * 4+2,none⟩=some (.int .i64 z)∧w.cell? ⟨b,off+i * 4+3,none⟩=some (.int .i64 l)∧t.size≤1048576∧inI64 z:=by
 obtain ⟨a,c,hv,hn,hc⟩:=h
 obtain ⟨b',off',k,t,z,l,ha,h1,h2,h3⟩:=hc i hi
 cases hv
 cases ha
 exact ⟨h1,h2,k,t,z,l,h3⟩
set_option maxHeartbeats 1600000 in
theorem tops_any (P n cap:Nat) (a:Option Addr) (w:World) (h:ToksAt w P (.slice a n cap) n) :
  Calls Tryz.prog 37 #[.slice a n cap] w fun r w'=>∃ u:Value,r = .returned u∧∃ ts:List ByteArray,w'.ownsRow w.heap.size 9 1 u ts.length (ts.map Value.string)∧(∀ t ∈ ts,t.size≤1048576)∧ts.length≤n∧Below w.heap.size w w':=by
 obtain ⟨i0,hi0,hz0,hz1,hz2⟩:=info_parts infoStrP
 have hn:n≤2000:=by obtain ⟨_,_,_,hn,_⟩:=h; exact hn
 have HT:=(show Hid (ToksAt w P (.slice a n cap) n) from h)
 clear h
 go_enter Tryz.func37,Tryz.ntmps37
 go_wp2
 go_loopw [3,4,5] (fun o i _ wr=>∃ (k:Nat) (ts:List ByteArray),i = .int .i64 k∧k≤n∧wr.ownsRow w.heap.size 9 1 o ts.length (ts.map Value.string)∧Hid ((∀ t ∈ ts,t.size≤1048576)∧ts.length≤k)∧Below w.heap.size w wr)
  (fun _ i _ _=>n - (intOf i).toNat)
 case atStart=>exact ⟨0,[],rfl,Nat.zero_le _,World.ownsRow_made (size:=1) (e:=9) w #[] 0 (Nat.le_refl _) (Nat.zero_le _) (by simp),⟨fun t ht=>(by cases ht),Nat.le_refl _⟩,(Below.refl _ w).alloc (Nat.le_refl _) _⟩
 case round =>
  obtain ⟨k,ts,rfl,hk,hown,HB,hbw⟩:=hrel
  obtain ⟨a5,c5,rfl⟩:=own_form hown
  by_cases hlt:k+1<n
  ·obtain ⟨b,off,rfl⟩:∃ b off,a=some ⟨b,off,none⟩:=by obtain ⟨a',c',hv,-,hc⟩:=HT.out; obtain ⟨b,off,_,_,_,_,ha,_⟩:=hc 0 (by omega); cases hv; exact ⟨b,off,ha⟩
   obtain ⟨hb1,hb2,k1,t1,z1,l1,e1,f1,-,-,q1,-⟩:=HT.out.at (i:=k) (by omega)
   obtain ⟨-,-,k2,t2,z2,l2,e2,f2,-,-,-,-⟩:=HT.out.at (i:=k+1) (by omega)
   replace e1:=(hbw.cell hb2).trans e1
   replace f1:=(hbw.cell hb2).trans f1
   replace e2:=(hbw.cell hb2).trans e2
   replace f2:=(hbw.cell hb2).trans f2
   have hi1:((k:Nat):Int)<(n:Int):=by omega
   have hi2:((k:Nat):Int)+1<(n:Int):=by omega
   have HG:=(show Hid ((∀ t ∈ ts,t.size≤1048576)∧ts.length≤k+1) from ⟨HB.out.1,Nat.le_succ_of_le HB.out.2⟩)
   have HA:=(show Hid ((∀ t ∈ ts ++ [t1],t.size≤1048576)∧(ts ++ [t1]).length≤k+1) from ⟨fun t ht=>(List.mem_append.1 ht).elim (HB.out.1 t) (fun h=>(List.mem_singleton.1 h) ▸ q1),by have:=HB.out.2; rw [List.length_append]; simp; omega⟩)
   have hl5:ts.length≤2000:=by have:=HB.out.2; omega
   clear hlt q1
   rcases Nat.eq_zero_or_pos k with hk0 | hk0
   ·have hkz:(((k:Nat):Int) == 0)=true:=by simp [hk0]
    clear hk0
    rcases Bool.eq_false_or_eq_true (k1 == 0) with h1 | h1
    ·rcases Bool.eq_false_or_eq_true (k2 == 2) with h2 | h2
     ·rcases Bool.eq_false_or_eq_true (t2.toList == [61]) with h3 | h3
      ·go_wp2_with (at_builtin; refine wpList_append_own _ rfl _ _ 24 rfl w.heap.size 9 i0 _ 1 16 Tryz.underlying24 hi0 hz0 hz1 hz2 rfl (by decide) _ ts.length _ rfl (own_moved hown (fun g hg=>(MapKept.heap_alloc wr _).2 g (own_lt hown g hg))) ⟨wr.heap.size,0,none⟩ 1 1 [.string t1] rfl rfl (fun j u hu=>by match j,hu with | 0,hu=>(simp at hu; subst hu; simp [Addr.add]) | j+1,hu=>simp at hu) (fun u hu=>by simp at hu; subst hu; rfl) (by unfold maxLen; omega) (by omega) (by have:=hbw.size; simp; omega) ?_; intro v2 w2 hown2 hgrow2 hnil2)
       go_roundw
       case rel=>exact ⟨k+1,ts ++ [t1],by go_num,by omega,by rw [List.length_append,List.map_append]; exact hown2,HA.out,(hbw.alloc hbw.size _).grown hgrow2 (by have:=hbw.size; simp; omega) (fun j hj=>by have:=(hown.lt j hj).1; omega)⟩
       case measure=>simp [intOf]; omega
      ·go_wp2
       go_roundw
       case rel=>exact ⟨k+1,ts,by go_num,by omega,hown,HG.out,hbw⟩
       case measure=>simp [intOf]; omega
     ·go_wp2
      go_roundw
      case rel=>exact ⟨k+1,ts,by go_num,by omega,hown,HG.out,hbw⟩
      case measure=>simp [intOf]; omega
    ·go_wp2
     go_roundw
     case rel=>exact ⟨k+1,ts,by go_num,by omega,hown,HG.out,hbw⟩
     case measure=>simp [intOf]; omega
   ·obtain ⟨-,-,k0,t0,z0,l0,e0,f0,-,-,-,-⟩:=HT.out.at (i:=k - 1) (by omega)
    replace e0:=(hbw.cell hb2).trans e0
    replace f0:=(hbw.cell hb2).trans f0
    have hkz:(((k:Nat):Int) == 0)=false:=by simp; omega
    have hkm:((k:Nat):Int) - 1=((k - 1:Nat):Int):=by omega
    have hi0':(((k - 1:Nat)):Int)<(n:Int):=by omega
    rcases Bool.eq_false_or_eq_true (k0 == 2) with h4 | h4
    ·rcases Bool.eq_false_or_eq_true (t0.toList == [59]) with h5 | h5
     ·clear hk0
      rcases Bool.eq_false_or_eq_true (k1 == 0) with h1 | h1
      ·rcases Bool.eq_false_or_eq_true (k2 == 2) with h2 | h2
       ·rcases Bool.eq_false_or_eq_true (t2.toList == [61]) with h3 | h3
        ·go_wp2_with (at_builtin; refine wpList_append_own _ rfl _ _ 24 rfl w.heap.size 9 i0 _ 1 16 Tryz.underlying24 hi0 hz0 hz1 hz2 rfl (by decide) _ ts.length _ rfl (own_moved hown (fun g hg=>(MapKept.heap_alloc wr _).2 g (own_lt hown g hg))) ⟨wr.heap.size,0,none⟩ 1 1 [.string t1] rfl rfl (fun j u hu=>by match j,hu with | 0,hu=>(simp at hu; subst hu; simp [Addr.add]) | j+1,hu=>simp at hu) (fun u hu=>by simp at hu; subst hu; rfl) (by unfold maxLen; omega) (by omega) (by have:=hbw.size; simp; omega) ?_; intro v2 w2 hown2 hgrow2 hnil2)
         go_roundw
         case rel=>exact ⟨k+1,ts ++ [t1],by go_num,by omega,by rw [List.length_append,List.map_append]; exact hown2,HA.out,(hbw.alloc hbw.size _).grown hgrow2 (by have:=hbw.size; simp; omega) (fun j hj=>by have:=(hown.lt j hj).1; omega)⟩
         case measure=>simp [intOf]; omega
        ·go_wp2
         go_roundw
         case rel=>exact ⟨k+1,ts,by go_num,by omega,hown,HG.out,hbw⟩
         case measure=>simp [intOf]; omega
       ·go_wp2
        go_roundw
        case rel=>exact ⟨k+1,ts,by go_num,by omega,hown,HG.out,hbw⟩
        case measure=>simp [intOf]; omega
      ·go_wp2
       go_roundw
       case rel=>exact ⟨k+1,ts,by go_num,by omega,hown,HG.out,hbw⟩
       case measure=>simp [intOf]; omega
     ·go_wp2
      go_roundw
      case rel=>exact ⟨k+1,ts,by go_num,by omega,hown,HG.out,hbw⟩
      case measure=>simp [intOf]; omega
    ·go_wp2
     go_roundw
     case rel=>exact ⟨k+1,ts,by go_num,by omega,hown,HG.out,hbw⟩
     case measure=>simp [intOf]; omega
  ·have hi2:¬ ((k:Nat):Int)+1<(n:Int):=by omega
   have HF:=(show Hid (_∧_) from ⟨HB.out.1,Nat.le_trans HB.out.2 hk⟩)
   clear hlt
   go_wp2
   go_ret
   exact ⟨_,rfl,ts,hown,HF.out.1,HF.out.2,hbw⟩
end Go.Proofs.YtljdgmfcgkimoaaGreatDoor

namespace Go.Proofs.YtljdgmfcgkimoaaGreatDoor
open Go.RowKit Go.Joins
set_option maxRecDepth 100000
theorem flat4_at:∀ {vs:List Value},(∀ v ∈ vs,(cellsE v).length=4)→∀ (i:Nat) (v:Value) (j:Nat) (u:Value),vs[i]? = some v→(cellsE v)[j]? = some u→(vs.flatMap cellsE)[i * 4+j]? = some u
 | [],_,i,v,j,u,h,_=>by simp at h
 | x :: vs,hl,i,v,j,u,h,hu=>by
  have hx:=hl x (List.mem_cons_self ..)
  cases i with
  | zero =>
   obtain rfl:x=v:=by simpa using h
   have hj:=(List.getElem?_eq_some_iff.1 hu).1
   rw [List.flatMap_cons,Nat.zero_mul,Nat.zero_add,List.getElem?_append_left hj]
   exact hu
  | succ i =>
   rw [List.flatMap_cons,List.getElem?_append_right (by rw [hx]; omega),hx,show (i+1) * 4+j - 4=i * 4+j by omega]
   exact flat4_at (fun v hv=>hl v (List.mem_cons_of_mem _ hv)) i v j u (by simpa using h) hu
theorem ExAt.deep {w:World} {S:Nat→Prop} {d d':Nat} {v:Value} {e:Ex} (h:ExAt w S d v e) (hd:d≤d'):ExAt w S d' v e:=by
 obtain ⟨kv,h1,h2,h3,h4,h5⟩:=h
 exact ⟨kv,h1,h2,h3,h4,h5.deep hd⟩
theorem ExAt.four {w:World} {S:Nat→Prop} {d:Nat} {v:Value} {e:Ex} (h:ExAt w S d v e):(cellsE v).length=4:=by
 obtain ⟨kv,rfl,_⟩:=h
 rfl
theorem kidsP_of {w:World} {T:Nat→Prop} {g off cap:Nat} {vs:List Value} (hvs:∀ v ∈ vs,∃ d e,ExAt w T d v e) (hc:∀ j u,(vs.flatMap cellsE)[j]? = some u→w.cell? ⟨g,off+j,none⟩=some u) (hT:vs≠[]→T g∧g<w.heap.size) (hl:vs.length≤maxLen) :
  ∃ d es,es.length=vs.length∧KidsAt w T d (.slice (some ⟨g,off,none⟩) vs.length cap) es:=by
 have key:∀ us:List Value,(∀ v ∈ us,∃ d e,ExAt w T d v e)→∃ (d:Nat) (es:List Ex),es.length=us.length∧∀ (i:Nat) (v:Value) (e:Ex),us[i]? = some v→es[i]? = some e→ExAt w T d v e:=by
  intro us
  induction us with
  | nil=>intro _; exact ⟨0,[],rfl,fun i v e h=>by simp at h⟩
  | cons u us ih =>
   intro h
   obtain ⟨d,es,h1,h2⟩:=ih (fun v hv=>h v (List.mem_cons_of_mem _ hv))
   obtain ⟨d',e,he⟩:=h u (List.mem_cons_self ..)
   refine ⟨max d d',e :: es,by simp [h1],fun i v e2 hv he2 => ?_⟩
   cases i with
   | zero =>
    obtain rfl:u=v:=by simpa using hv
    obtain rfl:e=e2:=by simpa using he2
    exact he.deep (Nat.le_max_right _ _)
   | succ i=>exact (h2 i v e2 (by simpa using hv) (by simpa using he2)).deep (Nat.le_max_left _ _)
 obtain ⟨d,es,h1,h2⟩:=key vs hvs
 refine ⟨d+1,es,h1,_,_,by rw [h1],by omega,fun i e he => ?_⟩
 have hi:i<vs.length:=by have:=(List.getElem?_eq_some_iff.1 he).1; omega
 obtain ⟨v,hv⟩:∃ v,vs[i]? = some v:=⟨_,List.getElem?_eq_getElem hi⟩
 obtain ⟨kv,e1,e2,e3,e4,e5⟩:=h2 i v e hv he
 obtain ⟨t1,t2⟩:=hT (by intro e; rw [e] at hi; simp at hi)
 have hf:∀ v ∈ vs,(cellsE v).length=4:=fun v hv=>by obtain ⟨d,e,h⟩:=hvs v hv; exact h.four
 have at4:∀ j u,(cellsE v)[j]? = some u→w.cell? ⟨g,off+i * 4+j,none⟩=some u:=fun j u hu=>by
  rw [Nat.add_assoc]
  exact hc _ _ (flat4_at hf i v j u hv hu)
 rw [e1] at at4
 exact ⟨g,off,kv,rfl,t1,t2,at4 0 _ rfl,at4 1 _ rfl,at4 2 _ rfl,at4 3 _ rfl,e2,e3,e4,e5⟩
theorem kids_row {w:World} {T:Nat→Prop} {d n cap:Nat} {a:Option Addr} {es:List Ex} (h:KidsAt w T d (.slice a n cap) es):∃ us:List Value,us.length=n∧(∀ u ∈ us,∃ d e,ExAt w T d u e)∧(∀ b,a=some b→∀ j u,(us.flatMap cellsE)[j]? = some u→w.cell? (b.add j)=some u):=by
 cases d with
 | zero=>exact absurd h id
 | succ d =>
  obtain ⟨a',cap',hv,hl,hc⟩:=h
  simp only [Value.slice.injEq] at hv
  obtain ⟨rfl,rfl,rfl⟩:=hv
  have key:∀ m,m≤es.length→∃ us:List Value,us.length=m∧(∀ u ∈ us,∃ d e,ExAt w T d u e)∧(∀ b,a=some b→∀ j u,(us.flatMap cellsE)[j]? = some u→w.cell? (b.add j)=some u):=by
   intro m
   induction m with
   | zero=>intro _; exact ⟨[],rfl,fun u hu=>by simp at hu,fun b _ j u hu=>by simp at hu⟩
   | succ m ih =>
    intro hm
    obtain ⟨us,h1,h2,h3⟩:=ih (by omega)
    obtain ⟨b,off,kv,rfl,t1,t2,c0,c1,c2,c3,r1,r2,r3,r4⟩:=hc m es[m] (List.getElem?_eq_getElem (by omega))
    refine ⟨us ++ [.agg #[.int .i64 es[m].kind,.int .i64 es[m].n,.string es[m].text,kv]],by simp [h1],fun u hu => ?_,fun b' hb' j u hu => ?_⟩
    ·rcases List.mem_append.1 hu with hu | hu
     ·exact h2 u hu
     ·rw [List.mem_singleton.1 hu]
      exact ⟨d,es[m],kv,rfl,r1,r2,r3,r4⟩
    ·cases hb'
     have hf:(us.flatMap cellsE).length=m * 4:=by
      have:∀ l:List Value,(∀ u ∈ l,∃ d e,ExAt w T d u e)→(l.flatMap cellsE).length=l.length * 4:=by
       intro l
       induction l with
       | nil=>intro _; rfl
       | cons x l ih =>
        intro hx
        obtain ⟨d,e,hxx⟩:=hx x (List.mem_cons_self ..)
        rw [List.flatMap_cons,List.length_append,hxx.four,ih (fun u hu=>hx u (List.mem_cons_of_mem _ hu)),List.length_cons]
        omega
      rw [this us h2,h1]
     rw [List.flatMap_append] at hu
     by_cases hj:j<m * 4
     ·rw [List.getElem?_append_left (by omega)] at hu
      exact h3 _ rfl j u hu
     ·rw [List.getElem?_append_right (by omega),hf] at hu
      have hj4:j - m * 4<4:=(List.getElem?_eq_some_iff.1 hu).1
      rw [addr_add,show off+j=off+m * 4+(j - m * 4) by omega]
      generalize j - m * 4=jj at hu hj4 ⊢
      match jj,hj4 with
      | 0,_=>rw [← hu]; exact c0
      | 1,_=>rw [← hu]; exact c1
      | 2,_=>rw [← hu]; exact c2
      | 3,_=>rw [← hu]; exact c3
  exact key _ (Nat.le_refl _)
theorem EV.exAt {S:Nat→Prop} {w:World} {v:Value} (h:EV S w v):∃ d e,ExAt w (fun b=>S b∧Pl w b) d v e:=by
 obtain ⟨d,e,a,hv,h1,h2,h3,h4,-⟩:=h
 exact ⟨d,e,_,hv,h1,h2,h3,h4⟩
structure PgAt (w:World) (B:Nat) (nv bv:Value) (ns:List ByteArray) (vs:List Value):Prop where
 names:w.ownsRow B 9 1 nv ns.length (ns.map Value.string)
 bodies:w.ownsRow B 52 4 bv vs.length (vs.flatMap cellsE)
 ev:∀ u ∈ vs,EV (fun b=>B≤b∧bv.ownBlock≠some b∧nv.ownBlock≠some b) w u
 sz:∀ t ∈ ns,t.size≤1048576
theorem PgAt.nil (w:World) (B:Nat):PgAt w B (.slice none 0 0) (.slice none 0 0) [] [] :=
 ⟨World.ownsRow_nil w B _ 1,World.ownsRow_nil w B _ 4,fun u hu=>by simp at hu,fun t ht=>by simp at ht⟩
theorem PgAt.kb {w w':World} {B:Nat} {nv bv:Value} {ns:List ByteArray} {vs:List Value} (h:PgAt w B nv bv ns vs) (hk:∀ b,B≤b→b<w.heap.size→w'.heap[b]? = w.heap[b]?) (hs:w.heap.size≤w'.heap.size):PgAt w' B nv bv ns vs :=
 ⟨own_moved h.names (fun g hg=>hk g (h.names.lt g hg).1 (own_lt h.names g hg)),own_moved h.bodies (fun g hg=>hk g (h.bodies.lt g hg).1 (own_lt h.bodies g hg)),fun u hu=>(h.ev u hu).kept (fun b hb hlt=>hk b hb.1 hlt) hs (fun _ hb _=>hb),h.sz⟩
theorem PgAt.name {w w':World} {B:Nat} {nv nv' bv:Value} {ns:List ByteArray} {vs:List Value} {t:ByteArray} (h:PgAt w B nv bv ns vs) (hg:w.grownBy w' nv.ownBlock) (hown:w'.ownsRow B 9 1 nv' (ns.length+1) (ns.map Value.string ++ [.string t])) (ht:t.size≤1048576)
  (hne:∀ b,nv'.ownBlock=some b→nv.ownBlock=some b∨w.heap.size≤b):PgAt w' B nv' bv (ns ++ [t]) vs:=by
 have hnb:∀ g,bv.ownBlock=some g→some g≠nv.ownBlock:=own_ne h.bodies h.names (by decide)
 refine ⟨by rw [List.length_append,List.map_append]; exact hown,own_moved h.bodies (fun g hg'=>hg.block g (own_lt h.bodies g hg') (hnb g hg')),fun u hu => ?_,fun x hx => ?_⟩
 ·refine (h.ev u hu).kept (fun b hb hlt=>hg.block b hlt (fun e=>hb.2.2 e.symm)) hg.size (fun b hb hlt=>⟨hb.1,hb.2.1,fun e => ?_⟩)
  rcases hne b e with h1 | h1
  ·exact hb.2.2 h1
  ·omega
 ·rcases List.mem_append.1 hx with hx | hx
  ·exact h.sz x hx
  ·exact (List.mem_singleton.1 hx) ▸ ht
theorem PgAt.body {w w':World} {B:Nat} {nv bv bv':Value} {ns:List ByteArray} {vs:List Value} {u:Value} (h:PgAt w B nv bv ns vs) (hg:w.grownBy w' bv.ownBlock) (hown:w'.ownsRow B 52 4 bv' (vs.length+1) (vs.flatMap cellsE ++ cellsE u)) (hu:EV (fun b=>B≤b∧bv.ownBlock≠some b∧nv.ownBlock≠some b) w u)
  (hne:∀ b,bv'.ownBlock=some b→bv.ownBlock=some b∨w.heap.size≤b):PgAt w' B nv bv' ns (vs ++ [u]):=by
 have hnb:∀ g,nv.ownBlock=some g→some g≠bv.ownBlock:=own_ne h.names h.bodies (by decide)
 refine ⟨own_moved h.names (fun g hg'=>hg.block g (own_lt h.names g hg') (hnb g hg')),by rw [List.length_append,List.flatMap_append]; simpa using hown,fun x hx => ?_,h.sz⟩
 have hx':EV (fun b=>B≤b∧bv.ownBlock≠some b∧nv.ownBlock≠some b) w x:=by
  rcases List.mem_append.1 hx with hx | hx
  ·exact h.ev x hx
  ·exact (List.mem_singleton.1 hx) ▸ hu
 refine hx'.kept (fun b hb hlt=>hg.block b hlt (fun e=>hb.2.1 e.symm)) hg.size (fun b hb hlt=>⟨hb.1,fun e => ?_,hb.2.2⟩)
 rcases hne b e with h1 | h1
 ·exact hb.2.1 h1
 ·omega
theorem PgAt.strs {w:World} {B:Nat} {nv bv:Value} {ns:List ByteArray} {vs:List Value} (h:PgAt w B nv bv ns vs) (hl:ns.length≤maxLen):StrsAt w (fun b=>B≤b∧Pl w b) nv ns:=by
 rcases h.names.2 with ⟨e,h0⟩ | ⟨g,cap,cur,e,hb,hg,_⟩
 ·have:ns=[]:=List.eq_nil_of_length_eq_zero h0
  subst this
  rw [e]
  exact ⟨none,0,rfl,Nat.zero_le _,fun i t ht=>by simp at ht⟩
 ·rw [e]
  refine ⟨_,cap,rfl,hl,fun i t ht=>⟨g,0,rfl,⟨hb,_,_,hg⟩,lh hg,?_,by have:=h.sz t (List.mem_of_getElem? ht); unfold maxLen; omega⟩⟩
  have:=h.names.cells (g:=g) (by rw [e]; rfl) i (.string t) (by rw [List.getElem?_map,ht]; rfl)
  rw [addr_add] at this
  exact this
theorem PgAt.pr {w:World} {B:Nat} {nv bv:Value} {ns:List ByteArray} {vs:List Value} (h:PgAt w B nv bv ns vs) (hn:ns.length≤maxLen) (hl:vs.length≤maxLen):∃ d p,PrAt w (fun b=>B≤b∧Pl w b) d (.agg #[nv,bv]) p∧p.names=ns∧p.bodies.length=vs.length:=by
 have hs:=h.strs hn
 rcases h.bodies.2 with ⟨e,h0⟩ | ⟨g,cap,cur,e,hb,hg,_⟩
 ·have:vs=[]:=List.eq_nil_of_length_eq_zero h0
  subst this
  exact ⟨1,⟨ns,[]⟩,⟨_,_,rfl,hs,by rw [e]; exact ⟨none,0,rfl,Nat.zero_le _,fun i t ht=>by simp at ht⟩⟩,rfl,rfl⟩
 ·obtain ⟨d,es,h1,h2⟩:=kidsP_of (T:=fun b=>B≤b∧Pl w b) (g:=g) (off:=0) (cap:=cap) (vs:=vs) (fun v hv=>by
   obtain ⟨d,e,kv,k1,k2,k3,k4,k5⟩:=(h.ev v hv).exAt
   exact ⟨d,e,kv,k1,k2,k3,k4,k5.kept (fun _ _ _=>rfl) (Nat.le_refl _) (fun b hb _=>⟨hb.1.1,hb.2⟩)⟩) (fun j u hu=>by
    have:=h.bodies.cells (g:=g) (by rw [e]; rfl) j u hu
    rw [addr_add] at this
    exact this) (fun _=>⟨⟨hb,_,_,hg⟩,lh hg⟩) hl
  exact ⟨d,⟨ns,es⟩,⟨_,_,rfl,hs,by rw [e]; exact h2⟩,rfl,h1⟩
end Go.Proofs.YtljdgmfcgkimoaaGreatDoor

namespace Go.Proofs.YtljdgmfcgkimoaaGreatDoor
open Go.RowKit Go.Joins
set_option maxRecDepth 100000
def Tok.good (t:Tok):Prop:=t.text.size≤1048576∧inI64 t.n
theorem firstNx_good (x:ByteArray) (hx:x.size≤1048576):(firstNx x).text.size≤1048576∧inI64 (firstNx x).n:=by
 have h0:inI64 0:=⟨by omega,by omega⟩
 have hn:Nx.none.text.size≤1048576∧inI64 Nx.none.n:=⟨Nat.zero_le _,h0⟩
 have he:∀ k,(x.extract 0 k).size≤1048576:=fun k=>by simp; omega
 unfold firstNx
 split
 ·unfold letterNx
  split
  ·exact ⟨he _,h0⟩
  ·split
   ·exact ⟨he _,h0⟩
   ·exact hn
 ·split
  ·unfold numberNx
   split
   ·rename_i h9
    have:=digs_nonneg x h9
    refine ⟨Nat.zero_le _,?_⟩
    show inI64 (digVal (x.data.toList.take (digsLen x.data.toList)))
    unfold inI64
    omega
   ·exact hn
  ·unfold signNx
   split
   ·exact ⟨he _,h0⟩
   ·split
    ·exact ⟨he _,h0⟩
    ·exact hn
theorem lexS_good (s:ByteArray) (hs:s.size≤1048576):∀ (f i:Nat) (ln:Int) (acc:List Tok),i≤s.size→(∀ u ∈ acc,u.good)→acc.length≤i→(∀ u ∈ (lexS s f i ln acc).1,u.good)∧(lexS s f i ln acc).1.length≤s.size
 | 0,i,_,acc,hi,h1,h2=>⟨h1,Nat.le_trans h2 hi⟩
 | f+1,i,ln,acc,hi,h1,h2=>by
  rw [lexS]
  split
  ·rename_i hlt
   split
   ·exact lexS_good s hs f (i+1) ln acc hlt h1 (Nat.le_succ_of_le h2)
   ·split
    ·exact lexS_good s hs f (i+1) (ln+1) acc hlt h1 (Nat.le_succ_of_le h2)
    ·split
     ·exact ⟨fun u hu=>by simp at hu,Nat.zero_le _⟩
     ·rename_i hz
      have hx:(s.extract i s.size).size=s.size - i:=by simp
      have hln:=firstNx_len (s.extract i s.size) (by omega)
      have hg:=firstNx_good (s.extract i s.size) (by omega)
      refine lexS_good s hs f _ ln _ (by omega) (fun u hu => ?_) (by rw [List.length_append]; simp; omega)
      rcases List.mem_append.1 hu with hu | hu
      ·exact h1 u hu
      ·rw [List.mem_singleton.1 hu]
       exact hg
  ·exact ⟨h1,Nat.le_trans h2 hi⟩
theorem lexR_good (s:ByteArray) (hs:s.size≤1048576):(∀ u ∈ (lexR s).1,u.good)∧(lexR s).1.length≤2000:=by
 unfold lexR
 split
 ·exact ⟨fun u hu=>by simp at hu,Nat.zero_le _⟩
 ·have h:=lexS_good s hs s.size 0 1 [] (Nat.zero_le _) (fun u hu=>by simp at hu) (Nat.le_refl _)
  exact ⟨h.1,by omega⟩
theorem toks_at:∀ {ts:List Tok} (i:Nat) (t:Tok) (j:Nat) (u:Value),ts[i]? = some t→(Tok.cells t)[j]? = some u→(toksCells ts)[i * 4+j]? = some u
 | [],i,t,j,u,h,_=>by simp at h
 | x :: ts,i,t,j,u,h,hu=>by
  cases i with
  | zero =>
   obtain rfl:x=t:=by simpa using h
   have hj:=(List.getElem?_eq_some_iff.1 hu).1
   rw [toksCells,List.flatMap_cons,Nat.zero_mul,Nat.zero_add,List.getElem?_append_left hj]
   exact hu
  | succ i =>
   have hx:(Tok.cells x).length=4:=rfl
   rw [toksCells,List.flatMap_cons,List.getElem?_append_right (by rw [hx]; omega),hx,show (i+1) * 4+j - 4=i * 4+j by omega]
   exact toks_at i t j u (by simpa using h) hu
theorem toks_of {w:World} {B P:Nat} {v:Value} {ts:List Tok} (h:w.ownsRow B 130 4 v ts.length (toksCells ts)) (hl:ts.length≤2000) (hg:∀ u ∈ ts,u.good) (hP:v.ownBlock≠some P):ToksAt w P v ts.length:=by
 obtain ⟨a,cap,e⟩:=own_form h
 refine ⟨a,cap,e,hl,fun i hi => ?_⟩
 obtain ⟨g,cap',e'⟩:=own_some h (by omega)
 have hb:v.ownBlock=some g:=by rw [e']; rfl
 have ha:a=some ⟨g,0,none⟩:=by rw [e] at e'; simpa using (Value.slice.inj e').1
 obtain ⟨t,ht⟩:∃ t,ts[i]? = some t:=⟨_,List.getElem?_eq_getElem hi⟩
 have at4:∀ j u,(Tok.cells t)[j]? = some u→w.cell? ⟨g,0+i * 4+j,none⟩=some u:=fun j u hu=>by
  have:=h.cells (g:=g) hb (i * 4+j) u (toks_at i t j u ht hu)
  rw [addr_add] at this
  rw [Nat.add_assoc]
  exact this
 have hgt:=hg t (List.mem_of_getElem? ht)
 exact ⟨g,0,t.kind,t.text,t.n,t.line,ha,fun e=>hP (by rw [hb,e]),own_lt h g hb,at4 0 _ rfl,at4 1 _ rfl,at4 2 _ rfl,at4 3 _ rfl,hgt.1,hgt.2⟩
end Go.Proofs.YtljdgmfcgkimoaaGreatDoor
