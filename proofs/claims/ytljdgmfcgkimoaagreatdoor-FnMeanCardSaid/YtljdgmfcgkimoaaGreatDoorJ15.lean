/-
  Proofs.
  Proofs.
  Proofs.
  Proofs.
  Proofs.
  Proofs.
  Proofs.
  Proofs.
  Proofs.
  Proofs.
-/
import Derived.Test.YtljdgmfcgkimoaaGreatDoorJ14
import Derived.Test.YtljdgmfcgkimoaaGreatDoorRows
import Derived.WalkKit
import Derived.Test.YtljdgmfcgkimoaaGreatDoorJ3
import Derived.Test.YtljdgmfcgkimoaaGreatDoorShelf
namespace Go.Proofs.YtljdgmfcgkimoaaGreatDoor
open Go.RowKit Go.Maps Go.Joins Go.WideMaps
set_option maxRecDepth 100000
def wordsB:List ByteArray:=[⟨#[108,101,116]⟩,⟨#[105,110]⟩,⟨#[105,102]⟩,⟨#[116,104,101,110]⟩,⟨#[101,108,115,101]⟩,⟨#[99,97,115,101]⟩,⟨#[111,102]⟩,⟨#[112,97,114]⟩]
theorem any_beq (l:List UInt8):∀ ws:List (List UInt8),ws.any (fun x=>x == l)=ws.contains l
 | []=>rfl
 | a :: r=>by
  rw [List.any_cons,List.contains_cons,any_beq l r]
  have hc:(a == l)=(l == a):=Bool.eq_iff_iff.2 (by simp only [beq_iff_eq]; exact ⟨fun h=>h.symm,fun h=>h.symm⟩)
  rw [hc]
theorem among_wordsB (s:ByteArray):among wordsB s=isW s:=by
 unfold among isW
 rw [ByteArray.toList_eq s]
 rw [← any_beq,show words=wordsB.map (fun x=>x.toList) from by simp only [ByteArray.toList_eq,wordsB,words,List.map_cons,List.map_nil],List.any_map]
 rfl
theorem lit_cells (ss:List ByteArray) (w:World) (t:TypeId) (j:Nat) (h:j<ss.length):(w.alloc (.cells (ss.map Value.string).toArray t)).cell? ⟨w.heap.size,j,none⟩=some (.string (ss.getD j ByteArray.empty)):=by
 rw [cell_of_block (MapKept.heap_alloc w _).1]
 simp [List.getElem?_eq_getElem h]
set_option maxHeartbeats 400000 in
theorem specIsWord_any (s:ByteArray) (w:World) :
  Calls Tryz.prog 62 #[.string s] w fun e w'=>e = .returned (.bool (isW s))∧Below w.heap.size w w':=by
 go_enter Tryz.func62,Tryz.ntmps62
 go_wp2_with fail
 refine (has_any w.heap.size 8 8 wordsB s _ rfl (by decide) (lit_cells wordsB w 9)).mono ?_
 rintro e w1 ⟨rfl,rfl⟩
 go_wp2
 go_ret
 exact ⟨ret_bool (among_wordsB s).symm,(Below.refl _ w).alloc (Nat.le_refl _) _⟩
end Go.Proofs.YtljdgmfcgkimoaaGreatDoor

namespace Go.Proofs.YtljdgmfcgkimoaaGreatDoor
open Go.RowKit
set_option maxRecDepth 100000
def inB (x a b:Int):Bool:=decide (a≤x) && decide (x≤b)
theorem specIn_any (x a b:Int) (w:World):Calls Tryz.prog 21 #[.int .i64 x,.int .i64 a,.int .i64 b] w fun e w'=>e = .returned (.bool (inB x a b))∧w'=w:=by
 unfold inB
 by_cases h1:a≤x
 ·have d1:decide (a≤x)=true:=by simpa using h1
  go_enter Tryz.func21,Tryz.ntmps21
  go_wp2
  go_ret
  exact ⟨by simp [h1],rfl⟩
 ·have d1:decide (a≤x)=false:=by simpa using h1
  go_enter Tryz.func21,Tryz.ntmps21
  go_wp2
  go_ret
  exact ⟨by simp,rfl⟩
theorem specIn_is (x a b:Int) (r:Bool) (h:inB x a b=r) (w:World):Calls Tryz.prog 21 #[.int .i64 x,.int .i64 a,.int .i64 b] w fun e w'=>e = .returned (.bool r)∧w'=w:=by
 rw [← h]; exact specIn_any x a b w
end Go.Proofs.YtljdgmfcgkimoaaGreatDoor

namespace Go.Proofs.YtljdgmfcgkimoaaGreatDoor
open Go.RowKit
set_option maxRecDepth 100000
theorem specDigit_is (n:Int) (b:Bool) (h0:0≤n) (h9:n≤255) (h:dgi n=b) (w:World):Calls Tryz.prog 61 #[.int .u8 n] w fun e w'=>e = .returned (.bool b)∧w'=w:=by
 have h':inB n 48 57=b:=h
 go_enter Tryz.func61,Tryz.ntmps61
 go_wp2_with (go_at_call 21; refine (specIn_is _ _ _ _ h' _).mono ?_; rintro e w' ⟨rfl,rfl⟩)
 go_ret
 exact ⟨rfl,rfl⟩
end Go.Proofs.YtljdgmfcgkimoaaGreatDoor

namespace Go.Proofs.YtljdgmfcgkimoaaGreatDoor
open Go.RowKit Go.Maps Go.Joins Go.WideMaps
set_option maxRecDepth 100000
theorem specLetter_is (n:Int) (b:Bool) (h0:0≤n) (h9:n≤255) (h:lti n=b) (w:World):Calls Tryz.prog 60 #[.int .u8 n] w fun e w'=>e = .returned (.bool b)∧w'=w:=by
 have h':inB n 97 122=b:=h
 go_enter Tryz.func60,Tryz.ntmps60
 go_wp2_with (go_at_call 21; refine (specIn_is _ _ _ _ h' _).mono ?_; rintro e w' ⟨rfl,rfl⟩)
 go_ret
 exact ⟨rfl,rfl⟩
theorem name_bad0 (s:ByteArray) (h:0<s.size) (hl:lti (s[0].toNat:Int)=false):nameOk s=false:=by
 have e:ltb (s.data.toList.getD 0 0)=false:=by rw [nameOk_first s h]; exact hl
 simp only [nameOk,e,Bool.and_false,Bool.false_and]
theorem name_bad (s:ByteArray) (k:Nat) (h:k<s.size) (hl:lti (s[k].toNat:Int)=false) (hd:dgi (s[k].toNat:Int)=false):nameOk s=false:=by
 have e:s.data.toList.all nmb=false:=by
  rw [List.all_eq_false]
  refine ⟨s[k],?_,by simp [nmb,ltb,dgb,hl,hd]⟩
  rw [← at_data s k h]
  exact List.getElem_mem _
 simp only [nameOk,e,Bool.and_false,Bool.false_and]
theorem name_fin (s:ByteArray) (h0:0<s.size→ltb (s.data.toList.getD 0 0)=true) (h:∀ x ∈ s.data.toList,nmb x=true):nameOk s=(inB (s.size:Int) 1 8 && !isW s):=by
 have e:s.data.toList.all nmb=true:=List.all_eq_true.2 h
 have c1:inB (s.size:Int) 1 8=(decide (1≤s.size) && decide (s.size≤8)):=by
  unfold inB
  congr 1
  ·exact decide_eq_decide.2 (by omega)
  ·exact decide_eq_decide.2 (by omega)
 rw [c1]
 by_cases hz:0<s.size
 ·simp only [nameOk,e,h0 hz,Bool.and_true]
 ·have:decide (1≤s.size)=false:=by simpa using hz
  simp only [nameOk,this,Bool.false_and]
set_option maxHeartbeats 800000 in
theorem specNameOk_any (s:ByteArray) (w:World) (hs:s.size≤maxLen) :
  Calls Tryz.prog 33 #[.string s] w fun e w'=>e = .returned (.bool (nameOk s))∧Below w.heap.size w w':=by
 have hnot:=hn_not
 unfold maxLen at hs
 go_enter Tryz.func33,Tryz.ntmps33
 go_wp2
 go_loop [3] (fun i=>∃ k:Nat,k≤s.size∧i = .int .i64 k∧Hid ((0<k→ltb (s.data.toList.getD 0 0)=true)∧∀ x ∈ s.data.toList.take k,nmb x=true)) (fun i=>s.size - (intOf i).toNat)
 case atStart=>exact ⟨0,Nat.zero_le _,rfl,fun h=>absurd h (Nat.lt_irrefl 0),fun x hx=>by simp at hx⟩
 case round =>
  obtain ⟨k,hk,rfl,hall⟩:=hrel
  have HL:s.data.toList.length=s.size:=by simp
  by_cases hlt:k<s.size
  ·have b0:(0:Int)≤(s[k].toNat:Int):=by omega
   have b9:(s[k].toNat:Int)≤255:=by have:=UInt8.toNat_lt s[k]; omega
   have HLL:Hid (s.data.toList.length=s.size):=HL
   clear HL
   have next:(k=0→lti (s[k].toNat:Int)=true)→nmb s[k]=true→Hid ((0<k+1→ltb (s.data.toList.getD 0 0)=true)∧∀ x ∈ s.data.toList.take (k+1),nmb x=true):=fun hz hn =>
    ⟨fun _=>by
     by_cases e:k=0
     ·subst e; rw [nameOk_first s hlt]; exact hz rfl
     ·exact hall.out.1 (by omega),
    mem_take_succ (by rw [HLL.out]; exact hlt) hall.out.2 (by rw [at_data s k hlt]; exact hn)⟩
   cases hl:lti (s[k].toNat:Int)
   ·by_cases hk0:k=0
    ·subst hk0
     have HF:Hid (nameOk s=false):=name_bad0 s hlt hl
     clear next
     go_wp2_with (go_at_call 60; refine (specLetter_is _ false b0 b9 hl _).mono ?_; rintro e w' ⟨rfl,rfl⟩)
     go_ret
     exact ⟨by rw [HF.out]; rfl,Below.refl _ _⟩
    ·have hkb:((k:Int) == 0)=false:=by simp; omega
     cases hd:dgi (s[k].toNat:Int)
     ·have HF:Hid (nameOk s=false):=name_bad s k hlt hl hd
      clear next
      go_wp2_with (first
       | (go_at_call 60; refine (specLetter_is _ false b0 b9 hl _).mono ?_; rintro e w' ⟨rfl,rfl⟩)
       | (go_at_call 61; refine (specDigit_is _ false b0 b9 hd _).mono ?_; rintro e w' ⟨rfl,rfl⟩))
      go_ret
      exact ⟨by rw [HF.out]; rfl,Below.refl _ _⟩
     ·have HG:=next (fun e=>absurd e hk0) (by simp [nmb,ltb,dgb,hd])
      clear next
      go_wp2_with (first
       | (go_at_call 60; refine (specLetter_is _ false b0 b9 hl _).mono ?_; rintro e w' ⟨rfl,rfl⟩)
       | (go_at_call 61; refine (specDigit_is _ true b0 b9 hd _).mono ?_; rintro e w' ⟨rfl,rfl⟩))
      go_round
      case rel=>exact ⟨k+1,by omega,by go_num,HG⟩
      case measure=>simp [intOf]; omega
   ·have HG:=next (fun _=>hl) (by simp [nmb,ltb,hl])
    clear next
    go_wp2_with (go_at_call 60; refine (specLetter_is _ true b0 b9 hl _).mono ?_; rintro e w' ⟨rfl,rfl⟩)
    go_round
    case rel=>exact ⟨k+1,by omega,by go_num,HG⟩
    case measure=>simp [intOf]; omega
  ·have e:k=s.size:=by omega
   have hfin:=name_fin s (fun h=>hall.out.1 (by omega)) (fun x hx=>hall.out.2 x (by rw [List.take_of_length_le (by omega)]; exact hx))
   have HF:Hid (nameOk s=(inB (s.size:Int) 1 8 && !isW s)):=hfin
   clear hfin HL
   cases hi:inB (s.size:Int) 1 8
   ·go_wp2_with (go_at_call 21; refine (specIn_is _ _ _ _ hi _).mono ?_; rintro e w' ⟨rfl,rfl⟩)
    go_ret
    exact ⟨by rw [HF.out,hi]; rfl,Below.refl _ _⟩
   ·go_wp2_with (first
     | (go_at_call 21; refine (specIn_is _ _ _ _ hi _).mono ?_; rintro e w' ⟨rfl,rfl⟩)
     | (go_at_call 62; refine (specIsWord_any s _).mono ?_; rintro e w1 ⟨rfl,hb⟩))
    go_ret
    exact ⟨by rw [HF.out,hi]; rfl,hb⟩
end Go.Proofs.YtljdgmfcgkimoaaGreatDoor

namespace Go.Proofs.YtljdgmfcgkimoaaGreatDoor
open Go.RowKit
set_option maxRecDepth 100000
def digVal (l:List UInt8):Int:=l.foldl (fun n c=>n * 10+((c.toNat:Int) - 48)) 0
theorem digVal_snoc (l:List UInt8) (c:UInt8):digVal (l ++ [c])=digVal l * 10+((c.toNat:Int) - 48):=by simp [digVal,List.foldl_append]
theorem digVal_take (l:List UInt8) (k:Nat) (h:k<l.length):digVal (l.take (k+1))=digVal (l.take k) * 10+((l[k].toNat:Int) - 48):=by
 rw [List.take_succ_eq_append_getElem h,digVal_snoc]
theorem dgb_t {c:UInt8} (h:dgb c=true):48≤(c.toNat:Int)∧(c.toNat:Int)≤57:=by simpa [dgb,dgi] using h
theorem digVal_bd (l:List UInt8):∀ k,k≤l.length→(∀ x ∈ l.take k,dgb x=true)→0≤digVal (l.take k)∧digVal (l.take k)<10 ^ k
 | 0,_,_=>by simp [digVal]
 | k+1,hk,h=>by
  have hlt:k<l.length:=hk
  obtain ⟨h1,h2⟩:=digVal_bd l k (Nat.le_of_lt hlt) (fun x hx=>h x (by rw [List.take_succ_eq_append_getElem hlt]; exact List.mem_append_left _ hx))
  have hc:=dgb_t (h l[k] (by rw [List.take_succ_eq_append_getElem hlt]; exact List.mem_append_right _ (List.mem_singleton.2 rfl)))
  rw [digVal_take l k hlt,Int.pow_succ]
  omega
theorem digVal_small (l:List UInt8) (k:Nat) (hk:k≤l.length) (h9:k≤9) (h:∀ x ∈ l.take k,dgb x=true):0≤digVal (l.take k)∧digVal (l.take k)<1000000000:=by
 obtain ⟨h1,h2⟩:=digVal_bd l k hk h
 have:(10:Int) ^ k≤10 ^ 9:=by
  have h':(10:Nat) ^ k≤10 ^ 9:=Nat.pow_le_pow_right (by decide) h9
  exact_mod_cast h'
 exact ⟨h1,by omega⟩
end Go.Proofs.YtljdgmfcgkimoaaGreatDoor

namespace Go.Proofs.YtljdgmfcgkimoaaGreatDoor
open Go.RowKit
set_option maxRecDepth 100000
def signs:List (List UInt8):=[[92],[46],[61],[59],[58],[91,93],[45,62],[124],[61,61],[60],[43],[45],[42],[40],[41]]
def isSg (s:ByteArray):Bool:=signs.any (fun x=>s.toList == x)
end Go.Proofs.YtljdgmfcgkimoaaGreatDoor

namespace Go.Proofs.YtljdgmfcgkimoaaGreatDoor
set_option maxRecDepth 100000
structure Nx where
 kind:Int
 text:ByteArray
 n:Int
 len:Nat
def Nx.none:Nx:=⟨0,⟨#[]⟩,0,0⟩
def letterNx (x:ByteArray):Nx :=
 if isW (x.extract 0 (nameLen x.data.toList)) then ⟨2,x.extract 0 (nameLen x.data.toList),0,nameLen x.data.toList⟩
 else if nameOk (x.extract 0 (nameLen x.data.toList)) then ⟨0,x.extract 0 (nameLen x.data.toList),0,nameLen x.data.toList⟩ else Nx.none
def numberNx (x:ByteArray):Nx :=
 if digsLen x.data.toList≤9 then ⟨1,⟨#[]⟩,digVal (x.data.toList.take (digsLen x.data.toList)),digsLen x.data.toList⟩ else Nx.none
def signNx (x:ByteArray):Nx :=
 if 2≤x.size∧isSg (x.extract 0 2)=true then ⟨2,x.extract 0 2,0,2⟩ else if isSg (x.extract 0 1) then ⟨2,x.extract 0 1,0,1⟩ else Nx.none
def firstNx (x:ByteArray):Nx :=
 if ltb (x.data.toList.getD 0 0) then letterNx x else if dgb (x.data.toList.getD 0 0) then numberNx x else signNx x
def Nx.val (q:Nx):Value:=.tuple #[.agg #[.int .i64 q.kind,.string q.text,.int .i64 q.n,.int .i64 0],.int .i64 q.len]
theorem nameLen_le (x:ByteArray):nameLen x.data.toList≤x.size:=by
 have:=takeWhile_len_le nmb x.data.toList
 unfold nameLen
 simpa using this
theorem digsLen_le (x:ByteArray):digsLen x.data.toList≤x.size:=by
 have:=takeWhile_len_le dgb x.data.toList
 unfold digsLen
 simpa using this
end Go.Proofs.YtljdgmfcgkimoaaGreatDoor

namespace Go.Proofs.YtljdgmfcgkimoaaGreatDoor
open Go.RowKit Go.Maps Go.Joins Go.WideMaps
set_option maxRecDepth 100000
theorem Fresh.kept {w w':World} {b:Nat} {row:Option Nat} (h:Fresh w b) (hg:w.grownBy w' row) (hne:some b≠row):Fresh w' b :=
 (hg.block b (Array.getElem?_eq_some_iff.1 h).1 hne).trans h
theorem Done.kept {w w':World} {b B:Nat} (h:Done w b) (hg:Below B w w') (hB:w.heap.size≤B):Done w' b:=by
 obtain ⟨m,hm,hb,ho⟩:=h
 have hb1:b<B:=Nat.lt_of_lt_of_le (Array.getElem?_eq_some_iff.1 hb).1 hB
 refine ⟨m,hm,(hg.block b hb1).trans hb,?_⟩
 obtain ⟨es,clock,h1,h2⟩:=ho
 exact ⟨es,clock,(hg.block m (Nat.lt_of_lt_of_le (Array.getElem?_eq_some_iff.1 h1).1 hB)).trans h1,h2⟩
def Book (w:World) (b:Nat):Prop:=Fresh w b∨Done w b
theorem Book.below {w w':World} {b B:Nat} (h:Book w b) (hg:Below B w w') (hB:w.heap.size≤B):Book w' b:=by
 rcases h with h | h
 ·exact .inl ((hg.block b (Nat.lt_of_lt_of_le (Array.getElem?_eq_some_iff.1 h).1 hB)).trans h)
 ·exact .inr (h.kept hg hB)
theorem Book.lt {w:World} {b:Nat} (h:Book w b):b<w.heap.size:=by
 rcases h with h | ⟨m,_,h,_⟩
 ·exact (Array.getElem?_eq_some_iff.1 h).1
 ·exact (Array.getElem?_eq_some_iff.1 h).1
theorem Book.alloc {w:World} {b:Nat} (h:Book w b) (o:Obj):Book (w.alloc o) b:=h.below ((Below.refl _ w).alloc (Nat.le_refl _) o) (Nat.le_refl _)
theorem Book.setCell {w:World} {b:Nat} (h:Book w b) {a:Addr} (v:Value) (hne:b≠a.block) (hc:∃ cs t fr,w.heap[a.block]? = some (.cells cs t fr)):Book (w.setCell a v) b:=by
 obtain ⟨cs,t,fr,hc⟩:=hc
 rcases h with h | ⟨m,hmb,h,ho⟩
 ·exact .inl ((Below.heap_setCell w a v b hne).trans h)
 ·refine .inr ⟨m,hmb,(Below.heap_setCell w a v b hne).trans h,ho.setCell (fun e => ?_) v⟩
  obtain ⟨es,clock,h1,_⟩:=ho
  rw [e,hc] at h1
  cases h1
theorem tok_cells {w:World} {g:Nat} {a b c d:Value} {t:TypeId} {fr:Nat×Nat} (h:w.heap[g]? = some (.cells #[a,b,c,d] t fr)):w.cell? ⟨g,0,none⟩=some a∧w.cell? ⟨g,1,none⟩=some b∧w.cell? ⟨g,2,none⟩=some c∧w.cell? ⟨g,3,none⟩=some d:=by
 refine ⟨?_,?_,?_,?_⟩ <;> (rw [cell_of_block h]; rfl)
theorem tok_frozen {w:World} {g:Nat} {a b c d:Value} {t:TypeId} (h:w.heap[g]? = some (.cells #[a,b,c,d] t)):w.frozen? ⟨g,0,none⟩=false∧w.frozen? ⟨g,1,none⟩=false∧w.frozen? ⟨g,2,none⟩=false∧w.frozen? ⟨g,3,none⟩=false :=
 ⟨unfrozen_of_block h 0,unfrozen_of_block h 1,unfrozen_of_block h 2,unfrozen_of_block h 3⟩
theorem tok_stored {w:World} {g:Nat} {a b c d:Value} {t:TypeId} {fr:Nat×Nat} (h:w.heap[g]? = some (.cells #[a,b,c,d] t fr)) (a' b' c' d':Value) :
  ((((w.setCell ⟨g,0,none⟩ a').setCell ⟨g,1,none⟩ b').setCell ⟨g,2,none⟩ c').setCell ⟨g,3,none⟩ d').heap[g]? = some (.cells #[a',b',c',d'] t fr) :=
 block_setCell (block_setCell (block_setCell (block_setCell h a') b') c') d'
end Go.Proofs.YtljdgmfcgkimoaaGreatDoor

namespace Go.Proofs.YtljdgmfcgkimoaaGreatDoor
open Go.RowKit Go.Maps Go.Joins Go.WideMaps
set_option maxRecDepth 100000
theorem take_takeWhile {α : Type} (p : α → Bool) (l:List α):l.take (l.takeWhile p).length=l.takeWhile p:=(List.prefix_iff_eq_take.1 (List.takeWhile_prefix p)).symm
theorem digs_nonneg (x:ByteArray) (h:digsLen x.data.toList≤9):0≤digVal (x.data.toList.take (digsLen x.data.toList))∧digVal (x.data.toList.take (digsLen x.data.toList))<1000000000:=by
 refine digVal_small _ _ (takeWhile_len_le _ _) h (fun y hy => ?_)
 unfold digsLen at hy
 rw [take_takeWhile] at hy
 exact List.all_eq_true.1 List.all_takeWhile y hy
theorem below_of_tok {w w':World} {g:Nat} (h:Below w.heap.size w w') (hB:w.heap.size≤g) (a' b' c' d':Value) :
  Below w.heap.size w ((((w'.setCell ⟨g,0,none⟩ a').setCell ⟨g,1,none⟩ b').setCell ⟨g,2,none⟩ c').setCell ⟨g,3,none⟩ d') :=
 (((h.setCell (p:=⟨g,0,none⟩) hB a').setCell (p:=⟨g,1,none⟩) hB b').setCell (p:=⟨g,2,none⟩) hB c').setCell (p:=⟨g,3,none⟩) hB d'
end Go.Proofs.YtljdgmfcgkimoaaGreatDoor

namespace Go.Proofs.YtljdgmfcgkimoaaGreatDoor
set_option maxRecDepth 100000
structure Tok where
 kind:Int
 text:ByteArray
 n:Int
 line:Int
def Tok.cells (t:Tok):List Value:=[.int .i64 t.kind,.string t.text,.int .i64 t.n,.int .i64 t.line]
def toksCells (ts:List Tok):List Value:=ts.flatMap Tok.cells
theorem toksCells_snoc (ts:List Tok) (t:Tok):toksCells (ts ++ [t])=toksCells ts ++ t.cells:=by simp [toksCells]
def Nx.tok (q:Nx) (ln:Int):Tok:=⟨q.kind,q.text,q.n,ln⟩
def lexS (s:ByteArray):Nat→Nat→Int→List Tok→List Tok×Int
 | 0,_,_,acc=>(acc,0)
 | f+1,i,ln,acc =>
  if i<s.size then
   if ((s.data.toList.getD i 0).toNat:Int)=32 then lexS s f (i+1) ln acc
   else if ((s.data.toList.getD i 0).toNat:Int)=10 then lexS s f (i+1) (ln+1) acc
   else if (firstNx (s.extract i s.size)).len=0 then ([],ln)
   else lexS s f (i+(firstNx (s.extract i s.size)).len) ln (acc ++ [(firstNx (s.extract i s.size)).tok ln])
  else (acc,0)
def lexR (s:ByteArray):List Tok×Int:=if 2000<s.size then ([],1) else lexS s s.size 0 1 []
theorem lexS_end (s:ByteArray) (f i:Nat) (ln:Int) (acc:List Tok) (h:¬ i<s.size):lexS s f i ln acc=(acc,0):=by
 cases f with
 | zero=>rfl
 | succ f=>rw [lexS,if_neg h]
theorem getD_at (s:ByteArray) (i:Nat) (h:i<s.size):s.data.toList.getD i 0=s[i]:=by
 have:i<s.data.toList.length:=by simpa using h
 rw [List.getD,List.getElem?_eq_getElem this]
 rfl
theorem lexS_blank (s:ByteArray) (f i:Nat) (ln:Int) (acc:List Tok) (h:i<s.size) (hf:s.size - i≤f) (hb:(s[i].toNat:Int)=32):∃ g,lexS s f i ln acc=lexS s g (i+1) ln acc∧s.size - (i+1)≤g:=by
 cases f with
 | zero=>omega
 | succ f=>exact ⟨f,by rw [lexS,if_pos h,getD_at s i h,if_pos hb],by omega⟩
theorem lexS_line (s:ByteArray) (f i:Nat) (ln:Int) (acc:List Tok) (h:i<s.size) (hf:s.size - i≤f) (hb:(s[i].toNat:Int)=10):∃ g,lexS s f i ln acc=lexS s g (i+1) (ln+1) acc∧s.size - (i+1)≤g:=by
 cases f with
 | zero=>omega
 | succ f=>exact ⟨f,by rw [lexS,if_pos h,getD_at s i h,if_neg (by omega),if_pos hb],by omega⟩
theorem lexS_none (s:ByteArray) (f i:Nat) (ln:Int) (acc:List Tok) (h:i<s.size) (hf:s.size - i≤f) (h1:¬ (s[i].toNat:Int)=32) (h2:¬ (s[i].toNat:Int)=10) (hz:(firstNx (s.extract i s.size)).len=0):lexS s f i ln acc=([],ln):=by
 cases f with
 | zero=>omega
 | succ f=>rw [lexS,if_pos h,getD_at s i h,if_neg h1,if_neg h2,if_pos hz]
theorem lexS_word (s:ByteArray) (f i:Nat) (ln:Int) (acc:List Tok) (h:i<s.size) (hf:s.size - i≤f) (h1:¬ (s[i].toNat:Int)=32) (h2:¬ (s[i].toNat:Int)=10) (hz:¬ (firstNx (s.extract i s.size)).len=0) :
  ∃ g,lexS s f i ln acc=lexS s g (i+(firstNx (s.extract i s.size)).len) ln (acc ++ [(firstNx (s.extract i s.size)).tok ln])∧s.size - (i+(firstNx (s.extract i s.size)).len)≤g:=by
 cases f with
 | zero=>omega
 | succ f=>exact ⟨f,by rw [lexS,if_pos h,getD_at s i h,if_neg h1,if_neg h2,if_neg hz],by omega⟩
theorem firstNx_len (x:ByteArray) (h:1≤x.size):(firstNx x).len≤x.size:=by
 have hn:=nameLen_le x
 have hd:=digsLen_le x
 unfold firstNx
 split
 ·unfold letterNx; split
  ·exact hn
  ·split
   ·exact hn
   ·exact Nat.zero_le _
 ·split
  ·unfold numberNx; split
   ·exact hd
   ·exact Nat.zero_le _
  ·unfold signNx; split
   ·exact (‹2≤x.size∧_›).1
   ·split
    ·exact h
    ·exact Nat.zero_le _
end Go.Proofs.YtljdgmfcgkimoaaGreatDoor
