/-
  Proofs.
  Proofs.
  Proofs.
  Proofs.
  Proofs.
  Proofs.
  Proofs.
  Proofs.
-/
import Derived.Test.YtljdgmfcgkimoaaGreatDoorJ2
import Derived.Test.YtljdgmfcgkimoaaGreatDoorRows
import Derived.WalkKit
import Derived.Defers
import Derived.Laws.Pointers
import Derived.Laws.LoneSync
import Derived.RegionTactic
import Derived.RegionCalls
import Derived.ChangeAlike
import Derived.Test.YtljdgmfcgkimoaaGreatDoorJ1
import Derived.Maps.OwnSet
import Derived.Maps.OwnOps
import Derived.Maps.AppendAt
import Derived.Maps.RangeWalk
import Derived.Lib.SmallJoins
import Derived.Lib.BufferOwn
namespace Go.Proofs.YtljdgmfcgkimoaaGreatDoor
open Go.RowKit Go.Joins
set_option maxRecDepth 100000
def kidsOf (k:Int):Int :=
 if k=0∨k=1∨k=2∨k=7 then 0 else if k=3 then 1 else if k=4∨k=5∨k=8∨k=10∨k=11 then 2 else if k=6∨k=9 then 3 else -1
def inR (n a b:Int):Bool:=decide (a≤n) && decide (n≤b)
def opTexts:List (List UInt8):=[[61,61],[60],[43],[45],[42]]
def isOp (t:ByteArray):Bool:=opTexts.contains t.toList
def kind0 (ks:List Ex):Int:=(ks.head?.map Ex.kind).getD 0
def fieldsB (k n:Int) (t:ByteArray) (ks:List Ex) (scope tops:Int):Bool :=
 if k=10 then n == 0 && isOp t
 else if t.toList≠[] then false
 else if k=0 then inR n 0 999999999
 else if k=1 then inR n 0 (scope - 1)
 else if k=2 then inR n 0 (tops - 1)
 else if k=3 then inR n 1 6
 else if k=11 then n == 0 && (kind0 ks == 1 || kind0 ks == 2)
 else n == 0
def moreN (k n:Int) (i:Nat):Int:=if k=3 then n else if k=5 then 1 else if k=9∧i=2 then 2 else 0
mutual
def Ex.right:Ex→Int→Int→Int→Bool
 | .mk k n t ks,scope,tops,deep=>decide (0≤deep) && decide (scope≤90) && decide ((ks.length:Int)=kidsOf k) && fieldsB k n t ks scope tops && Ex.rightL k n 0 ks scope tops (deep - 1)
def Ex.rightL:Int→Int→Nat→List Ex→Int→Int→Int→Bool
 | _,_,_,[],_,_,_=>true
 | k,n,i,e :: r,scope,tops,deep=>e.right (scope+moreN k n i) tops deep && Ex.rightL k n (i+1) r scope tops deep
end
theorem Ex.right_eq (e:Ex) (scope tops deep:Int):e.right scope tops deep=(decide (0≤deep) && decide (scope≤90) && decide ((e.kids.length:Int)=kidsOf e.kind) && fieldsB e.kind e.n e.text e.kids scope tops && Ex.rightL e.kind e.n 0 e.kids scope tops (deep - 1)):=by
 cases e; rw [Ex.right]; rfl
theorem rightL_iff (k n:Int) (scope tops deep:Int):∀ (ks:List Ex) (j:Nat),Ex.rightL k n j ks scope tops deep=true↔∀ (i:Nat) (e:Ex),ks[i]? = some e→e.right (scope+moreN k n (j+i)) tops deep=true
 | [],j=>by simp [Ex.rightL]
 | x :: r,j=>by
  rw [Ex.rightL,Bool.and_eq_true,rightL_iff k n scope tops deep r (j+1)]
  constructor
  ·rintro ⟨h1,h2⟩ i e he
   cases i with
   | zero=>simp at he; subst he; exact h1
   | succ i=>have:=h2 i e (by simpa using he); rw [show j+(i+1)=j+1+i by omega]; exact this
  ·intro h
   exact ⟨h 0 x rfl,fun i e he=>by have:=h (i+1) e (by simpa using he); rw [show j+1+i=j+(i+1) by omega]; exact this⟩
theorem right_iff (e:Ex) (scope tops deep:Int):e.right scope tops deep=true↔0≤deep∧scope≤90∧(e.kids.length:Int)=kidsOf e.kind∧fieldsB e.kind e.n e.text e.kids scope tops=true∧∀ (i:Nat) (k:Ex),e.kids[i]? = some k→k.right (scope+moreN e.kind e.n i) tops (deep - 1)=true:=by
 rw [Ex.right_eq]
 simp only [Bool.and_eq_true,decide_eq_true_eq,rightL_iff,Nat.zero_add]
 constructor
 ·rintro ⟨⟨⟨⟨h1,h2⟩,h3⟩,h4⟩,h5⟩; exact ⟨h1,h2,h3,h4,h5⟩
 ·rintro ⟨h1,h2,h3,h4,h5⟩; exact ⟨⟨⟨⟨h1,h2⟩,h3⟩,h4⟩,h5⟩
mutual
theorem Ex.right_mono:∀ (e:Ex) (scope tops deep deep':Int),deep≤deep'→e.right scope tops deep=true→e.right scope tops deep'=true
 | .mk k n t ks,scope,tops,deep,deep',h,hr=>by
  rw [Ex.right] at hr ⊢
  simp only [Bool.and_eq_true,decide_eq_true_eq] at hr ⊢
  obtain ⟨⟨⟨⟨h1,h2⟩,h3⟩,h4⟩,h5⟩:=hr
  exact ⟨⟨⟨⟨by omega,h2⟩,h3⟩,h4⟩,Ex.rightL_mono k n 0 ks scope tops _ _ (by omega) h5⟩
theorem Ex.rightL_mono:∀ (k n:Int) (i:Nat) (ks:List Ex) (scope tops deep deep':Int),deep≤deep'→Ex.rightL k n i ks scope tops deep=true→Ex.rightL k n i ks scope tops deep'=true
 | _,_,_,[],_,_,_,_,_,_=>by rw [Ex.rightL]
 | k,n,i,e :: r,scope,tops,deep,deep',h,hr=>by
  rw [Ex.rightL,Bool.and_eq_true] at hr ⊢
  exact ⟨Ex.right_mono e _ tops _ _ h hr.1,Ex.rightL_mono k n (i+1) r scope tops _ _ h hr.2⟩
end
theorem moreN_le {k n:Int} {t:ByteArray} {ks:List Ex} {scope tops:Int} (h:fieldsB k n t ks scope tops=true) (i:Nat):0≤moreN k n i∧moreN k n i≤6:=by
 unfold moreN
 by_cases h3:k=3
 ·subst h3
  unfold fieldsB at h
  by_cases ht:t.toList≠[]
  ·rw [if_neg (by omega),if_pos ht] at h; cases h
  ·rw [if_neg (by omega),if_neg ht,if_neg (by omega),if_neg (by omega),if_neg (by omega),if_pos rfl] at h
   unfold inR at h
   simp only [Bool.and_eq_true,decide_eq_true_eq] at h
   rw [if_pos rfl]; omega
 ·rw [if_neg h3]
  split
  ·omega
  ·split <;> omega
end Go.Proofs.YtljdgmfcgkimoaaGreatDoor

namespace Go.Proofs.YtljdgmfcgkimoaaGreatDoor
set_option maxRecDepth 100000
def lti (n:Int):Bool:=decide (97≤n) && decide (n≤122)
def dgi (n:Int):Bool:=decide (48≤n) && decide (n≤57)
def ltb (c:UInt8):Bool:=lti c.toNat
def dgb (c:UInt8):Bool:=dgi c.toNat
def nmb (c:UInt8):Bool:=ltb c || dgb c
theorem takeWhile_len {α : Type} (p : α → Bool):∀ (l:List α) (k:Nat),k≤l.length→(∀ x ∈ l.take k,p x=true)→(∀ h:k<l.length,p l[k]=false)→(l.takeWhile p).length=k
 | [],k,hk,_,_=>by simp at hk; simp [hk]
 | a :: r,0,_,_,he=>by
  have:=he (by simp)
  simp at this
  simp [this]
 | a :: r,k+1,hk,h,he=>by
  have ha:p a=true:=h a (by simp)
  rw [List.takeWhile_cons,if_pos ha,List.length_cons,takeWhile_len p r k (by simpa using hk) (fun x hx=>h x (by simp [hx])) (fun hh=>he (Nat.succ_lt_succ hh))]
theorem takeWhile_len_le {α : Type} (p : α → Bool) (l:List α):(l.takeWhile p).length≤l.length:=(List.takeWhile_sublist p).length_le
theorem takeWhile_full {α : Type} (p : α → Bool):∀ l:List α,((l.takeWhile p).length=l.length)↔l.all p=true
 | []=>by simp
 | a :: r=>by
  by_cases h:p a=true
  ·rw [List.takeWhile_cons,if_pos h,List.length_cons,List.length_cons,List.all_cons,h,Bool.true_and,← takeWhile_full p r]; omega
  ·rw [List.takeWhile_cons,if_neg h]; simp [h]
theorem mem_take_succ {α : Type} {l:List α} {k:Nat} (h:k<l.length) {P : α → Prop} (h1:∀ x ∈ l.take k,P x) (h2:P l[k]):∀ x ∈ l.take (k+1),P x:=by
 intro x hx
 rw [List.take_succ_eq_append_getElem h] at hx
 rcases List.mem_append.1 hx with hx | hx
 ·exact h1 x hx
 ·rw [List.mem_singleton.1 hx]; exact h2
def nameLen (l:List UInt8):Nat:=(l.takeWhile nmb).length
def digsLen (l:List UInt8):Nat:=(l.takeWhile dgb).length
theorem at_data (s:ByteArray) (k:Nat) (h:k<s.size):s.data.toList[k]'(by simpa using h)=s[k]:=rfl
end Go.Proofs.YtljdgmfcgkimoaaGreatDoor

namespace Go.Proofs.YtljdgmfcgkimoaaGreatDoor
open Go.RowKit
set_option maxRecDepth 100000
theorem dgi_t {n:Int} (h:dgi n=true):48≤n∧n≤57:=by simpa [dgi] using h
theorem isDigit_any (n:Int) (w:World):Calls Tryz.prog 106 #[.int .u8 n] w fun e w'=>e = .returned (.bool (dgi n))∧w'=w:=by
 unfold dgi
 by_cases h1:48≤n
 ·have d1:decide (48≤n)=true:=by simpa using h1
  go_enter Tryz.func106,Tryz.ntmps106
  go_wp2
  go_ret
  exact ⟨by simp [h1],rfl⟩
 ·have d1:decide (48≤n)=false:=by simpa using h1
  go_enter Tryz.func106,Tryz.ntmps106
  go_wp2
  go_ret
  exact ⟨by simp,rfl⟩
theorem isDigit_is (n:Int) (b:Bool) (h:dgi n=b) (w:World):Calls Tryz.prog 106 #[.int .u8 n] w fun e w'=>e = .returned (.bool b)∧w'=w:=by
 rw [← h]; exact isDigit_any n w
theorem ret_int {k:IntKind} {a b:Int} (h:a=b):Ending.returned (.int k a) = .returned (.int k b):=by rw [h]
end Go.Proofs.YtljdgmfcgkimoaaGreatDoor

namespace Go.Proofs.YtljdgmfcgkimoaaGreatDoor
open Go.RowKit
set_option maxRecDepth 100000
theorem isLetter_any (n:Int) (w:World):Calls Tryz.prog 94 #[.int .u8 n] w fun e w'=>e = .returned (.bool (lti n))∧w'=w:=by
 unfold lti
 by_cases h1:97≤n
 ·have d1:decide (97≤n)=true:=by simpa using h1
  go_enter Tryz.func94,Tryz.ntmps94
  go_wp2
  go_ret
  exact ⟨by simp [h1],rfl⟩
 ·have d1:decide (97≤n)=false:=by simpa using h1
  go_enter Tryz.func94,Tryz.ntmps94
  go_wp2
  go_ret
  exact ⟨by simp,rfl⟩
theorem isLetter_is (n:Int) (b:Bool) (h:lti n=b) (w:World):Calls Tryz.prog 94 #[.int .u8 n] w fun e w'=>e = .returned (.bool b)∧w'=w:=by
 rw [← h]; exact isLetter_any n w
set_option maxHeartbeats 800000 in
theorem nameLength_any (s:ByteArray) (w:World) (hs:s.size≤maxLen) :
  Calls Tryz.prog 95 #[.string s] w fun e w'=>e = .returned (.int .i64 (nameLen s.data.toList))∧w'=w:=by
 unfold maxLen at hs
 go_enter Tryz.func95,Tryz.ntmps95
 go_wp2
 go_loop [3] (fun i=>∃ k:Nat,k≤s.size∧i = .int .i64 k∧Hid (∀ x ∈ s.data.toList.take k,nmb x=true)) (fun i=>s.size - (intOf i).toNat)
 case atStart=>exact ⟨0,Nat.zero_le _,rfl,fun x hx=>by simp at hx⟩
 case round =>
  obtain ⟨k,hk,rfl,hall⟩:=hrel
  have HL:s.data.toList.length=s.size:=by simp
  by_cases hlt:k<s.size
  ·have hat:=at_data s k hlt
   have HA:Hid (s.data.toList[k]'(by simpa using hlt)=s[k]):=hat
   have HLL:Hid (s.data.toList.length=s.size):=HL
   clear hat HL
   have stay:nmb s[k]=false→nameLen s.data.toList=k:=fun hn=>takeWhile_len nmb _ k (by rw [HLL.out]; exact hk) hall.out (fun _=>by rw [HA.out]; exact hn)
   have goes:nmb s[k]=true→Hid (∀ x ∈ s.data.toList.take (k+1),nmb x=true):=fun hn=>mem_take_succ (by rw [HLL.out]; exact hlt) hall.out (by rw [HA.out]; exact hn)
   have hnm:nmb s[k]=(lti (s[k].toNat:Int) || dgi (s[k].toNat:Int)):=rfl
   cases hl:lti (s[k].toNat:Int)
   ·cases hd:dgi (s[k].toNat:Int)
    ·have HF:Hid (nameLen s.data.toList=k):=stay (by rw [hnm,hl,hd]; rfl)
     clear stay goes hnm
     go_wp2_with (first
      | (go_at_call 94; refine (isLetter_is _ false hl _).mono ?_; rintro e w' ⟨rfl,rfl⟩)
      | (go_at_call 106; refine (isDigit_is _ false hd _).mono ?_; rintro e w' ⟨rfl,rfl⟩))
     go_ret
     exact ⟨ret_int (by rw [HF.out]),rfl⟩
    ·have HG:=goes (by rw [hnm,hl,hd]; rfl)
     clear stay goes hnm
     go_wp2_with (first
      | (go_at_call 94; refine (isLetter_is _ false hl _).mono ?_; rintro e w' ⟨rfl,rfl⟩)
      | (go_at_call 106; refine (isDigit_is _ true hd _).mono ?_; rintro e w' ⟨rfl,rfl⟩))
     go_round
     case rel=>exact ⟨k+1,by omega,by go_num,HG⟩
     case measure=>simp [intOf]; omega
   ·have HG:=goes (by rw [hnm,hl]; rfl)
    clear stay goes hnm
    go_wp2_with (go_at_call 94; refine (isLetter_is _ true hl _).mono ?_; rintro e w' ⟨rfl,rfl⟩)
    go_round
    case rel=>exact ⟨k+1,by omega,by go_num,HG⟩
    case measure=>simp [intOf]; omega
  ·have HF:Hid (nameLen s.data.toList=k):=takeWhile_len nmb _ k (by rw [HL]; exact hk) hall.out (fun h=>absurd h (by rw [HL]; exact hlt))
   clear HL
   go_wp2
   go_ret
   exact ⟨ret_int (by rw [HF.out]),rfl⟩
end Go.Proofs.YtljdgmfcgkimoaaGreatDoor

namespace Go.Proofs.YtljdgmfcgkimoaaGreatDoor
open Go.RowKit
set_option maxRecDepth 100000
theorem o_disable (w:World):(callFunc 132 #[]).run Tryz.prog w = .ok (.value (.tuple #[])) w:=run_call_mark0 Tryz.func132 (by kernel_rfl) (by kernel_rfl) (by kernel_rfl) .disable (by kernel_rfl) w
theorem o_enable (w:World):(callFunc 134 #[]).run Tryz.prog w = .ok (.value (.tuple #[])) w:=run_call_mark0 Tryz.func134 (by kernel_rfl) (by kernel_rfl) (by kernel_rfl) .enable (by kernel_rfl) w
theorem o_acquire (a:Addr) (w:World):(callFunc 135 #[.pointer (some a)]).run Tryz.prog w = .ok (.value (.tuple #[])) w:=run_call_marked Tryz.func135 (by kernel_rfl) (by kernel_rfl) (by kernel_rfl) .acquire (by kernel_rfl) a w
theorem o_releaseMerge (a:Addr) (w:World):(callFunc 137 #[.pointer (some a)]).run Tryz.prog w = .ok (.value (.tuple #[])) w:=run_call_marked Tryz.func137 (by kernel_rfl) (by kernel_rfl) (by kernel_rfl) .releaseMerge (by kernel_rfl) a w
theorem o_store_deferred (a:Addr) (x:Value) (u:FrameMode) (w:World) (hc:w.cell? a=some x) (hz:w.frozen? a=false) :
  CallsD Tryz.prog 120 #[.pointer (some a),.bool true] u w fun e u' w'=>u'=u∧(e = .returned (.tuple #[])∧w'=w.drew.setCell a (.int .u32 1)):=by
 have hc':w.drew.cell? a=some x:=by go_simp
 have hz':w.drew.frozen? a=false:=by go_simp
 have hst:=run_call_store (P:=Tryz.prog) Tryz.func128 (by kernel_rfl) (by kernel_rfl) (by kernel_rfl) (by kernel_rfl) (k:=.u32) (y:=1) hc' hz'
 go_enter_d Tryz.func120,Tryz.ntmps120
 go_wp2
 go_region_calls
 all_goals (go_end0; exact ⟨rfl,rfl⟩)
theorem o_unlock_deferred (a:Addr) (u:FrameMode) (w:World) (hc:w.cell? a=some (.int .i32 1)) (hz:w.frozen? a=false) :
  CallsD Tryz.prog 119 #[.pointer (some a)] u w fun e u' w'=>u'=u∧(e = .returned (.tuple #[])∧w'=w.setCell a (.int .i32 0)):=by
 have hd:=o_disable
 have he:=o_enable
 have hr:=o_releaseMerge
 have hadd:=run_call_add (P:=Tryz.prog) Tryz.func138 (by kernel_rfl) (by kernel_rfl) (by kernel_rfl) .i32 (by kernel_rfl) (y:=-1) (s:=0) hc hz (by simp [go_sem]; rfl)
 have hcv:=run_convert_to_unsafe (P:=Tryz.prog) (src:=200) (dst:=171) Tryz.underlying200 Tryz.underlying171 (by kernel_rfl) hc
 go_enter_d Tryz.func119,Tryz.ntmps119
 go_wp2
 go_end0
 go_wp2
 go_end0
 exact ⟨rfl,rfl⟩
theorem o_lock_free (a:Addr) (w:World) (hc:w.cell? a=some (.int .i32 0)) (hz:w.frozen? a=false) :
  Calls Tryz.prog 118 #[.pointer (some a)] w fun e w'=>e = .returned (.tuple #[])∧w'=w.setCell a (.int .i32 1):=by
 have hd:=o_disable
 have he:=o_enable
 have ha:=o_acquire
 have hcas:=run_call_cas_hit (P:=Tryz.prog) Tryz.func133 (by kernel_rfl) (by kernel_rfl) (by kernel_rfl) .i32 (by kernel_rfl) (y:=1) hc hz
 have hc':(w.setCell a (.int .i32 1)).cell? a=some (.int .i32 1):=World.cell?_setCell_same w a _ hc
 have hcv:=run_convert_to_unsafe (P:=Tryz.prog) (src:=200) (dst:=171) Tryz.underlying200 Tryz.underlying171 (by kernel_rfl) hc'
 go_enter Tryz.func118,Tryz.ntmps118
 go_wp2
 first | go_end0 | (simp only [Exit.inBlock,Exit.then]; refine bodyPost_ret (results_none rfl _ _ _) rfl ?_) | refine bodyPost_ret (results_none rfl _ _ _) rfl ?_
 go_wp2
 go_end0
 exact ⟨rfl,rfl⟩
end Go.Proofs.YtljdgmfcgkimoaaGreatDoor

namespace Go.Proofs.YtljdgmfcgkimoaaGreatDoor
open Go.RowKit Go.Maps Go.Joins Go.WideMaps
set_option maxRecDepth 100000
def words:List (List UInt8):=[[108,101,116],[105,110],[105,102],[116,104,101,110],[101,108,115,101],[99,97,115,101],[111,102],[112,97,114]]
def isW (s:ByteArray):Bool:=words.contains s.data.toList
def wordsD:DataW Unit:=setOf (.agg []) (words.map Lit.string)
theorem has_wordsD (s:ByteArray):Maps.has wordsD (.string s.data.toList)=isW s:=by
  unfold wordsD isW
  rw [has_setOf _ _ _ (fun y hy=>by obtain ⟨_,_,rfl⟩:=List.mem_map.1 hy; trivial),List.any_map]
  generalize s.data.toList=l
  induction words with
  | nil=>rfl
  | cons a r ih =>
    rw [List.any_cons,List.contains_cons,ih]
    have hc:((fun x:Lit=>x.sameKey (.string l)) ∘ Lit.string) a=(l == a):=by
      show (a == l)=(l == a)
      exact Bool.eq_iff_iff.2 (by simp only [beq_iff_eq]; exact ⟨fun h=>h.symm,fun h=>h.symm⟩)
    rw [hc]
theorem lawS:Keyed Tryz.prog 9:=string_keyed Tryz.underlying9
theorem zeroU (w:World):(zeroValue 53).run Tryz.prog w = .ok (.agg #[]) w:=by kernel_rfl
theorem wpList_insert_own {H:Type} {P:Program} (w:World) {ops:Array Oper} {rest:List Oper} {o:Oper} {a:Act} {Q:Exit→Act→World→Prop}
    (hg:o.guard=none) (m x v:Operand) (t:TypeId) (hop:o.op=Op.insert t m x v)
    (k e:TypeId) (K:Keyed P k) (ht:P.underlying t=some (.map k e)) (R:Value→Option (DataW H×List MemPlace)) (b n:Nat) (D:DataW H)
    (hm:a.eval m = .map (some b)) (hown:w.ownsMap P k R b n D) (hn:n<maxLen) (key val:Value) (kl:Lit) (hx:a.eval x=key) (hv:a.eval v=val) (hkey:keyOf P k key=some kl)
    (d:DataW H) (ps:List MemPlace) (hval:R val=some (d,ps))
    (hK:∀ w',w'.ownsMap P k R b (n+1) (D.put kl d)→w.grownBy w' (some b)→wpList P ops Q rest (a.put o.dst undef) w') :
    wpList P ops Q (o :: rest) a w:=by
  refine wpList_plain hg fun K' hK' => ?_
  obtain ⟨w',hrun,r1,r2⟩:=hown.update K ht hn hkey hval
  unfold Oper.wp
  simp [execOp,hop,hm,hx,hv,hrun,Result.andThen]
  exact hK' _ _ (hK w' r1 r2)
theorem fill_chain {w w1 w2 w3 w4 w5 w6 w7 w8:World} {o:Obj} (h1:(w.alloc o).grownBy w1 (some w.heap.size)) (h2:w1.grownBy w2 (some w.heap.size)) (h3:w2.grownBy w3 (some w.heap.size)) (h4:w3.grownBy w4 (some w.heap.size))
    (h5:w4.grownBy w5 (some w.heap.size)) (h6:w5.grownBy w6 (some w.heap.size)) (h7:w6.grownBy w7 (some w.heap.size)) (h8:w7.grownBy w8 (some w.heap.size)):w.grownBy w8 none :=
  (World.grownBy_alloc w o none).andThen (h1.trans (h2.trans (h3.trans (h4.trans (h5.trans (h6.trans (h7.trans h8))))))) (fun j hj=>by cases hj; exact .inl (Nat.le_refl _))
def Fresh (w:World) (b:Nat):Prop:=w.heap[b]? = some (.cells #[.int .u32 0,.int .i32 0,.int .u32 0,.map none] 150)
def Done (w:World) (b:Nat):Prop:=∃ m,m≠b∧w.heap[b]? = some (.cells #[.int .u32 1,.int .i32 0,.int .u32 0,.map (some m)] 150)∧w.ownsMap Tryz.prog 9 unitElem m 8 wordsD
set_option maxHeartbeats 1600000 in
theorem fill_any (b:Nat) (w:World) (hb:w.heap[b]? = some (.cells #[.int .u32 0,.int .i32 1,.int .u32 0,.map none] 150)) :
    Calls Tryz.prog 108 #[.pointer (some ⟨b,0,none⟩)] w fun e w'=>e = .returned (.tuple #[]) ∧
      ∃ m,m≠b∧w'.heap[b]? = some (.cells #[.int .u32 0,.int .i32 1,.int .u32 0,.map (some m)] 150)∧w'.ownsMap Tryz.prog 9 unitElem m 8 wordsD∧w.grownBy w' (some b):=by
  have hlt:b<w.heap.size:=(Array.getElem?_eq_some_iff.1 hb).1
  have hmm:=@run_makeMap Tryz.prog
  have hown0:=World.ownsMap_made w Tryz.prog 9 (unitElem (H:=Unit))
  have ml:(8:Nat)<maxLen:=by decide
  go_enter Tryz.func108,Tryz.ntmps108
  go_wp2_with (first
    | (refine wpList_insert_own _ rfl _ _ _ 148 rfl 9 53 lawS Tryz.underlying148 (unitElem (H:=Unit)) w.heap.size 0 _ rfl hown0 (by omega) _ _ (.string [108,101,116]) rfl rfl (keyOf_string_mk (s:=⟨#[108,101,116]⟩) Tryz.underlying9 (by decide)) (.agg []) [] unitElem_mk ?_; intro w1 hown1 hg1)
    | (refine wpList_insert_own _ rfl _ _ _ 148 rfl 9 53 lawS Tryz.underlying148 (unitElem (H:=Unit)) w.heap.size 1 _ rfl hown1 (by omega) _ _ (.string [105,110]) rfl rfl (keyOf_string_mk (s:=⟨#[105,110]⟩) Tryz.underlying9 (by decide)) (.agg []) [] unitElem_mk ?_; intro w2 hown2 hg2)
    | (refine wpList_insert_own _ rfl _ _ _ 148 rfl 9 53 lawS Tryz.underlying148 (unitElem (H:=Unit)) w.heap.size 2 _ rfl hown2 (by omega) _ _ (.string [105,102]) rfl rfl (keyOf_string_mk (s:=⟨#[105,102]⟩) Tryz.underlying9 (by decide)) (.agg []) [] unitElem_mk ?_; intro w3 hown3 hg3)
    | (refine wpList_insert_own _ rfl _ _ _ 148 rfl 9 53 lawS Tryz.underlying148 (unitElem (H:=Unit)) w.heap.size 3 _ rfl hown3 (by omega) _ _ (.string [116,104,101,110]) rfl rfl (keyOf_string_mk (s:=⟨#[116,104,101,110]⟩) Tryz.underlying9 (by decide)) (.agg []) [] unitElem_mk ?_; intro w4 hown4 hg4)
    | (refine wpList_insert_own _ rfl _ _ _ 148 rfl 9 53 lawS Tryz.underlying148 (unitElem (H:=Unit)) w.heap.size 4 _ rfl hown4 (by omega) _ _ (.string [101,108,115,101]) rfl rfl (keyOf_string_mk (s:=⟨#[101,108,115,101]⟩) Tryz.underlying9 (by decide)) (.agg []) [] unitElem_mk ?_; intro w5 hown5 hg5)
    | (refine wpList_insert_own _ rfl _ _ _ 148 rfl 9 53 lawS Tryz.underlying148 (unitElem (H:=Unit)) w.heap.size 5 _ rfl hown5 (by omega) _ _ (.string [99,97,115,101]) rfl rfl (keyOf_string_mk (s:=⟨#[99,97,115,101]⟩) Tryz.underlying9 (by decide)) (.agg []) [] unitElem_mk ?_; intro w6 hown6 hg6)
    | (refine wpList_insert_own _ rfl _ _ _ 148 rfl 9 53 lawS Tryz.underlying148 (unitElem (H:=Unit)) w.heap.size 6 _ rfl hown6 (by omega) _ _ (.string [111,102]) rfl rfl (keyOf_string_mk (s:=⟨#[111,102]⟩) Tryz.underlying9 (by decide)) (.agg []) [] unitElem_mk ?_; intro w7 hown7 hg7)
    | (refine wpList_insert_own _ rfl _ _ _ 148 rfl 9 53 lawS Tryz.underlying148 (unitElem (H:=Unit)) w.heap.size 7 _ rfl hown7 (by omega) _ _ (.string [112,97,114]) rfl rfl (keyOf_string_mk (s:=⟨#[112,97,114]⟩) Tryz.underlying9 (by decide)) (.agg []) [] unitElem_mk ?_; intro w8 hown8 hg8
       have hG8:=fill_chain hg1 hg2 hg3 hg4 hg5 hg6 hg7 hg8
       have hb8:=(hG8.block b hlt (by simp)).trans hb
       have c3:=cbk hb8 3 (.map none) rfl
       have f3:w8.frozen? ⟨b,3,none⟩=false:=unfrozen_of_block hb8 3))
  go_end0
  have hne:w.heap.size≠b:=Nat.ne_of_gt hlt
  exact ⟨rfl,w.heap.size,hne,block_setCell hb8 _,hown8.setCell hne _,(hG8.but (some b)).trans (Go.Lib.grownBy_setCell _ _ _ _)⟩
end Go.Proofs.YtljdgmfcgkimoaaGreatDoor

namespace Go.Proofs.YtljdgmfcgkimoaaGreatDoor
open Go.RowKit Go.Maps Go.Joins Go.WideMaps
set_option maxRecDepth 100000
theorem grown_drew {w:World} {row:Option Nat}:w.grownBy w.drew row:=⟨rfl,rfl,rfl,Nat.le_refl _,fun _ _ _=>rfl⟩
set_option maxHeartbeats 1600000 in
theorem slow_any (b:Nat) (w:World) (hb:Fresh w b) :
  Calls Tryz.prog 112 #[.pointer (some ⟨b,0,none⟩),.func (.func 108) #[.pointer (some ⟨b,0,none⟩)] #[]] w fun e w'=>e = .returned (.tuple #[])∧Done w' b∧w.grownBy w' (some b):=by
 unfold Fresh at hb
 have h0:=cbk hb 0 (.int .u32 0) rfl
 have h1:=cbk hb 1 (.int .i32 0) rfl
 have f1:=ubk hb 1
 have hb1:(w.setCell ⟨b,1,none⟩ (.int .i32 1)).heap[b]? = some (.cells #[.int .u32 0,.int .i32 1,.int .u32 0,.map none] 150):=block_setCell hb _
 have hl:=run_call_load (P:=Tryz.prog) Tryz.func117 (by kernel_rfl) (by kernel_rfl) (by kernel_rfl) .u32 (by kernel_rfl) (w:=w.setCell ⟨b,1,none⟩ (.int .i32 1)) (a:=⟨b,0,none⟩) (x:=0) (by rw [cell_of_block hb1]; rfl)
 have hnot:∀ (x:Bool) (w:World),(Op.unary .not (.bool x)).run Tryz.prog w = .ok (.bool (!x)) w:=fun _ _=>rfl
 have HB:Hid (w.heap[b]? = some (.cells #[.int .u32 0,.int .i32 0,.int .u32 0,.map none] 150)):=hb
 have HB1:Hid ((w.setCell ⟨b,1,none⟩ (.int .i32 1)).heap[b]? = some (.cells #[.int .u32 0,.int .i32 1,.int .u32 0,.map none] 150)):=hb1
 clear hb hb1
 go_enter_defers Tryz.func112,Tryz.ntmps112
 go_wp2_with (first | (go_at_call 118; refine (o_lock_free ⟨b,1,none⟩ _ h1 f1).mono ?_; rintro e w' ⟨rfl,rfl⟩) | (go_at_call 111; go_in))
 refine (fill_any b _ HB1.out).mono ?_
 rintro e w2 ⟨rfl,m,hmb,hb2,hown2,hg2⟩
 have HB2:Hid (w2.heap[b]? = some (.cells #[.int .u32 0,.int .i32 1,.int .u32 0,.map (some m)] 150)):=hb2
 clear hb2
 go_wp2
 refine leaves_cons (f:=120) (args:=#[.pointer (some ⟨b,0,none⟩),.bool true]) (by simp) (by simp [go_sem]) ?_
 refine (o_store_deferred ⟨b,0,none⟩ (.int .u32 0) .returning _ (by rw [cell_of_block HB2.out]; rfl) (unfrozen_of_block HB2.out 0)).mono ?_
 rintro e u' w'' ⟨rfl,rfl,rfl⟩
 have hb3:(w2.drew.setCell ⟨b,0,none⟩ (.int .u32 1)).heap[b]? = some (.cells #[.int .u32 1,.int .i32 1,.int .u32 0,.map (some m)] 150):=block_setCell (w:=w2.drew) HB2.out _
 refine leaves_cons (f:=119) (args:=#[.pointer (some ⟨b,1,none⟩)]) (by simp [settle]) (by simp [go_sem]) ?_
 refine (o_unlock_deferred ⟨b,1,none⟩ _ _ (by rw [cell_of_block hb3]; rfl) (unfrozen_of_block hb3 1)).mono ?_
 rintro e u' w'' ⟨rfl,rfl,rfl⟩
 have fin:Done ((w2.drew.setCell ⟨b,0,none⟩ (.int .u32 1)).setCell ⟨b,1,none⟩ (.int .i32 0)) b :=
  ⟨m,hmb,block_setCell hb3 _,(World.ownsMap.setCell (w:=w2.drew) hown2 hmb _).setCell hmb _⟩
 have grw:w.grownBy ((w2.drew.setCell ⟨b,0,none⟩ (.int .u32 1)).setCell ⟨b,1,none⟩ (.int .i32 0)) (some b) :=
  (Go.Lib.grownBy_setCell w b 1 _).trans (hg2.trans (grown_drew.trans ((Go.Lib.grownBy_setCell _ b 0 _).trans (Go.Lib.grownBy_setCell _ b 1 _))))
 simp [Leaves,settle,results,Tryz.results112]
 exact ⟨fin,grw⟩
set_option maxHeartbeats 1600000 in
theorem do_fresh (b:Nat) (w:World) (hb:Fresh w b) :
  Calls Tryz.prog 107 #[.pointer (some ⟨b,0,none⟩),.func (.func 108) #[.pointer (some ⟨b,0,none⟩)] #[]] w fun e w'=>e = .returned (.tuple #[])∧Done w' b∧w.grownBy w' (some b):=by
 have hl:=run_call_load (P:=Tryz.prog) Tryz.func117 (by kernel_rfl) (by kernel_rfl) (by kernel_rfl) .u32 (by kernel_rfl) (w:=w) (a:=⟨b,0,none⟩) (x:=0) (by rw [cell_of_block hb]; rfl)
 have h0:=cbk hb 0 (.int .u32 0) rfl
 have hnot:∀ (x:Bool) (w:World),(Op.unary .not (.bool x)).run Tryz.prog w = .ok (.bool (!x)) w:=fun _ _=>rfl
 go_enter Tryz.func107,Tryz.ntmps107
 go_wp2_with (first | (go_at_call 112; refine (slow_any b _ hb).mono ?_; rintro e w' ⟨rfl,hd,hg⟩) | (go_at_call 111; go_in))
 go_end0
 exact ⟨rfl,hd,hg⟩
theorem do_done (b:Nat) (fv:Value) (w:World) (hb:Done w b) :
  Calls Tryz.prog 107 #[.pointer (some ⟨b,0,none⟩),fv] w fun e w'=>e = .returned (.tuple #[])∧w'=w:=by
 obtain ⟨m,_,hb1,_⟩:=hb
 have h0:=cbk hb1 0 (.int .u32 1) rfl
 have hl:=run_call_load (P:=Tryz.prog) Tryz.func117 (by kernel_rfl) (by kernel_rfl) (by kernel_rfl) .u32 (by kernel_rfl) h0
 have hnot:∀ (x:Bool) (w:World),(Op.unary .not (.bool x)).run Tryz.prog w = .ok (.bool (!x)) w:=fun _ _=>rfl
 clear hb1
 go_enter Tryz.func107,Tryz.ntmps107
 go_wp2
 go_end0
 exact ⟨rfl,rfl⟩
theorem do_any (b:Nat) (w:World) (hb:Fresh w b∨Done w b) :
  Calls Tryz.prog 107 #[.pointer (some ⟨b,0,none⟩),.func (.func 108) #[.pointer (some ⟨b,0,none⟩)] #[]] w fun e w'=>e = .returned (.tuple #[])∧Done w' b∧w.grownBy w' (some b):=by
 rcases hb with h | h
 ·exact do_fresh b w h
 ·refine (do_done b _ w h).mono ?_
  rintro e w' ⟨rfl,rfl⟩
  exact ⟨rfl,h,World.grownBy.refl _ _⟩
theorem Done.alloc {w:World} {b:Nat} (h:Done w b) (o:Obj):Done (w.alloc o) b:=by
 obtain ⟨m,hm,hb,ho⟩:=h
 exact ⟨m,hm,(Below.heap_alloc w o b (Array.getElem?_eq_some_iff.1 hb).1).trans hb,ho.alloc o⟩
set_option maxHeartbeats 1600000 in
theorem isWord_any (b:Nat) (s:ByteArray) (w:World) (hs:s.size≤maxLen) (hb:Fresh w b∨Done w b) :
  Calls Tryz.prog 96 #[.pointer (some ⟨b,0,none⟩),.string s] w fun e w'=>e = .returned (.bool (isW s))∧Done w' b∧w.grownBy w' (some b):=by
 have hmf:∀ (fn:Fn) (first cap:Array Value) (w:World),(Instr.makeFunc fn first cap).run Tryz.prog w = .ok (.func fn first cap) w:=fun _ _ _ _=>rfl
 have hkey:=keyOf_string_mk (P:=Tryz.prog) Tryz.underlying9 hs
 go_enter Tryz.func96,Tryz.ntmps96
 go_wp2_with fail
 refine (do_any b _ hb).mono ?_
 rintro e w1 ⟨rfl,hd,hg⟩
 obtain ⟨m,hmb,hb1,hown⟩:=hd
 have c3:=cbk hb1 3 (.map (some m)) rfl
 have HB1:Hid (w1.heap[b]? = some (.cells #[.int .u32 1,.int .i32 0,.int .u32 0,.map (some m)] 150)):=hb1
 clear hb1 hb
 go_wp2_with (at_lookup; refine wpList_lookup_own_unit _ rfl _ _ 148 rfl 9 53 lawS Tryz.underlying148 (zeroU _) m 8 _ rfl hown _ _ rfl hkey ?_)
 go_ret
 refine ⟨by rw [has_wordsD]; rfl,Done.alloc ⟨m,hmb,HB1.out,hown⟩ _,hg.trans (World.grownBy_alloc _ _ _)⟩
theorem fresh_new (w:World):Fresh (w.alloc (.cells #[.int .u32 0,.int .i32 0,.int .u32 0,.map none] 150)) w.heap.size:=(MapKept.heap_alloc w _).1
end Go.Proofs.YtljdgmfcgkimoaaGreatDoor

namespace Go.Proofs.YtljdgmfcgkimoaaGreatDoor
open Go.RowKit Go.Maps Go.Joins Go.WideMaps
set_option maxRecDepth 100000
def nameOk (s:ByteArray):Bool:=decide (1≤s.size) && decide (s.size≤8) && ltb (s.data.toList.getD 0 0) && s.data.toList.all nmb && !isW s
theorem nameOk_first (s:ByteArray) (h:0<s.size):s.data.toList.getD 0 0=s[0]:=by
 have:0<s.data.toList.length:=by simpa using h
 rw [List.getD,List.getElem?_eq_getElem this]
 rfl
theorem hn_not (x:Bool) (w:World):(Op.unary .not (.bool x)).run Tryz.prog w = .ok (.bool (!x)) w:=rfl
set_option maxHeartbeats 800000 in
theorem isName_any (b:Nat) (s:ByteArray) (w:World) (hs:s.size≤maxLen) (hb:Fresh w b∨Done w b) :
  Calls Tryz.prog 76 #[.pointer (some ⟨b,0,none⟩),.string s] w fun e w'=>e = .returned (.bool (nameOk s))∧(Fresh w' b∨Done w' b)∧w.grownBy w' (some b):=by
 have hnot:=hn_not
 have hs':=hs
 unfold maxLen at hs'
 have HB:Hid (Fresh w b∨Done w b):=hb
 clear hb
 by_cases h1:s.size<1
 ·have e1:nameOk s=false:=by simp [nameOk]; omega
  have h1':(s.size:Int)<1:=by omega
  have HE:Hid (nameOk s=false):=e1
  clear e1
  go_enter Tryz.func76,Tryz.ntmps76
  go_wp2
  go_ret
  exact ⟨by rw [HE.out]; rfl,HB.out,World.grownBy.refl _ _⟩
 by_cases h8:8<s.size
 ·have e1:nameOk s=false:=by simp [nameOk]; omega
  have h1':decide ((s.size:Int)<1)=false:=by simp; omega
  have h8':(8:Int)<(s.size:Int):=by omega
  have HE:Hid (nameOk s=false):=e1
  clear e1
  go_enter Tryz.func76,Tryz.ntmps76
  go_wp2
  go_ret
  exact ⟨by rw [HE.out]; rfl,HB.out,World.grownBy.refl _ _⟩
 have hpos:0<s.size:=by omega
 have hfst:=nameOk_first s hpos
 have h1':decide ((s.size:Int)<1)=false:=by simp; omega
 have h8':decide ((8:Int)<(s.size:Int))=false:=by simp; omega
 have eq0:nameOk s=(lti (s[0].toNat:Int) && s.data.toList.all nmb && !isW s):=by
  unfold nameOk
  rw [hfst,decide_eq_true (by omega:1≤s.size),decide_eq_true (by omega:s.size≤8)]
  rfl
 have HQ:Hid (nameOk s=(lti (s[0].toNat:Int) && s.data.toList.all nmb && !isW s)):=eq0
 have hp0:(0:Int)<(s.size:Int):=by omega
 clear hfst eq0
 cases hl:lti (s[0].toNat:Int)
 ·have HE:Hid (nameOk s=false):=by rw [HQ.out,hl]; rfl
  go_enter Tryz.func76,Tryz.ntmps76
  go_wp2_with (go_at_call 94; refine (isLetter_is _ false hl _).mono ?_; rintro e w' ⟨rfl,rfl⟩)
  go_ret
  exact ⟨by rw [HE.out]; rfl,HB.out,World.grownBy.refl _ _⟩
 ·have hfull:=takeWhile_full nmb s.data.toList
  have HL:s.data.toList.length=s.size:=by simp
  cases ha:s.data.toList.all nmb
  ·have hne:(((nameLen s.data.toList:Nat):Int) == (s.size:Int))=false:=by
    have:¬ nameLen s.data.toList=s.size:=fun e=>by rw [← HL] at e; rw [hfull.1 e] at ha; cases ha
    simp; omega
   have HE:Hid (nameOk s=false):=by rw [HQ.out,hl,ha]; rfl
   clear HL hfull
   go_enter Tryz.func76,Tryz.ntmps76
   go_wp2_with (first
    | (go_at_call 94; refine (isLetter_is _ true hl _).mono ?_; rintro e w' ⟨rfl,rfl⟩)
    | (go_at_call 95; refine (nameLength_any _ _ hs).mono ?_; rintro e w' ⟨rfl,rfl⟩))
   go_ret
   exact ⟨by rw [HE.out]; rfl,HB.out,World.grownBy.refl _ _⟩
  ·have hne:(((nameLen s.data.toList:Nat):Int) == (s.size:Int))=true:=by
    have:nameLen s.data.toList=s.size:=by rw [← HL]; exact hfull.2 ha
    simp; omega
   have HE:Hid (nameOk s = !isW s):=by rw [HQ.out,hl,ha]; rfl
   clear HL hfull
   go_enter Tryz.func76,Tryz.ntmps76
   go_wp2_with (first
    | (go_at_call 94; refine (isLetter_is _ true hl _).mono ?_; rintro e w' ⟨rfl,rfl⟩)
    | (go_at_call 95; refine (nameLength_any _ _ hs).mono ?_; rintro e w' ⟨rfl,rfl⟩)
    | (go_at_call 96; refine (isWord_any b s _ hs HB.out).mono ?_; rintro e w1 ⟨rfl,hd,hg⟩))
   go_ret
   exact ⟨by rw [HE.out]; rfl,.inr hd,hg⟩
end Go.Proofs.YtljdgmfcgkimoaaGreatDoor
