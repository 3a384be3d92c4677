/-
  Proofs.
  Proofs.
  Proofs.
  Proofs.
-/
import Derived.Test.YtljdgmfcgkimoaaGreatDoorJ3
import Derived.BigQuiet
import Derived.Deep.QuietTactic
import Derived.Test.YtljdgmfcgkimoaaGreatDoorJ1
import Derived.Test.YtljdgmfcgkimoaaGreatDoorRows
namespace Go.Proofs.YtljdgmfcgkimoaaGreatDoor
open Go.RowKit Go.Joins
set_option maxRecDepth 100000
theorem beqI (k c:Int) (h:¬ k=c):(k == c)=false:=by simp [h]
set_option maxHeartbeats 1600000 in
theorem kidCount_any (k:Int) (w:World):Calls Tryz.prog 77 #[.int .i64 k] w fun e w'=>e = .returned (.int .i64 (kidsOf k))∧w'=w:=by
 go_enter Tryz.func77,Tryz.ntmps77
 by_cases h0:k=0
 ·subst h0; go_wp2; go_ret; exact ⟨rfl,rfl⟩
 have g0:=beqI _ _ h0
 by_cases h1:k=1
 ·subst h1; go_wp2; go_ret; exact ⟨rfl,rfl⟩
 have g1:=beqI _ _ h1
 by_cases h2:k=2
 ·subst h2; go_wp2; go_ret; exact ⟨rfl,rfl⟩
 have g2:=beqI _ _ h2
 by_cases h7:k=7
 ·subst h7; go_wp2; go_ret; exact ⟨rfl,rfl⟩
 have g7:=beqI _ _ h7
 by_cases h3:k=3
 ·subst h3; go_wp2; go_ret; exact ⟨rfl,rfl⟩
 have g3:=beqI _ _ h3
 by_cases h4:k=4
 ·subst h4; go_wp2; go_ret; exact ⟨rfl,rfl⟩
 have g4:=beqI _ _ h4
 by_cases h5:k=5
 ·subst h5; go_wp2; go_ret; exact ⟨rfl,rfl⟩
 have g5:=beqI _ _ h5
 by_cases h8:k=8
 ·subst h8; go_wp2; go_ret; exact ⟨rfl,rfl⟩
 have g8:=beqI _ _ h8
 by_cases h10:k=10
 ·subst h10; go_wp2; go_ret; exact ⟨rfl,rfl⟩
 have g10:=beqI _ _ h10
 by_cases h11:k=11
 ·subst h11; go_wp2; go_ret; exact ⟨rfl,rfl⟩
 have g11:=beqI _ _ h11
 by_cases h6:k=6
 ·subst h6; go_wp2; go_ret; exact ⟨rfl,rfl⟩
 have g6:=beqI _ _ h6
 by_cases h9:k=9
 ·subst h9; go_wp2; go_ret; exact ⟨rfl,rfl⟩
 have g9:=beqI _ _ h9
 have hr:kidsOf k = -1:=by unfold kidsOf; simp [h0,h1,h2,h7,h3,h4,h5,h8,h10,h11,h6,h9]
 rw [hr]
 go_wp2
 go_ret
 exact ⟨rfl,rfl⟩
end Go.Proofs.YtljdgmfcgkimoaaGreatDoor

namespace Go.Proofs.YtljdgmfcgkimoaaGreatDoor
open Go.RowKit Go.Joins
set_option maxRecDepth 100000
theorem within_is (n a b:Int) (w:World):Calls Tryz.prog 27 #[.int .i64 n,.int .i64 a,.int .i64 b] w fun e w'=>e = .returned (.bool (inR n a b))∧w'=w:=by
 by_cases h1:a≤n
 ·by_cases h2:n≤b
  ·have hr:inR n a b=true:=by unfold inR; simp [h1,h2]
   rw [hr]
   go_enter Tryz.func27,Tryz.ntmps27
   go_wp2
   go_ret
   exact ⟨rfl,rfl⟩
  ·have hr:inR n a b=false:=by unfold inR; simp [h2]
   rw [hr]
   go_enter Tryz.func27,Tryz.ntmps27
   go_wp2
   go_ret
   exact ⟨rfl,rfl⟩
 ·have hr:inR n a b=false:=by unfold inR; simp [h1]
  rw [hr]
  go_enter Tryz.func27,Tryz.ntmps27
  go_wp2
  go_ret
  exact ⟨rfl,rfl⟩
end Go.Proofs.YtljdgmfcgkimoaaGreatDoor

namespace Go.Proofs.YtljdgmfcgkimoaaGreatDoor
open Go.RowKit Go.Joins
set_option maxRecDepth 100000
set_option maxHeartbeats 1600000 in
theorem isOperator_any (t:ByteArray) (w:World):Calls Tryz.prog 97 #[.string t] w fun e w'=>e = .returned (.bool (isOp t))∧w'=w:=by
 go_enter Tryz.func97,Tryz.ntmps97
 by_cases h1:t.toList=[61,61]
 ·have g1:(t.toList == [61,61])=true:=by simp [h1]
  have hr:isOp t=true:=by unfold isOp; rw [h1]; decide
  rw [hr]; go_wp2; go_ret; exact ⟨rfl,rfl⟩
 have g1:(t.toList == [61,61])=false:=by simp [h1]
 by_cases h2:t.toList=[60]
 ·have g2:(t.toList == [60])=true:=by simp [h2]
  have hr:isOp t=true:=by unfold isOp; rw [h2]; decide
  rw [hr]; go_wp2; go_ret; exact ⟨rfl,rfl⟩
 have g2:(t.toList == [60])=false:=by simp [h2]
 by_cases h3:t.toList=[43]
 ·have g3:(t.toList == [43])=true:=by simp [h3]
  have hr:isOp t=true:=by unfold isOp; rw [h3]; decide
  rw [hr]; go_wp2; go_ret; exact ⟨rfl,rfl⟩
 have g3:(t.toList == [43])=false:=by simp [h3]
 by_cases h4:t.toList=[45]
 ·have g4:(t.toList == [45])=true:=by simp [h4]
  have hr:isOp t=true:=by unfold isOp; rw [h4]; decide
  rw [hr]; go_wp2; go_ret; exact ⟨rfl,rfl⟩
 have g4:(t.toList == [45])=false:=by simp [h4]
 by_cases h5:t.toList=[42]
 ·have g5:(t.toList == [42])=true:=by simp [h5]
  have hr:isOp t=true:=by unfold isOp; rw [h5]; decide
  rw [hr]; go_wp2; go_ret; exact ⟨rfl,rfl⟩
 have g5:(t.toList == [42])=false:=by simp [h5]
 have hr:isOp t=false:=by unfold isOp opTexts; simp [List.contains,List.elem,g1,g2,g3,g4,g5]
 rw [hr]
 go_wp2
 go_ret
 exact ⟨rfl,rfl⟩
set_option maxHeartbeats 1600000 in
theorem namesBehind_any (kind n:Int) (i:Nat) (w:World) :
  Calls Tryz.prog 79 #[.int .i64 kind,.int .i64 n,.int .i64 (i:Int)] w fun r w'=>r = .returned (.int .i64 (moreN kind n i))∧w'=w:=by
 go_enter Tryz.func79,Tryz.ntmps79
 by_cases h3:kind=3
 ·subst h3; go_wp2; go_ret; exact ⟨rfl,rfl⟩
 have g3:=beqI _ _ h3
 by_cases h5:kind=5
 ·subst h5; go_wp2; go_ret; exact ⟨rfl,rfl⟩
 have g5:=beqI _ _ h5
 by_cases h9:kind=9
 ·subst h9
  by_cases hi:i=2
  ·subst hi; go_wp2; go_ret; exact ⟨rfl,rfl⟩
  ·have gi:((i:Int) == 2)=false:=by simp; omega
   have hr:moreN 9 n i=0:=by unfold moreN; simp [hi]
   rw [hr]
   go_wp2; go_ret; exact ⟨rfl,rfl⟩
 have g9:=beqI _ _ h9
 have hr:moreN kind n i=0:=by unfold moreN; simp [h3,h5,h9]
 rw [hr]
 go_wp2
 go_ret
 exact ⟨rfl,rfl⟩
def Chk (w:World) (cb M:Nat) (tops:Int):Prop:=w.heap[cb]? = some (.cells #[.int .i64 tops,.map (some M)] 97)
set_option maxHeartbeats 3200000 in
theorem fieldsOk_any (p:Addr) (e:Ex) (d cb M:Nat) (scope tops:Int) (w:World) (hp:NodeAt w d p e) (hc:Chk w cb M tops) (hk:(e.kids.length:Int)=kidsOf e.kind) (hs:0≤scope∧scope≤90) (ht:0≤tops∧tops≤30) :
  Calls Tryz.prog 78 #[.pointer (some ⟨cb,0,none⟩),.pointer (some p),.int .i64 scope] w fun r w'=>r = .returned (.bool (fieldsB e.kind e.n e.text e.kids scope tops))∧∃ m,w'=w.drewN m:=by
 have hp0:=hp
 obtain ⟨b,o,kv,rfl,-,c0,c1,c2,c3,r1,r2,r3,-⟩:=hp
 unfold inI64 at r1 r2
 have t0:=cbk hc 0 (.int .i64 tops) rfl
 go_enter Tryz.func78,Tryz.ntmps78
 by_cases h10:e.kind=10
 ·rw [h10] at c0
  by_cases hn:e.n=0
  ·have hr:fieldsB e.kind e.n e.text e.kids scope tops=isOp e.text:=by unfold fieldsB; rw [if_pos h10,hn]; simp
   rw [hn] at c1
   rw [hr]
   go_wp2_with (go_at_call 97; refine (isOperator_any _ _).mono ?_; rintro r w' ⟨rfl,rfl⟩)
   go_ret
   exact ⟨rfl,0,rfl⟩
  ·have hr:fieldsB e.kind e.n e.text e.kids scope tops=false:=by unfold fieldsB; rw [if_pos h10]; simp [hn]
   have gn:=beqI _ _ hn
   rw [hr]
   go_wp2
   go_ret
   exact ⟨rfl,0,rfl⟩
 have g10:=beqI _ _ h10
 by_cases ht0:e.text.toList=[]
 ·have gt0:(e.text.toList != [])=false:=by simp [ht0]
  have gt1:(e.text.toList == [])=true:=by simp [ht0]
  by_cases h0:e.kind=0
  ·have hr:fieldsB e.kind e.n e.text e.kids scope tops=inR e.n 0 999999999:=by unfold fieldsB; rw [h0]; simp [ht0]
   rw [h0] at c0; rw [hr]
   go_wp2_with (go_at_call 27; refine (within_is _ _ _ _).mono ?_; rintro r w' ⟨rfl,rfl⟩)
   go_ret
   exact ⟨rfl,0,rfl⟩
  have g0:=beqI _ _ h0
  by_cases h1:e.kind=1
  ·have hr:fieldsB e.kind e.n e.text e.kids scope tops=inR e.n 0 (scope - 1):=by unfold fieldsB; rw [h1]; simp [ht0]
   rw [h1] at c0; rw [hr]
   go_wp2_with (go_at_call 27; refine (within_is _ _ _ _).mono ?_; rintro r w' ⟨rfl,rfl⟩)
   go_ret
   exact ⟨rfl,0,rfl⟩
  have g1:=beqI _ _ h1
  by_cases h2:e.kind=2
  ·have hr:fieldsB e.kind e.n e.text e.kids scope tops=inR e.n 0 (tops - 1):=by unfold fieldsB; rw [h2]; simp [ht0]
   rw [h2] at c0; rw [hr]
   go_wp2_with fail
   go_quiet (first | (go_at_call 27; refine Calls.quiet_of_same (within_is _ _ _ _)))
   go_wp2
   go_ret
   exact ⟨rfl,_,rfl⟩
  have g2:=beqI _ _ h2
  by_cases h3:e.kind=3
  ·have hr:fieldsB e.kind e.n e.text e.kids scope tops=inR e.n 1 6:=by unfold fieldsB; rw [h3]; simp [ht0]
   rw [h3] at c0; rw [hr]
   go_wp2_with (go_at_call 27; refine (within_is _ _ _ _).mono ?_; rintro r w' ⟨rfl,rfl⟩)
   go_ret
   exact ⟨rfl,0,rfl⟩
  have g3:=beqI _ _ h3
  by_cases h11:e.kind=11
  ·by_cases hn:e.n=0
   ·have h2:e.kids.length=2:=(by rw [h11] at hk; have:kidsOf 11=2:=(by decide); omega)
    have he0:e.kids[0]? = some (e.kids[0]'(by omega)):=List.getElem?_eq_getElem _
    have hr:fieldsB e.kind e.n e.text e.kids scope tops=((e.kids[0]'(by omega)).kind == 1 || (e.kids[0]'(by omega)).kind == 2):=by
     have hk0:kind0 e.kids=(e.kids[0]'(by omega)).kind:=by
      unfold kind0
      rw [List.head?_eq_getElem?,he0]; rfl
     unfold fieldsB
     rw [h11,hn,hk0]; simp [ht0]
    rw [hr]
    generalize e.kids[0]'(by omega)=k0 at *
    obtain ⟨d',bk,ok,-,⟨lk,ck,vk⟩,bk',ok',kv',hpk,-,k0c,-⟩:=hp0.kid he0
    cases hpk
    have hlk:lk=e.kids.length:=by
     obtain ⟨ap,kp,vp,_⟩:=hp0.kidsVal
     rw [vk] at vp
     simp at vp
     exact vp.2.1
    rw [hlk,h2] at vk
    simp only [Nat.zero_mul,Nat.add_zero] at k0c
    rw [h11] at c0
    rw [hn] at c1
    clear c3
    by_cases q1:k0.kind=1
    ·rw [q1] at k0c ⊢
     go_wp2
     go_ret
     exact ⟨rfl,0,rfl⟩
    have gq1:=beqI _ _ q1
    rw [gq1]
    by_cases q2:k0.kind=2
    ·rw [q2] at k0c ⊢
     go_wp2
     go_ret
     exact ⟨rfl,0,rfl⟩
    have gq2:=beqI _ _ q2
    rw [gq2]
    go_wp2
    go_ret
    exact ⟨rfl,0,rfl⟩
   ·have hr:fieldsB e.kind e.n e.text e.kids scope tops=false:=by unfold fieldsB; rw [h11]; simp [ht0,hn]
    have gn:=beqI _ _ hn
    rw [hr]
    rw [h11] at c0
    go_wp2
    go_ret
    exact ⟨rfl,0,rfl⟩
  have g11:=beqI _ _ h11
  have hr:fieldsB e.kind e.n e.text e.kids scope tops=(e.n == 0):=by unfold fieldsB; simp [ht0,h10,h0,h1,h2,h3,h11]
  rw [hr]
  go_wp2
  go_ret
  exact ⟨rfl,0,rfl⟩
 ·have gt0:(e.text.toList != [])=true:=by simp [ht0]
  have gt1:(e.text.toList == [])=false:=by simp [ht0]
  have hr:fieldsB e.kind e.n e.text e.kids scope tops=false:=by unfold fieldsB; simp [ht0,h10]
  rw [hr]
  go_wp2
  go_ret
  exact ⟨rfl,0,rfl⟩
end Go.Proofs.YtljdgmfcgkimoaaGreatDoor

namespace Go.Proofs.YtljdgmfcgkimoaaGreatDoor
open Go Go.RowKit
structure WIn (Good:World→Prop) where
 w:World
 ok:Good w
theorem wp_region_good {Good:World→Prop} {P:Program} {id:Nat} {Q:Exit→Act→World→Prop} {a:Act} {w:World} {l:List Oper} (hm:P.follows .mixedOrders=true) (hB:Region.lexB .any l.toArray=true) (h0:Good w.drew)
  (h:wpQuiet P l.toArray (fun w'=>∃ p:WIn Good,w'=p.w) (fun a'=>∀ w',(∃ p:WIn Good,w'=p.w)→Q .normal a' w') l a):(Code.region id l.toArray true).wp P Q a w :=
 wp_region_quiet (C:=fun w'=>∃ p:WIn Good,w'=p.w) hm hB ⟨⟨w.drew,h0⟩,rfl⟩ (by simpa using h)
theorem calls_good {Good:World→Prop} {P:Program} {f:FuncId} {args:Array Value} {p:WIn Good} {v:Value}
  (h:Calls P f args p.w fun e w'=>e = .returned v∧Good w'):Calls P f args p.w fun e w''=>e = .returned v∧∃ q:WIn Good,w''=q.w :=
 h.mono fun _ w' ⟨he,hw⟩=>⟨he,⟨w',hw⟩,rfl⟩
theorem calls_good_same {Good:World→Prop} {P:Program} {f:FuncId} {args:Array Value} {p:WIn Good} {v:Value}
  (h:Calls P f args p.w fun e w'=>e = .returned v∧w'=p.w):Calls P f args p.w fun e w''=>e = .returned v∧∃ q:WIn Good,w''=q.w :=
 h.mono fun _ _ ⟨he,hw⟩=>⟨he,p,hw⟩
end Go.Proofs.YtljdgmfcgkimoaaGreatDoor
