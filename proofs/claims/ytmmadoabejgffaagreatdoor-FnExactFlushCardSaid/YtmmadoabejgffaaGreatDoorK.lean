/-
  Proofs.
-/
import Derived.Test.YtmmadoabejgffaaGreatDoorCB
import Derived.Test.YtmmadoabejgffaaGreatDoorF
import Derived.BigQuiet
import Derived.Deep.QuietTactic
import Derived.Test.YtmmadoabejgffaaGreatDoorG
namespace Go.Proofs.YtmmadoabejgffaaGreatDoor
open Go.RowKit Go.Joins
set_option maxRecDepth 100000
set_option maxHeartbeats 51200000
def Ce.fields (c:Ce) (codes:Int):Bool :=
 if c.kind=0 then (c.pos == 0) && ((c.kids.length:Int) == 0)
 else if c.kind=1∨c.kind=5 then ((c.n == 0) && (c.pos == 0)) && ((c.kids.length:Int) == 0)
 else if c.kind=2 then ((c.n == 0) && (c.pos == 0)) && ((c.kids.length:Int) == 2)
 else if c.kind=3 then (inB c.n 1 6 && decide (0≤c.pos)) && decide (c.pos<codes)
 else if c.kind=4 then ((c.n == 0) && decide (0≤c.pos)) && decide (c.pos<codes)
 else if c.kind=6 then ((c.n == 0) && (c.pos == 0)) && ((c.kids.length:Int) == 1)
 else if c.kind=7 then ((inB c.n (-1) 30 && decide (0≤c.pos)) && ((c.kids.length:Int) == 0)) && (decide (0≤c.n) || (c.pos == 0))
 else false
theorem all_take {α : Type} (p : α → Bool) (es:List α) (k:Nat) {x : α} (h:es[k]? = some x) (hp:(es.take k).all p=true) (hx:p x=true):(es.take (k+1)).all p=true:=by
 have hk:=(List.getElem?_eq_some_iff.1 h).1
 rw [List.take_succ_eq_append_getElem hk,List.all_append,hp,(List.getElem?_eq_some_iff.1 h).2]
 simp [hx]
theorem all_not {α : Type} (p : α → Bool) (es:List α) (k:Nat) {x : α} (h:es[k]? = some x) (hx:p x=false):es.all p=false:=by
 cases hh:es.all p with
 | false=>rfl
 | true=>rw [List.all_eq_true] at hh; rw [hh x (List.mem_of_getElem? h)] at hx; cases hx
theorem fields_other (c:Ce) (codes:Int) (h:¬ (0≤c.kind∧c.kind≤7)):c.fields codes=false:=by
 unfold Ce.fields
 rw [if_neg (by omega),if_neg (by omega),if_neg (by omega),if_neg (by omega),if_neg (by omega),if_neg (by omega),if_neg (by omega)]
theorem isCode_any (p codes:Int) (w:World):Calls Tryz.prog 206 #[.int .i64 p,.int .i64 codes] w fun e w'=>e = .returned (.bool (decide (0≤p) && decide (p<codes)))∧w'=w:=by
 by_cases h1:0≤p
 ·have d1:decide (0≤p)=true:=by simpa using h1
  go_enter Tryz.func206,Tryz.ntmps206
  go_wp2
  go_ret
  exact ⟨by simp [h1],rfl⟩
 ·have d1:decide (0≤p)=false:=by simpa using h1
  go_enter Tryz.func206,Tryz.ntmps206
  go_wp2
  go_ret
  exact ⟨by simp,rfl⟩
def Ce.far (c:Ce):Bool:=if c.n = -1 then c.pos == 0 else inB c.n 0 30 && decide (0≤c.pos)
theorem farFits_any (v:Value) (c:Ce) (S:Nat→Prop) (w:World) (h:CeAt w S v c) :
  Calls Tryz.prog 207 #[v] w fun e w'=>e = .returned (.bool c.far)∧Below w.heap.size w w':=by
 obtain ⟨kv,rfl,r1,r2,r3,hk⟩:=h
 obtain ⟨a,cap,rfl⟩:=hk.form
 have B0:Below w.heap.size w (w.alloc (.cells #[.int .i64 c.kind,.int .i64 c.n,.int .i64 c.pos,.slice a c.kids.length cap] 65)):=(Below.refl _ w).alloc (Nat.le_refl _) _
 unfold Ce.far
 clear hk r1 r2 r3
 by_cases hm:c.n = -1
 ·have g:(c.n == -1)=true:=by simpa using hm
  rw [if_pos hm]
  clear hm
  cases b1:(c.pos == 0) <;>
  (go_enter Tryz.func207,Tryz.ntmps207
   go_wp2
   go_ret
   exact ⟨rfl,B0⟩ )
 ·have g:(c.n == -1)=false:=by simpa using hm
  rw [if_neg hm]
  clear hm
  cases b0:inB c.n 0 30 <;> cases b1:decide (0≤c.pos) <;>
  (go_enter Tryz.func207,Tryz.ntmps207
   go_wp2_with (go_at_call 175; refine (within_r _ _ _ _ b0 _).mono ?_; rintro e w1 ⟨rfl,rfl⟩)
   go_ret
   exact ⟨by simp,B0⟩ )
theorem far_is (c:Ce):(c.far && ((c.kids.length:Int) == 0))=(((inB c.n (-1) 30 && decide (0≤c.pos)) && ((c.kids.length:Int) == 0)) && (decide (0≤c.n) || (c.pos == 0))):=by
 unfold Ce.far inB
 by_cases h1:c.n = -1
 ·rw [if_pos h1,h1]
  by_cases h2:c.pos=0
  ·rw [h2]; simp
  ·have:(c.pos == 0)=false:=by simpa using h2
   rw [this]; simp
 ·rw [if_neg h1]
  by_cases h2:0≤c.n
  ·have e1:decide (-1≤c.n)=true:=by simp; omega
   rw [e1]; simp [h2]
  ·have e1:decide (-1≤c.n)=false:=by simp; omega
   rw [e1]; simp [h2]
theorem fieldsFit_any (v:Value) (c:Ce) (codes:Int) (S:Nat→Prop) (w:World) (h:CeAt w S v c) :
  Calls Tryz.prog 202 #[v,.int .i64 codes] w fun e w'=>e = .returned (.bool (c.fields codes))∧Below w.heap.size w w':=by
 have H0:Hid (CeAt w S v c):=h
 obtain ⟨kv,rfl,r1,r2,r3,hk⟩:=h
 obtain ⟨a,cap,rfl⟩:=hk.form
 have B0:Below w.heap.size w (w.alloc (.cells #[.int .i64 c.kind,.int .i64 c.n,.int .i64 c.pos,.slice a c.kids.length cap] 65)):=(Below.refl _ w).alloc (Nat.le_refl _) _
 have H1:Hid (CeAt (w.alloc (.cells #[.int .i64 c.kind,.int .i64 c.n,.int .i64 c.pos,.slice a c.kids.length cap] 65)) S (.agg #[.int .i64 c.kind,.int .i64 c.n,.int .i64 c.pos,.slice a c.kids.length cap]) c):=⟨_,rfl,r1,r2,r3,hk.below B0⟩
 clear H0 hk r1 r2 r3
 have hfar:=(show Hid (_∧True) from ⟨far_is c,trivial⟩)
 have hFo:=(show Hid (_∧True) from ⟨fun h=>fields_other c codes h,trivial⟩)
 generalize hFF:c.fields codes=F at *
 have HFF:=(show Hid (_∧True) from ⟨hFF,trivial⟩)
 clear hFF
 by_cases hkd:0≤c.kind∧c.kind≤7
 ·clear hFo
  have hcs:c.kind=0∨c.kind=1∨c.kind=2∨c.kind=3∨c.kind=4∨c.kind=5∨c.kind=6∨c.kind=7:=by omega
  clear hkd
  obtain ⟨kind,n,pos,kids⟩:=c
  simp only [] at *
  have hkm:∀ k:Nat,IntKind.i64.wrap (kids.length:Int)=kids.length∨True:=fun _ => .inr trivial
  clear hkm
  rcases hcs with rfl | rfl | rfl | rfl | rfl | rfl | rfl | rfl
  ·have HF2:Hid (F=((pos == 0) && ((kids.length:Int) == 0))):=by
    show F=((pos == 0) && ((kids.length:Int) == 0))
    rw [← HFF.out.1]; rfl
   clear HFF H1 hfar
   cases b0:(pos == 0) <;> cases b1:((kids.length:Int) == 0) <;>
   (go_enter Tryz.func202,Tryz.ntmps202
    go_wp2
    go_ret
    exact ⟨by rw [HF2.out]; simp [b0,b1],B0⟩ )
  ·have HF2:Hid (F=(((n == 0) && (pos == 0)) && ((kids.length:Int) == 0))):=by
    show F=(((n == 0) && (pos == 0)) && ((kids.length:Int) == 0))
    rw [← HFF.out.1]; rfl
   clear HFF H1 hfar
   cases b0:(n == 0) <;> cases b1:(pos == 0) <;> cases b2:((kids.length:Int) == 0) <;>
   (go_enter Tryz.func202,Tryz.ntmps202
    go_wp2
    go_ret
    exact ⟨by rw [HF2.out]; simp [b0,b1,b2],B0⟩ )
  ·have HF2:Hid (F=(((n == 0) && (pos == 0)) && ((kids.length:Int) == 2))):=by
    show F=(((n == 0) && (pos == 0)) && ((kids.length:Int) == 2))
    rw [← HFF.out.1]; rfl
   clear HFF H1 hfar
   cases b0:(n == 0) <;> cases b1:(pos == 0) <;> cases b2:((kids.length:Int) == 2) <;>
   (go_enter Tryz.func202,Tryz.ntmps202
    go_wp2
    go_ret
    exact ⟨by rw [HF2.out]; simp [b0,b1,b2],B0⟩ )
  ·have HF2:Hid (F=(inB n 1 6 && (decide (0≤pos) && decide (pos<codes)))):=by
    show F=(inB n 1 6 && (decide (0≤pos) && decide (pos<codes)))
    rw [← HFF.out.1,← Bool.and_assoc]; rfl
   clear HFF H1 hfar
   generalize hC:(decide (0≤pos) && decide (pos<codes))=C at *
   have hcode:∀ w,Calls Tryz.prog 206 #[.int .i64 pos,.int .i64 codes] w fun e w'=>e = .returned (.bool C)∧w'=w:=fun w=>by rw [← hC]; exact isCode_any pos codes w
   clear hC
   cases b0:inB n 1 6 <;> cases C <;>
   (go_enter Tryz.func202,Tryz.ntmps202
    go_wp2_with (first
     | (go_at_call 175; refine (within_r _ _ _ _ b0 _).mono ?_; rintro e w1 ⟨rfl,rfl⟩)
     | (go_at_call 206; refine (hcode _).mono ?_; rintro e w2 ⟨rfl,rfl⟩))
    go_ret
    exact ⟨by rw [HF2.out]; simp [b0],B0⟩ )
  ·have HF2:Hid (F=((n == 0) && (decide (0≤pos) && decide (pos<codes)))):=by
    show F=((n == 0) && (decide (0≤pos) && decide (pos<codes)))
    rw [← HFF.out.1,← Bool.and_assoc]; rfl
   clear HFF H1 hfar
   generalize hC:(decide (0≤pos) && decide (pos<codes))=C at *
   have hcode:∀ w,Calls Tryz.prog 206 #[.int .i64 pos,.int .i64 codes] w fun e w'=>e = .returned (.bool C)∧w'=w:=fun w=>by rw [← hC]; exact isCode_any pos codes w
   clear hC
   cases b0:(n == 0) <;> cases C <;>
   (go_enter Tryz.func202,Tryz.ntmps202
    go_wp2_with (go_at_call 206; refine (hcode _).mono ?_; rintro e w2 ⟨rfl,rfl⟩)
    go_ret
    exact ⟨by rw [HF2.out]; simp [b0],B0⟩ )
  ·have HF2:Hid (F=(((n == 0) && (pos == 0)) && ((kids.length:Int) == 0))):=by
    show F=(((n == 0) && (pos == 0)) && ((kids.length:Int) == 0))
    rw [← HFF.out.1]; rfl
   clear HFF H1 hfar
   cases b0:(n == 0) <;> cases b1:(pos == 0) <;> cases b2:((kids.length:Int) == 0) <;>
   (go_enter Tryz.func202,Tryz.ntmps202
    go_wp2
    go_ret
    exact ⟨by rw [HF2.out]; simp [b0,b1,b2],B0⟩ )
  ·have HF2:Hid (F=(((n == 0) && (pos == 0)) && ((kids.length:Int) == 1))):=by
    show F=(((n == 0) && (pos == 0)) && ((kids.length:Int) == 1))
    rw [← HFF.out.1]; rfl
   clear HFF H1 hfar
   cases b0:(n == 0) <;> cases b1:(pos == 0) <;> cases b2:((kids.length:Int) == 1) <;>
   (go_enter Tryz.func202,Tryz.ntmps202
    go_wp2
    go_ret
    exact ⟨by rw [HF2.out]; simp [b0,b1,b2],B0⟩ )
  ·have HF2:Hid (F=((Ce.far ⟨7,n,pos,kids⟩) && ((kids.length:Int) == 0))):=by
    show F=((Ce.far ⟨7,n,pos,kids⟩) && ((kids.length:Int) == 0))
    rw [← HFF.out.1,hfar.out.1]; rfl
   clear HFF hfar
   have hf:=(farFits_any _ _ S _ H1.out)
   generalize hC:Ce.far ⟨7,n,pos,kids⟩=C at *
   have HW:=(show Hid (_∧True) from ⟨hf,trivial⟩)
   clear hC H1 hf
   cases b0:((kids.length:Int) == 0) <;> cases C <;>
   (go_enter Tryz.func202,Tryz.ntmps202
    go_wp2_with (go_at_call 207; refine HW.out.1.mono ?_; rintro e w2 ⟨rfl,b2⟩)
    go_ret
    exact ⟨by rw [HF2.out]; simp [b0],B0.trans (b2.mono B0.size)⟩ )
 ·have hFf:=hFo.out.1 hkd
  subst hFf
  have g0:(c.kind == 0)=false:=by simp; omega
  have g1:(c.kind == 1)=false:=by simp; omega
  have g2:(c.kind == 2)=false:=by simp; omega
  have g3:(c.kind == 3)=false:=by simp; omega
  have g4:(c.kind == 4)=false:=by simp; omega
  have g5:(c.kind == 5)=false:=by simp; omega
  have g6:(c.kind == 6)=false:=by simp; omega
  have g7:(c.kind == 7)=false:=by simp; omega
  clear hFo hfar HFF hkd H1
  go_enter Tryz.func202,Tryz.ntmps202
  go_wp2
  go_ret
  exact ⟨rfl,B0⟩
theorem isId_r (n:Int) (b:Bool) (hb:numOk n=b) (w:World):Calls Tryz.prog 180 #[.int .i64 n] w fun e w'=>e = .returned (.bool b)∧w'=w:=by
 go_enter Tryz.func180,Tryz.ntmps180
 go_wp2_with (go_at_call 175; refine (within_r _ _ _ b hb _).mono ?_; rintro e w1 ⟨rfl,rfl⟩)
 go_ret
 exact ⟨rfl,rfl⟩
theorem isNode_r (n:Int) (b:Bool) (hb:nodeOk n=b) (w:World):Calls Tryz.prog 200 #[.int .i64 n] w fun e w'=>e = .returned (.bool b)∧w'=w:=by
 go_enter Tryz.func200,Tryz.ntmps200
 go_wp2_with (go_at_call 175; refine (within_r _ _ _ b hb _).mono ?_; rintro e w1 ⟨rfl,rfl⟩)
 go_ret
 exact ⟨rfl,rfl⟩
def apartB (x y:Int):Bool:=nodeOk x && nodeOk y && !(x == y)
theorem areApart_r (x y:Int) (b:Bool) (hb:apartB x y=b) (w:World):Calls Tryz.prog 179 #[.int .i64 x,.int .i64 y] w fun e w'=>e = .returned (.bool b)∧w'=w:=by
 subst hb
 unfold apartB
 cases h1:nodeOk x with
 | false =>
  go_enter Tryz.func179,Tryz.ntmps179
  go_wp2_with (go_at_call 200; refine (isNode_r _ false h1 _).mono ?_; rintro e w1 ⟨rfl,rfl⟩)
  go_ret
  exact ⟨rfl,rfl⟩
 | true =>
  cases h2:nodeOk y with
  | false =>
   go_enter Tryz.func179,Tryz.ntmps179
   go_wp2_with (first
    | (go_at_call 200; refine (isNode_r _ true h1 _).mono ?_; rintro e w1 ⟨rfl,rfl⟩)
    | (go_at_call 200; refine (isNode_r _ false h2 _).mono ?_; rintro e w1 ⟨rfl,rfl⟩))
   go_ret
   exact ⟨rfl,rfl⟩
  | true =>
   cases h3:(x == y) with
   | true =>
    have h3':(x != y)=false:=by simp [bne,h3]
    go_enter Tryz.func179,Tryz.ntmps179
    go_wp2_with (first
     | (go_at_call 200; refine (isNode_r _ true h1 _).mono ?_; rintro e w1 ⟨rfl,rfl⟩)
     | (go_at_call 200; refine (isNode_r _ true h2 _).mono ?_; rintro e w1 ⟨rfl,rfl⟩))
    go_ret
    exact ⟨rfl,rfl⟩
   | false =>
    have h3':(x != y)=true:=by simp [bne,h3]
    go_enter Tryz.func179,Tryz.ntmps179
    go_wp2_with (first
     | (go_at_call 200; refine (isNode_r _ true h1 _).mono ?_; rintro e w1 ⟨rfl,rfl⟩)
     | (go_at_call 200; refine (isNode_r _ true h2 _).mono ?_; rintro e w1 ⟨rfl,rfl⟩))
    go_ret
    exact ⟨rfl,rfl⟩
theorem isZeroCell_any (v:Value) (c:Ce) (S:Nat→Prop) (w:World) (h:CeAt w S v c) :
  Calls Tryz.prog 181 #[v] w fun e w'=>e = .returned (.bool c.isNone)∧Below w.heap.size w w':=by
 obtain ⟨kv,rfl,-,-,-,hk⟩:=h
 obtain ⟨a,cap,rfl⟩:=hk.form
 have hkl:=hk.len
 clear hk
 have B0:Hid (∀ o:Obj,Below w.heap.size w (w.alloc o)):=fun o=>(Below.refl _ w).alloc (Nat.le_refl _) o
 by_cases h1:c.kind=0
 ·by_cases h2:c.n=0
  ·by_cases h3:c.pos=0
   ·by_cases h4:c.kids.length=0
    ·have hr:c.isNone=true:=by unfold Ce.isNone; rw [h1,h2,h3,h4]; rfl
     rw [hr]
     have h4':((c.kids.length:Nat):Int)=0:=by omega
     go_enter Tryz.func181,Tryz.ntmps181
     go_wp2
     go_ret
     exact ⟨rfl,B0.out _⟩
    ·have h4':¬ ((c.kids.length:Nat):Int)=0:=by omega
     have h4b:(((c.kids.length:Nat):Int) == 0)=false:=by simpa using h4'
     have hr:c.isNone=false:=by unfold Ce.isNone; rw [h4b]; simp
     rw [hr]
     go_enter Tryz.func181,Tryz.ntmps181
     go_wp2
     go_ret
     exact ⟨rfl,B0.out _⟩
   ·have hr:c.isNone=false:=by unfold Ce.isNone; simp [h3]
    rw [hr]
    go_enter Tryz.func181,Tryz.ntmps181
    go_wp2
    go_ret
    exact ⟨rfl,B0.out _⟩
  ·have hr:c.isNone=false:=by unfold Ce.isNone; simp [h2]
   rw [hr]
   go_enter Tryz.func181,Tryz.ntmps181
   go_wp2
   go_ret
   exact ⟨rfl,B0.out _⟩
 ·have hr:c.isNone=false:=by unfold Ce.isNone; simp [h1]
  rw [hr]
  go_enter Tryz.func181,Tryz.ntmps181
  go_wp2
  go_ret
  exact ⟨rfl,B0.out _⟩
def valueKind (k:Int):Bool:=k == 0 || k == 1 || k == 2 || k == 3
theorem isValueKind_r (k:Int) (b:Bool) (hb:valueKind k=b) (w:World):Calls Tryz.prog 182 #[.int .i64 k] w fun e w'=>e = .returned (.bool b)∧w'=w:=by
 subst hb
 unfold valueKind
 cases h0:(k == 0) with
 | true =>
  go_enter Tryz.func182,Tryz.ntmps182
  go_wp2
  go_ret
  exact ⟨rfl,rfl⟩
 | false =>
  cases h1:(k == 1) with
  | true =>
   go_enter Tryz.func182,Tryz.ntmps182
   go_wp2
   go_ret
   exact ⟨rfl,rfl⟩
  | false =>
   cases h2:(k == 2) with
   | true =>
    go_enter Tryz.func182,Tryz.ntmps182
    go_wp2
    go_ret
    exact ⟨rfl,rfl⟩
   | false =>
    cases h3:(k == 3) with
    | true =>
     go_enter Tryz.func182,Tryz.ntmps182
     go_wp2
     go_ret
     exact ⟨rfl,rfl⟩
    | false =>
     go_enter Tryz.func182,Tryz.ntmps182
     go_wp2
     go_ret
     exact ⟨rfl,rfl⟩
theorem allFit_any (kv:Value) (zs:List Int) (S:Nat→Prop) (w:World) (h:IntsAt w S kv zs) :
  Calls Tryz.prog 201 #[kv,.func (.func 180) #[] #[]] w fun e w'=>e = .returned (.bool (zs.all numOk))∧w'=w:=by
 obtain ⟨ka,kcap,rfl,hkm,hkc⟩:=h
 unfold maxLen at hkm
 have hnot:=ex_not
 have HC:=(show Hid (_∧True) from ⟨hkc,trivial⟩)
 clear hkc
 go_enter Tryz.func201,Tryz.ntmps201
 go_wp2
 go_loopw [9] (fun i wr=>∃ k:Nat,k≤zs.length∧i = .int .i64 k∧(zs.take k).all numOk=true∧wr=w) (fun i _=>zs.length - (intOf i).toNat)
 case atStart=>exact ⟨0,Nat.zero_le _,rfl,by simp,rfl⟩
 case round =>
  obtain ⟨k,hk,rfl,hall,rfl⟩:=hrel
  have HA:=(show Hid (_∧True) from ⟨hall,trivial⟩)
  clear hall
  by_cases hkl:k<zs.length
  ·have he:=List.getElem?_eq_getElem hkl
   generalize zs[k]=x at *
   obtain ⟨b,off,rfl,hSb,hlt2,c0,r0⟩:=HC.out.1 k x he
   have HE:=(show Hid (_∧True) from ⟨he,trivial⟩)
   have hlt':((k:Nat):Int)<((zs.length:Nat):Int):=by omega
   clear he HC
   cases hin:numOk x with
   | true =>
    have HN:=(show Hid (_∧True) from ⟨all_take numOk zs k HE.out.1 HA.out.1 hin,trivial⟩)
    clear HE HA
    go_wp2_with (go_at_call 180; refine (isId_r _ true hin _).mono ?_; rintro e w1 ⟨rfl,rfl⟩)
    refine ⟨⟨k+1,by omega,by go_num,HN.out.1,trivial⟩,by simp [intOf]; omega⟩
   | false =>
    have HN:=(show Hid (_∧True) from ⟨all_not numOk zs k HE.out.1 hin,trivial⟩)
    clear HE HA
    go_wp2_with (go_at_call 180; refine (isId_r _ false hin _).mono ?_; rintro e w1 ⟨rfl,rfl⟩)
    go_ret
    exact ⟨by rw [HN.out.1]; rfl,rfl⟩
  ·obtain rfl:k=zs.length:=by omega
   have HALL:=(show Hid (_∧True) from ⟨(by rw [← HA.out.1,List.take_length]:zs.all numOk=true),trivial⟩)
   clear HC HA
   go_wp2
   go_ret
   exact ⟨by rw [HALL.out.1]; rfl,rfl⟩
def Ce.travels (c:Ce):Bool:=decide ((c.kids.length:Int)≤100) && c.kids.all numOk && c.fields 1000000
theorem cellTravels_any (v:Value) (c:Ce) (S:Nat→Prop) (w:World) (h:CeAt w S v c) :
  Calls Tryz.prog 183 #[v] w fun e w'=>e = .returned (.bool c.travels)∧Below w.heap.size w w':=by
 obtain ⟨kv,rfl,r1,r2,r3,hk⟩:=h
 obtain ⟨a,cap,rfl⟩:=hk.form
 have hkl:=hk.len
 obtain ⟨W0,hW0⟩:∃ W0,W0=w.alloc (.cells #[.int .i64 c.kind,.int .i64 c.n,.int .i64 c.pos,.slice a c.kids.length cap] 65):=⟨_,rfl⟩
 have B0:Below w.heap.size w W0:=by rw [hW0]; exact (Below.refl _ w).alloc (Nat.le_refl _) _
 have HA:=allFit_any _ c.kids S W0 (hk.below B0)
 have HF:=fieldsFit_any (.agg #[.int .i64 c.kind,.int .i64 c.n,.int .i64 c.pos,.slice a c.kids.length cap]) c 1000000 S W0 ⟨_,rfl,r1,r2,r3,hk.below B0⟩
 subst hW0
 have HH:=(show Hid (_∧_∧_) from ⟨HA,HF,B0⟩)
 clear HA HF B0 hk r1 r2 r3
 unfold Ce.travels
 cases d0:decide (((c.kids.length:Nat):Int)≤100) with
 | false =>
  go_enter Tryz.func183,Tryz.ntmps183
  go_wp2
  go_ret
  exact ⟨rfl,HH.out.2.2⟩
 | true =>
  cases d1:c.kids.all numOk with
  | false =>
   go_enter Tryz.func183,Tryz.ntmps183
   go_wp2_with (go_at_call 201; refine HH.out.1.mono ?_; rw [d1]; rintro e w1 ⟨rfl,rfl⟩)
   go_ret
   exact ⟨rfl,HH.out.2.2⟩
  | true =>
   go_enter Tryz.func183,Tryz.ntmps183
   go_wp2_with (first
    | (go_at_call 201; refine HH.out.1.mono ?_; rw [d1]; rintro e w1 ⟨rfl,rfl⟩)
    | (go_at_call 202; refine HH.out.2.1.mono ?_; rintro e w2 ⟨rfl,b2⟩))
   go_ret
   exact ⟨rfl,HH.out.2.2.trans (b2.mono HH.out.2.2.size)⟩
theorem numOk_is (z:Int):numOk z=(decide (0≤z) && decide (z<1000000)):=by
  unfold numOk inB
  congr 1
  simp only [decide_eq_decide]
  omega
theorem len_zero {c:Ce} (h:((c.kids.length:Int) == 0)=true):decide ((c.kids.length:Int)≤100)=true:=by simp at h; simp [h]
theorem len_two {c:Ce} (h:((c.kids.length:Int) == 2)=true):decide ((c.kids.length:Int)≤100)=true:=by simp at h; simp; omega
theorem may_give (c:Ce):c.may false=(valueKind c.kind && c.travels):=by
  unfold Ce.may valueKind Ce.travels Ce.fields
  simp only [Bool.false_eq_true,if_false,numOk_is c.pos]
  by_cases k0:c.kind=0
  · cases hl:((c.kids.length:Int) == 0) with
    | false=>simp [k0]
    | true=>have:=len_zero hl; simp [k0,this]
  by_cases k1:c.kind=1
  · cases hl:((c.kids.length:Int) == 0) with
    | false=>simp [k1]
    | true=>have:=len_zero hl; simp [k1,this]
  by_cases k2:c.kind=2
  · cases hl:((c.kids.length:Int) == 2) with
    | false=>simp [k2]
    | true=>have:=len_two hl; simp [k2,this]
  by_cases k3:c.kind=3
  · cases decide ((c.kids.length:Int)≤100) <;> cases c.kids.all numOk <;> simp [k3,Bool.and_assoc]
  · have g0:(c.kind == 0)=false:=by simpa using k0
    have g1:(c.kind == 1)=false:=by simpa using k1
    have g2:(c.kind == 2)=false:=by simpa using k2
    have g3:(c.kind == 3)=false:=by simpa using k3
    rw [if_neg k0,if_neg k1,if_neg k2,g0,g1,g2,g3]
    simp
theorem may_work (c:Ce):c.may true=((c.kind == 4) && c.travels):=by
  unfold Ce.may Ce.travels Ce.fields
  simp only [if_true,numOk_is c.pos]
  by_cases k4:c.kind=4
  · cases decide ((c.kids.length:Int)≤100) <;> cases c.kids.all numOk <;> simp [k4,Bool.and_assoc]
  · have g4:(c.kind == 4)=false:=by simpa using k4
    rw [g4]
    simp
def Ms.okI (m:Ms):Bool:=apartB m.frm m.dst &&
  (if m.kind=0 then (numOk m.id && numOk m.want) && m.cell.isNone
   else if m.kind=1 then ((numOk m.id && (m.want == 0)) && valueKind m.cell.kind) && m.cell.travels
   else if m.kind=2 then ((m.id == 0) && (m.want == 0)) && m.cell.isNone
   else if m.kind=3 then ((numOk m.id && (m.want == 0)) && (m.cell.kind == 4)) && m.cell.travels
   else false)
theorem Ms.okI_is (m:Ms):m.okI=m.ok:=by
  unfold Ms.okI Ms.ok apartB
  rw [may_give,may_work]
  generalize m.cell.travels=T
  generalize m.cell.isNone=Z
  generalize valueKind m.cell.kind=V
  generalize (m.cell.kind == 4)=F
  by_cases hw:m.want=0
  · by_cases hi:m.id=0
    · rw [hw,hi]
      simp only [numOk_zero]
      cases nodeOk m.frm <;> cases nodeOk m.dst <;> cases (m.frm == m.dst) <;> simp
    · have hi':(m.id == 0)=false:=by simpa using hi
      rw [hw,hi']
      simp only [numOk_zero]
      cases nodeOk m.frm <;> cases nodeOk m.dst <;> cases (m.frm == m.dst) <;> cases numOk m.id <;> simp
  · have hw':(m.want == 0)=false:=by simpa using hw
    rw [hw']
    cases nodeOk m.frm <;> cases nodeOk m.dst <;> cases (m.frm == m.dst) <;> cases numOk m.id <;> cases numOk m.want <;> simp
theorem implMsgOk_any (v:Value) (m:Ms) (S:Nat→Prop) (w:World) (h:MsAt w S v m) :
    Calls Tryz.prog 144 #[v] w fun e w'=>e = .returned (.bool m.ok)∧Below w.heap.size w w':=by
  rw [← m.okI_is]
  unfold Ms.okI
  obtain ⟨a,c,rfl⟩:=h.form
  have B0:Below w.heap.size w (w.alloc (.cells (m.row (.slice a m.cell.kids.length c)) 67)):=(Below.refl _ w).alloc (Nat.le_refl _) _
  have HC:=(show Hid (_∧_∧_) from ⟨isZeroCell_any (.agg #[.int .i64 m.cell.kind,.int .i64 m.cell.n,.int .i64 m.cell.pos,.slice a m.cell.kids.length c]) m.cell S _ (h.cellAt.belowM B0),cellTravels_any (.agg #[.int .i64 m.cell.kind,.int .i64 m.cell.n,.int .i64 m.cell.pos,.slice a m.cell.kids.length c]) m.cell S _ (h.cellAt.belowM B0),B0⟩)
  clear h B0
  have hnot:=ex_not
  cases h0:apartB m.frm m.dst with
  | false =>
    go_enter Tryz.func144,Tryz.ntmps144
    go_wp2_with (go_at_call 179; refine (areApart_r _ _ _ h0 _).mono ?_; rintro e w1 ⟨rfl,rfl⟩)
    all_goals (go_ret; exact ⟨rfl,HC.out.2.2⟩)
  | true =>
    by_cases k0:m.kind=0
    · rw [if_pos k0]
      cases h1:numOk m.id with
      | false =>
        go_enter Tryz.func144,Tryz.ntmps144
        go_wp2_with (first
          | (go_at_call 179; refine (areApart_r _ _ _ h0 _).mono ?_; rintro e w1 ⟨rfl,rfl⟩)
          | (go_at_call 180; refine (isId_r _ _ h1 _).mono ?_; rintro e w1 ⟨rfl,rfl⟩))
        go_ret
        exact ⟨rfl,HC.out.2.2⟩
      | true =>
        cases h2:numOk m.want with
        | false =>
          go_enter Tryz.func144,Tryz.ntmps144
          go_wp2_with (first
            | (go_at_call 179; refine (areApart_r _ _ _ h0 _).mono ?_; rintro e w1 ⟨rfl,rfl⟩)
            | (go_at_call 180; refine (isId_r _ _ h1 _).mono ?_; rintro e w1 ⟨rfl,rfl⟩)
            | (go_at_call 180; refine (isId_r _ _ h2 _).mono ?_; rintro e w1 ⟨rfl,rfl⟩))
          go_ret
          exact ⟨rfl,HC.out.2.2⟩
        | true =>
          go_enter Tryz.func144,Tryz.ntmps144
          go_wp2_with (first
            | (go_at_call 179; refine (areApart_r _ _ _ h0 _).mono ?_; rintro e w1 ⟨rfl,rfl⟩)
            | (go_at_call 180; refine (isId_r _ _ h1 _).mono ?_; rintro e w1 ⟨rfl,rfl⟩)
            | (go_at_call 180; refine (isId_r _ _ h2 _).mono ?_; rintro e w1 ⟨rfl,rfl⟩)
            | (go_at_call 181; refine HC.out.1.mono ?_; rintro e w2 ⟨rfl,b2⟩))
          go_ret
          exact ⟨rfl,HC.out.2.2.trans (b2.mono HC.out.2.2.size)⟩
    rw [if_neg k0]
    have g0:(m.kind == 0)=false:=by simpa using k0
    by_cases k1:m.kind=1
    · rw [if_pos k1]
      cases h1:numOk m.id with
      | false =>
        go_enter Tryz.func144,Tryz.ntmps144
        go_wp2_with (first
          | (go_at_call 179; refine (areApart_r _ _ _ h0 _).mono ?_; rintro e w1 ⟨rfl,rfl⟩)
          | (go_at_call 180; refine (isId_r _ _ h1 _).mono ?_; rintro e w1 ⟨rfl,rfl⟩))
        go_ret
        exact ⟨rfl,HC.out.2.2⟩
      | true =>
        cases h2:(m.want == 0) with
        | false =>
          go_enter Tryz.func144,Tryz.ntmps144
          go_wp2_with (first
            | (go_at_call 179; refine (areApart_r _ _ _ h0 _).mono ?_; rintro e w1 ⟨rfl,rfl⟩)
            | (go_at_call 180; refine (isId_r _ _ h1 _).mono ?_; rintro e w1 ⟨rfl,rfl⟩))
          go_ret
          exact ⟨rfl,HC.out.2.2⟩
        | true =>
          cases h3:valueKind m.cell.kind with
          | false =>
            go_enter Tryz.func144,Tryz.ntmps144
            go_wp2_with (first
              | (go_at_call 179; refine (areApart_r _ _ _ h0 _).mono ?_; rintro e w1 ⟨rfl,rfl⟩)
              | (go_at_call 180; refine (isId_r _ _ h1 _).mono ?_; rintro e w1 ⟨rfl,rfl⟩)
              | (go_at_call 182; refine (isValueKind_r _ _ h3 _).mono ?_; rintro e w1 ⟨rfl,rfl⟩))
            go_ret
            exact ⟨rfl,HC.out.2.2⟩
          | true =>
            go_enter Tryz.func144,Tryz.ntmps144
            go_wp2_with (first
              | (go_at_call 179; refine (areApart_r _ _ _ h0 _).mono ?_; rintro e w1 ⟨rfl,rfl⟩)
              | (go_at_call 180; refine (isId_r _ _ h1 _).mono ?_; rintro e w1 ⟨rfl,rfl⟩)
              | (go_at_call 182; refine (isValueKind_r _ _ h3 _).mono ?_; rintro e w1 ⟨rfl,rfl⟩)
              | (go_at_call 183; refine HC.out.2.1.mono ?_; rintro e w2 ⟨rfl,b2⟩))
            go_ret
            exact ⟨rfl,HC.out.2.2.trans (b2.mono HC.out.2.2.size)⟩
    rw [if_neg k1]
    have g1:(m.kind == 1)=false:=by simpa using k1
    by_cases k2:m.kind=2
    · rw [if_pos k2]
      cases h1:(m.id == 0) with
      | false =>
        go_enter Tryz.func144,Tryz.ntmps144
        go_wp2_with (go_at_call 179; refine (areApart_r _ _ _ h0 _).mono ?_; rintro e w1 ⟨rfl,rfl⟩)
        go_ret
        exact ⟨rfl,HC.out.2.2⟩
      | true =>
        cases h2:(m.want == 0) with
        | false =>
          go_enter Tryz.func144,Tryz.ntmps144
          go_wp2_with (go_at_call 179; refine (areApart_r _ _ _ h0 _).mono ?_; rintro e w1 ⟨rfl,rfl⟩)
          go_ret
          exact ⟨rfl,HC.out.2.2⟩
        | true =>
          go_enter Tryz.func144,Tryz.ntmps144
          go_wp2_with (first
            | (go_at_call 179; refine (areApart_r _ _ _ h0 _).mono ?_; rintro e w1 ⟨rfl,rfl⟩)
            | (go_at_call 181; refine HC.out.1.mono ?_; rintro e w2 ⟨rfl,b2⟩))
          go_ret
          exact ⟨rfl,HC.out.2.2.trans (b2.mono HC.out.2.2.size)⟩
    rw [if_neg k2]
    have g2:(m.kind == 2)=false:=by simpa using k2
    by_cases k3:m.kind=3
    · rw [if_pos k3]
      cases h1:numOk m.id with
      | false =>
        go_enter Tryz.func144,Tryz.ntmps144
        go_wp2_with (first
          | (go_at_call 179; refine (areApart_r _ _ _ h0 _).mono ?_; rintro e w1 ⟨rfl,rfl⟩)
          | (go_at_call 180; refine (isId_r _ _ h1 _).mono ?_; rintro e w1 ⟨rfl,rfl⟩))
        go_ret
        exact ⟨rfl,HC.out.2.2⟩
      | true =>
        cases h2:(m.want == 0) with
        | false =>
          go_enter Tryz.func144,Tryz.ntmps144
          go_wp2_with (first
            | (go_at_call 179; refine (areApart_r _ _ _ h0 _).mono ?_; rintro e w1 ⟨rfl,rfl⟩)
            | (go_at_call 180; refine (isId_r _ _ h1 _).mono ?_; rintro e w1 ⟨rfl,rfl⟩))
          go_ret
          exact ⟨rfl,HC.out.2.2⟩
        | true =>
          cases h3:(m.cell.kind == 4) with
          | false =>
            go_enter Tryz.func144,Tryz.ntmps144
            go_wp2_with (first
              | (go_at_call 179; refine (areApart_r _ _ _ h0 _).mono ?_; rintro e w1 ⟨rfl,rfl⟩)
              | (go_at_call 180; refine (isId_r _ _ h1 _).mono ?_; rintro e w1 ⟨rfl,rfl⟩))
            go_ret
            exact ⟨rfl,HC.out.2.2⟩
          | true =>
            go_enter Tryz.func144,Tryz.ntmps144
            go_wp2_with (first
              | (go_at_call 179; refine (areApart_r _ _ _ h0 _).mono ?_; rintro e w1 ⟨rfl,rfl⟩)
              | (go_at_call 180; refine (isId_r _ _ h1 _).mono ?_; rintro e w1 ⟨rfl,rfl⟩)
              | (go_at_call 183; refine HC.out.2.1.mono ?_; rintro e w2 ⟨rfl,b2⟩))
            go_ret
            exact ⟨rfl,HC.out.2.2.trans (b2.mono HC.out.2.2.size)⟩
    rw [if_neg k3]
    have g3:(m.kind == 3)=false:=by simpa using k3
    go_enter Tryz.func144,Tryz.ntmps144
    go_wp2_with (go_at_call 179; refine (areApart_r _ _ _ h0 _).mono ?_; rintro e w1 ⟨rfl,rfl⟩)
    go_ret
    exact ⟨rfl,HC.out.2.2⟩
end Go.Proofs.YtmmadoabejgffaaGreatDoor
