/-
  Proofs.
  Proofs.
  Proofs.
  Proofs.
  Proofs.
  Proofs.
  Proofs.
  Proofs.
  Proofs.
  Proofs.
-/
import Derived.Test.YtljdgmfcgkimoaaGreatDoorJ3
import Derived.Test.YtljdgmfcgkimoaaGreatDoorJ1
import Derived.Test.YtljdgmfcgkimoaaGreatDoorJ2
import Derived.Deep.RegionLaw
import Derived.Shelf.Abstract
import Derived.Laws.Tables
import Derived.Laws.Rows
import Derived.Deep.WholeRow
import Derived.Deep.RegionHeld3
import Derived.OrdersHeld
namespace Go.Proofs.YtljdgmfcgkimoaaGreatDoor
open Go.RowKit Go.Joins Go.Maps
set_option maxRecDepth 100000
def lastN (ts:List ByteArray) (s:ByteArray):Nat→Int
 | 0 => -1
 | k+1=>if ((ts.getD k ByteArray.empty).toList == s.toList)=true then (k:Int) else lastN ts s k
theorem lastN_range (ts:List ByteArray) (s:ByteArray):∀ n:Nat,-1≤lastN ts s n∧lastN ts s n<n
 | 0=>by simp [lastN]
 | k+1=>by
  have:=lastN_range ts s k
  rw [lastN]
  split <;> omega
theorem lastN_is (ts:List ByteArray) (s:ByteArray) (i:Nat):∀ n:Nat,i<n→(ts.getD i ByteArray.empty).toList=s.toList→(lastN ts s n=i↔∀ j,i<j→j<n→(ts.getD j ByteArray.empty).toList≠s.toList)
 | 0,h,_=>by omega
 | n+1,h,he=>by
  rw [lastN]
  by_cases hn:((ts.getD n ByteArray.empty).toList == s.toList)=true
  ·rw [if_pos hn]
   constructor
   ·intro h1 j hj hjn; omega
   ·intro h1
    by_cases hi:i=n
    ·omega
    ·exact absurd (by simpa using hn) (h1 n (by omega) (by omega))
  ·rw [if_neg hn]
   have hin:i≠n:=by rintro rfl; exact hn (by simpa using he)
   rw [lastN_is ts s i n (by omega) he]
   constructor
   ·intro h1 j hj hjn
    by_cases hjn':j=n
    ·subst hjn'; simpa using hn
    ·exact h1 j hj (by omega)
   ·intro h1 j hj hjn; exact h1 j hj (by omega)
def keysS (ts:List ByteArray):List (List UInt8):=ts.map (fun t=>t.data.toList)
theorem toList_eq (s:ByteArray):s.toList=s.data.toList:=ByteArray.toList_eq s
theorem keys_at {ts:List ByteArray} {i:Nat} (h:i<ts.length):(keysS ts)[i]'(by simpa [keysS] using h)=(ts.getD i ByteArray.empty).toList:=by
 simp [keysS,List.getD,List.getElem?_eq_getElem h,toList_eq]
theorem nodup_last (ts:List ByteArray):(keysS ts).Nodup↔∀ i,i<ts.length→lastN ts (ts.getD i ByteArray.empty) ts.length=i:=by
 have hl:(keysS ts).length=ts.length:=by simp [keysS]
 rw [List.Nodup,List.pairwise_iff_getElem]
 constructor
 ·intro h i hi
  refine (lastN_is ts _ i ts.length hi rfl).2 fun j hij hj he => ?_
  refine h i j (by omega) (by omega) hij ?_
  rw [keys_at hi,keys_at hj,he]
 ·intro h i j hi hj hij he
  refine (lastN_is ts _ i ts.length (by omega) rfl).1 (h i (by omega)) j hij (by omega) ?_
  rw [← keys_at (by omega:i<ts.length),← keys_at (by omega:j<ts.length),he]
theorem addKey_str (L:List (List UInt8)) (x:List UInt8):addKey (L.map Lit.string) (.string x)=if x ∈ L then L.map Lit.string else (L ++ [x]).map Lit.string:=by
 unfold addKey
 have:((L.map Lit.string).any fun y=>y.sameKey (.string x))=L.contains x:=by
  rw [List.any_map]
  induction L with
  | nil=>rfl
  | cons a r ih =>
   rw [List.any_cons,List.contains_cons,ih]
   have hc:((fun y:Lit=>y.sameKey (.string x)) ∘ Lit.string) a=(x == a):=by
    show (a == x)=(x == a)
    exact Bool.eq_iff_iff.2 (by simp only [beq_iff_eq]; exact ⟨fun h=>h.symm,fun h=>h.symm⟩)
   rw [hc]
 rw [this]
 by_cases h:x ∈ L
 ·rw [if_pos h,if_pos (by simpa using h)]
 ·rw [if_neg h,if_neg (by simpa using h)]; simp
theorem fold_le:∀ (xs L:List (List UInt8)),((xs.map Lit.string).foldl addKey (L.map Lit.string)).length≤L.length+xs.length
 | [],L=>by simp
 | x :: r,L=>by
  rw [List.map_cons,List.foldl_cons,addKey_str]
  split
  ·have:=fold_le r L; simp only [List.length_cons]; omega
  ·have:=fold_le r (L ++ [x]); simp only [List.length_append,List.length_cons,List.length_nil] at this; simp only [List.length_cons]; omega
theorem fold_nodup:∀ (xs L:List (List UInt8)),L.Nodup→(((xs.map Lit.string).foldl addKey (L.map Lit.string)).length=L.length+xs.length↔(L ++ xs).Nodup)
 | [],L,h=>by simp [h]
 | x :: r,L,h=>by
  rw [List.map_cons,List.foldl_cons,addKey_str]
  by_cases hx:x ∈ L
  ·rw [if_pos hx]
   constructor
   ·intro he; have:=fold_le r L; simp only [List.length_cons] at he; omega
   ·intro hn
    rw [List.nodup_append] at hn
    exact absurd rfl (hn.2.2 x hx x (by simp))
  ·rw [if_neg hx]
   have h1:(L ++ [x]).Nodup:=by
    rw [List.nodup_append]
    exact ⟨h,by simp,fun a ha b hb=>by simp at hb; subst hb; exact fun e=>hx (e ▸ ha)⟩
   have:=fold_nodup r (L ++ [x]) h1
   rw [show L ++ [x] ++ r=L ++ x :: r by simp] at this
   rw [← this]
   simp only [List.length_append,List.length_cons,List.length_nil]
   omega
theorem size_names (u:DataW Unit) (ts:List ByteArray):Maps.size (setOf u ((keysS ts).map Lit.string))=ts.length↔(keysS ts).Nodup:=by
 rw [size_setOf _ _ (fun y hy=>by obtain ⟨_,_,rfl⟩:=List.mem_map.1 hy; trivial)]
 have:=fold_nodup (keysS ts) [] List.nodup_nil
 simp only [List.map_nil,List.length_nil,Nat.zero_add,List.nil_append] at this
 rw [← this]
 simp [keysS]
def Pr.ok (p:Pr):Bool:=decide (p.names.length=p.bodies.length) && decide (1≤p.names.length) && decide (p.names.length≤30) && p.names.all nameOk && decide (keysS p.names).Nodup && p.bodies.all (fun b=>b.right 0 (p.names.length:Int) 60)
theorem Pr.ok_iff (p:Pr):p.ok=true↔p.names.length=p.bodies.length∧1≤p.names.length∧p.names.length≤30∧(∀ t ∈ p.names,nameOk t=true)∧(keysS p.names).Nodup∧∀ b ∈ p.bodies,b.right 0 (p.names.length:Int) 60=true:=by
 unfold Pr.ok
 simp only [Bool.and_eq_true,decide_eq_true_eq,List.all_eq_true]
 constructor
 ·rintro ⟨⟨⟨⟨⟨h1,h2⟩,h3⟩,h4⟩,h5⟩,h6⟩; exact ⟨h1,h2,h3,h4,h5,h6⟩
 ·rintro ⟨h1,h2,h3,h4,h5,h6⟩; exact ⟨⟨⟨⟨⟨h1,h2⟩,h3⟩,h4⟩,h5⟩,h6⟩
theorem Pr.ok_false {p:Pr} (h:¬ (p.names.length=p.bodies.length∧1≤p.names.length∧p.names.length≤30∧(∀ t ∈ p.names,nameOk t=true)∧(keysS p.names).Nodup∧∀ b ∈ p.bodies,b.right 0 (p.names.length:Int) 60=true)):p.ok=false:=by
 cases hp:p.ok with
 | false=>rfl
 | true=>exact absurd (p.ok_iff.1 hp) h
end Go.Proofs.YtljdgmfcgkimoaaGreatDoor

namespace Go.Proofs.YtljdgmfcgkimoaaGreatDoor
open Go.RowKit Go.Joins
set_option maxRecDepth 100000
set_option maxHeartbeats 1600000 in
theorem l02Place_any (v:Value) (ts:List ByteArray) (s:ByteArray) (S:Nat→Prop) (w:World) (h:StrsAt w S v ts) :
  Calls Tryz.prog 19 #[v,.string s] w fun e w'=>e = .returned (.int .i64 (lastN ts s ts.length))∧w'=w:=by
 obtain ⟨a,cap,rfl,hl,hc⟩:=h
 unfold maxLen at hl
 have HC:=(show Hid (_∧True) from ⟨hc,trivial⟩)
 clear hc
 go_enter Tryz.func19,Tryz.ntmps19
 go_wp2
 go_loop [5,6] (fun p i=>∃ k:Nat,k≤ts.length∧i = .int .i64 k∧p = .int .i64 (lastN ts s k)) (fun _ i=>ts.length - (intOf i).toNat)
 case atStart=>exact ⟨0,Nat.zero_le _,rfl,rfl⟩
 case round =>
  obtain ⟨k,hk,rfl,rfl⟩:=hrel
  by_cases hlt:k<ts.length
  ·have he:=List.getElem?_eq_getElem hlt
   have hst:lastN ts s (k+1)=if (ts[k].toList == s.toList)=true then (k:Int) else lastN ts s k:=by
    rw [lastN]; simp [List.getD,he]
   have HS:=(show Hid (_∧True) from ⟨hst,trivial⟩)
   clear hst
   generalize ts[k]=x at *
   obtain ⟨b,off,rfl,-,hl1,c0,-⟩:=HC.out.1 k x he
   clear he HC
   cases hx:(x.toList == s.toList)
   ·go_wp2
    go_round
    case rel=>exact ⟨k+1,by omega,by go_num,by rw [HS.out.1,hx]; simp⟩
    case measure=>simp [intOf]; omega
   ·go_wp2
    go_round
    case rel=>exact ⟨k+1,by omega,by go_num,by rw [HS.out.1,hx]; simp⟩
    case measure=>simp [intOf]; omega
  ·obtain rfl:k=ts.length:=by omega
   clear HC
   go_wp2
   go_ret
   exact ⟨rfl,rfl⟩
end Go.Proofs.YtljdgmfcgkimoaaGreatDoor

namespace Go.Proofs.YtljdgmfcgkimoaaGreatDoor
open Go.RowKit Go.Joins
end Go.Proofs.YtljdgmfcgkimoaaGreatDoor

namespace Go.Proofs.YtljdgmfcgkimoaaGreatDoor
open Go.RowKit Go.Joins Go.Shelf
end Go.Proofs.YtljdgmfcgkimoaaGreatDoor

namespace Go.Proofs.YtljdgmfcgkimoaaGreatDoor
open Go.RowKit Go.Joins Go.Shelf
set_option maxRecDepth 100000
theorem step_run {P:Program} {ops:Array Oper} {o:Oper} {a:Act} {w:World} {K:Act→World→Prop} {Q:Exit→Act→World→Prop} {E:Prop} (hg:o.guard=none) (v:Value) (w':World)
  (hr:(execOp a.eval o).run P w = .ok (.value v) w') (hK:K (a.put o.dst v) w') :
  if Region.wanted o (yielded ops a.tmps)=true then Oper.wp P o a w K Q else E:=by
 have hw:Region.wanted o (yielded ops a.tmps)=true:=by simp [Region.wanted,hg]
 rw [if_pos hw]
 unfold Oper.wp
 rw [hr]
 exact hK
theorem step_skip {P:Program} {ops:Array Oper} {o:Oper} {a:Act} {w:World} {K:Act→World→Prop} {Q:Exit→Act→World→Prop} {E:Prop} (hg:o.guard=none) (w':World)
  (hr:(execOp a.eval o).run P w = .ok .skip w') (hK:K (a.put o.dst undef) w') :
  if Region.wanted o (yielded ops a.tmps)=true then Oper.wp P o a w K Q else E:=by
 have hw:Region.wanted o (yielded ops a.tmps)=true:=by simp [Region.wanted,hg]
 rw [if_pos hw]
 unfold Oper.wp
 rw [hr]
 exact hK
end Go.Proofs.YtljdgmfcgkimoaaGreatDoor

namespace Go.Proofs.YtljdgmfcgkimoaaGreatDoor
open Go.RowKit Go.Joins
set_option maxRecDepth 100000
theorem infoStrP:(Tryz.prog.info? 9).map (fun i=>(i.zero,i.size,i.bytes))=some (some (.string ⟨#[]⟩),1,16):=by kernel_rfl
theorem str_ones (ss:List ByteArray):∀ u ∈ ss.map Value.string,u.oneCell'=true:=by
 intro u hu
 obtain ⟨t,_,rfl⟩:=List.mem_map.1 hu
 rfl
theorem PsAt.of_own {w:World} {B P n:Nat} {v:Value} {ss:List ByteArray} (h:w.ownsRow B 9 1 v n (ss.map Value.string)) (hn:n=ss.length) (hv:v ≠ .slice none 0 0) (hB:P<B) (hs:∀ t ∈ ss,t.size≤1048576):PsAt w P v ss:=by
 subst hn
 rcases h.2 with ⟨e,_⟩ | ⟨g,cap,cur,hv',hb,hg,hnc,hcm,hsz,htake⟩
 ·exact absurd e hv
 ·refine ⟨g,0,cap,hv',by omega,lh hg,fun i t ht=>⟨?_,hs t (List.mem_of_getElem? ht)⟩⟩
  have:=h.cells (g:=g) (by rw [hv']; rfl) i (.string t) (by rw [List.getElem?_map,ht]; rfl)
  rw [addr_add] at this
  exact this
theorem PsAt.below {w w':World} {P:Nat} {v:Value} {ss:List ByteArray} (h:PsAt w P v ss) (hb:Below w.heap.size w w'):PsAt w' P v ss:=h.kb (KB.of_below hb)
set_option maxHeartbeats 800000 in
theorem pwith_any (P:Nat) (v1 v2:Value) (ss tt:List ByteArray) (w:World) (hP:P<w.heap.size) (h1:PsAt w P v1 ss) (h2:PsAt w P v2 tt) (hl:ss.length+tt.length≤100000) :
  Calls Tryz.prog 91 #[v1,v2] w fun e w'=>∃ v,e = .returned v∧PsAt w' P v (ss ++ tt)∧Below w.heap.size w w':=by
 obtain ⟨i0,hi,hz0,hz1,hz2⟩:=info_parts infoStrP
 obtain ⟨b1,o1,c1,rfl,hb1,hl1,hc1⟩:=h1
 obtain ⟨b2,o2,c2,rfl,hb2,hl2,hc2⟩:=h2
 have B0:Below w.heap.size w (w.alloc (.cells #[] 9)):=(Below.refl _ w).alloc (Nat.le_refl _) _
 have P3:(w.alloc (.cells #[] 9)).heap.size=w.heap.size+1:=by simp
 have hown0:(w.alloc (.cells #[] 9)).ownsRow w.heap.size 9 1 (.slice (some ⟨w.heap.size,0,none⟩) 0 0) 0 []:=World.ownsRow_made (size:=1) (e:=9) w #[] 0 (Nat.le_refl _) (Nat.zero_le _) (by simp)
 have key1:∀ j u,(ss.map Value.string)[j]? = some u→(w.alloc (.cells #[] 9)).cell? ((⟨b1,o1,none⟩:Addr).add j)=some u:=fun j u hu=>by
  rw [List.getElem?_map,Option.map_eq_some_iff] at hu
  obtain ⟨t,ht,rfl⟩:=hu
  rw [addr_add]
  exact (B0.cell (by exact hl1)).trans (hc1 j t ht).1
 have HB:=(show Hid (_∧_∧_∧_) from ⟨B0,key1,hc1,hc2⟩)
 clear B0 key1 hc1 hc2
 go_enter Tryz.func91,Tryz.ntmps91
 go_wp2_with (first
  | (at_builtin; refine wpList_append_own _ rfl _ _ 24 rfl w.heap.size 9 i0 _ 1 16 Tryz.underlying24 hi hz0 hz1 hz2 rfl (by decide) _ 0 [] rfl hown0 ⟨b1,o1,none⟩ ss.length c1 (ss.map Value.string) rfl (by simp) HB.out.2.1 (str_ones ss) (by unfold maxLen; omega) (by omega) (by simp) ?_; intro v3 w3 hown3 hgrow3 hnil3; have hb3:Below w.heap.size w w3:=HB.out.1.grown hgrow3 (by simp) (fun k hk=>(hown0.lt k hk).1))
  | (at_builtin; refine wpList_append_own _ rfl _ _ 24 rfl w.heap.size 9 i0 _ 1 16 Tryz.underlying24 hi hz0 hz1 hz2 rfl (by decide) _ (0+ss.length) _ rfl hown3 ⟨b2,o2,none⟩ tt.length c2 (tt.map Value.string) rfl (by simp) (fun j u hu=>by rw [List.getElem?_map,Option.map_eq_some_iff] at hu; obtain ⟨t,ht,rfl⟩:=hu; rw [addr_add]; exact (hb3.cell (by exact hl2)).trans (HB.out.2.2.2 j t ht).1) (str_ones tt) (by unfold maxLen; omega) (by omega) (by have:=hb3.size; omega) ?_; intro v4 w4 hown4 hgrow4 hnil4; have hb4:Below w.heap.size w w4:=hb3.grown hgrow4 (by have:=hb3.size; omega) (fun k hk=>(hown3.lt k hk).1)))
 go_ret
 refine ⟨v4,rfl,PsAt.of_own (B:=w.heap.size) (n:=0+ss.length+tt.length) (by simpa using hown4) (by simp) (fun e => ?_) hP (fun t ht => ?_),hb4⟩
 ·have h4:=(hnil4.1 e).1
  have:=(hnil3.1 h4).1
  cases this
 ·rcases List.mem_append.1 ht with ht | ht
  ·obtain ⟨i,hi⟩:=List.getElem?_of_mem ht
   exact (HB.out.2.2.1 i t hi).2
  ·obtain ⟨i,hi⟩:=List.getElem?_of_mem ht
   exact (HB.out.2.2.2 i t hi).2
def zeroE:Array Value:=#[.int .i64 0,.int .i64 0,.string ⟨#[]⟩,.slice none 0 0]
theorem infoE:(Tryz.prog.info? 52).map (fun i=>(i.zero,i.size,i.bytes))=some (some (.agg zeroE),4,56):=by kernel_rfl
theorem infoE2:(Tryz.prog.info? 52).map (fun i=>(i.zero,i.size))=some (some (.agg zeroE),4):=by kernel_rfl
theorem sizeE:(Tryz.prog.info? 52).map (·.size)=some 4:=by kernel_rfl
theorem run_allocE (w:World):(Instr.alloc 52 true (.tuple #[])).run Tryz.prog w = .ok (.pointer (some ⟨w.heap.size,0,none⟩)) (w.alloc (.cells zeroE 52)):=by
 have h:=(zero_of_info infoE2).1
 simp only [Instr.alloc,Sem.run_bind,h,Result.andThen_ok,newVar,newRow,Value.cells]
 rfl
theorem ex_allocE (e:Operand→Value) (o:Oper) (ho:o.op = .alloc 52) (w:World):(execOp e o).run Tryz.prog w = .ok (.value (.pointer (some ⟨w.heap.size,0,none⟩))) (w.alloc (.cells zeroE 52)):=by
 unfold execOp
 rw [ho]
 simp only [Sem.run_bind,run_allocE,Result.andThen_ok,Sem.run_pure]
theorem ex_loadE (e:Operand→Value) (o:Oper) (x:Operand) (b:Nat) (cs:Array Value) (t:TypeId) (ho:o.op = .load 52 x) (hx:e x = .pointer (some ⟨b,0,none⟩)) (w:World) (hb:w.heap[b]? = some (.cells cs t (0,0))) (hs:cs.size=4):(execOp e o).run Tryz.prog w = .ok (.value (.agg cs)) w:=by
 unfold execOp
 rw [ho]
 simp only [hx,Instr.loadAt,Instr.sureAddr,Sem.run_bind,Sem.run_pure,Result.andThen_ok,run_loadVar_row w b t 52 cs (0,0) _ hb Tryz.underlying52 rfl (by rw [hs]; exact sizeE)]
theorem ex_storeE (e:Operand→Value) (o:Oper) (x y:Operand) (b:Nat) (cs cs':Array Value) (t:TypeId) (ho:o.op = .store 52 x y) (hx:e x = .pointer (some ⟨b,0,none⟩)) (hy:e y = .agg cs') (w:World) (hb:w.heap[b]? = some (.cells cs t (0,0))) (hs:cs.size=4) (hs':cs'.size=4) (h1:cs'.all (·.oneCell')=true) :
  (execOp e o).run Tryz.prog w = .ok .skip (w.setRow b cs'):=by
 unfold execOp
 rw [ho]
 simp only [hx,hy,Instr.storeAt,Instr.sureAddr,Sem.run_bind,Sem.run_pure,Result.andThen_ok,run_storeVar_row w b t 52 cs cs' hb (by rw [hs']; exact sizeE) (by rw [hs,hs']) h1]
end Go.Proofs.YtljdgmfcgkimoaaGreatDoor

namespace Go.Proofs.YtljdgmfcgkimoaaGreatDoor
open Go.RowKit Go.Joins Go.Shelf
set_option maxRecDepth 100000
def CC (f:FuncId) (q:Ps) (m k:Nat):Prop :=
 ∀ (i:Nat) (bad lost:Bool) (V:Value) (ss:List ByteArray) (w:World),ParAt q w i bad lost→q.n - i<m→PsAt w q.P V ss→ss.length+k+6 * (q.n - i)≤20000 →
  Calls Tryz.prog f #[.pointer (some ⟨q.P,0,none⟩),V] w fun r w'=>∃ v,r = .returned v∧EV (fun b=>w.heap.size≤b) w' v∧AftS q w w' i bad
section
variable {P:Program} {ops:Array Oper} {o o1 o2:Oper} {rest:List Oper} {a:Act} {w:World} {Q:Exit→Act→World→Prop}
theorem wpl_run {P:Program} {ops:Array Oper} {o:Oper} {rest:List Oper} {a:Act} {w:World} {Q:Exit→Act→World→Prop} (hg:o.guard=none) (v:Value) (w':World)
  (hr:(execOp a.eval o).run P w = .ok (.value v) w') (h:wpList P ops Q rest (a.put o.dst v) w'):wpList P ops Q (o :: rest) a w :=
 wpList_plain hg fun K hK=>by unfold Oper.wp; rw [hr]; exact hK _ _ h
theorem wpl_skip {P:Program} {ops:Array Oper} {o:Oper} {rest:List Oper} {a:Act} {w:World} {Q:Exit→Act→World→Prop} (hg:o.guard=none) (w':World)
  (hr:(execOp a.eval o).run P w = .ok .skip w') (h:wpList P ops Q rest (a.put o.dst undef) w'):wpList P ops Q (o :: rest) a w :=
 wpList_plain hg fun K hK=>by unfold Oper.wp; rw [hr]; exact hK _ _ h
theorem wpl_call1 (hg:o.guard=none) (f:FuncId) (x:Operand) (ts:Array TypeId) (hop:o.op=Op.call { callee:=Callee.value (.func f),args:=#[x],argTypes:=ts }) (hent:∀ args w,(callFunc f args).run P w = .ok (.enter f args) w)
  (u:Value) (hx:a.eval x=u) (Post:Value→World→Prop) (hc:Calls P f #[u] w fun e w'=>∃ r,e = .returned r∧Post r w') (h:∀ r w',Post r w'→wpList P ops Q rest (a.put o.dst r) w'):wpList P ops Q (o :: rest) a w :=
 wpList_plain hg fun K hK=>by
  unfold Oper.wp execOp
  have hf:a.eval (.func f) = .func (.func f) #[] #[]:=rfl
  simp [hop,resolve,invoke,hx,hf,hent,Deferred.ofValue]
  refine hc.mono ?_
  rintro e w' ⟨r,rfl,hp⟩
  exact hK _ _ (h r w' hp)
theorem wpl_call2 (hg:o.guard=none) (f:FuncId) (x y:Operand) (ts:Array TypeId) (hop:o.op=Op.call { callee:=Callee.value (.func f),args:=#[x,y],argTypes:=ts }) (hent:∀ args w,(callFunc f args).run P w = .ok (.enter f args) w)
  (u v:Value) (hx:a.eval x=u) (hy:a.eval y=v) (Post:Value→World→Prop) (hc:Calls P f #[u,v] w fun e w'=>∃ r,e = .returned r∧Post r w') (h:∀ r w',Post r w'→wpList P ops Q rest (a.put o.dst r) w'):wpList P ops Q (o :: rest) a w :=
 wpList_plain hg fun K hK=>by
  unfold Oper.wp execOp
  have hf:a.eval (.func f) = .func (.func f) #[] #[]:=rfl
  simp [hop,resolve,invoke,hx,hy,hf,hent,Deferred.ofValue]
  refine hc.mono ?_
  rintro e w' ⟨r,rfl,hp⟩
  exact hK _ _ (h r w' hp)
theorem wpl_call3 (hg:o.guard=none) (f:FuncId) (x y z:Operand) (ts:Array TypeId) (hop:o.op=Op.call { callee:=Callee.value (.func f),args:=#[x,y,z],argTypes:=ts }) (hent:∀ args w,(callFunc f args).run P w = .ok (.enter f args) w)
  (u v t:Value) (hx:a.eval x=u) (hy:a.eval y=v) (hz:a.eval z=t) (Post:Value→World→Prop) (hc:Calls P f #[u,v,t] w fun e w'=>∃ r,e = .returned r∧Post r w') (h:∀ r w',Post r w'→wpList P ops Q rest (a.put o.dst r) w'):wpList P ops Q (o :: rest) a w :=
 wpList_plain hg fun K hK=>by
  unfold Oper.wp execOp
  have hf:a.eval (.func f) = .func (.func f) #[] #[]:=rfl
  simp [hop,resolve,invoke,hx,hy,hz,hf,hent,Deferred.ofValue]
  refine hc.mono ?_
  rintro e w' ⟨r,rfl,hp⟩
  exact hK _ _ (h r w' hp)
end
theorem EV.agg {S:Nat→Prop} {w:World} {v:Value} (h:EV S w v):v = .agg (cellsV v)∧(cellsV v).size=4∧(cellsV v).all (·.oneCell')=true∧(cellsV v).toList=cellsE v:=by
 obtain ⟨k,n,t,a,m,rfl⟩:=h.form
 exact ⟨rfl,rfl,by simp [cellsV,Value.oneCell'],rfl⟩
theorem lt_on {n i i' m:Nat} (h:n - i<m) (hi:i≤i'):n - i'<m:=by omega
theorem len_on {a k k' n i i':Nat} (h:a+k+6 * (n - i)≤20000) (hk:k'≤k) (hi:i≤i'):a+k'+6 * (n - i')≤20000:=by omega
theorem len_more {ss ts:List ByteArray} {k n i i':Nat} (h:ss.length+k+6 * (n - i)≤20000) (hk:ts.length≤k) (hi:i≤i'):(ss ++ ts).length+0+6 * (n - i')≤20000:=by rw [List.length_append]; omega
theorem block_new (w:World) (o:Obj):(w.alloc o).heap[w.heap.size]? = some o:=(MapKept.heap_alloc w o).1
theorem setRow_kb (w:World) (g:Nat) (cs:Array Value):KB (· = g) w (w.setRow g cs) :=
 ⟨rfl,rfl,rfl,by simp [World.setRow],fun k _ hx=>setRow_other w g k cs hx⟩
theorem box_new (w:World) (cs:Array Value):∃ W',W'=(w.alloc (.cells zeroE 52)).setRow w.heap.size cs∧W'.heap.size=w.heap.size+1∧Below w.heap.size w W'∧W'.heap[w.heap.size]? = some (.cells cs 52):=by
 refine ⟨_,rfl,by simp [World.setRow],?_,setRow_heap _ _ _ _ _ _ (block_new w _)⟩
 exact (setRow_kb _ _ _).below (fun k hk=>by have hk':k=w.heap.size:=hk; omega) (Nat.le_of_lt (by simp)) |> fun h=>((Below.refl _ w).alloc (Nat.le_refl _) _).trans h
theorem wpl_box {ops:Array Oper} {o1 o2:Oper} {rest:List Oper} {a:Act} {w:World} {Q:Exit→Act→World→Prop} (d:Nat) (x:Operand) (hg1:o1.guard=none) (hg2:o2.guard=none) (h1:o1.op = .alloc 52) (hd:o1.dst=some d) (h2:o2.op = .store 52 (.tmp d) x) (hd2:o2.dst=none)
  {S:Nat→Prop} {v:Value} (hv:EV S w v) (hp:(a.put (some d) (.pointer (some ⟨w.heap.size,0,none⟩))).eval (.tmp d) = .pointer (some ⟨w.heap.size,0,none⟩)) (hx:(a.put (some d) (.pointer (some ⟨w.heap.size,0,none⟩))).eval x=v)
  (h:∀ W',W'.heap.size=w.heap.size+1→Below w.heap.size w W'→W'.heap[w.heap.size]? = some (.cells (cellsV v) 52)→wpList Tryz.prog ops Q rest (a.put (some d) (.pointer (some ⟨w.heap.size,0,none⟩))) W'):wpList Tryz.prog ops Q (o1 :: o2 :: rest) a w:=by
 obtain ⟨e1,e2,e3,-⟩:=hv.agg
 obtain ⟨W',hW,k1,k2,k3⟩:=box_new w (cellsV v)
 refine wpl_run hg1 _ _ (ex_allocE _ _ h1 w) ?_
 rw [hd]
 refine wpl_skip hg2 W' ?_ ?_
 ·rw [hW]
  exact ex_storeE _ _ _ x w.heap.size zeroE (cellsV v) _ h2 hp (hx.trans e1) _ (block_new w _) rfl e2 e3
 ·rw [hd2]
  exact h W' k1 k2 k3
theorem fin_box {q:Ps} {w W:World} {i:Nat} {bad lost:Bool} {v:Value} {cs0:Array Value} (h:ParAt q w i bad lost) (hk:AftS q w W i bad) (hv:EV (fun b=>w.heap.size+1≤b) W v) (hb:W.heap[w.heap.size]? = some (.cells cs0 52)) :
  EV (fun b=>w.heap.size≤b) (W.setRow w.heap.size (cellsV v)) v∧AftS q w (W.setRow w.heap.size (cellsV v)) i bad∧(W.setRow w.heap.size (cellsV v)).heap[w.heap.size]? = some (.cells (cellsV v) 52):=by
 have k:=setRow_kb W w.heap.size (cellsV v)
 have hq:=h.lt
 obtain ⟨k1,i',bad',lost',k2,kb,ks,k3⟩:=hk
 have kk:KB (· = q.P) w (W.setRow w.heap.size (cellsV v)):=⟨k.os.trans k1.os,k.tape.trans k1.tape,k.output.trans k1.output,Nat.le_trans k1.size k.size,fun b hb hx=>(k.block b (Nat.lt_of_lt_of_le hb k1.size) (by omega)).trans (k1.block b hb hx)⟩
 exact ⟨hv.kept (fun b hb hlt=>k.block b hlt (by omega)) k.size (fun b hb _=>by omega),⟨kk,i',bad',lost',k2,kb,ks,h.on kk ((k.block q.P k3.lt (by omega)).trans k3.1) k3.2.1⟩,setRow_heap _ _ _ _ _ _ hb⟩
end Go.Proofs.YtljdgmfcgkimoaaGreatDoor

namespace Go.Proofs.YtljdgmfcgkimoaaGreatDoor
section
variable {P:Program} {ops:Array Oper} {Q:Exit→Act→World→Prop} {S:World→Prop}
def countL (ops:Array Oper) (listed:Array Bool):Nat:=((List.range ops.size).filter (fun i => !listed.getD i true)).length
theorem step_callTwo {o:Oper} {a:Act} {w:World} {K:Act→World→Prop} {E:Prop}
  (hg:o.guard=none) (f:FuncId) (x y:Operand) (ts:Array TypeId) (hop:o.op=Op.call { callee:=Callee.value (.func f),args:=#[x,y],argTypes:=ts }) (hent:∀ args w,(callFunc f args).run P w = .ok (.enter f args) w)
  (u v:Value) (hx:a.eval x=u) (hy:a.eval y=v) (Post:Value→World→Prop) (hc:Calls P f #[u,v] w fun e w'=>∃ r,e = .returned r∧Post r w') (hK:∀ r w',Post r w'→K (a.put o.dst r) w') :
  if Region.wanted o (yielded ops a.tmps)=true then Oper.wp P o a w K Q else E:=by
 have hw:Region.wanted o (yielded ops a.tmps)=true:=by simp [Region.wanted,hg]
 rw [if_pos hw]
 unfold Oper.wp execOp
 have hf:a.eval (.func f) = .func (.func f) #[] #[]:=rfl
 simp [hop,resolve,invoke,hx,hy,hf,hent,Deferred.ofValue]
 refine hc.mono ?_
 rintro e w' ⟨r,rfl,h⟩
 exact hK r w' h
end
end Go.Proofs.YtljdgmfcgkimoaaGreatDoor

namespace Go.Proofs.YtljdgmfcgkimoaaGreatDoor
open Go.RowKit
end Go.Proofs.YtljdgmfcgkimoaaGreatDoor

namespace Go.Proofs.YtljdgmfcgkimoaaGreatDoor
open Go.RowKit Go.Joins Go.Shelf
set_option maxRecDepth 100000
theorem ent_name:∀ args w,(callFunc 38 args).run Tryz.prog w = .ok (.enter 38 args) w:=enters_of Tryz.func38 (by kernel_rfl) rfl
theorem ent_take:∀ args w,(callFunc 40 args).run Tryz.prog w = .ok (.enter 40 args) w:=enters_of Tryz.func40 (by kernel_rfl) rfl
theorem ent_with:∀ args w,(callFunc 91 args).run Tryz.prog w = .ok (.enter 91 args) w:=enters_of Tryz.func91 (by kernel_rfl) rfl
theorem ent_exp:∀ args w,(callFunc 41 args).run Tryz.prog w = .ok (.enter 41 args) w:=enters_of Tryz.func41 (by kernel_rfl) rfl
theorem ent_atom:∀ args w,(callFunc 104 args).run Tryz.prog w = .ok (.enter 104 args) w:=enters_of Tryz.func104 (by kernel_rfl) rfl
theorem ent_apps:∀ args w,(callFunc 92 args).run Tryz.prog w = .ok (.enter 92 args) w:=enters_of Tryz.func92 (by kernel_rfl) rfl
theorem ent_ops:∀ args w,(callFunc 74 args).run Tryz.prog w = .ok (.enter 74 args) w:=enters_of Tryz.func74 (by kernel_rfl) rfl
theorem ent_var:∀ args w,(callFunc 73 args).run Tryz.prog w = .ok (.enter 73 args) w:=enters_of Tryz.func73 (by kernel_rfl) rfl
theorem ent_op:∀ args w,(callFunc 93 args).run Tryz.prog w = .ok (.enter 93 args) w:=enters_of Tryz.func93 (by kernel_rfl) rfl
theorem ex_move (e:Operand→Value) (o:Oper) (x:Operand) (v:Value) (ho:o.op = .move x) (hx:e x=v) (w:World):(execOp e o).run Tryz.prog w = .ok (.value v) w:=by
 unfold execOp
 rw [ho]
 simp only [hx,Sem.run_pure]
theorem ex_assign (e:Operand→Value) (o:Oper) (x:Operand) (v:Value) (ho:o.op = .assign x) (hx:e x=v) (w:World):(execOp e o).run Tryz.prog w = .ok (.value v) w:=by
 unfold execOp
 rw [ho]
 simp only [hx,Sem.run_pure]
theorem ex_strs1 (e:Operand→Value) (o:Oper) (x:Operand) (s:ByteArray) (ho:o.op = .buildSlice 24 1 #[(0,x)]) (hx:e x = .string s) (w:World):(execOp e o).run Tryz.prog w = .ok (.value (.slice (some ⟨w.heap.size,0,none⟩) 1 1)) (w.alloc (.cells #[.string s] 9)):=by
 obtain ⟨d,op,t,ps,af,g⟩:=o
 cases ho
 simp [execOp,hx,go_sem]
theorem ex_strs2 (e:Operand→Value) (o:Oper) (x y:Operand) (s t:ByteArray) (ho:o.op = .buildSlice 24 2 #[(0,x),(1,y)]) (hx:e x = .string s) (hy:e y = .string t) (w:World):(execOp e o).run Tryz.prog w = .ok (.value (.slice (some ⟨w.heap.size,0,none⟩) 2 2)) (w.alloc (.cells #[.string s,.string t] 9)):=by
 obtain ⟨d,op,t,ps,af,g⟩:=o
 cases ho
 simp [execOp,hx,hy,go_sem]
theorem strs1_at (w:World) (P:Nat) {s:ByteArray} (hs:s.size≤1048576) (hP:P<w.heap.size):PsAt (w.alloc (.cells #[.string s] 9)) P (.slice (some ⟨w.heap.size,0,none⟩) 1 1) [s]:=by
 refine ⟨w.heap.size,0,1,rfl,by omega,by simp,fun i t ht => ?_⟩
 cases i with
 | zero =>
  obtain rfl:s=t:=by simpa using ht
  exact ⟨by rw [cell_of_block (block_new w _)]; rfl,hs⟩
 | succ i=>simp at ht
theorem strs2_at (w:World) (P:Nat) {s u:ByteArray} (hs:s.size≤1048576) (hu:u.size≤1048576) (hP:P<w.heap.size):PsAt (w.alloc (.cells #[.string s,.string u] 9)) P (.slice (some ⟨w.heap.size,0,none⟩) 2 2) [s,u]:=by
 refine ⟨w.heap.size,0,2,rfl,by omega,by simp,fun i t ht => ?_⟩
 match i with
 | 0 =>
  obtain rfl:s=t:=by simpa using ht
  exact ⟨by rw [cell_of_block (block_new w _)]; rfl,hs⟩
 | 1 =>
  obtain rfl:u=t:=by simpa using ht
  exact ⟨by rw [cell_of_block (block_new w _)]; rfl,hu⟩
 | i+2=>simp at ht
theorem EV.aggR {S:Nat→Prop} {w:World} {v u:Value} (h:EV S w v) (hu:u = .agg (cellsV v)):u=v:=hu.trans h.agg.1.symm
theorem ex_rowE1 {S:Nat→Prop} {w0:World} {v:Value} (e:Operand→Value) (o:Oper) (x:Operand) (ho:o.op = .buildSlice 25 1 #[(0,x)]) (hv:EV S w0 v) (hx:e x=v) (w:World):(execOp e o).run Tryz.prog w = .ok (.value (.slice (some ⟨w.heap.size,0,none⟩) 1 1)) (w.alloc (.cells ⟨[v].flatMap cellsE⟩ 52)):=by
 obtain ⟨d,op,t,ps,af,g⟩:=o
 cases ho
 obtain ⟨k,n,t,a,m,rfl⟩:=hv.form
 simp [execOp,hx,go_sem,cellsE,cellsV]
theorem ex_rowE2 {S:Nat→Prop} {w0:World} {v u:Value} (e:Operand→Value) (o:Oper) (x y:Operand) (ho:o.op = .buildSlice 25 2 #[(0,x),(1,y)]) (hv:EV S w0 v) (hu:EV S w0 u) (hx:e x=v) (hy:e y=u) (w:World):(execOp e o).run Tryz.prog w = .ok (.value (.slice (some ⟨w.heap.size,0,none⟩) 2 2)) (w.alloc (.cells ⟨[v,u].flatMap cellsE⟩ 52)):=by
 obtain ⟨d,op,t,ps,af,g⟩:=o
 cases ho
 obtain ⟨k,n,t,a,m,rfl⟩:=hv.form
 obtain ⟨k,n,t,a,m,rfl⟩:=hu.form
 simp [execOp,hx,hy,go_sem,cellsE,cellsV]
theorem ex_rowE3 {S:Nat→Prop} {w0:World} {v u z:Value} (e:Operand→Value) (o:Oper) (x y p:Operand) (ho:o.op = .buildSlice 25 3 #[(0,x),(1,y),(2,p)]) (hv:EV S w0 v) (hu:EV S w0 u) (hz:EV S w0 z) (hx:e x=v) (hy:e y=u) (hp:e p=z) (w:World):(execOp e o).run Tryz.prog w = .ok (.value (.slice (some ⟨w.heap.size,0,none⟩) 3 3)) (w.alloc (.cells ⟨[v,u,z].flatMap cellsE⟩ 52)):=by
 obtain ⟨d,op,t,ps,af,g⟩:=o
 cases ho
 obtain ⟨k,n,t,a,m,rfl⟩:=hv.form
 obtain ⟨k,n,t,a,m,rfl⟩:=hu.form
 obtain ⟨k,n,t,a,m,rfl⟩:=hz.form
 simp [execOp,hx,hy,hp,go_sem,cellsE,cellsV]
theorem ex_build03 {a:Option Addr} {m c:Nat} {k:Int} (e:Operand→Value) (o:Oper) {x:Operand} (ho:o.op = .build 52 #[(0,.const (.int .i64 k)),(3,x)]) (hx:e x = .slice a m c) (w:World) (hc:e (.const (.int .i64 k)) = .int .i64 k:=by rfl):(execOp e o).run Tryz.prog w = .ok (.value (.agg #[.int .i64 k,.int .i64 0,.string ⟨#[]⟩,.slice a m c])) w:=by
 unfold execOp
 rw [ho]
 simp only [List.map_toArray,List.map_cons,List.map_nil,hx,hc,Sem.run_bind,show (Instr.build 52 #[(0,Value.int .i64 k),(3,.slice a m c)]).run Tryz.prog w = .ok (.agg #[.int .i64 k,.int .i64 0,.string ⟨#[]⟩,.slice a m c]) w from by kernel_rfl,Result.andThen_ok,Sem.run_pure]
theorem ex_build023 {a:Option Addr} {m c:Nat} {k:Int} {s:ByteArray} (e:Operand→Value) (o:Oper) {x y:Operand} (ho:o.op = .build 52 #[(0,.const (.int .i64 k)),(2,y),(3,x)]) (hx:e x = .slice a m c) (hy:e y = .string s) (w:World) (hc:e (.const (.int .i64 k)) = .int .i64 k:=by rfl):(execOp e o).run Tryz.prog w = .ok (.value (.agg #[.int .i64 k,.int .i64 0,.string s,.slice a m c])) w:=by
 unfold execOp
 rw [ho]
 simp only [List.map_toArray,List.map_cons,List.map_nil,hx,hy,hc,Sem.run_bind,show (Instr.build 52 #[(0,Value.int .i64 k),(2,.string s),(3,.slice a m c)]).run Tryz.prog w = .ok (.agg #[.int .i64 k,.int .i64 0,.string s,.slice a m c]) w from by kernel_rfl,Result.andThen_ok,Sem.run_pure]
theorem ex_build013 {a:Option Addr} {m c:Nat} {k n:Int} (e:Operand→Value) (o:Oper) {x y:Operand} (ho:o.op = .build 52 #[(0,.const (.int .i64 k)),(1,y),(3,x)]) (hx:e x = .slice a m c) (hy:e y = .int .i64 n) (w:World) (hc:e (.const (.int .i64 k)) = .int .i64 k:=by rfl):(execOp e o).run Tryz.prog w = .ok (.value (.agg #[.int .i64 k,.int .i64 n,.string ⟨#[]⟩,.slice a m c])) w:=by
 unfold execOp
 rw [ho]
 simp only [List.map_toArray,List.map_cons,List.map_nil,hx,hy,hc,Sem.run_bind,show (Instr.build 52 #[(0,Value.int .i64 k),(1,.int .i64 n),(3,.slice a m c)]).run Tryz.prog w = .ok (.agg #[.int .i64 k,.int .i64 n,.string ⟨#[]⟩,.slice a m c]) w from by kernel_rfl,Result.andThen_ok,Sem.run_pure]
end Go.Proofs.YtljdgmfcgkimoaaGreatDoor
