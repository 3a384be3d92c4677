/-
  Proofs.
-/
import Derived.Test.YtmmadoabejgffaaGreatDoorB
namespace Go.Proofs.YtmmadoabejgffaaGreatDoor
open Go.RowKit Go.Joins
set_option maxRecDepth 100000
set_option maxHeartbeats 51200000
theorem FsAt.get {w:World} {S:Nat→Prop}:∀ {us:List Value} {r:List Dt},FsAt w S us r→us.length=r.length∧∀ (j:Nat) (d:Dt),r[j]? = some d→∃ v,us[j]? = some v∧FAt w S v d
 | [],[],_=>⟨rfl,fun j d h=>by simp at h⟩
 | u :: us,d :: r,h=>by
  obtain ⟨h1,h2⟩:=FsAt.get h.2
  refine ⟨by simp [h1],fun j d' hd => ?_⟩
  cases j with
  | zero=>simp at hd; subst hd; exact ⟨u,rfl,h.1⟩
  | succ j=>simpa using h2 j d' (by simpa using hd)
 | [],_ :: _,h=>h.elim
 | _ :: _,[],h=>h.elim
def OpenC (t:TypeId) (P:List Dt→Prop):Prop:=∀ (H:Type) (enc:TypeId×Value→H) (w:World) (spare:Nat→Bool) (held:Bool) (fuel:Nat) (cs:List Value) (x:DataW H×List MemPlace),
 DataW.trod enc Tryz.prog w 0 spare held fuel t cs=some x→∃ r,P r∧FsAt w (fun _=>True) cs r
def OpenS (t:TypeId) (P:List Dt→Prop):Prop:=∀ (H:Type) (enc:TypeId×Value→H) (w:World) (spare:Nat→Bool) (held:Bool) (fuel:Nat) (cs:List Value) (x:DataW H×List MemPlace),
 DataW.trod enc Tryz.prog w 0 spare held fuel t cs=some x→∃ v xs,cs=[v]∧AllR P xs∧FAt w (fun _=>True) v (.row xs)
theorem openInt:OpenC 3 IntR:=by
 intro H enc w spare held fuel cs x h
 obtain ⟨k,rfl,_,wk⟩:=DataW.trod_int Tryz.underlying3 h
 exact ⟨_,⟨k,rfl⟩,.int k (bounds_i64 wk),trivial⟩
theorem openString:OpenC 9 StringR:=by
 intro H enc w spare held fuel cs x h
 obtain ⟨k,rfl,_,wk⟩:=DataW.trod_string Tryz.underlying9 h
 exact ⟨_,⟨k,rfl⟩,.str k wk,trivial⟩
theorem open_slice {P:List Dt→Prop} {n:Nat} {ts te:TypeId} (hu:Tryz.prog.underlying ts=some (.slice te)) (hcell:Tryz.prog.cellsOf te=n) (hn:∀ r,P r→r.length=n) (hpos:0<n) (he:OpenC te P):OpenS ts P:=by
 intro H enc w spare held fuel cs x h
 rcases DataW.trod_slice hu h with ⟨hcs,_⟩ | ⟨a,len,cap,elems,rest,m,hm,hcs,_,_,hlc,hcm,hel,hat,_,_⟩
 ·exact ⟨_,[],hcs,fun i r h=>by simp at h,.nil none 0⟩
 ·have key:∀ i,i<len→∃ f:List Dt×List Value,P f.1∧FsAt w (fun _=>True) f.2 f.1∧∀ j,j<n→w.cell? ((a.add (i * n)).add j)=f.2[j]? := by
   intro i hi
   have hb:=hat i hi
   rw [List.getElem?_eq_getElem (by omega),hcell] at hb
   obtain ⟨cs',hc',ht'⟩:=Option.bind_eq_some_iff.1 hb
   obtain ⟨_,hl,hg⟩:=World.cells?_some hc'
   obtain ⟨r,hP,hf⟩:=he H enc w spare held _ _ _ ht'
   exact ⟨(r,cs'),hP,hf,hg⟩
  by_cases h0:len=0
  ·subst h0
   exact ⟨_,[],hcs,fun i r h=>by simp at h,.nil _ _⟩
  haveI:Inhabited (List Dt×List Value):=⟨([],[])⟩
  obtain ⟨f,hf⟩:=Deep.choose_lt key
  have hlenP:∀ i,i<len→(f i).1.length=n:=fun i hi=>hn _ (hf i hi).1
  have cellAt:∀ i j d,i<len→(f i).1[j]? = some d→∃ v,(f i).2[j]? = some v∧FAt w (fun _=>True) v d∧w.cell? ((a.add (i * n)).add j)=some v:=by
   intro i j d hi hj
   obtain ⟨_,h2⟩:=(hf i hi).2.1.get
   obtain ⟨v,hv,hF⟩:=h2 j d hj
   have hjn:j<n:=by have h1:=(List.getElem?_eq_some_iff.1 hj).1; rw [hlenP i hi] at h1; exact h1
   exact ⟨v,hv,hF,((hf i hi).2.2 j hjn).trans hv⟩
  obtain ⟨b,off,spot⟩:=a
  have hspot:spot=none:=by
   have hl0:=hlenP 0 (by omega)
   have hg0:(f 0).1[0]? = some ((f 0).1[0]'(by omega)):=List.getElem?_eq_getElem _
   obtain ⟨v,_,_,hc0⟩:=cellAt 0 0 _ (by omega) hg0
   simpa [Addr.add] using World.cell?_spot hc0
  subst hspot
  have hbl:b<w.heap.size:=by
   have hl0:=hlenP 0 (by omega)
   have hg0:(f 0).1[0]? = some ((f 0).1[0]'(by omega)):=List.getElem?_eq_getElem _
   obtain ⟨v,_,_,hc0⟩:=cellAt 0 0 _ (by omega) hg0
   rw [addr_add,addr_add] at hc0
   exact World.block_lt_of_cell? _ _ hc0
  have hx:∀ (i:Nat) (r:List Dt),((List.range len).map (fun i=>(f i).1))[i]? = some r→i<len∧r=(f i).1:=by
   intro i r hr
   have hi:i<len:=by have:=(List.getElem?_eq_some_iff.1 hr).1; simpa using this
   refine ⟨hi,?_⟩
   simpa [hi] using hr.symm
  refine ⟨_,(List.range len).map (fun i=>(f i).1),hcs,fun i r hr => ?_,?_⟩
  ·obtain ⟨hi,rfl⟩:=hx i r hr
   exact (hf i hi).1
  ·have hll:len=((List.range len).map (fun i=>(f i).1)).length:=by simp
   have:=FAt.row (w:=w) (S:=fun _=>True) b off cap n ((List.range len).map (fun i=>(f i).1)) (fun i j=>((f i).2[j]?).getD .nilFunc) (by simp; omega) trivial hbl
    (fun i r hr=>by obtain ⟨hi,rfl⟩:=hx i r hr; exact hlenP i hi)
    (fun i j r d hr hj=>by
     obtain ⟨hi,rfl⟩:=hx i r hr
     obtain ⟨v,hv,_,hc⟩:=cellAt i j d hi hj
     rw [addr_add,addr_add] at hc
     rw [hv]
     exact hc)
    (fun i j r d hr hj=>by
     obtain ⟨hi,rfl⟩:=hx i r hr
     obtain ⟨v,hv,hF,_⟩:=cellAt i j d hi hj
     rw [hv]
     exact hF)
   rw [← hll] at this
   exact this
theorem openIntS:OpenS 23 IntR:=open_slice Tryz.underlying23 (by kernel_rfl) IntR.len (by omega) openInt
theorem open_top {t:TypeId} {P:List Dt→Prop} {H:Type} {enc:TypeId×Value→H} {w:World} {spare:Nat→Bool} {held:Bool} {v:Value} {dd:DataW H} {p:List MemPlace} (ho:OpenC t P) (hv:∃ cs,v = .agg cs∧cs.size=Tryz.prog.cellsOf t) (h:DataW.Trod enc Tryz.prog w 0 spare held t v dd p):∃ vs r,v = .agg vs.toArray∧P r∧FsAt w (fun _=>True) vs r:=by
 obtain ⟨fuel,hf⟩:=h
 obtain ⟨cs,rfl,_⟩:=hv
 obtain ⟨l⟩:=cs
 obtain ⟨r,hP,hr⟩:=ho H enc w spare held fuel l _ hf
 exact ⟨l,r,rfl,hP,hr⟩
theorem openCode:OpenC 180 CodeR:=by
 intro H enc w spare held fuel cs x h
 obtain ⟨ys,m,hm,_,hl,hlen,hg⟩:=DataW.trod_struct Tryz.underlying180 h
 have hl':cs.length=4:=hl.trans (by kernel_rfl)
 obtain ⟨c0,c1,c2,c3,rfl⟩:∃ c0 c1 c2 c3,cs=[c0,c1,c2,c3]:=by
  match cs,hl' with
  | [c0,c1,c2,c3],_=>exact ⟨c0,c1,c2,c3,rfl⟩
 have hy:ys.length=4:=hlen
 obtain ⟨y0,y1,y2,y3,rfl⟩:∃ y0 y1 y2 y3,ys=[y0,y1,y2,y3]:=by
  match ys,hy with
  | [y0,y1,y2,y3],_=>exact ⟨y0,y1,y2,y3,rfl⟩
 have g0:DataW.trod enc Tryz.prog w 0 spare held m 3 (([c0,c1,c2,c3].drop 0).take (Tryz.prog.cellsOf 3))=some y0:=hg 0 _ rfl
 rw [show Tryz.prog.cellsOf 3=1 from by kernel_rfl] at g0
 obtain ⟨_,⟨z0,rfl⟩,a0⟩:=openInt _ _ _ _ _ _ [c0] _ g0
 have g1:DataW.trod enc Tryz.prog w 0 spare held m 3 (([c0,c1,c2,c3].drop 1).take (Tryz.prog.cellsOf 3))=some y1:=hg 1 _ rfl
 rw [show Tryz.prog.cellsOf 3=1 from by kernel_rfl] at g1
 obtain ⟨_,⟨z1,rfl⟩,a1⟩:=openInt _ _ _ _ _ _ [c1] _ g1
 have g2:DataW.trod enc Tryz.prog w 0 spare held m 9 (([c0,c1,c2,c3].drop 2).take (Tryz.prog.cellsOf 9))=some y2:=hg 2 _ rfl
 rw [show Tryz.prog.cellsOf 9=1 from by kernel_rfl] at g2
 obtain ⟨_,⟨b2,rfl⟩,a2⟩:=openString _ _ _ _ _ _ [c2] _ g2
 have g3:DataW.trod enc Tryz.prog w 0 spare held m 23 (([c0,c1,c2,c3].drop 3).take (Tryz.prog.cellsOf 23))=some y3:=hg 3 _ rfl
 rw [show Tryz.prog.cellsOf 23=1 from by kernel_rfl] at g3
 obtain ⟨u3,x3,hu3,q3,a3⟩:=openIntS _ _ _ _ _ _ [c3] _ g3
 obtain rfl:c3=u3:=by simpa using hu3
 exact ⟨[.int z0,.int z1,.str b2,.row x3],⟨_,_,_,_,rfl,q3⟩,a0.1,a1.1,a2.1,a3,trivial⟩
theorem openCodeS:OpenS 22 CodeR:=open_slice Tryz.underlying22 (by kernel_rfl) CodeR.len (by omega) openCode
theorem openTable:OpenC 25 TableR:=by
 intro H enc w spare held fuel cs x h
 obtain ⟨ys,m,hm,_,hl,hlen,hg⟩:=DataW.trod_struct Tryz.underlying25 h
 have hl':cs.length=2:=hl.trans (by kernel_rfl)
 obtain ⟨c0,c1,rfl⟩:∃ c0 c1,cs=[c0,c1]:=by
  match cs,hl' with
  | [c0,c1],_=>exact ⟨c0,c1,rfl⟩
 have hy:ys.length=2:=hlen
 obtain ⟨y0,y1,rfl⟩:∃ y0 y1,ys=[y0,y1]:=by
  match ys,hy with
  | [y0,y1],_=>exact ⟨y0,y1,rfl⟩
 have g0:DataW.trod enc Tryz.prog w 0 spare held m 22 (([c0,c1].drop 0).take (Tryz.prog.cellsOf 22))=some y0:=hg 0 _ rfl
 rw [show Tryz.prog.cellsOf 22=1 from by kernel_rfl] at g0
 obtain ⟨u0,x0,hu0,q0,a0⟩:=openCodeS _ _ _ _ _ _ [c0] _ g0
 obtain rfl:c0=u0:=by simpa using hu0
 have g1:DataW.trod enc Tryz.prog w 0 spare held m 23 (([c0,c1].drop 1).take (Tryz.prog.cellsOf 23))=some y1:=hg 1 _ rfl
 rw [show Tryz.prog.cellsOf 23=1 from by kernel_rfl] at g1
 obtain ⟨u1,x1,hu1,q1,a1⟩:=openIntS _ _ _ _ _ _ [c1] _ g1
 obtain rfl:c1=u1:=by simpa using hu1
 exact ⟨[.row x0,.row x1],⟨_,_,rfl,q0,q1⟩,a0,a1,trivial⟩
theorem openCell:OpenC 127 CellR:=by
 intro H enc w spare held fuel cs x h
 obtain ⟨ys,m,hm,_,hl,hlen,hg⟩:=DataW.trod_struct Tryz.underlying127 h
 have hl':cs.length=4:=hl.trans (by kernel_rfl)
 obtain ⟨c0,c1,c2,c3,rfl⟩:∃ c0 c1 c2 c3,cs=[c0,c1,c2,c3]:=by
  match cs,hl' with
  | [c0,c1,c2,c3],_=>exact ⟨c0,c1,c2,c3,rfl⟩
 have hy:ys.length=4:=hlen
 obtain ⟨y0,y1,y2,y3,rfl⟩:∃ y0 y1 y2 y3,ys=[y0,y1,y2,y3]:=by
  match ys,hy with
  | [y0,y1,y2,y3],_=>exact ⟨y0,y1,y2,y3,rfl⟩
 have g0:DataW.trod enc Tryz.prog w 0 spare held m 3 (([c0,c1,c2,c3].drop 0).take (Tryz.prog.cellsOf 3))=some y0:=hg 0 _ rfl
 rw [show Tryz.prog.cellsOf 3=1 from by kernel_rfl] at g0
 obtain ⟨_,⟨z0,rfl⟩,a0⟩:=openInt _ _ _ _ _ _ [c0] _ g0
 have g1:DataW.trod enc Tryz.prog w 0 spare held m 3 (([c0,c1,c2,c3].drop 1).take (Tryz.prog.cellsOf 3))=some y1:=hg 1 _ rfl
 rw [show Tryz.prog.cellsOf 3=1 from by kernel_rfl] at g1
 obtain ⟨_,⟨z1,rfl⟩,a1⟩:=openInt _ _ _ _ _ _ [c1] _ g1
 have g2:DataW.trod enc Tryz.prog w 0 spare held m 3 (([c0,c1,c2,c3].drop 2).take (Tryz.prog.cellsOf 3))=some y2:=hg 2 _ rfl
 rw [show Tryz.prog.cellsOf 3=1 from by kernel_rfl] at g2
 obtain ⟨_,⟨z2,rfl⟩,a2⟩:=openInt _ _ _ _ _ _ [c2] _ g2
 have g3:DataW.trod enc Tryz.prog w 0 spare held m 23 (([c0,c1,c2,c3].drop 3).take (Tryz.prog.cellsOf 23))=some y3:=hg 3 _ rfl
 rw [show Tryz.prog.cellsOf 23=1 from by kernel_rfl] at g3
 obtain ⟨u3,x3,hu3,q3,a3⟩:=openIntS _ _ _ _ _ _ [c3] _ g3
 obtain rfl:c3=u3:=by simpa using hu3
 exact ⟨[.int z0,.int z1,.int z2,.row x3],⟨_,_,_,_,rfl,q3⟩,a0.1,a1.1,a2.1,a3,trivial⟩
theorem openCellS:OpenS 26 CellR:=open_slice Tryz.underlying26 (by kernel_rfl) CellR.len (by omega) openCell
theorem openFrame:OpenC 216 FrameR:=by
 intro H enc w spare held fuel cs x h
 obtain ⟨ys,m,hm,_,hl,hlen,hg⟩:=DataW.trod_struct Tryz.underlying216 h
 have hl':cs.length=4:=hl.trans (by kernel_rfl)
 obtain ⟨c0,c1,c2,c3,rfl⟩:∃ c0 c1 c2 c3,cs=[c0,c1,c2,c3]:=by
  match cs,hl' with
  | [c0,c1,c2,c3],_=>exact ⟨c0,c1,c2,c3,rfl⟩
 have hy:ys.length=4:=hlen
 obtain ⟨y0,y1,y2,y3,rfl⟩:∃ y0 y1 y2 y3,ys=[y0,y1,y2,y3]:=by
  match ys,hy with
  | [y0,y1,y2,y3],_=>exact ⟨y0,y1,y2,y3,rfl⟩
 have g0:DataW.trod enc Tryz.prog w 0 spare held m 3 (([c0,c1,c2,c3].drop 0).take (Tryz.prog.cellsOf 3))=some y0:=hg 0 _ rfl
 rw [show Tryz.prog.cellsOf 3=1 from by kernel_rfl] at g0
 obtain ⟨_,⟨z0,rfl⟩,a0⟩:=openInt _ _ _ _ _ _ [c0] _ g0
 have g1:DataW.trod enc Tryz.prog w 0 spare held m 3 (([c0,c1,c2,c3].drop 1).take (Tryz.prog.cellsOf 3))=some y1:=hg 1 _ rfl
 rw [show Tryz.prog.cellsOf 3=1 from by kernel_rfl] at g1
 obtain ⟨_,⟨z1,rfl⟩,a1⟩:=openInt _ _ _ _ _ _ [c1] _ g1
 have g2:DataW.trod enc Tryz.prog w 0 spare held m 3 (([c0,c1,c2,c3].drop 2).take (Tryz.prog.cellsOf 3))=some y2:=hg 2 _ rfl
 rw [show Tryz.prog.cellsOf 3=1 from by kernel_rfl] at g2
 obtain ⟨_,⟨z2,rfl⟩,a2⟩:=openInt _ _ _ _ _ _ [c2] _ g2
 have g3:DataW.trod enc Tryz.prog w 0 spare held m 23 (([c0,c1,c2,c3].drop 3).take (Tryz.prog.cellsOf 23))=some y3:=hg 3 _ rfl
 rw [show Tryz.prog.cellsOf 23=1 from by kernel_rfl] at g3
 obtain ⟨u3,x3,hu3,q3,a3⟩:=openIntS _ _ _ _ _ _ [c3] _ g3
 obtain rfl:c3=u3:=by simpa using hu3
 exact ⟨[.int z0,.int z1,.int z2,.row x3],⟨_,_,_,_,rfl,q3⟩,a0.1,a1.1,a2.1,a3,trivial⟩
theorem openFrameS:OpenS 129 FrameR:=open_slice Tryz.underlying129 (by kernel_rfl) FrameR.len (by omega) openFrame
theorem openThread:OpenC 131 ThreadR:=by
 intro H enc w spare held fuel cs x h
 obtain ⟨ys,m,hm,_,hl,hlen,hg⟩:=DataW.trod_struct Tryz.underlying131 h
 have hl':cs.length=5:=hl.trans (by kernel_rfl)
 obtain ⟨c0,c1,c2,c3,c4,rfl⟩:∃ c0 c1 c2 c3 c4,cs=[c0,c1,c2,c3,c4]:=by
  match cs,hl' with
  | [c0,c1,c2,c3,c4],_=>exact ⟨c0,c1,c2,c3,c4,rfl⟩
 have hy:ys.length=5:=hlen
 obtain ⟨y0,y1,y2,y3,y4,rfl⟩:∃ y0 y1 y2 y3 y4,ys=[y0,y1,y2,y3,y4]:=by
  match ys,hy with
  | [y0,y1,y2,y3,y4],_=>exact ⟨y0,y1,y2,y3,y4,rfl⟩
 have g0:DataW.trod enc Tryz.prog w 0 spare held m 3 (([c0,c1,c2,c3,c4].drop 0).take (Tryz.prog.cellsOf 3))=some y0:=hg 0 _ rfl
 rw [show Tryz.prog.cellsOf 3=1 from by kernel_rfl] at g0
 obtain ⟨_,⟨z0,rfl⟩,a0⟩:=openInt _ _ _ _ _ _ [c0] _ g0
 have g1:DataW.trod enc Tryz.prog w 0 spare held m 3 (([c0,c1,c2,c3,c4].drop 1).take (Tryz.prog.cellsOf 3))=some y1:=hg 1 _ rfl
 rw [show Tryz.prog.cellsOf 3=1 from by kernel_rfl] at g1
 obtain ⟨_,⟨z1,rfl⟩,a1⟩:=openInt _ _ _ _ _ _ [c1] _ g1
 have g2:DataW.trod enc Tryz.prog w 0 spare held m 23 (([c0,c1,c2,c3,c4].drop 2).take (Tryz.prog.cellsOf 23))=some y2:=hg 2 _ rfl
 rw [show Tryz.prog.cellsOf 23=1 from by kernel_rfl] at g2
 obtain ⟨u2,x2,hu2,q2,a2⟩:=openIntS _ _ _ _ _ _ [c2] _ g2
 obtain rfl:c2=u2:=by simpa using hu2
 have g3:DataW.trod enc Tryz.prog w 0 spare held m 129 (([c0,c1,c2,c3,c4].drop 3).take (Tryz.prog.cellsOf 129))=some y3:=hg 3 _ rfl
 rw [show Tryz.prog.cellsOf 129=1 from by kernel_rfl] at g3
 obtain ⟨u3,x3,hu3,q3,a3⟩:=openFrameS _ _ _ _ _ _ [c3] _ g3
 obtain rfl:c3=u3:=by simpa using hu3
 have g4:DataW.trod enc Tryz.prog w 0 spare held m 9 (([c0,c1,c2,c3,c4].drop 4).take (Tryz.prog.cellsOf 9))=some y4:=hg 4 _ rfl
 rw [show Tryz.prog.cellsOf 9=1 from by kernel_rfl] at g4
 obtain ⟨_,⟨b4,rfl⟩,a4⟩:=openString _ _ _ _ _ _ [c4] _ g4
 exact ⟨[.int z0,.int z1,.row x2,.row x3,.str b4],⟨_,_,_,_,_,rfl,q2,q3⟩,a0.1,a1.1,a2,a3,a4.1,trivial⟩
theorem openThreadS:OpenS 27 ThreadR:=open_slice Tryz.underlying27 (by kernel_rfl) ThreadR.len (by omega) openThread
theorem openMsg:OpenC 134 MsgR:=by
 intro H enc w spare held fuel cs x h
 obtain ⟨ys,m,hm,_,hl,hlen,hg⟩:=DataW.trod_struct Tryz.underlying134 h
 have hl':cs.length=9:=hl.trans (by kernel_rfl)
 obtain ⟨c0,c1,c2,c3,c4,c5,c6,c7,c8,rfl⟩:∃ c0 c1 c2 c3 c4 c5 c6 c7 c8,cs=[c0,c1,c2,c3,c4,c5,c6,c7,c8]:=by
  match cs,hl' with
  | [c0,c1,c2,c3,c4,c5,c6,c7,c8],_=>exact ⟨c0,c1,c2,c3,c4,c5,c6,c7,c8,rfl⟩
 have hy:ys.length=6:=hlen
 obtain ⟨y0,y1,y2,y3,y4,y5,rfl⟩:∃ y0 y1 y2 y3 y4 y5,ys=[y0,y1,y2,y3,y4,y5]:=by
  match ys,hy with
  | [y0,y1,y2,y3,y4,y5],_=>exact ⟨y0,y1,y2,y3,y4,y5,rfl⟩
 have g0:DataW.trod enc Tryz.prog w 0 spare held m 3 (([c0,c1,c2,c3,c4,c5,c6,c7,c8].drop 0).take (Tryz.prog.cellsOf 3))=some y0:=hg 0 _ rfl
 rw [show Tryz.prog.cellsOf 3=1 from by kernel_rfl] at g0
 obtain ⟨_,⟨z0,rfl⟩,a0⟩:=openInt _ _ _ _ _ _ [c0] _ g0
 have g1:DataW.trod enc Tryz.prog w 0 spare held m 3 (([c0,c1,c2,c3,c4,c5,c6,c7,c8].drop 1).take (Tryz.prog.cellsOf 3))=some y1:=hg 1 _ rfl
 rw [show Tryz.prog.cellsOf 3=1 from by kernel_rfl] at g1
 obtain ⟨_,⟨z1,rfl⟩,a1⟩:=openInt _ _ _ _ _ _ [c1] _ g1
 have g2:DataW.trod enc Tryz.prog w 0 spare held m 3 (([c0,c1,c2,c3,c4,c5,c6,c7,c8].drop 2).take (Tryz.prog.cellsOf 3))=some y2:=hg 2 _ rfl
 rw [show Tryz.prog.cellsOf 3=1 from by kernel_rfl] at g2
 obtain ⟨_,⟨z2,rfl⟩,a2⟩:=openInt _ _ _ _ _ _ [c2] _ g2
 have g3:DataW.trod enc Tryz.prog w 0 spare held m 3 (([c0,c1,c2,c3,c4,c5,c6,c7,c8].drop 3).take (Tryz.prog.cellsOf 3))=some y3:=hg 3 _ rfl
 rw [show Tryz.prog.cellsOf 3=1 from by kernel_rfl] at g3
 obtain ⟨_,⟨z3,rfl⟩,a3⟩:=openInt _ _ _ _ _ _ [c3] _ g3
 have g4:DataW.trod enc Tryz.prog w 0 spare held m 3 (([c0,c1,c2,c3,c4,c5,c6,c7,c8].drop 4).take (Tryz.prog.cellsOf 3))=some y4:=hg 4 _ rfl
 rw [show Tryz.prog.cellsOf 3=1 from by kernel_rfl] at g4
 obtain ⟨_,⟨z4,rfl⟩,a4⟩:=openInt _ _ _ _ _ _ [c4] _ g4
 have g5:DataW.trod enc Tryz.prog w 0 spare held m 127 (([c0,c1,c2,c3,c4,c5,c6,c7,c8].drop 5).take (Tryz.prog.cellsOf 127))=some y5:=hg 5 _ rfl
 rw [show Tryz.prog.cellsOf 127=4 from by kernel_rfl] at g5
 obtain ⟨_,⟨z5,z6,z7,x8,rfl,q8⟩,a5⟩:=openCell _ _ _ _ _ _ [c5,c6,c7,c8] _ g5
 exact ⟨[.int z0,.int z1,.int z2,.int z3,.int z4,.int z5,.int z6,.int z7,.row x8],⟨_,_,_,_,_,_,_,_,_,rfl,q8⟩,a0.1,a1.1,a2.1,a3.1,a4.1,a5.1,a5.2.1,a5.2.2.1,a5.2.2.2.1,trivial⟩
theorem openMsgS:OpenS 28 MsgR:=open_slice Tryz.underlying28 (by kernel_rfl) MsgR.len (by omega) openMsg
theorem openMachine:OpenC 30 MachineR:=by
 intro H enc w spare held fuel cs x h
 obtain ⟨ys,m,hm,_,hl,hlen,hg⟩:=DataW.trod_struct Tryz.underlying30 h
 have hl':cs.length=7:=hl.trans (by kernel_rfl)
 obtain ⟨c0,c1,c2,c3,c4,c5,c6,rfl⟩:∃ c0 c1 c2 c3 c4 c5 c6,cs=[c0,c1,c2,c3,c4,c5,c6]:=by
  match cs,hl' with
  | [c0,c1,c2,c3,c4,c5,c6],_=>exact ⟨c0,c1,c2,c3,c4,c5,c6,rfl⟩
 have hy:ys.length=6:=hlen
 obtain ⟨y0,y1,y2,y3,y4,y5,rfl⟩:∃ y0 y1 y2 y3 y4 y5,ys=[y0,y1,y2,y3,y4,y5]:=by
  match ys,hy with
  | [y0,y1,y2,y3,y4,y5],_=>exact ⟨y0,y1,y2,y3,y4,y5,rfl⟩
 have g0:DataW.trod enc Tryz.prog w 0 spare held m 25 (([c0,c1,c2,c3,c4,c5,c6].drop 0).take (Tryz.prog.cellsOf 25))=some y0:=hg 0 _ rfl
 rw [show Tryz.prog.cellsOf 25=2 from by kernel_rfl] at g0
 obtain ⟨_,⟨x0,x1,rfl,q0,q1⟩,a0⟩:=openTable _ _ _ _ _ _ [c0,c1] _ g0
 have g1:DataW.trod enc Tryz.prog w 0 spare held m 26 (([c0,c1,c2,c3,c4,c5,c6].drop 2).take (Tryz.prog.cellsOf 26))=some y1:=hg 1 _ rfl
 rw [show Tryz.prog.cellsOf 26=1 from by kernel_rfl] at g1
 obtain ⟨u2,x2,hu2,q2,a2⟩:=openCellS _ _ _ _ _ _ [c2] _ g1
 obtain rfl:c2=u2:=by simpa using hu2
 have g2:DataW.trod enc Tryz.prog w 0 spare held m 27 (([c0,c1,c2,c3,c4,c5,c6].drop 3).take (Tryz.prog.cellsOf 27))=some y2:=hg 2 _ rfl
 rw [show Tryz.prog.cellsOf 27=1 from by kernel_rfl] at g2
 obtain ⟨u3,x3,hu3,q3,a3⟩:=openThreadS _ _ _ _ _ _ [c3] _ g2
 obtain rfl:c3=u3:=by simpa using hu3
 have g3:DataW.trod enc Tryz.prog w 0 spare held m 23 (([c0,c1,c2,c3,c4,c5,c6].drop 4).take (Tryz.prog.cellsOf 23))=some y3:=hg 3 _ rfl
 rw [show Tryz.prog.cellsOf 23=1 from by kernel_rfl] at g3
 obtain ⟨u4,x4,hu4,q4,a4⟩:=openIntS _ _ _ _ _ _ [c4] _ g3
 obtain rfl:c4=u4:=by simpa using hu4
 have g4:DataW.trod enc Tryz.prog w 0 spare held m 23 (([c0,c1,c2,c3,c4,c5,c6].drop 5).take (Tryz.prog.cellsOf 23))=some y4:=hg 4 _ rfl
 rw [show Tryz.prog.cellsOf 23=1 from by kernel_rfl] at g4
 obtain ⟨u5,x5,hu5,q5,a5⟩:=openIntS _ _ _ _ _ _ [c5] _ g4
 obtain rfl:c5=u5:=by simpa using hu5
 have g5:DataW.trod enc Tryz.prog w 0 spare held m 28 (([c0,c1,c2,c3,c4,c5,c6].drop 6).take (Tryz.prog.cellsOf 28))=some y5:=hg 5 _ rfl
 rw [show Tryz.prog.cellsOf 28=1 from by kernel_rfl] at g5
 obtain ⟨u6,x6,hu6,q6,a6⟩:=openMsgS _ _ _ _ _ _ [c6] _ g5
 obtain rfl:c6=u6:=by simpa using hu6
 exact ⟨[.row x0,.row x1,.row x2,.row x3,.row x4,.row x5,.row x6],⟨_,_,_,_,_,_,_,rfl,q0,q1,q2,q3,q4,q5,q6⟩,a0.1,a0.2.1,a2,a3,a4,a5,a6,trivial⟩
theorem openSent:OpenC 136 SentR:=by
 intro H enc w spare held fuel cs x h
 obtain ⟨ys,m,hm,_,hl,hlen,hg⟩:=DataW.trod_struct Tryz.underlying136 h
 have hl':cs.length=3:=hl.trans (by kernel_rfl)
 obtain ⟨c0,c1,c2,rfl⟩:∃ c0 c1 c2,cs=[c0,c1,c2]:=by
  match cs,hl' with
  | [c0,c1,c2],_=>exact ⟨c0,c1,c2,rfl⟩
 have hy:ys.length=3:=hlen
 obtain ⟨y0,y1,y2,rfl⟩:∃ y0 y1 y2,ys=[y0,y1,y2]:=by
  match ys,hy with
  | [y0,y1,y2],_=>exact ⟨y0,y1,y2,rfl⟩
 have g0:DataW.trod enc Tryz.prog w 0 spare held m 3 (([c0,c1,c2].drop 0).take (Tryz.prog.cellsOf 3))=some y0:=hg 0 _ rfl
 rw [show Tryz.prog.cellsOf 3=1 from by kernel_rfl] at g0
 obtain ⟨_,⟨z0,rfl⟩,a0⟩:=openInt _ _ _ _ _ _ [c0] _ g0
 have g1:DataW.trod enc Tryz.prog w 0 spare held m 3 (([c0,c1,c2].drop 1).take (Tryz.prog.cellsOf 3))=some y1:=hg 1 _ rfl
 rw [show Tryz.prog.cellsOf 3=1 from by kernel_rfl] at g1
 obtain ⟨_,⟨z1,rfl⟩,a1⟩:=openInt _ _ _ _ _ _ [c1] _ g1
 have g2:DataW.trod enc Tryz.prog w 0 spare held m 9 (([c0,c1,c2].drop 2).take (Tryz.prog.cellsOf 9))=some y2:=hg 2 _ rfl
 rw [show Tryz.prog.cellsOf 9=1 from by kernel_rfl] at g2
 obtain ⟨_,⟨b2,rfl⟩,a2⟩:=openString _ _ _ _ _ _ [c2] _ g2
 exact ⟨[.int z0,.int z1,.str b2],⟨_,_,_,rfl⟩,a0.1,a1.1,a2.1,trivial⟩
theorem openSentS:OpenS 31 SentR:=open_slice Tryz.underlying31 (by kernel_rfl) SentR.len (by omega) openSent
theorem openSeen:OpenC 139 SeenR:=by
 intro H enc w spare held fuel cs x h
 obtain ⟨ys,m,hm,_,hl,hlen,hg⟩:=DataW.trod_struct Tryz.underlying139 h
 have hl':cs.length=2:=hl.trans (by kernel_rfl)
 obtain ⟨c0,c1,rfl⟩:∃ c0 c1,cs=[c0,c1]:=by
  match cs,hl' with
  | [c0,c1],_=>exact ⟨c0,c1,rfl⟩
 have hy:ys.length=2:=hlen
 obtain ⟨y0,y1,rfl⟩:∃ y0 y1,ys=[y0,y1]:=by
  match ys,hy with
  | [y0,y1],_=>exact ⟨y0,y1,rfl⟩
 have g0:DataW.trod enc Tryz.prog w 0 spare held m 3 (([c0,c1].drop 0).take (Tryz.prog.cellsOf 3))=some y0:=hg 0 _ rfl
 rw [show Tryz.prog.cellsOf 3=1 from by kernel_rfl] at g0
 obtain ⟨_,⟨z0,rfl⟩,a0⟩:=openInt _ _ _ _ _ _ [c0] _ g0
 have g1:DataW.trod enc Tryz.prog w 0 spare held m 23 (([c0,c1].drop 1).take (Tryz.prog.cellsOf 23))=some y1:=hg 1 _ rfl
 rw [show Tryz.prog.cellsOf 23=1 from by kernel_rfl] at g1
 obtain ⟨u1,x1,hu1,q1,a1⟩:=openIntS _ _ _ _ _ _ [c1] _ g1
 obtain rfl:c1=u1:=by simpa using hu1
 exact ⟨[.int z0,.row x1],⟨_,_,rfl,q1⟩,a0.1,a1,trivial⟩
theorem openSeenS:OpenS 32 SeenR:=open_slice Tryz.underlying32 (by kernel_rfl) SeenR.len (by omega) openSeen
theorem openLink:OpenC 34 LinkR:=by
 intro H enc w spare held fuel cs x h
 obtain ⟨ys,m,hm,_,hl,hlen,hg⟩:=DataW.trod_struct Tryz.underlying34 h
 have hl':cs.length=4:=hl.trans (by kernel_rfl)
 obtain ⟨c0,c1,c2,c3,rfl⟩:∃ c0 c1 c2 c3,cs=[c0,c1,c2,c3]:=by
  match cs,hl' with
  | [c0,c1,c2,c3],_=>exact ⟨c0,c1,c2,c3,rfl⟩
 have hy:ys.length=4:=hlen
 obtain ⟨y0,y1,y2,y3,rfl⟩:∃ y0 y1 y2 y3,ys=[y0,y1,y2,y3]:=by
  match ys,hy with
  | [y0,y1,y2,y3],_=>exact ⟨y0,y1,y2,y3,rfl⟩
 have g0:DataW.trod enc Tryz.prog w 0 spare held m 3 (([c0,c1,c2,c3].drop 0).take (Tryz.prog.cellsOf 3))=some y0:=hg 0 _ rfl
 rw [show Tryz.prog.cellsOf 3=1 from by kernel_rfl] at g0
 obtain ⟨_,⟨z0,rfl⟩,a0⟩:=openInt _ _ _ _ _ _ [c0] _ g0
 have g1:DataW.trod enc Tryz.prog w 0 spare held m 3 (([c0,c1,c2,c3].drop 1).take (Tryz.prog.cellsOf 3))=some y1:=hg 1 _ rfl
 rw [show Tryz.prog.cellsOf 3=1 from by kernel_rfl] at g1
 obtain ⟨_,⟨z1,rfl⟩,a1⟩:=openInt _ _ _ _ _ _ [c1] _ g1
 have g2:DataW.trod enc Tryz.prog w 0 spare held m 31 (([c0,c1,c2,c3].drop 2).take (Tryz.prog.cellsOf 31))=some y2:=hg 2 _ rfl
 rw [show Tryz.prog.cellsOf 31=1 from by kernel_rfl] at g2
 obtain ⟨u2,x2,hu2,q2,a2⟩:=openSentS _ _ _ _ _ _ [c2] _ g2
 obtain rfl:c2=u2:=by simpa using hu2
 have g3:DataW.trod enc Tryz.prog w 0 spare held m 32 (([c0,c1,c2,c3].drop 3).take (Tryz.prog.cellsOf 32))=some y3:=hg 3 _ rfl
 rw [show Tryz.prog.cellsOf 32=1 from by kernel_rfl] at g3
 obtain ⟨u3,x3,hu3,q3,a3⟩:=openSeenS _ _ _ _ _ _ [c3] _ g3
 obtain rfl:c3=u3:=by simpa using hu3
 exact ⟨[.int z0,.int z1,.row x2,.row x3],⟨_,_,_,_,rfl,q2,q3⟩,a0.1,a1.1,a2,a3,trivial⟩
theorem openPeer:OpenC 36 PeerR:=by
 intro H enc w spare held fuel cs x h
 obtain ⟨ys,m,hm,_,hl,hlen,hg⟩:=DataW.trod_struct Tryz.underlying36 h
 have hl':cs.length=11:=hl.trans (by kernel_rfl)
 obtain ⟨c0,c1,c2,c3,c4,c5,c6,c7,c8,c9,c10,rfl⟩:∃ c0 c1 c2 c3 c4 c5 c6 c7 c8 c9 c10,cs=[c0,c1,c2,c3,c4,c5,c6,c7,c8,c9,c10]:=by
  match cs,hl' with
  | [c0,c1,c2,c3,c4,c5,c6,c7,c8,c9,c10],_=>exact ⟨c0,c1,c2,c3,c4,c5,c6,c7,c8,c9,c10,rfl⟩
 have hy:ys.length=2:=hlen
 obtain ⟨y0,y1,rfl⟩:∃ y0 y1,ys=[y0,y1]:=by
  match ys,hy with
  | [y0,y1],_=>exact ⟨y0,y1,rfl⟩
 have g0:DataW.trod enc Tryz.prog w 0 spare held m 30 (([c0,c1,c2,c3,c4,c5,c6,c7,c8,c9,c10].drop 0).take (Tryz.prog.cellsOf 30))=some y0:=hg 0 _ rfl
 rw [show Tryz.prog.cellsOf 30=7 from by kernel_rfl] at g0
 obtain ⟨_,⟨x0,x1,x2,x3,x4,x5,x6,rfl,q0,q1,q2,q3,q4,q5,q6⟩,a0⟩:=openMachine _ _ _ _ _ _ [c0,c1,c2,c3,c4,c5,c6] _ g0
 have g1:DataW.trod enc Tryz.prog w 0 spare held m 34 (([c0,c1,c2,c3,c4,c5,c6,c7,c8,c9,c10].drop 7).take (Tryz.prog.cellsOf 34))=some y1:=hg 1 _ rfl
 rw [show Tryz.prog.cellsOf 34=4 from by kernel_rfl] at g1
 obtain ⟨_,⟨z7,z8,x9,x10,rfl,q9,q10⟩,a7⟩:=openLink _ _ _ _ _ _ [c7,c8,c9,c10] _ g1
 exact ⟨[.row x0,.row x1,.row x2,.row x3,.row x4,.row x5,.row x6,.int z7,.int z8,.row x9,.row x10],⟨_,_,_,_,_,_,_,_,_,_,_,rfl,q0,q1,q2,q3,q4,q5,q6,q9,q10⟩,a0.1,a0.2.1,a0.2.2.1,a0.2.2.2.1,a0.2.2.2.2.1,a0.2.2.2.2.2.1,a0.2.2.2.2.2.2.1,a7.1,a7.2.1,a7.2.2.1,a7.2.2.2.1,trivial⟩
end Go.Proofs.YtmmadoabejgffaaGreatDoor
