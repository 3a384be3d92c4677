/-
  Proofs.
-/
import Derived.Test.YtmmadoabejgffaaGreatDoorCB
import Derived.Test.YtmmadoabejgffaaGreatDoorF
import Derived.BigQuiet
import Derived.Deep.QuietTactic
import Derived.Deep.RegionHeld3
namespace Go.Proofs.YtmmadoabejgffaaGreatDoor
open Go.RowKit Go.Joins
set_option maxRecDepth 100000
set_option maxHeartbeats 51200000
theorem ret_b {a b:Bool} (h:a=b):Ending.returned (.bool a) = .returned (.bool b):=by rw [h]
def numOk (n:Int):Bool:=inB n 0 999999
def nodeOk (n:Int):Bool:=inB n 0 30
def Ce.may (c:Ce) (work:Bool):Bool:=c.kids.all numOk &&
  (if work then (c.kind == 4 && c.n == 0 && numOk c.pos && decide ((c.kids.length:Int)≤100))
   else if c.kind=0 then (c.pos == 0 && (c.kids.length:Int) == 0)
   else if c.kind=1 then (c.n == 0 && c.pos == 0 && (c.kids.length:Int) == 0)
   else if c.kind=2 then (c.n == 0 && c.pos == 0 && (c.kids.length:Int) == 2)
   else (c.kind == 3 && inB c.n 1 6 && numOk c.pos && decide ((c.kids.length:Int)≤100)))
def Ce.isNone (c:Ce):Bool:=c.kind == 0 && c.n == 0 && c.pos == 0 && (c.kids.length:Int) == 0
def Ms.ok (m:Ms):Bool:=nodeOk m.frm && nodeOk m.dst && !(m.frm == m.dst) && numOk m.id && numOk m.want &&
  (if m.kind=0 then m.cell.isNone
   else if m.kind=1 then (m.want == 0 && m.cell.may false)
   else if m.kind=2 then (m.id == 0 && m.want == 0 && m.cell.isNone)
   else if m.kind=3 then (m.want == 0 && m.cell.may true)
   else false)
theorem l07Num_any (n:Int) (b:Bool) (hb:numOk n=b) (w:World):Calls Tryz.prog 87 #[.int .i64 n] w fun e w'=>e = .returned (.bool b)∧w'=w:=by
  subst hb
  go_enter Tryz.func87,Tryz.ntmps87
  go_wp2_with (go_at_call 84; refine (specIn_any _ _ _ _).mono ?_; rintro e w1 ⟨rfl,rfl⟩)
  go_ret
  exact ⟨rfl,rfl⟩
theorem l07Node_any (n:Int) (b:Bool) (hb:nodeOk n=b) (w:World):Calls Tryz.prog 86 #[.int .i64 n] w fun e w'=>e = .returned (.bool b)∧w'=w:=by
  subst hb
  go_enter Tryz.func86,Tryz.ntmps86
  go_wp2_with (go_at_call 84; refine (specIn_any _ _ _ _).mono ?_; rintro e w1 ⟨rfl,rfl⟩)
  go_ret
  exact ⟨rfl,rfl⟩
theorem l07None_any (v:Value) (c:Ce) (S:Nat→Prop) (w:World) (h:CeAt w S v c) :
    Calls Tryz.prog 88 #[v] w fun e w'=>e = .returned (.bool c.isNone)∧Below w.heap.size w w':=by
  obtain ⟨kv,rfl,-,-,-,hk⟩:=h
  obtain ⟨a,cap,rfl⟩:=hk.form
  have hkl:=hk.len
  clear hk
  have B0:Hid (∀ o:Obj,Below w.heap.size w (w.alloc o)):=fun o=>(Below.refl _ w).alloc (Nat.le_refl _) o
  by_cases h1:c.kind=0
  · by_cases h2:c.n=0
    · by_cases h3:c.pos=0
      · by_cases h4:c.kids.length=0
        · have hr:c.isNone=true:=by unfold Ce.isNone; rw [h1,h2,h3,h4]; rfl
          rw [hr]
          have h4':((c.kids.length:Nat):Int)=0:=by omega
          go_enter Tryz.func88,Tryz.ntmps88
          go_wp2
          go_ret
          exact ⟨rfl,B0.out _⟩
        · have h4':¬ ((c.kids.length:Nat):Int)=0:=by omega
          have h4b:(((c.kids.length:Nat):Int) == 0)=false:=by simpa using h4'
          have hr:c.isNone=false:=by unfold Ce.isNone; rw [h4b]; simp
          rw [hr]
          go_enter Tryz.func88,Tryz.ntmps88
          go_wp2
          go_ret
          exact ⟨rfl,B0.out _⟩
      · have hr:c.isNone=false:=by unfold Ce.isNone; simp [h3]
        rw [hr]
        go_enter Tryz.func88,Tryz.ntmps88
        go_wp2
        go_ret
        exact ⟨rfl,B0.out _⟩
    · have hr:c.isNone=false:=by unfold Ce.isNone; simp [h2]
      rw [hr]
      go_enter Tryz.func88,Tryz.ntmps88
      go_wp2
      go_ret
      exact ⟨rfl,B0.out _⟩
  · have hr:c.isNone=false:=by unfold Ce.isNone; simp [h1]
    rw [hr]
    go_enter Tryz.func88,Tryz.ntmps88
    go_wp2
    go_ret
    exact ⟨rfl,B0.out _⟩
theorem all_take_succ {P:Int→Bool} {l:List Int} {k:Nat} {x:Int} (hx:l[k]? = some x) (h:(l.take k).all P=true) (hp:P x=true):(l.take (k+1)).all P=true:=by
  have hk:=(List.getElem?_eq_some_iff.1 hx).1
  rw [List.take_succ_eq_append_getElem hk,List.all_append,h,(List.getElem?_eq_some_iff.1 hx).2]
  simp [hp]
theorem all_at {P:Int→Bool} {l:List Int} {k:Nat} {x:Int} (hx:l[k]? = some x) (hp:P x=false):l.all P=false:=List.all_eq_false.2 ⟨x,List.mem_of_getElem? hx,by rw [hp]; simp⟩
theorem l07Cell_any (v:Value) (c:Ce) (work:Bool) (S:Nat→Prop) (w:World) (h:CeAt w S v c) (hl:c.kids.length≤4194304) :
    Calls Tryz.prog 89 #[v,.bool work] w fun e w'=>e = .returned (.bool (c.may work))∧Below w.heap.size w w':=by
  obtain ⟨kv,rfl,-,-,-,hk⟩:=h
  obtain ⟨a,cap,rfl⟩:=hk.form
  have B0:Below w.heap.size w (w.alloc (.cells #[.int .i64 c.kind,.int .i64 c.n,.int .i64 c.pos,.slice a c.kids.length cap] 65)):=(Below.refl _ w).alloc (Nat.le_refl _) _
  have O0:(w.alloc (.cells #[.int .i64 c.kind,.int .i64 c.n,.int .i64 c.pos,.slice a c.kids.length cap] 65)).heap[w.heap.size]? = some (.cells #[.int .i64 c.kind,.int .i64 c.n,.int .i64 c.pos,.slice a c.kids.length cap] 65):=(MapKept.heap_alloc w _).1
  have H0:=(show Hid (_∧_∧_) from ⟨hk,B0,O0⟩)
  clear hk B0 O0
  have hnot:=ex_not
  go_enter Tryz.func89,Tryz.ntmps89
  go_wp2_with fail
  go_loopw [5] (fun i wr=>∃ k:Nat,k≤c.kids.length∧i = .int .i64 k∧(c.kids.take k).all numOk=true∧Below w.heap.size w wr∧wr.heap[w.heap.size]? = some (.cells #[.int .i64 c.kind,.int .i64 c.n,.int .i64 c.pos,.slice a c.kids.length cap] 65)) (fun i _=>c.kids.length - (intOf i).toNat)
  case atStart=>exact ⟨0,Nat.zero_le _,rfl,rfl,H0.out.2.1,H0.out.2.2⟩
  case round =>
    obtain ⟨k,hk,rfl,hall,hb,hO⟩:=hrel
    have y0:wr.cell? ⟨w.heap.size,0,none⟩=some (.int .i64 c.kind):=(cell_of_block hO 0).trans rfl
    have y1:wr.cell? ⟨w.heap.size,1,none⟩=some (.int .i64 c.n):=(cell_of_block hO 1).trans rfl
    have y2:wr.cell? ⟨w.heap.size,2,none⟩=some (.int .i64 c.pos):=(cell_of_block hO 2).trans rfl
    have y3:wr.cell? ⟨w.heap.size,3,none⟩=some (.slice a c.kids.length cap):=(cell_of_block hO 3).trans rfl
    have HH:=(show Hid (_∧_∧_) from ⟨hall,hb,hO⟩)
    clear hall hb hO
    by_cases hlt:k<c.kids.length
    · have hlt':((k:Nat):Int)<((c.kids.length:Nat):Int):=by omega
      have hx:=List.getElem?_eq_getElem hlt
      generalize c.kids[k]=x at hx
      obtain ⟨a',cap',hv,_,hc⟩:=H0.out.1
      obtain ⟨b,off,ha,-,hbl,hcell,-⟩:=hc k x hx
      have:a=some ⟨b,off,none⟩:=by simp at hv; exact hv.1.trans ha
      subst this
      rw [← HH.out.2.1.cell (by exact hbl)] at hcell
      have HX:=(show Hid (_∧True) from ⟨hx,trivial⟩)
      clear hx hc hv ha
      cases hn:numOk x with
      | true =>
        go_wp2_with (go_at_call 87; refine (l07Num_any _ true hn _).mono ?_; rintro e w1 ⟨rfl,rfl⟩)
        exact ⟨⟨k+1,by omega,by go_num,all_take_succ HX.out.1 HH.out.1 hn,HH.out.2.1,HH.out.2.2⟩,by simp [intOf]; omega⟩
      | false =>
        have HR:Hid (c.may work=false):=by unfold Ce.may; rw [all_at HX.out.1 hn]; exact rfl
        go_wp2_with (go_at_call 87; refine (l07Num_any _ false hn _).mono ?_; rintro e w1 ⟨rfl,rfl⟩)
        go_ret
        exact ⟨ret_b HR.out.symm,HH.out.2.1⟩
    · obtain rfl:k=c.kids.length:=by omega
      have hal:c.kids.all numOk=true:=by have:=HH.out.1; rwa [List.take_length] at this
      have HB:Hid (Below w.heap.size w wr):=HH.out.2.1
      have HM:Hid (∀ r,(if work then (c.kind == 4 && c.n == 0 && numOk c.pos && decide ((c.kids.length:Int)≤100))
           else if c.kind=0 then (c.pos == 0 && (c.kids.length:Int) == 0)
           else if c.kind=1 then (c.n == 0 && c.pos == 0 && (c.kids.length:Int) == 0)
           else if c.kind=2 then (c.n == 0 && c.pos == 0 && (c.kids.length:Int) == 2)
           else (c.kind == 3 && inB c.n 1 6 && numOk c.pos && decide ((c.kids.length:Int)≤100)))=r→c.may work=r):=fun r hr=>by unfold Ce.may; rw [hal,hr]; exact rfl
      clear hal H0 HH
      cases work with
      | true =>
        by_cases h1:c.kind=4
        · by_cases h2:c.n=0
          · cases h3:numOk c.pos with
            | true =>
              go_wp2_with (go_at_call 87; refine (l07Num_any _ true h3 _).mono ?_; rintro e w1 ⟨rfl,rfl⟩)
              go_ret
              exact ⟨ret_b (HM.out _ (by rw [h1,h2,h3]; simp)).symm,HB.out⟩
            | false =>
              go_wp2_with (go_at_call 87; refine (l07Num_any _ false h3 _).mono ?_; rintro e w1 ⟨rfl,rfl⟩)
              go_ret
              exact ⟨ret_b (HM.out _ (by rw [h1,h2,h3]; simp)).symm,HB.out⟩
          · go_wp2
            go_ret
            exact ⟨ret_b (HM.out _ (by simp [h2])).symm,HB.out⟩
        · go_wp2
          go_ret
          exact ⟨ret_b (HM.out _ (by simp [h1])).symm,HB.out⟩
      | false =>
        by_cases h0:c.kind=0
        · by_cases h2:c.pos=0
          · go_wp2
            go_ret
            exact ⟨ret_b (HM.out _ (by simp [h0,h2])).symm,HB.out⟩
          · go_wp2
            go_ret
            exact ⟨ret_b (HM.out _ (by simp [h0,h2])).symm,HB.out⟩
        by_cases h1:c.kind=1
        · by_cases h2:c.n=0
          · by_cases h3:c.pos=0
            · go_wp2
              go_ret
              exact ⟨ret_b (HM.out _ (by simp [h1,h2,h3])).symm,HB.out⟩
            · go_wp2
              go_ret
              exact ⟨ret_b (HM.out _ (by simp [h1,h2,h3])).symm,HB.out⟩
          · go_wp2
            go_ret
            exact ⟨ret_b (HM.out _ (by simp [h1,h2])).symm,HB.out⟩
        by_cases h2:c.kind=2
        · by_cases h3:c.n=0
          · by_cases h4:c.pos=0
            · go_wp2
              go_ret
              exact ⟨ret_b (HM.out _ (by simp [h2,h3,h4])).symm,HB.out⟩
            · go_wp2
              go_ret
              exact ⟨ret_b (HM.out _ (by simp [h2,h3,h4])).symm,HB.out⟩
          · go_wp2
            go_ret
            exact ⟨ret_b (HM.out _ (by simp [h2,h3])).symm,HB.out⟩
        by_cases h3:c.kind=3
        · cases h4:inB c.n 1 6 with
          | false =>
            go_wp2_with (go_at_call 84; refine (specIn_any _ _ _ _).mono ?_; rintro e w1 ⟨rfl,rfl⟩; rw [h4])
            go_ret
            exact ⟨ret_b (HM.out _ (by simp [h3,h4])).symm,HB.out⟩
          | true =>
            cases h5:numOk c.pos with
            | true =>
              go_wp2_with (first
                | (go_at_call 84; refine (specIn_any _ _ _ _).mono ?_; rintro e w1 ⟨rfl,rfl⟩; rw [h4])
                | (go_at_call 87; refine (l07Num_any _ true h5 _).mono ?_; rintro e w1 ⟨rfl,rfl⟩))
              go_ret
              exact ⟨ret_b (HM.out _ (by simp [h3,h4,h5])).symm,HB.out⟩
            | false =>
              go_wp2_with (first
                | (go_at_call 84; refine (specIn_any _ _ _ _).mono ?_; rintro e w1 ⟨rfl,rfl⟩; rw [h4])
                | (go_at_call 87; refine (l07Num_any _ false h5 _).mono ?_; rintro e w1 ⟨rfl,rfl⟩))
              go_ret
              exact ⟨ret_b (HM.out _ (by simp [h3,h4,h5])).symm,HB.out⟩
        · go_wp2
          go_ret
          exact ⟨ret_b (HM.out _ (by simp [h0,h1,h2,h3])).symm,HB.out⟩
theorem numOk_zero:numOk 0=true:=by decide
theorem Ms.ok_not {m:Ms} (h:¬ (nodeOk m.frm=true∧nodeOk m.dst=true∧m.frm≠m.dst∧numOk m.id=true∧numOk m.want=true)):m.ok=false:=by
  unfold Ms.ok
  cases h1:nodeOk m.frm <;> cases h2:nodeOk m.dst <;> cases h3:numOk m.id <;> cases h4:numOk m.want <;> simp_all
theorem Ms.ok_is {m:Ms} {r:Bool} (h1:nodeOk m.frm=true) (h2:nodeOk m.dst=true) (h3:m.frm≠m.dst) (h4:numOk m.id=true) (h5:numOk m.want=true)
    (hr:(if m.kind=0 then m.cell.isNone
   else if m.kind=1 then (m.want == 0 && m.cell.may false)
   else if m.kind=2 then (m.id == 0 && m.want == 0 && m.cell.isNone)
   else if m.kind=3 then (m.want == 0 && m.cell.may true)
   else false)=r):m.ok=r:=by
  unfold Ms.ok
  rw [h1,h2,h4,h5,hr]
  simp [h3]
theorem specMsgOk_any (v:Value) (m:Ms) (S:Nat→Prop) (w:World) (h:MsAt w S v m) (hl:m.cell.kids.length≤4194304) :
    Calls Tryz.prog 39 #[v] w fun e w'=>e = .returned (.bool m.ok)∧Below w.heap.size w w':=by
  obtain ⟨a,c,rfl⟩:=h.form
  have B0:Below w.heap.size w (w.alloc (.cells (m.row (.slice a m.cell.kids.length c)) 67)):=(Below.refl _ w).alloc (Nat.le_refl _) _
  have H0:=(show Hid (_∧_) from ⟨h.cellAt.belowM B0,B0⟩)
  clear h B0
  have hnot:=ex_not
  by_cases hall:nodeOk m.frm=true∧nodeOk m.dst=true∧m.frm≠m.dst∧numOk m.id=true∧numOk m.want=true
  · obtain ⟨h1,h2,h3,h4,h5⟩:=hall
    have HR:=(show Hid (∀ r,_→m.ok=r) from fun r hr=>Ms.ok_is h1 h2 h3 h4 h5 hr)
    have HN:=l07None_any (.agg #[.int .i64 m.cell.kind,.int .i64 m.cell.n,.int .i64 m.cell.pos,.slice a m.cell.kids.length c]) m.cell S _ H0.out.1
    have HY:=fun work=>l07Cell_any (.agg #[.int .i64 m.cell.kind,.int .i64 m.cell.n,.int .i64 m.cell.pos,.slice a m.cell.kids.length c]) m.cell work S _ H0.out.1 hl
    have HC:=(show Hid (_∧_) from ⟨HN,HY⟩)
    clear HN HY
    by_cases k0:m.kind=0
    · have HV:=(show Hid (_∧True) from ⟨HR.out m.cell.isNone (by simp [k0]),trivial⟩)
      go_enter Tryz.func39,Tryz.ntmps39
      go_wp2_with (first
        | (go_at_call 86; refine (l07Node_any _ _ h1 _).mono ?_; rintro e w1 ⟨rfl,rfl⟩)
        | (go_at_call 86; refine (l07Node_any _ _ h2 _).mono ?_; rintro e w1 ⟨rfl,rfl⟩)
        | (go_at_call 87; refine (l07Num_any _ _ h4 _).mono ?_; rintro e w1 ⟨rfl,rfl⟩)
        | (go_at_call 87; refine (l07Num_any _ _ h5 _).mono ?_; rintro e w1 ⟨rfl,rfl⟩)
        | (go_at_call 87; refine (l07Num_any _ _ numOk_zero _).mono ?_; rintro e w1 ⟨rfl,rfl⟩)
        | (go_at_call 88; refine HC.out.1.mono ?_; rintro e w2 ⟨rfl,b2⟩))
      go_ret
      exact ⟨ret_b (HV.out.1).symm,H0.out.2.trans (b2.mono H0.out.2.size)⟩
    by_cases k1:m.kind=1
    · by_cases hw:m.want=0
      · have HV:=(show Hid (_∧True) from ⟨HR.out (m.cell.may false) (by simp [k1,hw]),trivial⟩)
        go_enter Tryz.func39,Tryz.ntmps39
        go_wp2_with (first
          | (go_at_call 86; refine (l07Node_any _ _ h1 _).mono ?_; rintro e w1 ⟨rfl,rfl⟩)
          | (go_at_call 86; refine (l07Node_any _ _ h2 _).mono ?_; rintro e w1 ⟨rfl,rfl⟩)
          | (go_at_call 87; refine (l07Num_any _ _ h4 _).mono ?_; rintro e w1 ⟨rfl,rfl⟩)
          | (go_at_call 87; refine (l07Num_any _ _ h5 _).mono ?_; rintro e w1 ⟨rfl,rfl⟩)
          | (go_at_call 87; refine (l07Num_any _ _ numOk_zero _).mono ?_; rintro e w1 ⟨rfl,rfl⟩)
          | (go_at_call 89; refine (HC.out.2 false).mono ?_; rintro e w2 ⟨rfl,b2⟩))
        go_ret
        exact ⟨ret_b (HV.out.1).symm,H0.out.2.trans (b2.mono H0.out.2.size)⟩
      · have HV:=(show Hid (_∧True) from ⟨HR.out false (by simp [k1,hw]),trivial⟩)
        go_enter Tryz.func39,Tryz.ntmps39
        go_wp2_with (first
          | (go_at_call 86; refine (l07Node_any _ _ h1 _).mono ?_; rintro e w1 ⟨rfl,rfl⟩)
          | (go_at_call 86; refine (l07Node_any _ _ h2 _).mono ?_; rintro e w1 ⟨rfl,rfl⟩)
          | (go_at_call 87; refine (l07Num_any _ _ h4 _).mono ?_; rintro e w1 ⟨rfl,rfl⟩)
          | (go_at_call 87; refine (l07Num_any _ _ h5 _).mono ?_; rintro e w1 ⟨rfl,rfl⟩)
          | (go_at_call 87; refine (l07Num_any _ _ numOk_zero _).mono ?_; rintro e w1 ⟨rfl,rfl⟩))
        go_ret
        exact ⟨ret_b (HV.out.1).symm,H0.out.2⟩
    by_cases k2:m.kind=2
    · by_cases hi:m.id=0
      · by_cases hw:m.want=0
        · have HV:=(show Hid (_∧True) from ⟨HR.out m.cell.isNone (by simp [k2,hw,hi]),trivial⟩)
          go_enter Tryz.func39,Tryz.ntmps39
          go_wp2_with (first
            | (go_at_call 86; refine (l07Node_any _ _ h1 _).mono ?_; rintro e w1 ⟨rfl,rfl⟩)
            | (go_at_call 86; refine (l07Node_any _ _ h2 _).mono ?_; rintro e w1 ⟨rfl,rfl⟩)
            | (go_at_call 87; refine (l07Num_any _ _ h4 _).mono ?_; rintro e w1 ⟨rfl,rfl⟩)
            | (go_at_call 87; refine (l07Num_any _ _ h5 _).mono ?_; rintro e w1 ⟨rfl,rfl⟩)
            | (go_at_call 87; refine (l07Num_any _ _ numOk_zero _).mono ?_; rintro e w1 ⟨rfl,rfl⟩)
            | (go_at_call 88; refine HC.out.1.mono ?_; rintro e w2 ⟨rfl,b2⟩))
          go_ret
          exact ⟨ret_b (HV.out.1).symm,H0.out.2.trans (b2.mono H0.out.2.size)⟩
        · have HV:=(show Hid (_∧True) from ⟨HR.out false (by simp [k2,hw,hi]),trivial⟩)
          go_enter Tryz.func39,Tryz.ntmps39
          go_wp2_with (first
            | (go_at_call 86; refine (l07Node_any _ _ h1 _).mono ?_; rintro e w1 ⟨rfl,rfl⟩)
            | (go_at_call 86; refine (l07Node_any _ _ h2 _).mono ?_; rintro e w1 ⟨rfl,rfl⟩)
            | (go_at_call 87; refine (l07Num_any _ _ h4 _).mono ?_; rintro e w1 ⟨rfl,rfl⟩)
            | (go_at_call 87; refine (l07Num_any _ _ h5 _).mono ?_; rintro e w1 ⟨rfl,rfl⟩)
            | (go_at_call 87; refine (l07Num_any _ _ numOk_zero _).mono ?_; rintro e w1 ⟨rfl,rfl⟩))
          go_ret
          exact ⟨ret_b (HV.out.1).symm,H0.out.2⟩
      · have HV:=(show Hid (_∧True) from ⟨HR.out false (by simp [k2,hi]),trivial⟩)
        go_enter Tryz.func39,Tryz.ntmps39
        go_wp2_with (first
          | (go_at_call 86; refine (l07Node_any _ _ h1 _).mono ?_; rintro e w1 ⟨rfl,rfl⟩)
          | (go_at_call 86; refine (l07Node_any _ _ h2 _).mono ?_; rintro e w1 ⟨rfl,rfl⟩)
          | (go_at_call 87; refine (l07Num_any _ _ h4 _).mono ?_; rintro e w1 ⟨rfl,rfl⟩)
          | (go_at_call 87; refine (l07Num_any _ _ h5 _).mono ?_; rintro e w1 ⟨rfl,rfl⟩)
          | (go_at_call 87; refine (l07Num_any _ _ numOk_zero _).mono ?_; rintro e w1 ⟨rfl,rfl⟩))
        go_ret
        exact ⟨ret_b (HV.out.1).symm,H0.out.2⟩
    by_cases k3:m.kind=3
    · by_cases hw:m.want=0
      · have HV:=(show Hid (_∧True) from ⟨HR.out (m.cell.may true) (by simp [k3,hw]),trivial⟩)
        go_enter Tryz.func39,Tryz.ntmps39
        go_wp2_with (first
          | (go_at_call 86; refine (l07Node_any _ _ h1 _).mono ?_; rintro e w1 ⟨rfl,rfl⟩)
          | (go_at_call 86; refine (l07Node_any _ _ h2 _).mono ?_; rintro e w1 ⟨rfl,rfl⟩)
          | (go_at_call 87; refine (l07Num_any _ _ h4 _).mono ?_; rintro e w1 ⟨rfl,rfl⟩)
          | (go_at_call 87; refine (l07Num_any _ _ h5 _).mono ?_; rintro e w1 ⟨rfl,rfl⟩)
          | (go_at_call 87; refine (l07Num_any _ _ numOk_zero _).mono ?_; rintro e w1 ⟨rfl,rfl⟩)
          | (go_at_call 89; refine (HC.out.2 true).mono ?_; rintro e w2 ⟨rfl,b2⟩))
        go_ret
        exact ⟨ret_b (HV.out.1).symm,H0.out.2.trans (b2.mono H0.out.2.size)⟩
      · have HV:=(show Hid (_∧True) from ⟨HR.out false (by simp [k3,hw]),trivial⟩)
        go_enter Tryz.func39,Tryz.ntmps39
        go_wp2_with (first
          | (go_at_call 86; refine (l07Node_any _ _ h1 _).mono ?_; rintro e w1 ⟨rfl,rfl⟩)
          | (go_at_call 86; refine (l07Node_any _ _ h2 _).mono ?_; rintro e w1 ⟨rfl,rfl⟩)
          | (go_at_call 87; refine (l07Num_any _ _ h4 _).mono ?_; rintro e w1 ⟨rfl,rfl⟩)
          | (go_at_call 87; refine (l07Num_any _ _ h5 _).mono ?_; rintro e w1 ⟨rfl,rfl⟩)
          | (go_at_call 87; refine (l07Num_any _ _ numOk_zero _).mono ?_; rintro e w1 ⟨rfl,rfl⟩))
        go_ret
        exact ⟨ret_b (HV.out.1).symm,H0.out.2⟩
    have HV:=(show Hid (_∧True) from ⟨HR.out false (by simp [k0,k1,k2,k3]),trivial⟩)
    go_enter Tryz.func39,Tryz.ntmps39
    go_wp2_with (first
      | (go_at_call 86; refine (l07Node_any _ _ h1 _).mono ?_; rintro e w1 ⟨rfl,rfl⟩)
      | (go_at_call 86; refine (l07Node_any _ _ h2 _).mono ?_; rintro e w1 ⟨rfl,rfl⟩)
      | (go_at_call 87; refine (l07Num_any _ _ h4 _).mono ?_; rintro e w1 ⟨rfl,rfl⟩)
      | (go_at_call 87; refine (l07Num_any _ _ h5 _).mono ?_; rintro e w1 ⟨rfl,rfl⟩)
      | (go_at_call 87; refine (l07Num_any _ _ numOk_zero _).mono ?_; rintro e w1 ⟨rfl,rfl⟩))
    go_ret
    exact ⟨ret_b (HV.out.1).symm,H0.out.2⟩
  · have HV:=(show Hid (_∧True) from ⟨Ms.ok_not hall,trivial⟩)
    cases h1:nodeOk m.frm with
    | false =>
      go_enter Tryz.func39,Tryz.ntmps39
      go_wp2_with (first
        | (go_at_call 86; refine (l07Node_any _ _ h1 _).mono ?_; rintro e w1 ⟨rfl,rfl⟩)
        | (go_at_call 86; refine (l07Node_any _ _ h1 _).mono ?_; rintro e w1 ⟨rfl,rfl⟩)
        | (go_at_call 87; refine (l07Num_any _ _ h1 _).mono ?_; rintro e w1 ⟨rfl,rfl⟩)
        | (go_at_call 87; refine (l07Num_any _ _ h1 _).mono ?_; rintro e w1 ⟨rfl,rfl⟩))
      go_ret
      exact ⟨ret_b (HV.out.1).symm,H0.out.2⟩
    | true =>
    cases h2:nodeOk m.dst with
    | false =>
      go_enter Tryz.func39,Tryz.ntmps39
      go_wp2_with (first
        | (go_at_call 86; refine (l07Node_any _ _ h1 _).mono ?_; rintro e w1 ⟨rfl,rfl⟩)
        | (go_at_call 86; refine (l07Node_any _ _ h2 _).mono ?_; rintro e w1 ⟨rfl,rfl⟩)
        | (go_at_call 87; refine (l07Num_any _ _ h1 _).mono ?_; rintro e w1 ⟨rfl,rfl⟩)
        | (go_at_call 87; refine (l07Num_any _ _ h1 _).mono ?_; rintro e w1 ⟨rfl,rfl⟩))
      go_ret
      exact ⟨ret_b (HV.out.1).symm,H0.out.2⟩
    | true =>
    by_cases h3:m.frm=m.dst
    · have h3b:(m.frm == m.dst)=true:=by simp [h3]
      have h1':=h2
      rw [← h3] at h1'
      go_enter Tryz.func39,Tryz.ntmps39
      go_wp2_with (first
        | (go_at_call 86; refine (l07Node_any _ _ h1 _).mono ?_; rintro e w1 ⟨rfl,rfl⟩)
        | (go_at_call 86; refine (l07Node_any _ _ h2 _).mono ?_; rintro e w1 ⟨rfl,rfl⟩)
        | (go_at_call 87; refine (l07Num_any _ _ h1 _).mono ?_; rintro e w1 ⟨rfl,rfl⟩)
        | (go_at_call 87; refine (l07Num_any _ _ h1' _).mono ?_; rintro e w1 ⟨rfl,rfl⟩))
      go_ret
      exact ⟨ret_b (HV.out.1).symm,H0.out.2⟩
    cases h4:numOk m.id with
    | false =>
      go_enter Tryz.func39,Tryz.ntmps39
      go_wp2_with (first
        | (go_at_call 86; refine (l07Node_any _ _ h1 _).mono ?_; rintro e w1 ⟨rfl,rfl⟩)
        | (go_at_call 86; refine (l07Node_any _ _ h2 _).mono ?_; rintro e w1 ⟨rfl,rfl⟩)
        | (go_at_call 87; refine (l07Num_any _ _ h4 _).mono ?_; rintro e w1 ⟨rfl,rfl⟩)
        | (go_at_call 87; refine (l07Num_any _ _ h4 _).mono ?_; rintro e w1 ⟨rfl,rfl⟩))
      go_ret
      exact ⟨ret_b (HV.out.1).symm,H0.out.2⟩
    | true =>
    cases h5:numOk m.want with
    | false =>
      go_enter Tryz.func39,Tryz.ntmps39
      go_wp2_with (first
        | (go_at_call 86; refine (l07Node_any _ _ h1 _).mono ?_; rintro e w1 ⟨rfl,rfl⟩)
        | (go_at_call 86; refine (l07Node_any _ _ h2 _).mono ?_; rintro e w1 ⟨rfl,rfl⟩)
        | (go_at_call 87; refine (l07Num_any _ _ h4 _).mono ?_; rintro e w1 ⟨rfl,rfl⟩)
        | (go_at_call 87; refine (l07Num_any _ _ h5 _).mono ?_; rintro e w1 ⟨rfl,rfl⟩)
        | (go_at_call 87; refine (l07Num_any _ _ numOk_zero _).mono ?_; rintro e w1 ⟨rfl,rfl⟩))
      go_ret
      exact ⟨ret_b (HV.out.1).symm,H0.out.2⟩
    | true=>exact absurd ⟨h1,h2,h3,h4,h5⟩ hall
theorem may_len {c:Ce} {b:Bool} (h:c.may b=true):c.kids.length≤100:=by
 unfold Ce.may at h
 rw [Bool.and_eq_true] at h
 have h2:=h.2
 cases b
 ·simp only [Bool.false_eq_true,if_false] at h2
  split at h2
  ·simp at h2; rw [h2.2]; simp
  split at h2
  ·simp at h2; rw [h2.2]; simp
  split at h2
  ·simp at h2; omega
  ·simp at h2; omega
 ·simp at h2; omega
theorem none_len {c:Ce} (h:c.isNone=true):c.kids.length≤100:=by
 unfold Ce.isNone at h
 simp at h
 rw [h.2]; simp
theorem ok_len {m:Ms} (h:m.ok=true):m.cell.kids.length≤100:=by
 unfold Ms.ok at h
 rw [Bool.and_eq_true] at h
 have h2:=h.2
 split at h2
 ·exact none_len h2
 split at h2
 ·rw [Bool.and_eq_true] at h2; exact may_len h2.2
 split at h2
 ·rw [Bool.and_eq_true] at h2; exact none_len h2.2
 split at h2
 ·rw [Bool.and_eq_true] at h2; exact may_len h2.2
 ·cases h2
theorem boxM {W:World} {b:Nat} {m:Ms} {kv:Value} {t:TypeId} (h:W.heap[b]? = some (.cells (m.row kv) t)):W.cell? ⟨b,0,none⟩=some (.int .i64 m.kind)∧W.cell? ⟨b,1,none⟩=some (.int .i64 m.frm)∧W.cell? ⟨b,2,none⟩=some (.int .i64 m.dst)∧W.cell? ⟨b,3,none⟩=some (.int .i64 m.id)∧W.cell? ⟨b,4,none⟩=some (.int .i64 m.want)∧W.cell? ⟨b,5,none⟩=some (.int .i64 m.cell.kind)∧W.cell? ⟨b,6,none⟩=some (.int .i64 m.cell.n)∧W.cell? ⟨b,7,none⟩=some (.int .i64 m.cell.pos)∧W.cell? ⟨b,8,none⟩=some (kv) :=
 ⟨(cell_of_block h 0).trans rfl,(cell_of_block h 1).trans rfl,(cell_of_block h 2).trans rfl,(cell_of_block h 3).trans rfl,(cell_of_block h 4).trans rfl,(cell_of_block h 5).trans rfl,(cell_of_block h 6).trans rfl,(cell_of_block h 7).trans rfl,(cell_of_block h 8).trans rfl⟩
theorem box_alloc {W:World} {b:Nat} {x:Obj} (h:W.heap[b]? = some x) (o:Obj):(W.drew.alloc o).heap[b]? = some x :=
 (Below.heap_alloc W.drew o b (Array.getElem?_eq_some_iff.1 h).1).trans h
def Ms.nums (m:Ms):List Int:=[m.kind,m.frm,m.dst,m.id,m.want,m.cell.kind,m.cell.n,m.cell.pos,(m.cell.kids.length:Int)]
def Ms.bytes (m:Ms):List UInt8:=if m.ok then numsB m.nums ++ numsB m.cell.kids else []
theorem lit_ints (zs:List Int) (w:World) (hz:∀ z ∈ zs,inI64 z) (hl:zs.length≤maxLen) (n:Nat) (hn:n=zs.length) (vs:Array Value) (hvs:vs=(zs.map (fun z=>Value.int .i64 z)).toArray) (t:TypeId):IntsAt (w.alloc (.cells vs t)) (fun _=>True) (.slice (some ⟨w.heap.size,0,none⟩) n n) zs:=by
 subst hn hvs
 refine ⟨_,_,rfl,hl,fun i z hi=>⟨w.heap.size,0,rfl,trivial,by simp,?_,hz z (List.mem_of_getElem? hi)⟩⟩
 rw [cell_of_block (MapKept.heap_alloc w _).1,Nat.zero_add]
 simp [hi]
theorem specPutMsg_any (v:Value) (m:Ms) (S:Nat→Prop) (w:World) (h:MsAt w S v m) (hl:m.cell.kids.length≤4194304) :
  Calls Tryz.prog 40 #[v] w fun e w'=>e = .returned (.string ⟨m.bytes.toArray⟩)∧Below w.heap.size w w':=by
 have HR:=(show Hid (_∧True) from ⟨h,trivial⟩)
 obtain ⟨a,c,rfl⟩:=h.form
 obtain ⟨W0,hW0⟩:∃ W0,W0=w.alloc (.cells (m.row (.slice a m.cell.kids.length c)) 67):=⟨_,rfl⟩
 have B0:Below w.heap.size w W0:=by rw [hW0]; exact (Below.refl _ w).alloc (Nat.le_refl _) _
 have O0:W0.heap[w.heap.size]? = some (.cells (m.row (.slice a m.cell.kids.length c)) 67):=by rw [hW0]; exact (MapKept.heap_alloc w _).1
 have H0:=(show Hid (_∧_∧_∧_) from ⟨h.below B0,B0,O0,hW0⟩)
 clear h B0 O0 hW0
 have hnot:=ex_not
 go_enter Tryz.func40,Tryz.ntmps40
 go_wp2_with fail
 rw [← H0.out.2.2.2]
 refine (specMsgOk_any _ m S W0 H0.out.1 hl).mono ?_
 rintro e w1 ⟨rfl,b1⟩
 have o1:=(b1.block _ (Array.getElem?_eq_some_iff.1 H0.out.2.2.1).1).trans H0.out.2.2.1
 have H1:=(show Hid (_∧_∧_) from ⟨H0.out.1.below b1,H0.out.2.1.trans (b1.mono H0.out.2.1.size),o1⟩)
 clear b1 o1 H0
 cases hok:m.ok with
 | false =>
  have HB:Hid (m.bytes=[]):=by unfold Ms.bytes; rw [hok]; exact rfl
  clear hok
  go_wp2
  go_ret
  exact ⟨by rw [HB.out]; exact rfl,H1.out.2.1⟩
 | true =>
  have HB:Hid (m.bytes=numsB m.nums ++ numsB m.cell.kids):=by unfold Ms.bytes; rw [hok]; exact rfl
  have h100:=ok_len hok
  clear hok
  have y0:w1.cell? ⟨w.heap.size,0,none⟩=some (.int .i64 m.kind):=(cell_of_block H1.out.2.2 0).trans rfl
  have y1:w1.cell? ⟨w.heap.size,1,none⟩=some (.int .i64 m.frm):=(cell_of_block H1.out.2.2 1).trans rfl
  have y2:w1.cell? ⟨w.heap.size,2,none⟩=some (.int .i64 m.dst):=(cell_of_block H1.out.2.2 2).trans rfl
  have y3:w1.cell? ⟨w.heap.size,3,none⟩=some (.int .i64 m.id):=(cell_of_block H1.out.2.2 3).trans rfl
  have y4:w1.cell? ⟨w.heap.size,4,none⟩=some (.int .i64 m.want):=(cell_of_block H1.out.2.2 4).trans rfl
  have y5:w1.cell? ⟨w.heap.size,5,none⟩=some (.int .i64 m.cell.kind):=(cell_of_block H1.out.2.2 5).trans rfl
  have y6:w1.cell? ⟨w.heap.size,6,none⟩=some (.int .i64 m.cell.n):=(cell_of_block H1.out.2.2 6).trans rfl
  have y7:w1.cell? ⟨w.heap.size,7,none⟩=some (.int .i64 m.cell.pos):=(cell_of_block H1.out.2.2 7).trans rfl
  have y8:w1.cell? ⟨w.heap.size,8,none⟩=some (.slice a m.cell.kids.length c):=(cell_of_block H1.out.2.2 8).trans rfl
  obtain ⟨kv,hkv,⟨i0,i1,i2,i3,i4⟩,i5,i6,i7,hk⟩:=H1.out.1
  have:kv = .slice a m.cell.kids.length c:=by simp [Ms.row] at hkv; exact hkv.symm
  subst this
  have hin:∀ z ∈ m.nums,inI64 z:=by
   intro z hz
   unfold Ms.nums at hz
   simp only [List.mem_cons,List.not_mem_nil,or_false] at hz
   rcases hz with rfl | rfl | rfl | rfl | rfl | rfl | rfl | rfl | rfl
   ·exact i0
   ·exact i1
   ·exact i2
   ·exact i3
   ·exact i4
   ·exact i5
   ·exact i6
   ·exact i7
   ·unfold inI64; omega
  have hlit:IntsAt (w1.drew.alloc (.cells #[.int .i64 m.kind,.int .i64 m.frm,.int .i64 m.dst,.int .i64 m.id,.int .i64 m.want,.int .i64 m.cell.kind,.int .i64 m.cell.n,.int .i64 m.cell.pos,.int .i64 ((m.cell.kids.length:Nat):Int)] 3)) (fun _=>True) (.slice (some ⟨w1.heap.size,0,none⟩) 9 9) m.nums:=lit_ints m.nums w1.drew hin (by show 9≤maxLen; unfold maxLen; omega) 9 rfl _ rfl _
  have hbA:Below w1.heap.size w1 (w1.drew.alloc (.cells #[.int .i64 m.kind,.int .i64 m.frm,.int .i64 m.dst,.int .i64 m.id,.int .i64 m.want,.int .i64 m.cell.kind,.int .i64 m.cell.n,.int .i64 m.cell.pos,.int .i64 ((m.cell.kids.length:Nat):Int)] 3)):=((Below.refl _ w1).drew).alloc (Nat.le_refl _) _
  have hoA:(w1.drew.alloc (.cells #[.int .i64 m.kind,.int .i64 m.frm,.int .i64 m.dst,.int .i64 m.id,.int .i64 m.want,.int .i64 m.cell.kind,.int .i64 m.cell.n,.int .i64 m.cell.pos,.int .i64 ((m.cell.kids.length:Nat):Int)] 3)).heap[w.heap.size]? = some (.cells (m.row (.slice a m.cell.kids.length c)) 67):=box_alloc H1.out.2.2 _
  have HA:=(show Hid (_∧_∧_) from ⟨hlit,hbA,hoA⟩)
  clear hlit hbA hoA
  have HL:=(show Hid (_∧_) from ⟨hin,hk⟩)
  clear hin hk i0 i1 i2 i3 i4 i5 i6 i7 hkv
  have hn1:=numsB_len m.nums
  have hn2:=numsB_len m.cell.kids
  have hn3:m.nums.length=9:=rfl
  rw [hn3] at hn1
  have hcat:=cat_bytes (numsB m.nums) (numsB m.cell.kids)
  have hs1:((⟨(numsB m.nums).toArray⟩:ByteArray)).size=72:=by show (numsB m.nums).toArray.size=_; simp [hn1]
  have hs2:((⟨(numsB m.cell.kids).toArray⟩:ByteArray)).size=8 * m.cell.kids.length:=by show (numsB m.cell.kids).toArray.size=_; simp [hn2]
  have hadd:∀ wx:World,(Op.stringOp .add ⟨(numsB m.nums).toArray⟩ ⟨(numsB m.cell.kids).toArray⟩).run Tryz.prog wx = .ok (.string (⟨(numsB m.nums).toArray⟩ ++ ⟨(numsB m.cell.kids).toArray⟩)) wx:=fun wx=>run_string_add_sum wx _ _ (by rw [hs1,hs2]; omega)
  clear hs1 hs2 hn1 hn2 hn3 hcat
  have HCat:=(show Hid (_∧True) from ⟨cat_bytes (numsB m.nums) (numsB m.cell.kids),trivial⟩)
  go_wp2_with fail
  go_region_held3 (fun w'=>w'.cell? ⟨w.heap.size,0,none⟩=some (.int .i64 m.kind)∧w'.cell? ⟨w.heap.size,1,none⟩=some (.int .i64 m.frm)∧w'.cell? ⟨w.heap.size,2,none⟩=some (.int .i64 m.dst)∧w'.cell? ⟨w.heap.size,3,none⟩=some (.int .i64 m.id)∧w'.cell? ⟨w.heap.size,4,none⟩=some (.int .i64 m.want)∧w'.cell? ⟨w.heap.size,5,none⟩=some (.int .i64 m.cell.kind)∧w'.cell? ⟨w.heap.size,6,none⟩=some (.int .i64 m.cell.n)∧w'.cell? ⟨w.heap.size,7,none⟩=some (.int .i64 m.cell.pos)∧w'.cell? ⟨w.heap.size,8,none⟩=some (.slice a m.cell.kids.length c)) (first | exact boxM H3.out.2 | exact boxM H2.out.2 | go_keep) (first
   | (go_at_call_of 90 (Value.slice (some ⟨w1.heap.size,0,none⟩) 9 9); refine (l07Nums_any _ m.nums (fun _=>True) _ HA.out.1 (by show 9≤100000000; omega)).mono ?_; rintro e w2 ⟨rfl,b2⟩; have o2:=(b2.block _ (Array.getElem?_eq_some_iff.1 HA.out.2.2).1).trans HA.out.2.2; have H2:=(show Hid (_∧_) from ⟨HA.out.2.1.trans (b2.mono HA.out.2.1.size),o2⟩); clear o2 b2)
   | (go_at_call_of 90 (Value.slice a m.cell.kids.length c); refine (l07Nums_any _ m.cell.kids S _ (HL.out.2.below H2.out.1) (by omega)).mono ?_; rintro e w3 ⟨rfl,b3⟩; have o3:=(b3.block _ (Array.getElem?_eq_some_iff.1 H2.out.2).1).trans H2.out.2; have H3:=(show Hid (_∧_) from ⟨H2.out.1.trans (b3.mono H2.out.1.size),o3⟩); clear o3 b3))
  go_wp2
  go_ret
  exact ⟨by rw [HB.out,← HCat.out.1]; exact rfl,H1.out.2.1.trans (H3.out.1.mono H1.out.2.1.size)⟩
end Go.Proofs.YtmmadoabejgffaaGreatDoor
