/-
  Proofs.
  Proofs.
  Proofs.
  Proofs.
-/
import Derived.Test.YtljdgmfcgkimoaaGreatDoorJ27
import Derived.Test.YtljdgmfcgkimoaaGreatDoorJ1
import Derived.Maps.AppendAt
import Derived.Laws.OwnMore
import Derived.Laws.AppendOwnNone
namespace Go.Proofs.YtljdgmfcgkimoaaGreatDoor
open Go.RowKit Go.Joins
set_option maxRecDepth 100000
def EnvAt (w:World) (S:Nat→Prop) (d:Nat):Nat→Value→List Clo→Prop
 | 0,_,_=>False
 | m+1,v,cs=>∃ a cap,v = .slice a cs.length cap∧cs.length≤1000000∧(a=none→cap=0)∧∀ i c,cs[i]? = some c→∃ b off kv ev,a=some ⟨b,off,none⟩∧S b∧b<w.heap.size ∧
   w.cell? ⟨b,off+i * 6,none⟩=some (.int .i64 c.ex.kind)∧w.cell? ⟨b,off+i * 6+1,none⟩=some (.int .i64 c.ex.n)∧w.cell? ⟨b,off+i * 6+2,none⟩=some (.string c.ex.text)∧w.cell? ⟨b,off+i * 6+3,none⟩=some kv∧w.cell? ⟨b,off+i * 6+4,none⟩=some ev∧w.cell? ⟨b,off+i * 6+5,none⟩=some (.bool c.own) ∧
   inI64 c.ex.kind∧inI64 c.ex.n∧c.ex.text.size≤maxLen∧KidsAt w S d kv c.ex.kids∧EnvAt w S d m ev c.env
theorem EnvAt.kept {w w':World} {S S':Nat→Prop} {d:Nat} (hw:∀ b,S b→b<w.heap.size→w'.heap[b]? = w.heap[b]?) (hsz:w.heap.size≤w'.heap.size) (hS:∀ b,S b→b<w.heap.size→S' b):∀ {m:Nat} {v:Value} {cs:List Clo},EnvAt w S d m v cs→EnvAt w' S' d m v cs
 | 0,_,_,h=>h.elim
 | m+1,v,cs,h=>by
  obtain ⟨a,cap,hv,hl,hz,hc⟩:=h
  refine ⟨a,cap,hv,hl,hz,fun i c hi => ?_⟩
  obtain ⟨b,off,kv,ev,ha,hb,hlt,c0,c1,c2,c3,c4,c5,r1,r2,r3,hk,he⟩:=hc i c hi
  have hcell:∀ o,w'.cell? ⟨b,o,none⟩=w.cell? ⟨b,o,none⟩:=fun o=>World.cell?_of_block (hw b hb hlt)
  exact ⟨b,off,kv,ev,ha,hS b hb hlt,Nat.lt_of_lt_of_le hlt hsz,(hcell _).trans c0,(hcell _).trans c1,(hcell _).trans c2,(hcell _).trans c3,(hcell _).trans c4,(hcell _).trans c5,r1,r2,r3,hk.kept hw hsz hS,EnvAt.kept hw hsz hS he⟩
theorem EnvAt.below {w w':World} {S:Nat→Prop} {d m:Nat} {v:Value} {cs:List Clo} (h:EnvAt w S d m v cs) (hb:Below w.heap.size w w'):EnvAt w' S d m v cs :=
 h.kept (fun b _ hlt=>hb.block b hlt) hb.size (fun _ h _=>h)
theorem EnvAt.deeper {w:World} {S:Nat→Prop} {d:Nat}:∀ {m:Nat} {v:Value} {cs:List Clo},EnvAt w S d m v cs→EnvAt w S d (m+1) v cs
 | 0,_,_,h=>h.elim
 | m+1,v,cs,h=>by
  obtain ⟨a,cap,hv,hl,hz,hc⟩:=h
  refine ⟨a,cap,hv,hl,hz,fun i c hi => ?_⟩
  obtain ⟨b,off,kv,ev,h1,h2,h3,c0,c1,c2,c3,c4,c5,r1,r2,r3,hk,he⟩:=hc i c hi
  exact ⟨b,off,kv,ev,h1,h2,h3,c0,c1,c2,c3,c4,c5,r1,r2,r3,hk,he.deeper⟩
theorem EnvAt.deep {w:World} {S:Nat→Prop} {d m m':Nat} {v:Value} {cs:List Clo} (h:EnvAt w S d m v cs) (hm:m≤m'):EnvAt w S d m' v cs:=by
 obtain ⟨k,rfl⟩:=Nat.exists_eq_add_of_le hm
 induction k with
 | zero=>exact h
 | succ k ih=>exact (ih (by omega)).deeper
theorem EnvAt.form {w:World} {S:Nat→Prop} {d m:Nat} {v:Value} {cs:List Clo} (h:EnvAt w S d m v cs):∃ a cap,v = .slice a cs.length cap∧(a=none→cap=0):=by
 cases m with
 | zero=>exact h.elim
 | succ m=>obtain ⟨a,cap,hv,_,hz,_⟩:=h; exact ⟨a,cap,hv,hz⟩
theorem EnvAt.nil {w:World} {S:Nat→Prop} {d m:Nat} (a:Option Addr) (cap:Nat) (hz:a=none→cap=0):EnvAt w S d (m+1) (.slice a 0 cap) []:=⟨a,cap,rfl,by simp,hz,fun i c h=>by simp at h⟩
structure CloV where
 c:Clo
 kv:Value
 ev:Value
instance:Inhabited CloV:=⟨⟨.mk exZ [] false,.bool false,.bool false⟩⟩
def CloV.cells (r:CloV):List Value:=[.int .i64 r.c.ex.kind,.int .i64 r.c.ex.n,.string r.c.ex.text,r.kv,r.ev,.bool r.c.own]
def CloV.Ok (w:World) (S:Nat→Prop) (d m:Nat) (r:CloV):Prop:=inI64 r.c.ex.kind∧inI64 r.c.ex.n∧r.c.ex.text.size≤maxLen∧KidsAt w S d r.kv r.c.ex.kids∧EnvAt w S d m r.ev r.c.env∧r.kv.oneCell'=true∧r.ev.oneCell'=true
theorem flat6_len (rs:List CloV):(rs.flatMap CloV.cells).length=rs.length * 6:=by
 induction rs with
 | nil=>rfl
 | cons a r ih=>rw [List.flatMap_cons,List.length_append,ih,List.length_cons]; simp [CloV.cells]; omega
theorem flat6_at:∀ (rs:List CloV) (i k:Nat) (r:CloV),k<6→rs[i]? = some r→(rs.flatMap CloV.cells)[i * 6+k]? = r.cells[k]?
 | [],i,k,r,_,h=>by simp at h
 | a :: rs,0,k,r,hk,h=>by
  obtain rfl:a=r:=by simpa using h
  rw [List.flatMap_cons,List.getElem?_append_left (by simp [CloV.cells]; omega),Nat.zero_mul,Nat.zero_add]
 | a :: rs,i+1,k,r,hk,h=>by
  rw [List.flatMap_cons,List.getElem?_append_right (by simp [CloV.cells]; omega)]
  have:=flat6_at rs i k r hk (by simpa using h)
  rw [← this]
  congr 1
  simp [CloV.cells]
  omega
theorem flat6_inv (rs:List CloV) (j:Nat) (u:Value) (h:(rs.flatMap CloV.cells)[j]? = some u):∃ r,rs[j / 6]? = some r∧r.cells[j % 6]? = some u:=by
 have hl:=(List.getElem?_eq_some_iff.1 h).1
 rw [flat6_len] at hl
 have hi:j / 6<rs.length:=by omega
 refine ⟨rs[j / 6],List.getElem?_eq_getElem hi,?_⟩
 rw [← flat6_at rs (j / 6) (j % 6) _ (Nat.mod_lt _ (by omega)) (List.getElem?_eq_getElem hi),← h]
 congr 1
 omega
theorem EnvAt.rows {w:World} {S:Nat→Prop} {d m:Nat} {a:Option Addr} {cap:Nat} {cs:List Clo} (h:EnvAt w S d (m+1) (.slice a cs.length cap) cs):∃ rs:List CloV,rs.map CloV.c=cs∧(∀ r ∈ rs,r.Ok w S d m)∧∀ j u,(rs.flatMap CloV.cells)[j]? = some u→∃ b off,a=some ⟨b,off,none⟩∧w.cell? ⟨b,off+j,none⟩=some u:=by
 obtain ⟨a',cap',hv,hl,-,hc⟩:=h
 obtain ⟨rfl,rfl⟩:a=a'∧cap=cap':=by simpa using hv
 have key:∀ i,i<cs.length→∃ r:CloV,∃ b off,cs[i]? = some r.c∧r.Ok w S d m∧a=some ⟨b,off,none⟩∧∀ k u,r.cells[k]? = some u→w.cell? ⟨b,off+i * 6+k,none⟩=some u:=by
  intro i hi
  obtain ⟨b,off,kv,ev,ha,hb,hlt,c0,c1,c2,c3,c4,c5,r1,r2,r3,hk,he⟩:=hc i _ (List.getElem?_eq_getElem hi)
  obtain ⟨ka,kc,rfl⟩:=hk.form
  obtain ⟨ea,ec,rfl,-⟩:=he.form
  refine ⟨⟨cs[i],_,_⟩,b,off,List.getElem?_eq_getElem hi,⟨r1,r2,r3,hk,he,rfl,rfl⟩,ha,fun k u hu => ?_⟩
  match k,hu with
  | 0,hu=>simp [CloV.cells] at hu; subst hu; exact c0
  | 1,hu=>simp [CloV.cells] at hu; subst hu; exact c1
  | 2,hu=>simp [CloV.cells] at hu; subst hu; exact c2
  | 3,hu=>simp [CloV.cells] at hu; subst hu; exact c3
  | 4,hu=>simp [CloV.cells] at hu; subst hu; exact c4
  | 5,hu=>simp [CloV.cells] at hu; subst hu; exact c5
  | k+6,hu=>simp [CloV.cells] at hu
 obtain ⟨f,hf⟩:=Deep.choose_lt key
 refine ⟨(List.range cs.length).map f,?_,fun r hr => ?_,fun j u hu => ?_⟩
 ·apply List.ext_getElem?
  intro i
  rw [List.getElem?_map,List.getElem?_map]
  by_cases hi:i<cs.length
  ·rw [List.getElem?_range hi]
   obtain ⟨_,_,h1,_⟩:=hf i hi
   exact h1.symm
  ·rw [List.getElem?_eq_none (by simpa using hi),List.getElem?_eq_none (by omega)]
   rfl
 ·obtain ⟨i,hi,rfl⟩:=List.mem_map.1 hr
  obtain ⟨_,_,_,h2,_⟩:=hf i (by simpa using hi)
  exact h2
 ·obtain ⟨r,hr,hu'⟩:=flat6_inv _ j u hu
  have hi:j / 6<cs.length:=by have:=(List.getElem?_eq_some_iff.1 hr).1; simpa using this
  obtain rfl:f (j / 6)=r:=by rw [List.getElem?_map,List.getElem?_range hi] at hr; simpa using hr
  obtain ⟨b,off,_,_,ha,hcell⟩:=hf (j / 6) hi
  refine ⟨b,off,ha,?_⟩
  have:=hcell (j % 6) u hu'
  rw [show off+j / 6 * 6+j % 6=off+j by omega] at this
  exact this
theorem EnvAt.of_row {w:World} {S:Nat→Prop} {d m B:Nat} {v:Value} {rs:List CloV} (h:w.ownsRow B 78 6 v rs.length (rs.flatMap CloV.cells)) (hS:∀ b,B≤b→S b) (hl:rs.length≤1000000) (hr:∀ r ∈ rs,r.Ok w S d m):EnvAt w S d (m+1) v (rs.map CloV.c):=by
 rcases h.2 with ⟨rfl,h0⟩ | ⟨g,cap,cur,rfl,hb,hc,hn,hcm,hs,ht⟩
 ·obtain rfl:rs=[]:=List.length_eq_zero_iff.1 h0
  exact EnvAt.nil none 0 (fun _=>rfl)
 ·refine ⟨_,_,by rw [List.length_map],by rw [List.length_map]; exact hl,fun h=>(by cases h),fun i c hi => ?_⟩
  rw [List.getElem?_map] at hi
  obtain ⟨r,hri,rfl⟩:=Option.map_eq_some_iff.1 hi
  obtain ⟨r1,r2,r3,hk,he,_,_⟩:=hr r (List.mem_of_getElem? hri)
  have hcell:∀ k u,k<6→r.cells[k]? = some u→w.cell? ⟨g,0+i * 6+k,none⟩=some u:=fun k u hk hu=>by
   have:=h.cells (g:=g) rfl (i * 6+k) u ((flat6_at rs i k r hk hri).trans hu)
   rw [addr_add] at this
   rw [Nat.zero_add]
   simpa using this
  exact ⟨g,0,r.kv,r.ev,rfl,hS g hb,(Array.getElem?_eq_some_iff.1 hc).1,hcell 0 _ (by omega) rfl,hcell 1 _ (by omega) rfl,hcell 2 _ (by omega) rfl,hcell 3 _ (by omega) rfl,hcell 4 _ (by omega) rfl,hcell 5 _ (by omega) rfl,r1,r2,r3,hk,he⟩
end Go.Proofs.YtljdgmfcgkimoaaGreatDoor

namespace Go.Proofs.YtljdgmfcgkimoaaGreatDoor
open Go.RowKit Go.Joins
set_option maxRecDepth 100000
theorem infoClo:(Tryz.prog.info? 78).map (fun i=>(i.zero,i.size,i.bytes))=some (some (.agg #[.int .i64 0,.int .i64 0,.string ⟨#[]⟩,.slice none 0 0,.slice none 0 0,.bool false]),6,88):=by kernel_rfl
theorem clo_one {w:World} {S:Nat→Prop} {d m:Nat} {rs:List CloV} (h:∀ r ∈ rs,r.Ok w S d m):∀ u ∈ rs.flatMap CloV.cells,u.oneCell'=true:=by
 intro u hu
 obtain ⟨r,hr,hu⟩:=List.mem_flatMap.1 hu
 obtain ⟨_,_,_,_,_,h1,h2⟩:=h r hr
 simp only [CloV.cells,List.mem_cons,List.not_mem_nil,or_false] at hu
 rcases hu with rfl | rfl | rfl | rfl | rfl | rfl
 ·rfl
 ·rfl
 ·rfl
 ·exact h1
 ·exact h2
 ·rfl
theorem CloV.Ok.kept {w w':World} {S:Nat→Prop} {d m:Nat} {r:CloV} (h:r.Ok w S d m) (hb:Below w.heap.size w w'):r.Ok w' S d m:=by
 obtain ⟨h1,h2,h3,h4,h5,h6,h7⟩:=h
 exact ⟨h1,h2,h3,h4.below hb,h5.below hb,h6,h7⟩
theorem erow_empty (w:World) (base:Nat) (e:TypeId) (size:Nat) (h:base≤w.heap.size):(w.alloc (.cells #[] e)).ownsRow base e size (.slice (some ⟨w.heap.size,0,none⟩) 0 0) 0 [] :=
 World.ownsRow_made (size:=size) (e:=e) w #[] 0 h (Nat.zero_le _) (by simp)
set_option maxHeartbeats 800000 in
theorem l03With_any (v1 v2:Value) (cs ds:List Clo) (S:Nat→Prop) (d m:Nat) (w:World) (h1:EnvAt w S d (m+1) v1 cs) (h2:EnvAt w S d (m+1) v2 ds) (hS:∀ b,w.heap.size≤b→S b) (hl:cs.length+ds.length≤1000000) :
  Calls Tryz.prog 89 #[v1,v2] w fun e w'=>∃ v,e = .returned v∧EnvAt w' S d (m+1) v (cs ++ ds)∧Below w.heap.size w w':=by
 obtain ⟨i0,hi,hz0,hz1,hz2⟩:=info_parts infoClo
 obtain ⟨a1,c1,rfl,hz1'⟩:=h1.form
 obtain ⟨a2,c2,rfl,hz2'⟩:=h2.form
 obtain ⟨rs1,rfl,ok1,n1⟩:=h1.rows
 obtain ⟨rs2,rfl,ok2,n2⟩:=h2.rows
 simp only [List.length_map] at hl ⊢
 have B0:Below w.heap.size w (w.alloc (.cells #[] 78)):=(Below.refl _ w).alloc (Nat.le_refl _) _
 have P3:(w.alloc (.cells #[] 78)).heap.size=w.heap.size+1:=by simp
 have hown0:=erow_empty w w.heap.size 78 6 (Nat.le_refl _)
 have HB:=(show Hid (_∧_∧_∧_∧_) from ⟨B0,ok1,ok2,n1,n2⟩)
 have fin:∀ (v2:Value) (w1 w2:World),Below w.heap.size w w2→w2.ownsRow w.heap.size 78 6 v2 (0+rs1.length+rs2.length) ([] ++ rs1.flatMap CloV.cells ++ rs2.flatMap CloV.cells)→EnvAt w2 S d (m+1) v2 (rs1.map CloV.c ++ rs2.map CloV.c):=by
  intro v2 _ w2 hb hown
  rw [← List.map_append]
  refine EnvAt.of_row (B:=w.heap.size) ?_ hS (by rw [List.length_append]; omega) (fun r hr => ?_)
  ·rw [List.length_append,List.flatMap_append]
   rw [Nat.zero_add,List.nil_append] at hown
   exact hown
  ·rcases List.mem_append.1 hr with hr | hr
   ·exact (ok1 r hr).kept hb
   ·exact (ok2 r hr).kept hb
 have HF:=(show Hid (_∧True) from ⟨fin,trivial⟩)
 clear h1 h2 B0 ok1 ok2 n1 n2 fin
 have key1:∀ (ad:Addr),a1=some ad→∀ j u,(rs1.flatMap CloV.cells)[j]? = some u→(w.alloc (.cells #[] 78)).cell? (ad.add j)=some u:=fun ad ha j u hu=>by
  obtain ⟨b,off,hb,hc⟩:=HB.out.2.2.2.1 j u hu
  rw [ha] at hb
  cases hb
  rw [addr_add]
  exact (HB.out.1.cell (World.block_lt_of_cell? _ _ hc)).trans hc
 go_enter Tryz.func89,Tryz.ntmps89
 cases a1 with
 | none =>
  obtain rfl:=hz1' rfl
  obtain rfl:rs1=[]:=by
   cases rs1 with
   | nil=>rfl
   | cons r t=>obtain ⟨b,off,hb,_⟩:=HB.out.2.2.2.1 0 (.int .i64 r.c.ex.kind) rfl; cases hb
  simp only [List.length_nil]
  cases a2 with
  | none =>
   obtain rfl:=hz2' rfl
   obtain rfl:rs2=[]:=by
    cases rs2 with
    | nil=>rfl
    | cons r t=>obtain ⟨b,off,hb,_⟩:=HB.out.2.2.2.2 0 (.int .i64 r.c.ex.kind) rfl; cases hb
   simp only [List.length_nil]
   have hb3:=HB.out.1
   go_wp2_with (at_builtin; refine wpList_append_own_none rfl _ _ 76 rfl w.heap.size 78 i0 6 Tryz.underlying76 hi _ 0 [] rfl hown0 rfl ?_)
   go_ret
   exact ⟨_,rfl,HF.out.1 _ w _ hb3 hown0,hb3⟩
  | some ad2 =>
   have hb3:=HB.out.1
   go_wp2_with (first
    | (at_builtin; refine wpList_append_own _ rfl _ _ 76 rfl w.heap.size 78 i0 _ 6 88 Tryz.underlying76 hi hz0 hz1 hz2 rfl (by decide) _ 0 [] rfl hown0 ad2 rs2.length c2 (rs2.flatMap CloV.cells) rfl (flat6_len rs2) (fun j u hu=>by obtain ⟨b,off,hb,hc⟩:=HB.out.2.2.2.2 j u hu; cases hb; rw [addr_add]; exact (hb3.cell (World.block_lt_of_cell? _ _ hc)).trans hc) (clo_one HB.out.2.2.1) (by unfold maxLen; omega) (by omega) (by have:=hb3.size; omega) ?_; intro v4 w4 hown4 hgrow4 hnil4; have hb4:Below w.heap.size w w4:=hb3.grown hgrow4 (by have:=hb3.size; omega) (fun k hk=>(hown0.lt k hk).1))
    | (at_builtin; refine wpList_append_own_none rfl _ _ 76 rfl w.heap.size 78 i0 6 Tryz.underlying76 hi _ 0 [] rfl hown0 rfl ?_))
   go_ret
   exact ⟨v4,rfl,HF.out.1 v4 w w4 hb4 (by simpa using hown4),hb4⟩
 | some ad1 =>
  cases a2 with
  | none =>
   obtain rfl:=hz2' rfl
   obtain rfl:rs2=[]:=by
    cases rs2 with
    | nil=>rfl
    | cons r t=>obtain ⟨b,off,hb,_⟩:=HB.out.2.2.2.2 0 (.int .i64 r.c.ex.kind) rfl; cases hb
   simp only [List.length_nil]
   go_wp2_with (first
    | (at_builtin; refine wpList_append_own _ rfl _ _ 76 rfl w.heap.size 78 i0 _ 6 88 Tryz.underlying76 hi hz0 hz1 hz2 rfl (by decide) _ 0 [] rfl hown0 ad1 rs1.length c1 (rs1.flatMap CloV.cells) rfl (flat6_len rs1) (key1 ad1 rfl) (clo_one HB.out.2.1) (by unfold maxLen; omega) (by omega) (by simp) ?_; intro v3 w3 hown3 hgrow3 hnil3; have hb3:Below w.heap.size w w3:=HB.out.1.grown hgrow3 (by simp) (fun k hk=>(hown0.lt k hk).1))
    | (at_builtin; refine wpList_append_own_none rfl _ _ 76 rfl w.heap.size 78 i0 6 Tryz.underlying76 hi _ (0+rs1.length) _ rfl hown3 rfl ?_))
   go_ret
   exact ⟨v3,rfl,by simpa using HF.out.1 v3 w w3 hb3 (by simpa using hown3),hb3⟩
  | some ad2 =>
   go_wp2_with (first
    | (at_builtin; refine wpList_append_own _ rfl _ _ 76 rfl w.heap.size 78 i0 _ 6 88 Tryz.underlying76 hi hz0 hz1 hz2 rfl (by decide) _ 0 [] rfl hown0 ad1 rs1.length c1 (rs1.flatMap CloV.cells) rfl (flat6_len rs1) (key1 ad1 rfl) (clo_one HB.out.2.1) (by unfold maxLen; omega) (by omega) (by simp) ?_; intro v3 w3 hown3 hgrow3 hnil3; have hb3:Below w.heap.size w w3:=HB.out.1.grown hgrow3 (by simp) (fun k hk=>(hown0.lt k hk).1))
    | (at_builtin; refine wpList_append_own _ rfl _ _ 76 rfl w.heap.size 78 i0 _ 6 88 Tryz.underlying76 hi hz0 hz1 hz2 rfl (by decide) _ (0+rs1.length) _ rfl hown3 ad2 rs2.length c2 (rs2.flatMap CloV.cells) rfl (flat6_len rs2) (fun j u hu=>by obtain ⟨b,off,hb,hc⟩:=HB.out.2.2.2.2 j u hu; cases hb; rw [addr_add]; exact (hb3.cell (World.block_lt_of_cell? _ _ hc)).trans hc) (clo_one HB.out.2.2.1) (by unfold maxLen; omega) (by omega) (by have:=hb3.size; omega) ?_; intro v4 w4 hown4 hgrow4 hnil4; have hb4:Below w.heap.size w w4:=hb3.grown hgrow4 (by have:=hb3.size; omega) (fun k hk=>(hown3.lt k hk).1)))
   go_ret
   exact ⟨v4,rfl,HF.out.1 v4 w3 w4 hb4 hown4,hb4⟩
end Go.Proofs.YtljdgmfcgkimoaaGreatDoor

namespace Go.Proofs.YtljdgmfcgkimoaaGreatDoor
open Go.RowKit Go.Joins
set_option maxRecDepth 100000
mutual
def Clo.good (T:Int):Clo→Prop
 | .mk e es r=>(∃ deep,e.right ((es.length:Int)+(if r=true then 1 else 0)) T deep=true)∧Clo.goodL T es
def Clo.goodL (T:Int):List Clo→Prop
 | []=>True
 | c :: r=>c.good T∧Clo.goodL T r
end
theorem goodL_iff (T:Int):∀ cs:List Clo,Clo.goodL T cs↔∀ c ∈ cs,c.good T
 | []=>by simp [Clo.goodL]
 | c :: r=>by rw [Clo.goodL,goodL_iff T r]; simp
theorem Clo.good_eq (T:Int) (c:Clo):c.good T↔(∃ deep,c.ex.right ((c.env.length:Int)+(if c.own=true then 1 else 0)) T deep=true)∧Clo.goodL T c.env:=by cases c; rw [Clo.good]; rfl
theorem goodL_append {T:Int} {a b:List Clo} (ha:Clo.goodL T a) (hb:Clo.goodL T b):Clo.goodL T (a ++ b):=by
 rw [goodL_iff] at *
 intro c hc
 rcases List.mem_append.1 hc with h | h
 ·exact ha c h
 ·exact hb c h
theorem goodL_one {T:Int} {c:Clo} (h:c.good T):Clo.goodL T [c]:=by rw [goodL_iff]; intro x hx; simp at hx; subst hx; exact h
theorem Clo.scope_good {T:Int} {c:Clo} (h:c.good T):Clo.goodL T c.scope∧∃ deep,c.ex.right (c.scope.length:Int) T deep=true:=by
 have h':=(c.good_eq T).1 h
 unfold Clo.scope
 by_cases ho:c.own=true
 ·rw [if_pos ho]
  rw [if_pos ho] at h'
  refine ⟨goodL_append h'.2 (goodL_one h),?_⟩
  obtain ⟨d,hd⟩:=h'.1
  exact ⟨d,by rw [List.length_append]; simpa using hd⟩
 ·rw [if_neg ho]
  rw [if_neg ho] at h'
  obtain ⟨d,hd⟩:=h'.1
  exact ⟨h'.2,d,by simpa using hd⟩
def Vl.good (T:Int):Vl→Prop
 | .num n=>inI64 n
 | .nil=>True
 | .pair h t=>h.good T∧t.good T
 | .fn l x en=>1≤l∧l≤6∧Clo.goodL T en∧∃ deep,x.right ((en.length:Int)+l) T deep=true
def Vl.kind:Vl→Int
 | .num _=>0
 | .nil=>1
 | .pair _ _=>2
 | .fn _ _ _=>3
def VSh (w:World) (S:Nat→Prop) (d m:Nat) (v:Value) (k n:Int) (e:Ex) (en:List Clo):Prop :=
 ∃ kv ev,v = .agg #[.int .i64 k,.int .i64 n,.int .i64 e.kind,.int .i64 e.n,.string e.text,kv,ev]∧inI64 e.kind∧inI64 e.n∧e.text.size≤maxLen∧KidsAt w S d kv e.kids∧EnvAt w S d m ev en
def VAt (w:World) (S:Nat→Prop) (d m:Nat) (v:Value):Vl→Prop
 | .num n=>∃ e,VSh w S d m v 0 n e []
 | .nil=>∃ n e,VSh w S d m v 1 n e []
 | .pair h t=>∃ n e,VSh w S d m v 2 n e [h,t]
 | .fn l x en=>VSh w S d m v 3 l x en
def VJ (w:World) (S:Nat→Prop) (d m:Nat) (v:Value):Prop:=∃ k n e en,VSh w S d m v k n e en∧en.length≤1000
theorem VSh.kept {w w':World} {S:Nat→Prop} {d m:Nat} {v:Value} {k n:Int} {e:Ex} {en:List Clo} (h:VSh w S d m v k n e en) (hw:∀ b,S b→b<w.heap.size→w'.heap[b]? = w.heap[b]?) (hsz:w.heap.size≤w'.heap.size):VSh w' S d m v k n e en:=by
 obtain ⟨kv,ev,hv,h1,h2,h3,hk,he⟩:=h
 exact ⟨kv,ev,hv,h1,h2,h3,hk.kept hw hsz (fun _ h _=>h),he.kept hw hsz (fun _ h _=>h)⟩
theorem VSh.deep {w:World} {S:Nat→Prop} {d m m':Nat} {v:Value} {k n:Int} {e:Ex} {en:List Clo} (h:VSh w S d m v k n e en) (hm:m≤m'):VSh w S d m' v k n e en:=by
 obtain ⟨kv,ev,hv,h1,h2,h3,hk,he⟩:=h
 exact ⟨kv,ev,hv,h1,h2,h3,hk,he.deep hm⟩
theorem VJ.zero (w:World) (S:Nat→Prop) (d m:Nat):VJ w S (d+1) (m+1) (.agg #[.int .i64 0,.int .i64 0,.int .i64 0,.int .i64 0,.string ⟨#[]⟩,.slice none 0 0,.slice none 0 0]) :=
 ⟨0,0,.mk 0 0 ⟨#[]⟩ [],[],⟨_,_,rfl,by unfold inI64; decide,by unfold inI64; decide,Nat.zero_le _,⟨none,0,rfl,Nat.zero_le _,fun i e h=>by have h:([]:List Ex)[i]? = some e:=h; simp at h⟩,EnvAt.nil none 0 (fun _=>rfl)⟩,by simp⟩
end Go.Proofs.YtljdgmfcgkimoaaGreatDoor

namespace Go.Proofs.YtljdgmfcgkimoaaGreatDoor
open Go.RowKit Go.Joins
set_option maxRecDepth 100000
def Rs.code:Rs→Int
 | .ok _=>0
 | .err c=>c
def VR (w:World) (S:Nat→Prop) (d:Nat) (P:List Ex) (v:Value) (r:Rs):Prop :=
 ∃ m,match r with
  | .ok x=>VAt w S d m v x∧x.good (P.length:Int)
  | .err c=>VJ w S d m v∧c≠0
structure Sv (w:World) (S:Nat→Prop) (d rb:Nat) (bv:Value) (P:List Ex):Prop where
 new:∀ x,w.heap.size≤x→S x
 rb:¬ S rb
 bodies:KidsAt w S d bv P
structure Cx (w:World) (S:Nat→Prop) (d:Nat) (e:Ex) (env:List Clo) (xv envv:Value):Prop where
 ex:ExAt w S d xv e
 env:∃ m,EnvAt w S d m envv env
def Ok (P:List Ex) (e:Ex) (env:List Clo):Prop:=(∃ deep,e.right (env.length:Int) (P.length:Int) deep=true)∧Clo.goodL (P.length:Int) env
structure Mv (w w':World) (S S':Nat→Prop):Prop where
 block:∀ b,S b→b<w.heap.size→w'.heap[b]? = w.heap[b]?
 size:w.heap.size≤w'.heap.size
 sub:∀ b,S b→b<w.heap.size→S' b
theorem Mv.trans {w w' w'':World} {S S' S'':Nat→Prop} (h:Mv w w' S S') (k:Mv w' w'' S' S''):Mv w w'' S S'' :=
 ⟨fun b hb hl=>(k.block b (h.sub b hb hl) (Nat.lt_of_lt_of_le hl h.size)).trans (h.block b hb hl),Nat.le_trans h.size k.size,fun b hb hl=>k.sub b (h.sub b hb hl) (Nat.lt_of_lt_of_le hl h.size)⟩
theorem Mv.refl (w:World) (S:Nat→Prop):Mv w w S S:=⟨fun _ _ _=>rfl,Nat.le_refl _,fun _ h _=>h⟩
theorem Mv.wide (w:World) {S S':Nat→Prop} (h:∀ b,S b→S' b):Mv w w S S':=⟨fun _ _ _=>rfl,Nat.le_refl _,fun b hb _=>h b hb⟩
def but (S:Nat→Prop) (g:Nat):Nat→Prop:=fun x=>S x∧x≠g
theorem Mv.alloc (w:World) (S:Nat→Prop) (o:Obj):Mv w (w.alloc o) S (but S w.heap.size) :=
 ⟨fun b _ hl=>Below.heap_alloc w o b hl,by simp,fun b hb hl=>⟨hb,by omega⟩⟩
theorem Mv.set (w:World) {S:Nat→Prop} {a:Addr} (u:Value) (h:¬ S a.block):Mv w (w.setCell a u) S S :=
 ⟨fun b hb _=>Below.heap_setCell w a u b (fun e=>h (e ▸ hb)),by simp,fun _ hb _=>hb⟩
theorem Mv.kb {w w':World} {S X:Nat→Prop} (h:KB X w w') (hx:∀ b,X b→¬ S b):Mv w w' S S :=
 ⟨fun b hb hl=>h.block b hl (fun hX=>hx b hX hb),h.size,fun _ hb _=>hb⟩
theorem ExAt.move {w w':World} {S S':Nat→Prop} {d:Nat} {v:Value} {e:Ex} (h:ExAt w S d v e) (k:Mv w w' S S'):ExAt w' S' d v e:=by
 obtain ⟨kv,hv,h1,h2,h3,h4⟩:=h
 exact ⟨kv,hv,h1,h2,h3,h4.kept k.block k.size k.sub⟩
theorem VSh.move {w w':World} {S S':Nat→Prop} {d m:Nat} {v:Value} {k n:Int} {e:Ex} {en:List Clo} (h:VSh w S d m v k n e en) (g:Mv w w' S S'):VSh w' S' d m v k n e en:=by
 obtain ⟨kv,ev,hv,h1,h2,h3,hk,he⟩:=h
 exact ⟨kv,ev,hv,h1,h2,h3,hk.kept g.block g.size g.sub,he.kept g.block g.size g.sub⟩
theorem VAt.move {w w':World} {S S':Nat→Prop} {d m:Nat} {v:Value} {x:Vl} (h:VAt w S d m v x) (g:Mv w w' S S'):VAt w' S' d m v x:=by
 cases x with
 | num n=>obtain ⟨e,h⟩:=h; exact ⟨e,h.move g⟩
 | nil=>obtain ⟨n,e,h⟩:=h; exact ⟨n,e,h.move g⟩
 | pair a b=>obtain ⟨n,e,h⟩:=h; exact ⟨n,e,h.move g⟩
 | fn l x en=>exact VSh.move h g
theorem VJ.move {w w':World} {S S':Nat→Prop} {d m:Nat} {v:Value} (h:VJ w S d m v) (g:Mv w w' S S'):VJ w' S' d m v:=by
 obtain ⟨k,n,e,en,h,hl⟩:=h
 exact ⟨k,n,e,en,h.move g,hl⟩
theorem VR.move {w w':World} {S S':Nat→Prop} {d:Nat} {P:List Ex} {v:Value} {r:Rs} (h:VR w S d P v r) (g:Mv w w' S S'):VR w' S' d P v r:=by
 obtain ⟨m,h⟩:=h
 cases r with
 | ok x=>exact ⟨m,h.1.move g,h.2⟩
 | err c=>exact ⟨m,h.1.move g,h.2⟩
theorem Cx.move {w w':World} {S S':Nat→Prop} {d:Nat} {e:Ex} {env:List Clo} {xv envv:Value} (h:Cx w S d e env xv envv) (g:Mv w w' S S'):Cx w' S' d e env xv envv:=by
 obtain ⟨h1,m,h2⟩:=h
 exact ⟨h1.move g,m,h2.kept g.block g.size g.sub⟩
theorem Sv.move {w w':World} {S S':Nat→Prop} {d rb:Nat} {bv:Value} {P:List Ex} (h:Sv w S d rb bv P) (g:Mv w w' S S') (hn:∀ x,w'.heap.size≤x→S' x) (hr:¬ S' rb):Sv w' S' d rb bv P :=
 ⟨hn,hr,h.bodies.kept g.block g.size g.sub⟩
theorem but_new {S:Nat→Prop} {g n:Nat} (h:∀ x,n≤x→S x) (hg:g<n):∀ x,n≤x→but S g x:=fun x hx=>⟨h x hx,by omega⟩
theorem but_not {S:Nat→Prop} {g rb:Nat} (h:¬ S rb):¬ but S g rb:=fun k=>h k.1
theorem but_sub {S:Nat→Prop} {g:Nat}:∀ b,but S g b→S b:=fun _ h=>h.1
theorem new_le {S:Nat→Prop} {n n':Nat} (h:∀ x,n≤x→S x) (hn:n≤n'):∀ x,n'≤x→S x:=fun x hx=>h x (Nat.le_trans hn hx)
def RunAt (w:World) (rb:Nat) (nv bv:Value) (f:Nat) (c:Int):Prop:=w.heap[rb]? = some (.cells #[nv,bv,.int .i64 (f:Int),.int .i64 c] 74)
theorem RunAt.move {w w':World} {rb:Nat} {nv bv:Value} {f:Nat} {c:Int} (h:RunAt w rb nv bv f c) (hb:w'.heap[rb]? = w.heap[rb]?):RunAt w' rb nv bv f c:=hb.trans h
def evC (P:List Ex) (b:Nat) (c:Int) (f:Nat) (e:Ex) (env:List Clo):Rs×Nat:=if c=0 then ev P b f e env else (.err c,f)
structure Aft (P:List Ex) (S:Nat→Prop) (d rb:Nat) (nv bv:Value) (w w':World) (v:Value) (r:Rs×Nat):Prop where
 kb:KB (· = rb) w w'
 vr:VR w' S d P v r.1
 run:RunAt w' rb nv bv r.2 r.1.code
def EvS (P:List Ex) (nv bv:Value) (rb d b:Nat):Prop:=∀ (S:Nat→Prop) (f:Nat) (e:Ex) (env:List Clo) (xv envv:Value) (w:World) (c:Int),
 f≤b→RunAt w rb nv bv f c→Sv w S d rb bv P→Cx w S d e env xv envv→(c=0→Ok P e env) →
 Calls Tryz.prog 88 #[.pointer (some ⟨rb,0,none⟩),xv,envv] w fun r w'=>∃ v,r = .returned v∧Aft P S d rb nv bv w w' v (evC P b c f e env)
def wantK (r:Rs×Nat) (a b:Int):Rs×Nat :=
 match r with
 | (.ok x,f)=>if x.kind=a∨x.kind=b then (.ok x,f) else (.err 2,f)
 | (.err c,f)=>(.err c,f)
theorem Ok.len {P:List Ex} {e:Ex} {env:List Clo} (h:Ok P e env):env.length≤90:=by
 obtain ⟨⟨deep,h1⟩,-⟩:=h
 have:=((right_iff _ _ _ _).1 h1).2.1
 omega
theorem VAt.sh {w:World} {S:Nat→Prop} {d m:Nat} {v:Value} {x:Vl} {T:Int} (h:VAt w S d m v x) (hg:x.good T):∃ n e en,VSh w S d m v x.kind n e en∧en.length≤1000:=by
 cases x with
 | num n=>obtain ⟨e,h⟩:=h; exact ⟨n,e,[],h,by simp⟩
 | nil=>obtain ⟨n,e,h⟩:=h; exact ⟨n,e,[],h,by simp⟩
 | pair a b=>obtain ⟨n,e,h⟩:=h; exact ⟨n,e,_,h,by simp⟩
 | fn l x en =>
  obtain ⟨h1,h2,h3,deep,h4⟩:=hg
  have:=((right_iff _ _ _ _).1 h4).2.1
  exact ⟨l,x,en,h,by omega⟩
theorem VSh.form {w:World} {S:Nat→Prop} {d m:Nat} {v:Value} {k n:Int} {e:Ex} {en:List Clo} (h:VSh w S d m v k n e en):∃ a c a' c',v = .agg #[.int .i64 k,.int .i64 n,.int .i64 e.kind,.int .i64 e.n,.string e.text,.slice a e.kids.length c,.slice a' en.length c']∧KidsAt w S d (.slice a e.kids.length c) e.kids∧EnvAt w S d m (.slice a' en.length c') en∧(a'=none→c'=0):=by
 obtain ⟨kv,ev,rfl,-,-,-,hk,he⟩:=h
 obtain ⟨a,c,rfl⟩:=hk.form
 obtain ⟨a',c',rfl,hz⟩:=he.form
 exact ⟨a,c,a',c',rfl,hk,he,hz⟩
theorem VR.junk {w:World} {S:Nat→Prop} {d:Nat} {P:List Ex} {v:Value} {r:Rs} (h:VR w S d P v r):∃ m k n e en,VSh w S d m v k n e en∧en.length≤1000∧(∀ x,r = .ok x→k=x.kind)∧(r.code=0→∃ x,r = .ok x):=by
 obtain ⟨m,h⟩:=h
 cases r with
 | ok x =>
  obtain ⟨n,e,en,hs,hl⟩:=h.1.sh h.2
  exact ⟨m,_,n,e,en,hs,hl,fun y hy=>by cases hy; rfl,fun _=>⟨x,rfl⟩⟩
 | err c =>
  obtain ⟨⟨k,n,e,en,hs,hl⟩,hc⟩:=h
  exact ⟨m,k,n,e,en,hs,hl,fun y hy=>(by cases hy),fun hz=>absurd hz hc⟩
end Go.Proofs.YtljdgmfcgkimoaaGreatDoor
