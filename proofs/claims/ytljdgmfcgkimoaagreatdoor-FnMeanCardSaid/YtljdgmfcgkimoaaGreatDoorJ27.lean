/-
  Proofs.
  Proofs.
-/
import Derived.Test.YtljdgmfcgkimoaaGreatDoorJ1
import Derived.Test.YtljdgmfcgkimoaaGreatDoorProgDraw
import Derived.Test.YtljdgmfcgkimoaaGreatDoorJ4
import Derived.Lib.ItoaNum
namespace Go.Proofs.YtljdgmfcgkimoaaGreatDoor
open Go.RowKit Go.Joins Go.Shelf
set_option maxRecDepth 100000
theorem CodeIs.up {w w':World} {V:Value} {len:Nat} (h:CodeIs w.heap.size w V len) (hb:Below w.heap.size w w'):CodeIs w'.heap.size w' V len:=by
 obtain ⟨a,cap,hv,hl,hc⟩:=h.kept (fun k hk=>hb.block k hk)
 refine ⟨a,cap,hv,hl,fun h0 => ?_⟩
 obtain ⟨b,off,ha,hb1,hcell⟩:=hc h0
 exact ⟨b,off,ha,Nat.lt_of_lt_of_le hb1 hb.size,hcell⟩
theorem PrAt.keptP {w w':World} {B B' d:Nat} {v:Value} {p:Pr} (h:PrAt w (fun b=>B≤b∧Pl w b) d v p) (hk:∀ b,B≤b→b<w.heap.size→w'.heap[b]? = w.heap[b]?) (hs:w.heap.size≤w'.heap.size) (hB:B'≤B):PrAt w' (fun b=>B'≤b∧Pl w' b) d v p:=by
 obtain ⟨nv,bv,hv,h1,h2⟩:=h
 exact ⟨nv,bv,hv,h1.kept (fun b hb hlt=>hk b hb.1 hlt) hs (fun b hb hlt=>⟨Nat.le_trans hB hb.1,hb.2.of (hk b hb.1 hlt)⟩),h2.kept (fun b hb hlt=>hk b hb.1 hlt) hs (fun b hb hlt=>⟨Nat.le_trans hB hb.1,hb.2.of (hk b hb.1 hlt)⟩)⟩
set_option maxHeartbeats 6400000 in
theorem drawMean_any (V:Value) (len:Nat) (w:World) (hcode:CodeIs w.heap.size w V len) :
  Calls Tryz.prog 5 #[V] w fun e w'=>∃ (nv bv:Value) (z:Int),e = .returned (.tuple #[.agg #[nv,bv],.int .i64 z]) ∧ -1≤z∧z≤100001∧(∃ d p,PrAt w' (fun b=>w.heap.size≤b∧Pl w' b) d (.agg #[nv,bv]) p∧p.names.length≤2001)∧Below w.heap.size w w':=by
 obtain ⟨W1,hW1⟩:∃ W1,W1=w.alloc (.cells #[.slice none 0 0,.slice none 0 0] 27):=⟨_,rfl⟩
 have b1:Below w.heap.size w W1:=by rw [hW1]; exact (Below.refl _ w).alloc (Nat.le_refl _) _
 have z1:W1.heap.size=w.heap.size+1:=by rw [hW1]; simp
 have x1:W1.heap[w.heap.size]? = some (.cells #[.slice none 0 0,.slice none 0 0] 27):=by rw [hW1]; exact block_new w _
 have H1:=(show Hid (Below w.heap.size w W1∧w.heap.size<W1.heap.size∧W1.heap[w.heap.size]? = some (.cells #[.slice none 0 0,.slice none 0 0] 27)∧CodeIs W1.heap.size W1 V len) from ⟨b1,by omega,x1,hcode.up b1⟩)
 clear b1 z1 x1 hcode
 go_enter Tryz.func5,Tryz.ntmps5
 go_upto_region 1 with fail
 rw [← hW1]
 clear hW1
 go_wp2_with fail
 refine (new_dr V len W1 H1.out.2.2.2).mono ?_
 rintro e W2 ⟨rfl,d2,b2⟩
 have H2:=(show Hid (Dr W1.heap.size W2 W1.heap.size V len∧Below W1.heap.size W1 W2) from ⟨d2,b2⟩)
 clear d2 b2
 go_wp2_with fail
 refine (l02program_dr W1.heap.size W1.heap.size V len W2 H2.out.1).mono ?_
 rintro e W3 ⟨v,rfl,⟨nv,bv,rfl⟩,po⟩
 obtain ⟨⟨d,p,hp,hpl⟩,d3,g3⟩:=po
 have H3:=(show Hid (PrAt W3 (fun b=>W2.heap.size≤b∧Pl W3 b) d (.agg #[nv,bv]) p∧p.names.length≤2001∧Dr W1.heap.size W3 W1.heap.size V len∧W2.grownBy W3 (some W1.heap.size)) from ⟨hp,hpl,d3,g3⟩)
 obtain ⟨nv',bv',hv,hn,hk⟩:=hp
 simp only [Value.agg.injEq,Array.mk.injEq,List.cons.injEq,and_true] at hv
 obtain ⟨rfl,rfl⟩:=hv
 obtain ⟨an,cn,rfl⟩:=hn.form
 obtain ⟨ab,cb,rfl⟩:=hk.form
 clear hn hk hpl d3 g3
 obtain ⟨W4,e4⟩:∃ W4,W4=W3.alloc (.cells #[.slice an p.names.length cn,.slice ab p.bodies.length cb] 27):=⟨_,rfl⟩
 have x4:W4.heap[W3.heap.size]? = some (.cells #[.slice an p.names.length cn,.slice ab p.bodies.length cb] 27):=by rw [e4]; exact block_new _ _
 have b4:Below W3.heap.size W3 W4:=by rw [e4]; exact (Below.refl _ _).alloc (Nat.le_refl _) _
 have H4:=(show Hid (_∧_) from ⟨x4,b4⟩)
 clear x4 b4
 go_upto_region 3 with fail
 rw [← e4]
 clear e4
 rename_i KA hKA
 have ya:=cbk H4.out.1 0 (.slice an p.names.length cn) rfl
 have yb:=cbk H4.out.1 1 (.slice ab p.bodies.length cb) rfl
 refine wp_region_held_drew (S:=fun Wq=>Wq.cell? ⟨W3.heap.size,0,none⟩=some (.slice an p.names.length cn)∧Wq.cell? ⟨W3.heap.size,1,none⟩=some (.slice ab p.bodies.length cb)) (by kernel_rfl) ⟨ya,yb⟩ (fun hS => ?_)
 have bd0:Below W4.heap.size W4 W4.drew:=⟨rfl,rfl,rfl,Nat.le_refl _,fun _ _=>rfl⟩
 generalize W4.drew=W5 at bd0 hS ⊢
 refine wpAnyH_take (i:=0) (v:=.agg #[.slice an p.names.length cn,.slice ab p.bodies.length cb]) rfl (by kernel_rfl) (by kernel_rfl) (by kernel_rfl) (fun _ _ _ h=>h) (Or.inl ⟨by rfl,fun wq hSw => ?_⟩) hS ?_
 ·simp [execOp,Act.eval,go_sem,hSw.1,hSw.2]
 simp only [Act.put,lsk]
 refine wpAnyH_take (i:=1) (v:=.pointer (some ⟨W1.heap.size,0,none⟩)) rfl (by kernel_rfl) (by kernel_rfl) (by kernel_rfl) (fun _ _ _ h=>h) (Or.inl ⟨by rfl,fun wq hSw => ?_⟩) hS ?_
 ·exact ex_move _ _ _ _ rfl (by rfl) _
 simp only [Act.put,lsk]
 obtain ⟨W6,e6⟩:∃ W',W'=W5.alloc (.cells (([3000,3000,50,5,0,-1,100001]:List Int).map (fun z=>Value.int .i64 z)).toArray 3):=⟨_,rfl⟩
 have b6:Below W5.heap.size W5 W6:=by rw [e6]; exact (Below.refl _ _).alloc (Nat.le_refl _) _
 have hil:=ints_lit [3000,3000,50,5,0,-1,100001] W5
 rw [← e6] at hil
 have b46:Below W4.heap.size W4 W6:=bd0.trans (b6.mono bd0.size)
 have b36:Below W3.heap.size W3 W6:=H4.out.2.trans (b46.mono H4.out.2.size)
 have d6:=H3.out.2.2.1.below b36
 have x6:=(b46.block _ (lh H4.out.1)).trans H4.out.1
 refine wpAnyH_ready (rs:=[2]) (by kernel_rfl) (by simp) ?_
 refine AllReadyH.cons rfl (fun K hK => ?_) (AllReadyH.nil)
 refine step_run rfl (.slice (some ⟨W5.heap.size,0,none⟩) 7 7) W6 (by rw [e6]; simp [execOp,Act.eval,go_sem]) ?_
 have hS:(fun Wq:World=>Wq.cell? ⟨W3.heap.size,0,none⟩=some (.slice an p.names.length cn)∧Wq.cell? ⟨W3.heap.size,1,none⟩=some (.slice ab p.bodies.length cb)) W6:=⟨by rw [cell_of_block x6]; rfl,by rw [cell_of_block x6]; rfl⟩
 refine hK _ _ hS (fun _ => ?_)
 clear hK K
 simp only [Act.put,lsk]
 refine wpAnyH_ready (rs:=[3]) (by kernel_rfl) (by simp) ?_
 refine AllReadyH.cons rfl (fun K hK => ?_) (AllReadyH.nil)
 refine step_callTwo rfl 15 (.tmp 11) (.tmp 12) _ rfl ent_pickInt (.pointer (some ⟨W1.heap.size,0,none⟩)) (.slice (some ⟨W5.heap.size,0,none⟩) 7 7) (by rfl) (by rfl) (fun r w'=>∃ z:Int,r = .int .i64 z∧z ∈ ([3000,3000,50,5,0,-1,100001]:List Int)∧Dr W1.heap.size w' W1.heap.size V len∧W6.grownBy w' (some W1.heap.size)) ((pickInt_dr W1.heap.size W1.heap.size V len W5.heap.size 7 7 [3000,3000,50,5,0,-1,100001] W6 (by omega) (by omega) rfl (by have h1:=H3.out.2.2.1.glt; have h2:=H4.out.2.size; have h3:=bd0.size; omega) hil d6).mono (fun e w' ⟨z,he,hh⟩=>⟨_,he,z,rfl,hh⟩)) ?_
 rintro r W7 ⟨z,rfl,zm,-,g7⟩
 have x7:=(g7.block _ (lh x6) (fun e=>by have h1:=H3.out.2.2.1.glt; have h2:=Option.some.inj e; omega)).trans x6
 have hS:(fun Wq:World=>Wq.cell? ⟨W3.heap.size,0,none⟩=some (.slice an p.names.length cn)∧Wq.cell? ⟨W3.heap.size,1,none⟩=some (.slice ab p.bodies.length cb)) W7:=⟨by rw [cell_of_block x7]; rfl,by rw [cell_of_block x7]; rfl⟩
 refine hK _ _ hS (fun _ => ?_)
 clear hK K
 simp only [Act.put,lsk]
 have hlt1:=H1.out.2.1
 have g37:W3.grownBy W7 (some W1.heap.size):=(grown_of_below' b36).trans g7
 have bx2:=(H2.out.2.block _ hlt1).trans H1.out.2.2.1
 have bx3:=(H3.out.2.2.2.block _ (lh bx2) (fun e=>by have h2:=Option.some.inj e; omega)).trans bx2
 have bx7:=(g37.block _ (lh bx3) (fun e=>by have h2:=Option.some.inj e; omega)).trans bx3
 have f0:=ubk bx7 0
 have f1:=ubk bx7 1
 have d0:=cbk bx7 0 (.slice none 0 0) rfl
 have d1:=cbk bx7 1 (.slice none 0 0) rfl
 refine wpAnyH_ready (rs:=[4]) (by kernel_rfl) (by simp) ?_
 refine AllReadyH.cons rfl (fun K hK => ?_) (AllReadyH.nil)
 refine step_skip rfl ((W7.setCell ⟨w.heap.size,0,none⟩ (.slice an p.names.length cn)).setCell ⟨w.heap.size,1,none⟩ (.slice ab p.bodies.length cb)) (by simp [execOp,Act.eval,go_sem,f0,f1,d0,d1]) ?_
 have hk8:∀ b,b≠w.heap.size→((W7.setCell ⟨w.heap.size,0,none⟩ (.slice an p.names.length cn)).setCell ⟨w.heap.size,1,none⟩ (.slice ab p.bodies.length cb)).heap[b]? = W7.heap[b]? := fun b hb=>(Below.heap_setCell _ _ _ b (by show b≠w.heap.size; exact hb)).trans (Below.heap_setCell _ _ _ b (by show b≠w.heap.size; exact hb))
 have x8:=(hk8 _ (by have h1:=H3.out.2.2.1.glt; omega)).trans x7
 have bx8:=block_setCell (i:=1) (block_setCell (i:=0) bx7 (.slice an p.names.length cn)) (.slice ab p.bodies.length cb)
 have z8:W7.heap.size≤((W7.setCell ⟨w.heap.size,0,none⟩ (.slice an p.names.length cn)).setCell ⟨w.heap.size,1,none⟩ (.slice ab p.bodies.length cb)).heap.size:=by simp
 have b28:Below w.heap.size w ((W7.setCell ⟨w.heap.size,0,none⟩ (.slice an p.names.length cn)).setCell ⟨w.heap.size,1,none⟩ (.slice ab p.bodies.length cb)):=((Below.grown (B:=w.heap.size) (Below.grown (B:=w.heap.size) (H1.out.1.trans (H2.out.2.mono H1.out.1.size)) H3.out.2.2.2 (fun k hk=>by have h2:=Option.some.inj hk; omega) (by have:=H2.out.2.size; omega)) g37 (fun k hk=>by have h2:=Option.some.inj hk; omega) (by have:=H3.out.2.2.1.glt; omega)).setCell (p:=⟨w.heap.size,0,none⟩) (Nat.le_refl _) _).setCell (p:=⟨w.heap.size,1,none⟩) (Nat.le_refl _) _
 have hp8:=H3.out.1.keptP (w':=((W7.setCell ⟨w.heap.size,0,none⟩ (.slice an p.names.length cn)).setCell ⟨w.heap.size,1,none⟩ (.slice ab p.bodies.length cb))) (B':=w.heap.size) (fun b hb hlt=>(hk8 b (by have:=H2.out.2.size; omega)).trans (g37.block b hlt (fun e=>by have h1:=H2.out.1.glt; have h2:=Option.some.inj e; omega))) (Nat.le_trans g37.size z8) (by have:=H2.out.2.size; omega)
 have HF:=(show Hid (_∧_∧_) from ⟨hp8,b28,bx8⟩)
 refine hK _ _ ⟨by rw [cell_of_block x8]; rfl,by rw [cell_of_block x8]; rfl⟩ (fun _ => ?_)
 clear hK K
 simp only [Act.put,List.getElem_toArray,List.getElem_cons_zero,List.getElem_cons_succ]
 generalize ((W7.setCell ⟨w.heap.size,0,none⟩ (.slice an p.names.length cn)).setCell ⟨w.heap.size,1,none⟩ (.slice ab p.bodies.length cb))=W9 at HF x8 ⊢
 have hS:(fun Wq:World=>Wq.cell? ⟨W3.heap.size,0,none⟩=some (.slice an p.names.length cn)∧Wq.cell? ⟨W3.heap.size,1,none⟩=some (.slice ab p.bodies.length cb)) W9:=⟨by rw [cell_of_block x8]; rfl,by rw [cell_of_block x8]; rfl⟩
 refine wpAnyH_ready (rs:=[5]) (by kernel_rfl) (by simp) ?_
 refine AllReadyH.cons rfl (fun K hK => ?_) (AllReadyH.nil)
 refine step_run rfl (.int .i64 z) W9 (ex_assign _ _ _ _ rfl (by rfl) _) ?_
 refine hK _ _ hS (fun _ => ?_)
 clear hK K
 simp only [Act.put,lsk]
 refine wpAnyH_done (by kernel_rfl) ?_ _
 refine hKA _ _ ?_
 clear hKA KA
 clear hS x8 z8 hk8 hp8 b28 bx8 f0 f1 d0 d1 bx7 bx3 bx2 g37 hlt1 x7 g7 x6 d6 b36 b46 hil b6 e6 bd0 H4 H2 H1
 have c0:=cbk HF.out.2.2 0 (.slice an p.names.length cn) rfl
 have c1:=cbk HF.out.2.2 1 (.slice ab p.bodies.length cb) rfl
 have HZ:=(show Hid (-1≤z∧z≤100001) from by simp only [List.mem_cons,List.not_mem_nil,or_false] at zm; show -1≤z∧z≤100001; omega)
 clear zm
 go_wp2
 refine bodyPost_ret (v:=.tuple #[.agg #[.slice an p.names.length cn,.slice ab p.bodies.length cb],.int .i64 z]) (by simp [results,Tryz.results5,go_sem,c0,c1]) rfl ?_
 exact ⟨_,_,_,rfl,HZ.out.1,HZ.out.2,⟨_,_,HF.out.1,H3.out.2.1⟩,HF.out.2.1⟩
set_option maxHeartbeats 6400000 in
theorem drawMeanAll_any (V:Value) (len:Nat) (w:World) (hcode:CodeIs w.heap.size w V len) :
  Calls Tryz.prog 8 #[V] w fun e w'=>∃ (nv bv:Value) (z:Int),e = .returned (.tuple #[.agg #[nv,bv],.int .i64 z]) ∧ -1≤z∧z≤100001∧(∃ d p,PrAt w' (fun b=>w.heap.size≤b∧Pl w' b) d (.agg #[nv,bv]) p∧p.names.length≤2001)∧Below w.heap.size w w':=by
 obtain ⟨W1,hW1⟩:∃ W1,W1=w.alloc (.cells #[.slice none 0 0,.slice none 0 0] 27):=⟨_,rfl⟩
 have b1:Below w.heap.size w W1:=by rw [hW1]; exact (Below.refl _ w).alloc (Nat.le_refl _) _
 have z1:W1.heap.size=w.heap.size+1:=by rw [hW1]; simp
 have x1:W1.heap[w.heap.size]? = some (.cells #[.slice none 0 0,.slice none 0 0] 27):=by rw [hW1]; exact block_new w _
 have H1:=(show Hid (Below w.heap.size w W1∧w.heap.size<W1.heap.size∧W1.heap[w.heap.size]? = some (.cells #[.slice none 0 0,.slice none 0 0] 27)∧CodeIs W1.heap.size W1 V len) from ⟨b1,by omega,x1,hcode.up b1⟩)
 clear b1 z1 x1 hcode
 go_enter Tryz.func8,Tryz.ntmps8
 go_upto_region 1 with fail
 rw [← hW1]
 clear hW1
 go_wp2_with fail
 refine (new_dr V len W1 H1.out.2.2.2).mono ?_
 rintro e W2 ⟨rfl,d2,b2⟩
 have H2:=(show Hid (Dr W1.heap.size W2 W1.heap.size V len∧Below W1.heap.size W1 W2) from ⟨d2,b2⟩)
 clear d2 b2
 go_wp2_with fail
 refine (l02program_dr W1.heap.size W1.heap.size V len W2 H2.out.1).mono ?_
 rintro e W3 ⟨v,rfl,⟨nv,bv,rfl⟩,po⟩
 obtain ⟨⟨d,p,hp,hpl⟩,d3,g3⟩:=po
 have H3:=(show Hid (PrAt W3 (fun b=>W2.heap.size≤b∧Pl W3 b) d (.agg #[nv,bv]) p∧p.names.length≤2001∧Dr W1.heap.size W3 W1.heap.size V len∧W2.grownBy W3 (some W1.heap.size)) from ⟨hp,hpl,d3,g3⟩)
 obtain ⟨nv',bv',hv,hn,hk⟩:=hp
 simp only [Value.agg.injEq,Array.mk.injEq,List.cons.injEq,and_true] at hv
 obtain ⟨rfl,rfl⟩:=hv
 obtain ⟨an,cn,rfl⟩:=hn.form
 obtain ⟨ab,cb,rfl⟩:=hk.form
 clear hn hk hpl d3 g3
 obtain ⟨W4,e4⟩:∃ W4,W4=W3.alloc (.cells #[.slice an p.names.length cn,.slice ab p.bodies.length cb] 27):=⟨_,rfl⟩
 have x4:W4.heap[W3.heap.size]? = some (.cells #[.slice an p.names.length cn,.slice ab p.bodies.length cb] 27):=by rw [e4]; exact block_new _ _
 have b4:Below W3.heap.size W3 W4:=by rw [e4]; exact (Below.refl _ _).alloc (Nat.le_refl _) _
 have H4:=(show Hid (_∧_) from ⟨x4,b4⟩)
 clear x4 b4
 go_upto_region 3 with fail
 rw [← e4]
 clear e4
 rename_i KA hKA
 have ya:=cbk H4.out.1 0 (.slice an p.names.length cn) rfl
 have yb:=cbk H4.out.1 1 (.slice ab p.bodies.length cb) rfl
 refine wp_region_held_drew (S:=fun Wq=>Wq.cell? ⟨W3.heap.size,0,none⟩=some (.slice an p.names.length cn)∧Wq.cell? ⟨W3.heap.size,1,none⟩=some (.slice ab p.bodies.length cb)) (by kernel_rfl) ⟨ya,yb⟩ (fun hS => ?_)
 have bd0:Below W4.heap.size W4 W4.drew:=⟨rfl,rfl,rfl,Nat.le_refl _,fun _ _=>rfl⟩
 generalize W4.drew=W5 at bd0 hS ⊢
 refine wpAnyH_take (i:=0) (v:=.agg #[.slice an p.names.length cn,.slice ab p.bodies.length cb]) rfl (by kernel_rfl) (by kernel_rfl) (by kernel_rfl) (fun _ _ _ h=>h) (Or.inl ⟨by rfl,fun wq hSw => ?_⟩) hS ?_
 ·simp [execOp,Act.eval,go_sem,hSw.1,hSw.2]
 simp only [Act.put,lsk]
 refine wpAnyH_take (i:=1) (v:=.pointer (some ⟨W1.heap.size,0,none⟩)) rfl (by kernel_rfl) (by kernel_rfl) (by kernel_rfl) (fun _ _ _ h=>h) (Or.inl ⟨by rfl,fun wq hSw => ?_⟩) hS ?_
 ·exact ex_move _ _ _ _ rfl (by rfl) _
 simp only [Act.put,lsk]
 obtain ⟨W6,e6⟩:∃ W',W'=W5.alloc (.cells (([500,50,5,0,-1,100001]:List Int).map (fun z=>Value.int .i64 z)).toArray 3):=⟨_,rfl⟩
 have b6:Below W5.heap.size W5 W6:=by rw [e6]; exact (Below.refl _ _).alloc (Nat.le_refl _) _
 have hil:=ints_lit [500,50,5,0,-1,100001] W5
 rw [← e6] at hil
 have b46:Below W4.heap.size W4 W6:=bd0.trans (b6.mono bd0.size)
 have b36:Below W3.heap.size W3 W6:=H4.out.2.trans (b46.mono H4.out.2.size)
 have d6:=H3.out.2.2.1.below b36
 have x6:=(b46.block _ (lh H4.out.1)).trans H4.out.1
 refine wpAnyH_ready (rs:=[2]) (by kernel_rfl) (by simp) ?_
 refine AllReadyH.cons rfl (fun K hK => ?_) (AllReadyH.nil)
 refine step_run rfl (.slice (some ⟨W5.heap.size,0,none⟩) 6 6) W6 (by rw [e6]; simp [execOp,Act.eval,go_sem]) ?_
 have hS:(fun Wq:World=>Wq.cell? ⟨W3.heap.size,0,none⟩=some (.slice an p.names.length cn)∧Wq.cell? ⟨W3.heap.size,1,none⟩=some (.slice ab p.bodies.length cb)) W6:=⟨by rw [cell_of_block x6]; rfl,by rw [cell_of_block x6]; rfl⟩
 refine hK _ _ hS (fun _ => ?_)
 clear hK K
 simp only [Act.put,lsk]
 refine wpAnyH_ready (rs:=[3]) (by kernel_rfl) (by simp) ?_
 refine AllReadyH.cons rfl (fun K hK => ?_) (AllReadyH.nil)
 refine step_callTwo rfl 15 (.tmp 11) (.tmp 12) _ rfl ent_pickInt (.pointer (some ⟨W1.heap.size,0,none⟩)) (.slice (some ⟨W5.heap.size,0,none⟩) 6 6) (by rfl) (by rfl) (fun r w'=>∃ z:Int,r = .int .i64 z∧z ∈ ([500,50,5,0,-1,100001]:List Int)∧Dr W1.heap.size w' W1.heap.size V len∧W6.grownBy w' (some W1.heap.size)) ((pickInt_dr W1.heap.size W1.heap.size V len W5.heap.size 6 6 [500,50,5,0,-1,100001] W6 (by omega) (by omega) rfl (by have h1:=H3.out.2.2.1.glt; have h2:=H4.out.2.size; have h3:=bd0.size; omega) hil d6).mono (fun e w' ⟨z,he,hh⟩=>⟨_,he,z,rfl,hh⟩)) ?_
 rintro r W7 ⟨z,rfl,zm,-,g7⟩
 have x7:=(g7.block _ (lh x6) (fun e=>by have h1:=H3.out.2.2.1.glt; have h2:=Option.some.inj e; omega)).trans x6
 have hS:(fun Wq:World=>Wq.cell? ⟨W3.heap.size,0,none⟩=some (.slice an p.names.length cn)∧Wq.cell? ⟨W3.heap.size,1,none⟩=some (.slice ab p.bodies.length cb)) W7:=⟨by rw [cell_of_block x7]; rfl,by rw [cell_of_block x7]; rfl⟩
 refine hK _ _ hS (fun _ => ?_)
 clear hK K
 simp only [Act.put,lsk]
 have hlt1:=H1.out.2.1
 have g37:W3.grownBy W7 (some W1.heap.size):=(grown_of_below' b36).trans g7
 have bx2:=(H2.out.2.block _ hlt1).trans H1.out.2.2.1
 have bx3:=(H3.out.2.2.2.block _ (lh bx2) (fun e=>by have h2:=Option.some.inj e; omega)).trans bx2
 have bx7:=(g37.block _ (lh bx3) (fun e=>by have h2:=Option.some.inj e; omega)).trans bx3
 have f0:=ubk bx7 0
 have f1:=ubk bx7 1
 have d0:=cbk bx7 0 (.slice none 0 0) rfl
 have d1:=cbk bx7 1 (.slice none 0 0) rfl
 refine wpAnyH_ready (rs:=[4]) (by kernel_rfl) (by simp) ?_
 refine AllReadyH.cons rfl (fun K hK => ?_) (AllReadyH.nil)
 refine step_skip rfl ((W7.setCell ⟨w.heap.size,0,none⟩ (.slice an p.names.length cn)).setCell ⟨w.heap.size,1,none⟩ (.slice ab p.bodies.length cb)) (by simp [execOp,Act.eval,go_sem,f0,f1,d0,d1]) ?_
 have hk8:∀ b,b≠w.heap.size→((W7.setCell ⟨w.heap.size,0,none⟩ (.slice an p.names.length cn)).setCell ⟨w.heap.size,1,none⟩ (.slice ab p.bodies.length cb)).heap[b]? = W7.heap[b]? := fun b hb=>(Below.heap_setCell _ _ _ b (by show b≠w.heap.size; exact hb)).trans (Below.heap_setCell _ _ _ b (by show b≠w.heap.size; exact hb))
 have x8:=(hk8 _ (by have h1:=H3.out.2.2.1.glt; omega)).trans x7
 have bx8:=block_setCell (i:=1) (block_setCell (i:=0) bx7 (.slice an p.names.length cn)) (.slice ab p.bodies.length cb)
 have z8:W7.heap.size≤((W7.setCell ⟨w.heap.size,0,none⟩ (.slice an p.names.length cn)).setCell ⟨w.heap.size,1,none⟩ (.slice ab p.bodies.length cb)).heap.size:=by simp
 have b28:Below w.heap.size w ((W7.setCell ⟨w.heap.size,0,none⟩ (.slice an p.names.length cn)).setCell ⟨w.heap.size,1,none⟩ (.slice ab p.bodies.length cb)):=((Below.grown (B:=w.heap.size) (Below.grown (B:=w.heap.size) (H1.out.1.trans (H2.out.2.mono H1.out.1.size)) H3.out.2.2.2 (fun k hk=>by have h2:=Option.some.inj hk; omega) (by have:=H2.out.2.size; omega)) g37 (fun k hk=>by have h2:=Option.some.inj hk; omega) (by have:=H3.out.2.2.1.glt; omega)).setCell (p:=⟨w.heap.size,0,none⟩) (Nat.le_refl _) _).setCell (p:=⟨w.heap.size,1,none⟩) (Nat.le_refl _) _
 have hp8:=H3.out.1.keptP (w':=((W7.setCell ⟨w.heap.size,0,none⟩ (.slice an p.names.length cn)).setCell ⟨w.heap.size,1,none⟩ (.slice ab p.bodies.length cb))) (B':=w.heap.size) (fun b hb hlt=>(hk8 b (by have:=H2.out.2.size; omega)).trans (g37.block b hlt (fun e=>by have h1:=H2.out.1.glt; have h2:=Option.some.inj e; omega))) (Nat.le_trans g37.size z8) (by have:=H2.out.2.size; omega)
 have HF:=(show Hid (_∧_∧_) from ⟨hp8,b28,bx8⟩)
 refine hK _ _ ⟨by rw [cell_of_block x8]; rfl,by rw [cell_of_block x8]; rfl⟩ (fun _ => ?_)
 clear hK K
 simp only [Act.put,List.getElem_toArray,List.getElem_cons_zero,List.getElem_cons_succ]
 generalize ((W7.setCell ⟨w.heap.size,0,none⟩ (.slice an p.names.length cn)).setCell ⟨w.heap.size,1,none⟩ (.slice ab p.bodies.length cb))=W9 at HF x8 ⊢
 have hS:(fun Wq:World=>Wq.cell? ⟨W3.heap.size,0,none⟩=some (.slice an p.names.length cn)∧Wq.cell? ⟨W3.heap.size,1,none⟩=some (.slice ab p.bodies.length cb)) W9:=⟨by rw [cell_of_block x8]; rfl,by rw [cell_of_block x8]; rfl⟩
 refine wpAnyH_ready (rs:=[5]) (by kernel_rfl) (by simp) ?_
 refine AllReadyH.cons rfl (fun K hK => ?_) (AllReadyH.nil)
 refine step_run rfl (.int .i64 z) W9 (ex_assign _ _ _ _ rfl (by rfl) _) ?_
 refine hK _ _ hS (fun _ => ?_)
 clear hK K
 simp only [Act.put,lsk]
 refine wpAnyH_done (by kernel_rfl) ?_ _
 refine hKA _ _ ?_
 clear hKA KA
 clear hS x8 z8 hk8 hp8 b28 bx8 f0 f1 d0 d1 bx7 bx3 bx2 g37 hlt1 x7 g7 x6 d6 b36 b46 hil b6 e6 bd0 H4 H2 H1
 have c0:=cbk HF.out.2.2 0 (.slice an p.names.length cn) rfl
 have c1:=cbk HF.out.2.2 1 (.slice ab p.bodies.length cb) rfl
 have HZ:=(show Hid (-1≤z∧z≤100001) from by simp only [List.mem_cons,List.not_mem_nil,or_false] at zm; show -1≤z∧z≤100001; omega)
 clear zm
 go_wp2
 refine bodyPost_ret (v:=.tuple #[.agg #[.slice an p.names.length cn,.slice ab p.bodies.length cb],.int .i64 z]) (by simp [results,Tryz.results8,go_sem,c0,c1]) rfl ?_
 exact ⟨_,_,_,rfl,HZ.out.1,HZ.out.2,⟨_,_,HF.out.1,H3.out.2.1⟩,HF.out.2.1⟩
end Go.Proofs.YtljdgmfcgkimoaaGreatDoor

namespace Go.Proofs.YtljdgmfcgkimoaaGreatDoor
open Go.RowKit Go.Joins
set_option maxRecDepth 100000
inductive Clo where
 | mk:Ex→List Clo→Bool→Clo
def Clo.ex:Clo→Ex | .mk e _ _=>e
def Clo.env:Clo→List Clo | .mk _ es _=>es
def Clo.own:Clo→Bool | .mk _ _ r=>r
def Clo.scope (c:Clo):List Clo:=if c.own=true then c.env ++ [c] else c.env
inductive Vl where
 | num:Int→Vl
 | nil:Vl
 | pair:Clo→Clo→Vl
 | fn:Int→Ex→List Clo→Vl
inductive Rs where
 | ok:Vl→Rs
 | err:Int→Rs
def exZ:Ex:=.mk 0 0 ByteArray.empty []
def kidN (e:Ex) (i:Nat):Ex:=e.kids.getD i exZ
def arith (t:ByteArray) (a b:Int):Int :=
 if t.toList=[43] then IntKind.i64.wrap (a+b)
 else if t.toList=[45] then IntKind.i64.wrap (a - b)
 else if t.toList=[42] then IntKind.i64.wrap (a * b)
 else if t.toList=[61,61] then (if a=b then 1 else 0)
 else (if a<b then 1 else 0)
def onNum (r:Rs×Nat) (k:Int→Nat→Rs×Nat):Rs×Nat :=
 match r with
 | (.ok (.num n),f)=>k n f
 | (.ok _,f)=>(.err 2,f)
 | (.err c,f)=>(.err c,f)
def onFn (r:Rs×Nat) (k:Int→Ex→List Clo→Nat→Rs×Nat):Rs×Nat :=
 match r with
 | (.ok (.fn l x en),f)=>k l x en f
 | (.ok _,f)=>(.err 2,f)
 | (.err c,f)=>(.err c,f)
def onList (r:Rs×Nat) (k0:Nat→Rs×Nat) (k1:Clo→Clo→Nat→Rs×Nat):Rs×Nat :=
 match r with
 | (.ok .nil,f)=>k0 f
 | (.ok (.pair h t),f)=>k1 h t f
 | (.ok _,f)=>(.err 2,f)
 | (.err c,f)=>(.err c,f)
def ev (P:List Ex):Nat→Nat→Ex→List Clo→Rs×Nat
 | 0,f,_,_=>(.err 1,f)
 | b+1,f,e,env =>
  if f=0 then (.err 1,0)
  else if e.kind=0 then (.ok (.num e.n),f - 1)
  else if e.kind=1 then (match env[e.n.toNat]? with | some c=>ev P b (f - 1) c.ex c.scope | none=>(.err 2,f - 1))
  else if e.kind=2 then ev P b (f - 1) (P.getD e.n.toNat exZ) []
  else if e.kind=3 then (.ok (.fn e.n (kidN e 0) env),f - 1)
  else if e.kind=4 then onFn (ev P b (f - 1) (kidN e 0) env) fun l x en f'=>if 1<l then (.ok (.fn (l - 1) x (en ++ [.mk (kidN e 1) env false])),f') else ev P b f' x (en ++ [.mk (kidN e 1) env false])
  else if e.kind=5 then ev P b (f - 1) (kidN e 1) (env ++ [.mk (kidN e 0) env true])
  else if e.kind=6 then onNum (ev P b (f - 1) (kidN e 0) env) fun n f'=>if n=0 then ev P b f' (kidN e 2) env else ev P b f' (kidN e 1) env
  else if e.kind=7 then (.ok .nil,f - 1)
  else if e.kind=8 then (.ok (.pair (.mk (kidN e 0) env false) (.mk (kidN e 1) env false)),f - 1)
  else if e.kind=9 then onList (ev P b (f - 1) (kidN e 0) env) (fun f'=>ev P b f' (kidN e 1) env) (fun h t f'=>ev P b f' (kidN e 2) (env ++ [h,t]))
  else if e.kind=10 then onNum (ev P b (f - 1) (kidN e 0) env) fun x f'=>onNum (ev P b f' (kidN e 1) env) fun y f''=>(.ok (.num (arith e.text x y)),f'')
  else ev P b (f - 1) (kidN e 1) env
def pr (P:List Ex) (B:Nat):Nat→Nat→Clo→Except Int (List UInt8)×Nat
 | 0,f,_=>(.error 1,f)
 | b+1,f,c =>
  match ev P B f c.ex c.scope with
  | (.err k,f')=>(.error k,f')
  | (.ok (.num n),f')=>(.ok (Lib.itoa n),f')
  | (.ok .nil,f')=>(.ok [91,93],f')
  | (.ok (.fn _ _ _),f')=>(.ok [102,117,110],f')
  | (.ok (.pair h t),f') =>
   match pr P B b f' h with
   | (.error k,f1)=>(.error k,f1)
   | (.ok s,f1) =>
    match pr P B b f1 t with
    | (.error k,f2)=>(.error k,f2)
    | (.ok s',f2)=>(.ok ([40] ++ s ++ [58] ++ s' ++ [41]),f2)
def meanAt (P:List Ex) (i:Nat) (fuel:Nat):List UInt8×Int :=
 match pr P fuel (fuel+1) fuel (.mk (P.getD i exZ) [] false) with
 | (.ok s,_)=>(s,0)
 | (.error k,_)=>([],k)
def meanOf (p:Pr) (fuel:Int):List UInt8×Int :=
 if p.ok=true∧0≤lastN p.names ⟨#[109,97,105,110]⟩ p.names.length∧0≤fuel∧fuel≤100000 then meanAt p.bodies (lastN p.names ⟨#[109,97,105,110]⟩ p.names.length).toNat fuel.toNat else ([],3)
theorem ite_le {c:Prop} [Decidable c] {a b:Rs×Nat} {F:Nat} (ha:a.2≤F) (hb:b.2≤F):(if c then a else b).2≤F:=by
 split
 ·exact ha
 ·exact hb
theorem onNum_le {r:Rs×Nat} {k:Int→Nat→Rs×Nat} {F:Nat} (h:r.2≤F) (hk:∀ n f,f≤F→(k n f).2≤F):(onNum r k).2≤F:=by
 obtain ⟨r,f⟩:=r
 cases r with
 | err c=>exact h
 | ok v=>cases v <;> first | exact hk _ _ h | exact h
theorem onFn_le {r:Rs×Nat} {k:Int→Ex→List Clo→Nat→Rs×Nat} {F:Nat} (h:r.2≤F) (hk:∀ l x en f,f≤F→(k l x en f).2≤F):(onFn r k).2≤F:=by
 obtain ⟨r,f⟩:=r
 cases r with
 | err c=>exact h
 | ok v=>cases v <;> first | exact hk _ _ _ _ h | exact h
theorem onList_le {r:Rs×Nat} {k0:Nat→Rs×Nat} {k1:Clo→Clo→Nat→Rs×Nat} {F:Nat} (h:r.2≤F) (hk0:∀ f,f≤F→(k0 f).2≤F) (hk1:∀ a b f,f≤F→(k1 a b f).2≤F):(onList r k0 k1).2≤F:=by
 obtain ⟨r,f⟩:=r
 cases r with
 | err c=>exact h
 | ok v=>cases v <;> first | exact hk0 _ h | exact hk1 _ _ _ h | exact h
theorem ev_less (P:List Ex):∀ (b f:Nat) (e:Ex) (env:List Clo),(ev P b f e env).2≤f
 | 0,f,_,_=>Nat.le_refl _
 | b+1,f,e,env=>by
  have ih:∀ f' e env,f'≤f→(ev P b f' e env).2≤f:=fun f' e env h=>Nat.le_trans (ev_less P b f' e env) h
  have h7:f - 1≤f:=by omega
  rw [ev]
  refine ite_le (Nat.zero_le _) (ite_le h7 (ite_le ?_ (ite_le (ih _ _ _ h7) (ite_le h7 (ite_le ?_ (ite_le (ih _ _ _ h7) (ite_le ?_ (ite_le h7 (ite_le h7 (ite_le ?_ (ite_le ?_ (ih _ _ _ h7))))))))))))
  ·cases env[e.n.toNat]? with
   | none=>exact h7
   | some c=>exact ih _ _ _ h7
  ·exact onFn_le (ih _ _ _ h7) fun l x en f' hf=>ite_le hf (ih _ _ _ hf)
  ·exact onNum_le (ih _ _ _ h7) fun n f' hf=>ite_le (ih _ _ _ hf) (ih _ _ _ hf)
  ·exact onList_le (ih _ _ _ h7) (fun f' hf=>ih _ _ _ hf) (fun a b f' hf=>ih _ _ _ hf)
  ·exact onNum_le (ih _ _ _ h7) fun x f' hf=>onNum_le (ih _ _ _ hf) fun y f'' hf'=>hf'
end Go.Proofs.YtljdgmfcgkimoaaGreatDoor
