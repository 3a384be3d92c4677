/-
  Proofs.
-/
import Derived.Test.YtljdgmfcgkimoaaGreatDoorJ1
import Derived.Test.YtljdgmfcgkimoaaGreatDoorJ29
import Derived.BigQuiet
import Derived.Deep.QuietTactic
import Derived.Deep.CutBlock
import Derived.Deep.RegionHeld3
namespace Go.Proofs.YtljdgmfcgkimoaaGreatDoor
open Go.RowKit Go.Joins
set_option maxRecDepth 100000
set_option maxHeartbeats 3200000 in
theorem l03Eval_8 (P:List Ex) (nv bv:Value) (rb d b:Nat) (hB:b<1000000) (S:Nat→Prop) (f:Nat) (e:Ex) (env:List Clo) (xv envv:Value) (w:World)
  (hf:f≤b) (hr:RunAt w rb nv bv (f+1) 0) (hs:Sv w S d rb bv P) (hx:Cx w S d e env xv envv) (hg:Ok P e env) (hk:e.kind=8) :
  Calls Tryz.prog 88 #[.pointer (some ⟨rb,0,none⟩),xv,envv] w fun r w'=>∃ v,r = .returned v∧Aft P S d rb nv bv w w' v ((.ok (.pair (.mk (kidN e 0) env false) (.mk (kidN e 1) env false)),f)):=by
 have hrl:rb<w.heap.size:=(Array.getElem?_eq_some_iff.1 hr).1
 have hd:0<d:=hs.bodies.pos
 have hx0:=hx
 obtain ⟨⟨kv,rfl,i1,i2,i3,hkd⟩,m,hen⟩:=hx0
 obtain ⟨a1,c1,rfl⟩:=hkd.form
 obtain ⟨a2,c2,rfl,hz2⟩:=hen.form
 have hln:env.length≤90:=hg.len
 rw [hk]
 obtain ⟨k0,k1,hks⟩:∃ k0 k1,e.kids=[k0,k1]:=by obtain ⟨⟨deep,h⟩,-⟩:=hg; exact kids2 (by rw [kids_of h,hk]; rfl)
 have e0:kidN e 0=k0:=by unfold kidN; rw [hks]; rfl
 have e1:kidN e 1=k1:=by unfold kidN; rw [hks]; rfl
 try rw [e0]
 try rw [e1]
 have hkl:e.kids.length=2:=by rw [hks]; rfl
 rw [hkl]
 have hks':=hks
 rw [hks] at hkd
 obtain ⟨kb,ko,rfl⟩:=kid_row hkd (by simp)
 obtain ⟨ka0,kc0,kk0,hSb,hlb,x0⟩:=kid_at hkd (i:=0) (k:=k0) rfl
 obtain ⟨ka1,kc1,kk1,-,-,x1⟩:=kid_at hkd (i:=1) (k:=k1) rfl
 obtain ⟨z,hz⟩:∃ z:Int,z=((f+1:Nat):Int):=⟨_,rfl⟩
 obtain ⟨z1,hz1⟩:∃ z1:Int,z1=(f:Int):=⟨_,rfl⟩
 have hw:IntKind.i64.wrap (z - 1)=z1:=by rw [IntKind.wrap_i64]; omega
 have hq0:decide (z=0)=false:=by simp; omega
 have hq1:(z == 0)=false:=by simp; omega
 obtain ⟨W1,hW1⟩:∃ W1,W1=((w.alloc (.cells #[.int .i64 8,.int .i64 e.n,.string e.text,.slice (some ⟨kb,ko,none⟩) 2 c1] 52)).alloc (.cells #[.int .i64 0,.int .i64 0,.int .i64 0,.int .i64 0,.string ⟨#[]⟩,.slice none 0 0,.slice none 0 0] 127)):=⟨_,rfl⟩
 obtain ⟨s1,-,kb1,q1,r1⟩:=two_boxes w S (.cells #[.int .i64 8,.int .i64 e.n,.string e.text,.slice (some ⟨kb,ko,none⟩) 2 c1] 52) (.cells #[.int .i64 0,.int .i64 0,.int .i64 0,.int .i64 0,.string ⟨#[]⟩,.slice none 0 0,.slice none 0 0] 127) W1 hW1 rb
 obtain ⟨W2,hW2⟩:∃ W2,W2=W1.setCell ⟨rb,2,none⟩ (.int .i64 z1):=⟨_,rfl⟩
 obtain ⟨s2,m2,kb2,q2,r2,run2⟩:=ev_boxes w S (.cells #[.int .i64 8,.int .i64 e.n,.string e.text,.slice (some ⟨kb,ko,none⟩) 2 c1] 52) (.cells #[.int .i64 0,.int .i64 0,.int .i64 0,.int .i64 0,.string ⟨#[]⟩,.slice none 0 0,.slice none 0 0] 127) W1 W2 rb f nv _ hW1 (by rw [hW2,hz1]) hr hs.rb
 have y2:W1.cell? ⟨rb,2,none⟩=some (.int .i64 z):=by rw [hz,cell_of_block (hr.move (kb1.low hrl))]; rfl
 have y2f:=ubk (hr.move (kb1.low hrl)) 2
 have y3:=cbk (hr.move (kb1.low hrl)) 3 (.int .i64 0) rfl
 have hs2:Sv W2 (but (but S w.heap.size) (w.heap.size+1)) d rb _ P:=hs.move m2 (by rw [s2]; exact but_new (but_new (new_le hs.new (by omega)) (by omega)) (by omega)) (but_not (but_not hs.rb))
 have hen2:=hen.move m2
 have bx0:W2.cell? ⟨w.heap.size,0,none⟩=some (.int .i64 8):=(by rw [cell_of_block q2]; rfl)
 have bx1:W2.cell? ⟨w.heap.size,1,none⟩=some (.int .i64 e.n):=(by rw [cell_of_block q2]; rfl)
 have bx2:W2.cell? ⟨w.heap.size,2,none⟩=some (.string e.text):=(by rw [cell_of_block q2]; rfl)
 have bx3:W2.cell? ⟨w.heap.size,3,none⟩=some (.slice (some ⟨kb,ko,none⟩) 2 c1):=(by rw [cell_of_block q2]; rfl)
 have u0:W2.cell? ⟨w.heap.size+1,0,none⟩=some (.int .i64 0):=(by rw [cell_of_block r2]; rfl)
 have uf0:=ubk r2 0
 have u1:W2.cell? ⟨w.heap.size+1,1,none⟩=some (.int .i64 0):=(by rw [cell_of_block r2]; rfl)
 have uf1:=ubk r2 1
 have u2:W2.cell? ⟨w.heap.size+1,2,none⟩=some (.int .i64 0):=(by rw [cell_of_block r2]; rfl)
 have uf2:=ubk r2 2
 have u3:W2.cell? ⟨w.heap.size+1,3,none⟩=some (.int .i64 0):=(by rw [cell_of_block r2]; rfl)
 have uf3:=ubk r2 3
 have u4:W2.cell? ⟨w.heap.size+1,4,none⟩=some (.string ⟨#[]⟩):=(by rw [cell_of_block r2]; rfl)
 have uf4:=ubk r2 4
 have u5:W2.cell? ⟨w.heap.size+1,5,none⟩=some (.slice none 0 0):=(by rw [cell_of_block r2]; rfl)
 have uf5:=ubk r2 5
 have u6:W2.cell? ⟨w.heap.size+1,6,none⟩=some (.slice none 0 0):=(by rw [cell_of_block r2]; rfl)
 have uf6:=ubk r2 6
 have kw0:=kk0.move (m2.block kb hSb hlb)
 have xw0:=x0.move m2
 obtain ⟨p00,p01,p02,p03⟩:=kw0
 simp only [Nat.zero_mul,Nat.add_zero] at p00 p01 p02 p03
 have kw1:=kk1.move (m2.block kb hSb hlb)
 have xw1:=x1.move m2
 obtain ⟨p10,p11,p12,p13⟩:=kw1
 simp only [Nat.one_mul] at p10 p11 p12 p13
 have hbk:but (but S w.heap.size) (w.heap.size+1) kb:=m2.sub kb hSb hlb
 have hlk:kb<W2.heap.size:=Nat.lt_of_lt_of_le hlb m2.size
 have g0:Ok P k0 env:=hg.kid (i:=0) (by rw [hks']; rfl) (by unfold moreN; simp [hk])
 have g1:Ok P k1 env:=hg.kid (i:=1) (by rw [hks']; rfl) (by unfold moreN; simp [hk])
 obtain ⟨W3,hW3⟩:∃ W3,W3=(W2.alloc (.cells #[.int .i64 k0.kind,.int .i64 k0.n,.string k0.text,.slice ka0 k0.kids.length kc0,.slice a2 env.length c2,.bool false,.int .i64 k1.kind,.int .i64 k1.n,.string k1.text,.slice ka1 k1.kids.length kc1,.slice a2 env.length c2,.bool false] 78)):=⟨_,rfl⟩
 have s3:W3.heap.size=W2.heap.size+1:=by rw [hW3]; simp
 have l3:∀ x,x<W2.heap.size→W3.heap[x]? = W2.heap[x]? := fun x hx=>by rw [hW3]; exact Below.heap_alloc _ _ _ hx
 have k3:KB (· = rb) W2 W3:=by rw [hW3]; exact (KB.refl _ _).alloc _
 have m3:Mv W2 W3 (but (but S w.heap.size) (w.heap.size+1)) (but (but S w.heap.size) (w.heap.size+1)):=by rw [hW3]; exact Mv.kb ((KB.refl (fun _=>False) _).alloc _) (fun _ h=>h.elim)
 have hvr:VR W3 (but (but S w.heap.size) (w.heap.size+1)) d P (.agg #[.int .i64 2,.int .i64 0,.int .i64 0,.int .i64 0,.string ⟨#[]⟩,.slice none 0 0,.slice (some ⟨W2.heap.size,0,none⟩) 2 2]) (.ok (.pair (.mk k0 env false) (.mk k1 env false))):=by
  obtain ⟨j1,j2,j3,hkk⟩:=(xw0.move m3).parts
  obtain ⟨j4,j5,j6,hkk'⟩:=(xw1.move m3).parts
  obtain ⟨d',rfl⟩:∃ d',d=d'+1:=⟨d - 1,by omega⟩
  exact ⟨m+1,⟨0,.mk 0 0 ⟨#[]⟩ [],_,_,rfl,by unfold inI64; decide,by unfold inI64; decide,Nat.zero_le _,⟨none,0,rfl,Nat.zero_le _,fun i e h=>by have h:([]:List Ex)[i]? = some e:=h; simp at h⟩,env_two (c1:=.mk k0 env false) (c2:=.mk k1 env false) (T:=78) (by rw [hW3]; exact block_alloc) (hs2.new _ (Nat.le_refl _)) ⟨j1,j2,j3,hkk,hen2.move m3⟩ ⟨j4,j5,j6,hkk',hen2.move m3⟩⟩,g0.clo,g1.clo⟩
 have keep:∀ W:World,(∀ x,x<W2.heap.size→x≠rb→x≠w.heap.size+1→W.heap[x]? = W2.heap[x]?)→W.cell? ⟨w.heap.size,3,none⟩=some (.slice (some ⟨kb,ko,none⟩) 2 c1)∧W.cell? ⟨kb,ko,none⟩=some (.int .i64 k0.kind)∧W.cell? ⟨kb,ko+1,none⟩=some (.int .i64 k0.n)∧W.cell? ⟨kb,ko+2,none⟩=some (.string k0.text)∧W.cell? ⟨kb,ko+3,none⟩=some (.slice ka0 k0.kids.length kc0)∧W.cell? ⟨kb,ko+4,none⟩=some (.int .i64 k1.kind)∧W.cell? ⟨kb,ko+4+1,none⟩=some (.int .i64 k1.n)∧W.cell? ⟨kb,ko+4+2,none⟩=some (.string k1.text)∧W.cell? ⟨kb,ko+4+3,none⟩=some (.slice ka1 k1.kids.length kc1):=fun W h=>by
  have c0:=(kk0.move (m2.block kb hSb hlb)).move (h kb hlk (fun e=>hs2.rb (e ▸ hbk)) (fun e=>hbk.2 e))
  simp only [Nat.zero_mul,Nat.add_zero] at c0
  obtain ⟨c00,c01,c02,c03⟩:=c0
  have c1:=(kk1.move (m2.block kb hSb hlb)).move (h kb hlk (fun e=>hs2.rb (e ▸ hbk)) (fun e=>hbk.2 e))
  simp only [Nat.one_mul] at c1
  obtain ⟨c10,c11,c12,c13⟩:=c1
  exact ⟨by rw [cell_of_block ((h _ (by omega) (by omega) (by omega)).trans q2)]; rfl,c00,c01,c02,c03,c10,c11,c12,c13⟩
 have nD:∀ x,x<W2.heap.size→x≠rb→x≠w.heap.size+1→W2.drew.heap[x]? = W2.heap[x]? := fun x _ _ _=>by rw [drew_heap]
 have nA:∀ x,x<W2.heap.size→x≠rb→x≠w.heap.size+1→(W2.alloc (.cells #[.int .i64 k0.kind,.int .i64 k0.n,.string k0.text,.slice ka0 k0.kids.length kc0,.slice a2 env.length c2,.bool false,.int .i64 k1.kind,.int .i64 k1.n,.string k1.text,.slice ka1 k1.kids.length kc1,.slice a2 env.length c2,.bool false] 78)).drew.heap[x]? = W2.heap[x]? := fun x hx _ _=>by rw [drew_heap]; exact Below.heap_alloc _ _ _ hx
 have n7:∀ (v0 v1 v2 v3 v4 v5 v6:Value) (x:Nat),x<W2.heap.size→x≠rb→x≠w.heap.size+1→(((((((((W2.alloc (.cells #[.int .i64 k0.kind,.int .i64 k0.n,.string k0.text,.slice ka0 k0.kids.length kc0,.slice a2 env.length c2,.bool false,.int .i64 k1.kind,.int .i64 k1.n,.string k1.text,.slice ka1 k1.kids.length kc1,.slice a2 env.length c2,.bool false] 78)).setCell ⟨w.heap.size+1,0,none⟩ v0).setCell ⟨w.heap.size+1,1,none⟩ v1).setCell ⟨w.heap.size+1,2,none⟩ v2).setCell ⟨w.heap.size+1,3,none⟩ v3).setCell ⟨w.heap.size+1,4,none⟩ v4).setCell ⟨w.heap.size+1,5,none⟩ v5).setCell ⟨w.heap.size+1,6,none⟩ v6)).drew.heap[x]? = W2.heap[x]? := fun v0 v1 v2 v3 v4 v5 v6 x hx h1 h2=>by rw [kb7_block _ _ _ _ _ _ _ _ _ (by rw [← hW3]; omega) h2,← hW3]; exact l3 x hx
 have r3:=(l3 _ (lh r2)).trans r2
 rw [hW3] at hvr r3 k3
 have HK:=(show Hid (_∧_∧_∧_∧_∧_∧_) from ⟨keep _ nD,keep _ nA,fun v0 v1 v2 v3 v4 v5 v6=>keep _ (n7 v0 v1 v2 v3 v4 v5 v6),hvr,kb2.trans k3,run2.move (l3 rb (by omega)),hW3⟩)
 have t0:(W2.alloc (.cells #[.int .i64 k0.kind,.int .i64 k0.n,.string k0.text,.slice ka0 k0.kids.length kc0,.slice a2 env.length c2,.bool false,.int .i64 k1.kind,.int .i64 k1.n,.string k1.text,.slice ka1 k1.kids.length kc1,.slice a2 env.length c2,.bool false] 78)).cell? ⟨w.heap.size+1,0,none⟩=some (.int .i64 0):=(by rw [cell_of_block r3]; rfl)
 have tf0:=ubk r3 0
 have t1:(W2.alloc (.cells #[.int .i64 k0.kind,.int .i64 k0.n,.string k0.text,.slice ka0 k0.kids.length kc0,.slice a2 env.length c2,.bool false,.int .i64 k1.kind,.int .i64 k1.n,.string k1.text,.slice ka1 k1.kids.length kc1,.slice a2 env.length c2,.bool false] 78)).cell? ⟨w.heap.size+1,1,none⟩=some (.int .i64 0):=(by rw [cell_of_block r3]; rfl)
 have tf1:=ubk r3 1
 have t2:(W2.alloc (.cells #[.int .i64 k0.kind,.int .i64 k0.n,.string k0.text,.slice ka0 k0.kids.length kc0,.slice a2 env.length c2,.bool false,.int .i64 k1.kind,.int .i64 k1.n,.string k1.text,.slice ka1 k1.kids.length kc1,.slice a2 env.length c2,.bool false] 78)).cell? ⟨w.heap.size+1,2,none⟩=some (.int .i64 0):=(by rw [cell_of_block r3]; rfl)
 have tf2:=ubk r3 2
 have t3:(W2.alloc (.cells #[.int .i64 k0.kind,.int .i64 k0.n,.string k0.text,.slice ka0 k0.kids.length kc0,.slice a2 env.length c2,.bool false,.int .i64 k1.kind,.int .i64 k1.n,.string k1.text,.slice ka1 k1.kids.length kc1,.slice a2 env.length c2,.bool false] 78)).cell? ⟨w.heap.size+1,3,none⟩=some (.int .i64 0):=(by rw [cell_of_block r3]; rfl)
 have tf3:=ubk r3 3
 have t4:(W2.alloc (.cells #[.int .i64 k0.kind,.int .i64 k0.n,.string k0.text,.slice ka0 k0.kids.length kc0,.slice a2 env.length c2,.bool false,.int .i64 k1.kind,.int .i64 k1.n,.string k1.text,.slice ka1 k1.kids.length kc1,.slice a2 env.length c2,.bool false] 78)).cell? ⟨w.heap.size+1,4,none⟩=some (.string ⟨#[]⟩):=(by rw [cell_of_block r3]; rfl)
 have tf4:=ubk r3 4
 have t5:(W2.alloc (.cells #[.int .i64 k0.kind,.int .i64 k0.n,.string k0.text,.slice ka0 k0.kids.length kc0,.slice a2 env.length c2,.bool false,.int .i64 k1.kind,.int .i64 k1.n,.string k1.text,.slice ka1 k1.kids.length kc1,.slice a2 env.length c2,.bool false] 78)).cell? ⟨w.heap.size+1,5,none⟩=some (.slice none 0 0):=(by rw [cell_of_block r3]; rfl)
 have tf5:=ubk r3 5
 have t6:(W2.alloc (.cells #[.int .i64 k0.kind,.int .i64 k0.n,.string k0.text,.slice ka0 k0.kids.length kc0,.slice a2 env.length c2,.bool false,.int .i64 k1.kind,.int .i64 k1.n,.string k1.text,.slice ka1 k1.kids.length kc1,.slice a2 env.length c2,.bool false] 78)).cell? ⟨w.heap.size+1,6,none⟩=some (.slice none 0 0):=(by rw [cell_of_block r3]; rfl)
 have tf6:=ubk r3 6
 clear hW3 s3 nD nA n7 r3
 clear hB hf hr hs hx hg hk hkd hen hz2 hz hz1 s1 kb1 q1 r1 s2 m2 kb2 q2 r2 run2 hs2 hen2 hln i1 i2 i3 hd hks hks' hkl hSb hlb hbk hlk e0 kk0 x0 xw0 e1 kk1 x1 xw1 keep hvr m3 g0 g1 l3 k3
 go_enter Tryz.func88,Tryz.ntmps88
 go_upto_region 1 with fail
 rw [← hW1]
 clear hW1
 go_upto_region 7 with fail
 rw [← hW2]
 clear hW2 y2 y2f y3 hq0 hq1 hw
 go_upto_region 28 with fail
 go_region_held3 (fun W=>W.cell? ⟨w.heap.size,3,none⟩=some (.slice (some ⟨kb,ko,none⟩) 2 c1)∧W.cell? ⟨kb,ko,none⟩=some (.int .i64 k0.kind)∧W.cell? ⟨kb,ko+1,none⟩=some (.int .i64 k0.n)∧W.cell? ⟨kb,ko+2,none⟩=some (.string k0.text)∧W.cell? ⟨kb,ko+3,none⟩=some (.slice ka0 k0.kids.length kc0)∧W.cell? ⟨kb,ko+4,none⟩=some (.int .i64 k1.kind)∧W.cell? ⟨kb,ko+4+1,none⟩=some (.int .i64 k1.n)∧W.cell? ⟨kb,ko+4+2,none⟩=some (.string k1.text)∧W.cell? ⟨kb,ko+4+3,none⟩=some (.slice ka1 k1.kids.length kc1)) (first | with_reducible exact HK.out.1 | with_reducible exact HK.out.2.1 | with_reducible exact HK.out.2.2.1 _ _ _ _ _ _ _) (fail)
 all_goals
  go_wp2_with fail
  refine bodyPost_ret (v:=.agg #[.int .i64 2,.int .i64 0,.int .i64 0,.int .i64 0,.string ⟨#[]⟩,.slice none 0 0,.slice (some ⟨W2.heap.size,0,none⟩) 2 2]) (by simp [results,Tryz.results88,go_sem,t0,t1,t2,t3,t4,t5,t6]) rfl ?_
  exact ⟨_,rfl,aft_end HK.out.2.2.2.2.1 HK.out.2.2.2.1 (fun b h=>h.1.1) (fun h=>h.2 rfl) (HK.out.2.2.2.2.2.2 ▸ HK.out.2.2.2.2.2.1) (by omega) hrl (kb7 _ _ _ _ _ _ _ _ _).drew⟩
end Go.Proofs.YtljdgmfcgkimoaaGreatDoor
