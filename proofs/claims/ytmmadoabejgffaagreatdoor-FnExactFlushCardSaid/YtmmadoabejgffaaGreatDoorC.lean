/-
  Proofs.
-/
import Derived.Test.YtmmadoabejgffaaGreatDoorA
import Derived.Maps.AppendAt
import Derived.Laws.OwnMore
namespace Go.Proofs.YtmmadoabejgffaaGreatDoor
open Go.RowKit Go.Joins
set_option maxRecDepth 100000
set_option maxHeartbeats 51200000
theorem addr_addI (b off k:Nat):(⟨b,off,none⟩:Addr).add k=⟨b,off+k,none⟩:=by
 unfold Addr.add
 split
 ·rename_i h; subst h; rfl
 ·rfl
def IntsAt (w:World) (S:Nat→Prop) (v:Value) (ts:List Int):Prop :=
 ∃ a cap,v = .slice a ts.length cap∧ts.length≤maxLen∧∀ i t,ts[i]? = some t→∃ b off,a=some ⟨b,off,none⟩∧S b∧b<w.heap.size∧w.cell? ⟨b,off+i,none⟩=some (.int .i64 t)∧inI64 t
theorem IntsAt.kept {w w':World} {S S':Nat→Prop} (hw:∀ b,S b→b<w.heap.size→w'.heap[b]? = w.heap[b]?) (hsz:w.heap.size≤w'.heap.size) (hS:∀ b,S b→b<w.heap.size→S' b) {v:Value} {ts:List Int} (h:IntsAt w S v ts):IntsAt w' S' v ts:=by
 obtain ⟨a,cap,hv,hl,hc⟩:=h
 refine ⟨a,cap,hv,hl,fun i t ht => ?_⟩
 obtain ⟨b,off,ha,hb,hlt,c0,r⟩:=hc i t ht
 exact ⟨b,off,ha,hS b hb hlt,Nat.lt_of_lt_of_le hlt hsz,(World.cell?_of_block (hw b hb hlt)).trans c0,r⟩
theorem IntsAt.below {w w':World} {S:Nat→Prop} {v:Value} {ts:List Int} (h:IntsAt w S v ts) (hb:Below w.heap.size w w'):IntsAt w' S v ts :=
 h.kept (fun b _ hlt=>hb.block b hlt) hb.size (fun _ h _=>h)
theorem IntsAt.form {w:World} {S:Nat→Prop} {v:Value} {ts:List Int} (h:IntsAt w S v ts):∃ a cap,v = .slice a ts.length cap:=by
 obtain ⟨a,cap,hv,_⟩:=h; exact ⟨a,cap,hv⟩
theorem IntsAt.len {w:World} {S:Nat→Prop} {v:Value} {ts:List Int} (h:IntsAt w S v ts):ts.length≤9223372036854775807:=by
 obtain ⟨a,cap,_,hl,_⟩:=h
 unfold maxLen at hl
 omega
theorem infoCdI:(Tryz.prog.info? 3).map (fun i=>(i.zero,i.size,i.bytes))=some (some (.int .i64 0),1,8):=by kernel_rfl
theorem own_form {w:World} {B n size:Nat} {e:TypeId} {v:Value} {xs:List Value} (h:w.ownsRow B e size v n xs):∃ a cap,v = .slice a n cap:=by
 rcases h.2 with ⟨rfl,rfl⟩ | ⟨g,cap,cur,rfl,_⟩
 ·exact ⟨none,0,rfl⟩
 ·exact ⟨_,_,rfl⟩
theorem own_formN {w:World} {B n size:Nat} {e:TypeId} {v:Value} {xs:List Value} (h:w.ownsRow B e size v n xs):∃ n' a cap,n'=n∧v = .slice a n' cap:=by
 obtain ⟨a,cap,rfl⟩:=own_form h
 exact ⟨n,a,cap,rfl,rfl⟩
theorem own_some {w:World} {B n size:Nat} {e:TypeId} {v:Value} {xs:List Value} (h:w.ownsRow B e size v n xs) (hn:0<n):∃ g cap,v = .slice (some ⟨g,0,none⟩) n cap:=by
 rcases h.2 with ⟨_,h0⟩ | ⟨g,cap,cur,hv,_⟩
 ·omega
 ·exact ⟨g,cap,hv⟩
theorem int_one (z:Int):∀ u ∈ [Value.int .i64 z],u.oneCell'=true:=by
 intro u hu
 rw [List.mem_singleton.1 hu]
 rfl
def AptV (u v:Value):Prop:=u.ownBlock=none∨u.ownBlock≠v.ownBlock
abbrev intVs (zs:List Int):List Value:=zs.map (fun z=>Value.int .i64 z)
theorem own_moved {W W':World} {B n size:Nat} {e:TypeId} {v:Value} {xs:List Value} (h:W.ownsRow B e size v n xs) (hb:∀ g,v.ownBlock=some g→W'.heap[g]? = W.heap[g]?):W'.ownsRow B e size v n xs:=by
 refine ⟨h.1,?_⟩
 rcases h.2 with h | ⟨g,cap,cur,rfl,h1,h2,h3⟩
 ·exact .inl h
 ·exact .inr ⟨g,cap,cur,rfl,h1,(hb g rfl).trans h2,h3⟩
theorem own_type {W:World} {B n size:Nat} {e:TypeId} {v:Value} {xs:List Value} (h:W.ownsRow B e size v n xs):∀ g,v.ownBlock=some g→B≤g∧∃ cs,W.heap[g]? = some (.cells cs e (0,0)):=by
 intro g hg
 rcases h.2 with ⟨rfl,_⟩ | ⟨g',cap,cur,rfl,h1,h2,_⟩
 ·simp [Value.ownBlock] at hg
 ·simp [Value.ownBlock] at hg; subst hg; exact ⟨h1,cur,h2⟩
theorem own_ne {W:World} {B B' n n' size size':Nat} {e e':TypeId} {v v':Value} {xs xs':List Value} (h:W.ownsRow B e size v n xs) (h':W.ownsRow B' e' size' v' n' xs') (he:e≠e'):∀ g,v.ownBlock=some g→some g≠v'.ownBlock:=by
 intro g hg hc
 obtain ⟨_,cs,h1⟩:=own_type h g hg
 obtain ⟨_,cs',h2⟩:=own_type h' g hc.symm
 rw [h1] at h2
 cases h2
 exact he rfl
theorem own_lt {W:World} {B n size:Nat} {e:TypeId} {v:Value} {xs:List Value} (h:W.ownsRow B e size v n xs):∀ g,v.ownBlock=some g→g<W.heap.size :=
 fun g hg=>(own_type h g hg).2.elim (fun _ hc=>(Array.getElem?_eq_some_iff.1 hc).1)
theorem inI64_small {k:Int} (h0:0≤k) (h1:k≤1000000000):inI64 k:=⟨by omega,by omega⟩
theorem own_mono {W:World} {B B' n size:Nat} {e:TypeId} {v:Value} {xs:List Value} (h:W.ownsRow B e size v n xs) (hB:B'≤B):W.ownsRow B' e size v n xs:=by
 refine ⟨h.1,?_⟩
 rcases h.2 with h | ⟨g,cap,cur,hv,h1,h2⟩
 ·exact .inl h
 ·exact .inr ⟨g,cap,cur,hv,Nat.le_trans hB h1,h2⟩
theorem own_ints {w:World} {B:Nat} {v:Value} {zs:List Int} (h:w.ownsRow B 3 1 v zs.length (intVs zs)) (hz:∀ z ∈ zs,inI64 z):IntsAt w (fun b=>B≤b∧Pl w b) v zs:=by
 rcases h.2 with ⟨rfl,h0⟩ | ⟨g,cap,cur,rfl,hb,hc,hn,hcm,hs,ht⟩
 ·obtain rfl:zs=[]:=List.length_eq_zero_iff.1 h0
  exact ⟨none,0,rfl,Nat.zero_le _,fun i t h=>by simp at h⟩
 ·refine ⟨_,_,rfl,Nat.le_trans hn hcm,fun i z hi=>⟨g,0,rfl,⟨hb,cur,_,hc⟩,(Array.getElem?_eq_some_iff.1 hc).1,?_,hz z (List.mem_of_getElem? hi)⟩⟩
  have:=h.cells (g:=g) rfl i (.int .i64 z) (by rw [List.getElem?_map,hi]; rfl)
  rw [addr_addI] at this
  exact this
end Go.Proofs.YtmmadoabejgffaaGreatDoor
