/-
  Proofs.
-/
import Derived.Test.YtmmadoabejgffaaGreatDoorRows
import Derived.WalkKit
import Derived.LaidEql
import Derived.Stop.Asserts
import Derived.RowKitTokens
import Derived.Below
import Derived.Test.YtmmadoabejgffaaGreatDoorB
import Derived.Lib.SmallJoins
namespace Go.Proofs.YtmmadoabejgffaaGreatDoor
open Go.RowKit Go.Extern.Stop Go.Stop Go.Extern Go.Joins
set_option maxRecDepth 100000
set_option maxHeartbeats 51200000
theorem as_nil (t:Value) (w:World) :
  Calls Tryz.prog 212 #[.nilIface,t] w fun e w'=>e = .returned (.bool false)∧w'=w:=by
 go_enter Tryz.func212,Tryz.ntmps212
 go_wp2
 go_ret
 exact ⟨rfl,rfl⟩
theorem rl_valueOfP (t:Addr) (w:World):(ReflectliteValue.unpack (.iface 285 (.pointer (some t)))).run Tryz.prog w
  = .ok (.agg #[.pointer (some ⟨4,285,none⟩),.pointer (some ⟨w.heap.size,0,none⟩),.int .u64 150]) (w.alloc (.cells #[.pointer (some t)] 285)):=by kernel_rfl
theorem rl_typeP (a : Addr) (w : World) : (ReflectliteValue.methodAny (ReflectliteValue.valueError "reflectlite.Value.Type" 0) (fun t _ _ _ => ReflectliteType.toType t) #[.agg #[.pointer (some ⟨4, 285, none⟩), .pointer (some a), .int .u64 150]]).run Tryz.prog w
  = .ok (.iface 249 (.agg #[.pointer (some ⟨4,285,none⟩)])) w:=by kernel_rfl
theorem rl_methodKind (h : Value) (w : World) : (Go.method 435 249 (.agg #[h]) "Kind").run Tryz.prog w = .ok (236, h) w := by kernel_rfl
theorem rl_kindP (w:World):((ReflectliteType.abiMethod fun t=>(fun a:Nat=>Value.int IntKind.u8 (a:Int)) <$> Rtype.kind t) #[.pointer (some ⟨4,285,none⟩)]).run Tryz.prog w = .ok (.int .u8 22) w:=by kernel_rfl
theorem rl_kindE (w:World):((ReflectliteType.abiMethod fun t=>(fun a:Nat=>Value.int IntKind.u8 (a:Int)) <$> Rtype.kind t) #[.pointer (some ⟨4,283,none⟩)]).run Tryz.prog w = .ok (.int .u8 25) w:=by kernel_rfl
theorem rlm (z:Sem Value) (f:TypeId→Addr→Nat→Nat→Sem Value) (v:Value) :
  ReflectliteValue.method z f #[v]=(do match ← ReflectliteValue.parts v with | none=>z | some (t,a,fl)=>f t a fl (fl % 32)):=rfl
theorem rl_partsP (a:Addr) (w:World):(ReflectliteValue.parts (.agg #[.pointer (some ⟨4,285,none⟩),.pointer (some a),.int .u64 150])).run Tryz.prog w = .ok (some (285,a,150)) w:=by kernel_rfl
theorem rl_isNilP (a p:Addr) (W:World) (ha:W.cell? a=some (.pointer (some p))) :
  (ReflectliteValue.method (ReflectliteValue.valueError "reflectlite.Value.IsNil" 0) ReflectliteValue.isNil #[.agg #[.pointer (some ⟨4, 285, none⟩), .pointer (some a), .int .u64 150]]).run Tryz.prog W = .ok (.bool false) W := by
 rw [rlm]
 simp only [Sem.run_bind,rl_partsP,Result.andThen]
 simp [ReflectliteValue.isNil,loadVar,isAgg,underlying,Tryz.underlying285,ha,Result.andThen]
theorem rl_methodElem (h : Value) (w : World) : (Go.method 435 249 (.agg #[h]) "Elem").run Tryz.prog w = .ok (244, .agg #[h]) w := by kernel_rfl
theorem rl_methodImplements (h : Value) (w : World) : (Go.method 435 249 (.agg #[h]) "Implements").run Tryz.prog w = .ok (245, .agg #[h]) w := by kernel_rfl
theorem rl_methodAssignableTo (h : Value) (w : World) : (Go.method 435 249 (.agg #[h]) "AssignableTo").run Tryz.prog w = .ok (242, .agg #[h]) w := by kernel_rfl
theorem rl_elemP (w:World):(ReflectliteType.method ReflectliteType.elem #[.agg #[.pointer (some ⟨4,285,none⟩)]]).run Tryz.prog w = .ok (.iface 249 (.agg #[.pointer (some ⟨4,283,none⟩)])) w:=by kernel_rfl
theorem rl_implementsE (w : World) : (ReflectliteType.relation "Implements" ReflectliteType.implements_ #[.agg #[.pointer (some ⟨4, 283, none⟩)], .iface 249 (.agg #[.pointer (some ⟨4, 166, none⟩)])]).run Tryz.prog w = .ok (.bool true) w := by kernel_rfl
theorem rl_typeOfE (v:Value) (w:World):(ReflectliteType.typeOf #[.iface 283 v]).run Tryz.prog w = .ok (.iface 249 (.agg #[.pointer (some ⟨4,283,none⟩)])) w:=by kernel_rfl
theorem rl_assignableE (w : World) : (ReflectliteType.relation "AssignableTo" ReflectliteType.assignableTo #[.agg #[.pointer (some ⟨4, 283, none⟩)], .iface 249 (.agg #[.pointer (some ⟨4, 283, none⟩)])]).run Tryz.prog w = .ok (.bool true) w := by kernel_rfl
theorem rl_valueOfE (e:Int) (w:World):(ReflectliteValue.unpack (.iface 283 (.agg #[.int .i64 e]))).run Tryz.prog w
  = .ok (.agg #[.pointer (some ⟨4,283,none⟩),.pointer (some ⟨w.heap.size,0,none⟩),.int .u64 153]) (w.alloc (.cells #[.int .i64 e] 283)):=by kernel_rfl
theorem rl_elemOfP (w:World):(Rtype.elem? 285).run Tryz.prog w = .ok (some 283) w:=by kernel_rfl
theorem rl_mkE (p:Addr) (w:World):(ReflectliteValue.mk 283 p ReflectliteValue.flagAddr).run Tryz.prog w = .ok (.agg #[.pointer (some ⟨4,283,none⟩),.pointer (some p),.int .u64 409]) w:=by kernel_rfl
theorem rl_elemVP (a p:Addr) (W:World) (ha:W.cell? a=some (.pointer (some p))) :
  (ReflectliteValue.method (ReflectliteValue.valueError "reflectlite.Value.Elem" 0) ReflectliteValue.elem #[.agg #[.pointer (some ⟨4, 285, none⟩), .pointer (some a), .int .u64 150]]).run Tryz.prog W
   = .ok (.agg #[.pointer (some ⟨4,283,none⟩),.pointer (some p),.int .u64 409]) W:=by
 rw [rlm]
 simp only [Sem.run_bind,rl_partsP,Result.andThen]
 simp [ReflectliteValue.elem,loadVar,isAgg,underlying,Tryz.underlying285,ha,Result.andThen,rl_elemOfP,rl_mkE]
theorem rls (v x:Value):ReflectliteValue.set #[v,x]=(do
  let (some (dst,a,fl),some (src,b,_)):=(← ReflectliteValue.parts v,← ReflectliteValue.parts x)
   | unsupported (.noEntry "extern/(internal/reflectlite.Value).Set.zeroValue")
  if fl / ReflectliteValue.flagAddr % 2 == 0 then unsupported (.noEntry "extern/(internal/reflectlite.Value).Set.unaddressable")
  let val ← loadVar src b
  if ← Rtype.directlyAssignable dst src then storeVar dst a val
  else if ← Rtype.implements dst src then
   if (← Rtype.kind src) == 20 then
    match val with
    | .nilIface => unsupported (.noEntry "extern/reflectlite: a nil value of one interface type handed on as a value of another")
    | _=>storeVar dst a val
   else storeVar dst a (.iface src val)
  else panicString ("reflectlite.Set: value of type " ++ (← Rtype.spelt src) ++ " is not assignable to type " ++ (← Rtype.spelt dst))
  pure (.tuple #[])):=rfl
theorem rl_partsEa (a:Addr) (w:World):(ReflectliteValue.parts (.agg #[.pointer (some ⟨4,283,none⟩),.pointer (some a),.int .u64 409])).run Tryz.prog w = .ok (some (283,a,409)) w:=by kernel_rfl
theorem rl_partsE (a:Addr) (w:World):(ReflectliteValue.parts (.agg #[.pointer (some ⟨4,283,none⟩),.pointer (some a),.int .u64 153])).run Tryz.prog w = .ok (some (283,a,153)) w:=by kernel_rfl
theorem rl_directE (w:World):(Rtype.directlyAssignable 283 283).run Tryz.prog w = .ok true w:=by kernel_rfl
theorem rl_setE (ta b:Addr) (e:Int) (old:Value) (W:World) (hb:W.cell? b=some (.int .i64 e)) (ht:W.cell? ta=some old) (hf:W.frozen? ta=false) :
  (ReflectliteValue.set #[.agg #[.pointer (some ⟨4,283,none⟩),.pointer (some ta),.int .u64 409],.agg #[.pointer (some ⟨4,283,none⟩),.pointer (some b),.int .u64 153]]).run Tryz.prog W
   = .ok (.tuple #[]) (W.setCell ta (.int .i64 e)):=by
 have hl:(loadCells b 1).run Tryz.prog W = .ok #[.int .i64 e] W:=by
  have:=run_loadCells_list (P:=Tryz.prog) W b [.int .i64 e] (fun j v hj=>by
   have h0:j<1:=(List.getElem?_eq_some_iff.1 hj).1
   obtain rfl:j=0:=by omega
   cases hj
   rw [show b.add 0=b from rfl]
   exact hb)
  exact this
 rw [rls]
 simp only [Sem.run_bind,rl_partsEa,rl_partsE,Result.andThen]
 simp [ReflectliteValue.flagAddr,loadVar,isAgg,underlying,Tryz.underlying283,hl,Result.andThen,rl_directE,storeVar,Value.cells,storeCells,Addr.add]
 rw [run_store Tryz.prog W ta _ _ (by rfl)]
 simp [ht,hf]
theorem as_hit (e:Int) (t:Addr) (old:Value) (w:World) (hg:w.cell? ⟨3,0,none⟩=some (.iface 249 (.agg #[.pointer (some ⟨4,166,none⟩)]))) (ht0:w.cell? t=some old) (hf0:w.frozen? t=false) :
  Calls Tryz.prog 212 #[.iface 283 (.agg #[.int .i64 e]),.iface 285 (.pointer (some t))] w fun ev w'=>ev = .returned (.bool true)∧w'=((((w.alloc (.cells #[.pointer (some t)] 285)).alloc (.cells #[.pointer (some ⟨4,285,none⟩),.pointer (some ⟨w.heap.size,0,none⟩),.int .u64 150] 290)).alloc (.cells #[.pointer (some ⟨4,285,none⟩),.pointer (some ⟨w.heap.size,0,none⟩),.int .u64 150] 290)).alloc (.cells #[.int .i64 e] 283)).setCell t (.int .i64 e):=by
 have h6:=@run_callFunc_extern Tryz.prog 214 _ (fun args=>ReflectliteValue.unpack (args.getD 0 (.tuple #[]))) Tryz.func214 (by kernel_rfl) (by kernel_rfl) (by kernel_rfl) (by kernel_rfl)
 have h7 := @run_callFunc_extern Tryz.prog 215 _ (ReflectliteValue.methodAny (ReflectliteValue.valueError "reflectlite.Value.Type" 0) (fun t _ _ _ => ReflectliteType.toType t)) Tryz.func215 (by kernel_rfl) (by kernel_rfl) (by kernel_rfl) (by kernel_rfl)
 have h8 := @run_callFunc_extern Tryz.prog 216 _ (ReflectliteValue.method (ReflectliteValue.valueError "reflectlite.Value.IsNil" 0) ReflectliteValue.isNil) Tryz.func216 (by kernel_rfl) (by kernel_rfl) (by kernel_rfl) (by kernel_rfl)
 have h27:=@run_callFunc_extern Tryz.prog 236 _ (ReflectliteType.abiMethod fun t=>do pure (.int .u8 (← Rtype.kind t))) Tryz.func236 (by kernel_rfl) (by kernel_rfl) (by kernel_rfl) (by kernel_rfl)
 have h37:=@run_callFunc_extern Tryz.prog 244 _ (ReflectliteType.method ReflectliteType.elem) Tryz.func244 (by kernel_rfl) (by kernel_rfl) (by kernel_rfl) (by kernel_rfl)
 have h38 := @run_callFunc_extern Tryz.prog 245 _ (ReflectliteType.relation "Implements" ReflectliteType.implements_) Tryz.func245 (by kernel_rfl) (by kernel_rfl) (by kernel_rfl) (by kernel_rfl)
 have h10:=@run_callFunc_extern Tryz.prog 147 _ ReflectliteType.typeOf Tryz.func147 (by kernel_rfl) (by kernel_rfl) (by kernel_rfl) (by kernel_rfl)
 have h35 := @run_callFunc_extern Tryz.prog 242 _ (ReflectliteType.relation "AssignableTo" ReflectliteType.assignableTo) Tryz.func242 (by kernel_rfl) (by kernel_rfl) (by kernel_rfl) (by kernel_rfl)
 have h11 := @run_callFunc_extern Tryz.prog 220 _ (ReflectliteValue.method (ReflectliteValue.valueError "reflectlite.Value.Elem" 0) ReflectliteValue.elem) Tryz.func220 (by kernel_rfl) (by kernel_rfl) (by kernel_rfl) (by kernel_rfl)
 have h12:=@run_callFunc_extern Tryz.prog 221 _ ReflectliteValue.set Tryz.func221 (by kernel_rfl) (by kernel_rfl) (by kernel_rfl) (by kernel_rfl)
 have tO:=rl_typeOfE
 have mA:=rl_methodAssignableTo
 have aE:=rl_assignableE
 have vE:=rl_valueOfE
 have f6:=rl_valueOfP
 have f7:=rl_typeP
 have mK:=rl_methodKind
 have mE:=rl_methodElem
 have mI:=rl_methodImplements
 have kP:=rl_kindP
 have kE:=rl_kindE
 have eP:=rl_elemP
 have iE:=rl_implementsE
 have n8:=rl_isNilP ⟨w.heap.size,0,none⟩ t ((w.alloc (.cells #[.pointer (some t)] 285)).alloc (.cells #[.pointer (some ⟨4,285,none⟩),.pointer (some ⟨w.heap.size,0,none⟩),.int .u64 150] 290)) (by simp)
 have hlt:3<w.heap.size:=by
  rcases Nat.lt_or_ge 3 w.heap.size with h | h
  ·exact h
  ·simp [World.cell?,Array.getElem?_eq_none h] at hg
 have hg2:((w.alloc (.cells #[.pointer (some t)] 285)).alloc (.cells #[.pointer (some ⟨4,285,none⟩),.pointer (some ⟨w.heap.size,0,none⟩),.int .u64 150] 290)).cell? ⟨3,0,none⟩=some (.iface 249 (.agg #[.pointer (some ⟨4,166,none⟩)])):=by
  rw [World.cell?_alloc_lt _ _ ⟨3,0,none⟩ (by simp <;> omega),World.cell?_alloc_lt _ _ ⟨3,0,none⟩ hlt]; exact hg
 have htl:t.block<w.heap.size:=by
  rcases Nat.lt_or_ge t.block w.heap.size with h | h
  ·exact h
  ·simp [World.cell?,Array.getElem?_eq_none h] at ht0
 have el:=rl_elemVP ⟨w.heap.size,0,none⟩ t (((w.alloc (.cells #[.pointer (some t)] 285)).alloc (.cells #[.pointer (some ⟨4,285,none⟩),.pointer (some ⟨w.heap.size,0,none⟩),.int .u64 150] 290)).alloc (.cells #[.pointer (some ⟨4,285,none⟩),.pointer (some ⟨w.heap.size,0,none⟩),.int .u64 150] 290)) (by rw [World.cell?_alloc_lt _ _ ⟨w.heap.size,0,none⟩ (by simp; omega)]; simp)
 have st:=rl_setE t ⟨w.heap.size+1+1+1,0,none⟩ e old ((((w.alloc (.cells #[.pointer (some t)] 285)).alloc (.cells #[.pointer (some ⟨4,285,none⟩),.pointer (some ⟨w.heap.size,0,none⟩),.int .u64 150] 290)).alloc (.cells #[.pointer (some ⟨4,285,none⟩),.pointer (some ⟨w.heap.size,0,none⟩),.int .u64 150] 290)).alloc (.cells #[.int .i64 e] 283))
  (by rw [World.cell?_alloc_at _ _ _ _ (by simp)]; rfl)
  (by rw [World.cell?_alloc_lt _ _ t (by simp; omega),World.cell?_alloc_lt _ _ t (by simp; omega),World.cell?_alloc_lt _ _ t (by simp; omega),World.cell?_alloc_lt _ _ t htl]; exact ht0)
  (by rw [World.frozen?_alloc_old _ _ t (by simp; omega),World.frozen?_alloc_old _ _ t (by simp; omega),World.frozen?_alloc_old _ _ t (by simp; omega),World.frozen?_alloc_old _ _ t (Nat.ne_of_lt htl)]; exact hf0)
 go_enter Tryz.func212,Tryz.ntmps212
 go_wp2
 refine wp_loop_rounds 1 ?_
 rw [rounds_succ]
 go_wp2
 go_ret
 exact ⟨rfl,rfl⟩
def ET (w:World):Prop:=w.cell? ⟨3,0,none⟩=some (.iface 249 (.agg #[.pointer (some ⟨4,166,none⟩)]))
theorem ET.lt {w:World} (h:ET w):3<w.heap.size:=by
 rcases Nat.lt_or_ge 3 w.heap.size with h' | h'
 ·exact h'
 ·unfold ET at h
  simp [World.cell?,Array.getElem?_eq_none h'] at h
theorem ET.below {w w':World} (h:ET w) (hb:Below w.heap.size w w'):ET w':=(hb.cell (p:=⟨3,0,none⟩) h.lt).trans h
theorem isNone_nil (w:World):Calls Tryz.prog 205 #[.nilIface] w fun e w'=>e = .returned (.bool false)∧Below w.heap.size w w':=by
 have B0:Hid (∀ o:Obj,Below w.heap.size w (w.alloc o)):=fun o=>(Below.refl _ w).alloc (Nat.le_refl _) o
 go_enter Tryz.func205,Tryz.ntmps205
 go_wp2_with fail
 refine (as_nil _ _).mono ?_
 rintro e w1 ⟨rfl,rfl⟩
 go_wp2
 go_ret
 exact ⟨rfl,B0.out _⟩
theorem isNone_err (z:Int) (w:World) (hg:ET w):Calls Tryz.prog 205 #[.iface 283 (.agg #[.int .i64 z])] w fun e w'=>e = .returned (.bool true)∧Below w.heap.size w w':=by
 obtain ⟨W0,hW0⟩:∃ W0,W0=w.alloc (.cells #[.int .i64 0] 283):=⟨_,rfl⟩
 have B0:Below w.heap.size w W0:=by rw [hW0]; exact (Below.refl _ w).alloc (Nat.le_refl _) _
 have O0:W0.heap[w.heap.size]? = some (.cells #[.int .i64 0] 283):=by rw [hW0]; exact (MapKept.heap_alloc w _).1
 have c0:W0.cell? ⟨w.heap.size,0,none⟩=some (.int .i64 0):=(cell_of_block O0 0).trans rfl
 have hA:=as_hit z ⟨w.heap.size,0,none⟩ (.int .i64 0) W0 (hg.below B0) c0 (unfrozen_of_block O0 0)
 have H0:=(show Hid (_∧_∧_) from ⟨hA,B0,hW0⟩)
 clear hA B0 hW0 O0 c0 hg
 go_enter Tryz.func205,Tryz.ntmps205
 go_wp2_with fail
 rw [← H0.out.2.2]
 refine H0.out.1.mono ?_
 rintro e w1 ⟨rfl,hw1⟩
 have H1:=(show Hid (_∧True) from ⟨hw1,trivial⟩)
 clear hw1
 go_wp2
 go_ret
 refine ⟨rfl,?_⟩
 rw [H1.out.1]
 have s0:=H0.out.2.1.size
 refine Below.setCell (p:=⟨w.heap.size,0,none⟩) ?_ (Nat.le_refl _) _
 exact (((H0.out.2.1.alloc s0 _).alloc (by simp; omega) _).alloc (by simp; omega) _).alloc (by simp; omega) _
theorem ei_typeOf (v:Value) (w:World):(ReflectliteType.typeOf #[.iface 304 v]).run Tryz.prog w = .ok (.iface 249 (.agg #[.pointer (some ⟨4,304,none⟩)])) w:=by kernel_rfl
theorem ei_comparable (w:World):(callFunc 243 #[.agg #[.pointer (some ⟨4,304,none⟩)]]).run Tryz.prog w = .ok (Next.value (.bool true)) w:=by
 rw [@run_callFunc_extern Tryz.prog 243 _ (ReflectliteType.method fun t => do Rtype.noPackHeld "Comparable" t; pure (.bool (← typeInfo t).comparable)) Tryz.func243 (by kernel_rfl) (by kernel_rfl) (by kernel_rfl) (by kernel_rfl)]
 kernel_rfl
theorem ei_method (v : Value) (w : World) : (Go.method 435 249 v "Comparable").run Tryz.prog w = .ok (243, v) w := by kernel_rfl
theorem ei_comp:(Tryz.prog.info? 304).map (·.comparable)=some true:=by kernel_rfl
theorem ei_size:(Tryz.prog.info? 323).map (·.size)=some 1:=by kernel_rfl
theorem ei_noIs (v:Value) (xT:TypeId) (w:World):(Instr.typeAssert (.iface 304 v) xT 251 true).run Tryz.prog w = .ok (.tuple #[.nilIface,.bool false]) w:=run_typeAssert_lacksB Tryz.underlying251 (by kernel_rfl) (by kernel_rfl) v xT w
theorem ei_noUnwrap (v:Value) (xT:TypeId) (w:World):(Instr.typeAssert (.iface 304 v) xT 254 true).run Tryz.prog w = .ok (.tuple #[.nilIface,.bool false]) w:=run_typeAssert_lacksB Tryz.underlying254 (by kernel_rfl) (by kernel_rfl) v xT w
theorem ei_noUnwraps (v:Value) (xT:TypeId) (w:World):(Instr.typeAssert (.iface 304 v) xT 256 true).run Tryz.prog w = .ok (.tuple #[.nilIface,.bool false]) w:=run_typeAssert_lacksB Tryz.underlying256 (by kernel_rfl) (by kernel_rfl) v xT w
abbrev errV (a:Addr):Value:=.iface 304 (.pointer (some a))
theorem is_nil (b:Addr) (w:World) :
  Calls Tryz.prog 103 #[.nilIface,errV b] w fun e w'=>e = .returned (.bool false)∧w'=w:=by
 have hn:=run_eql_iface_nil_left (P:=Tryz.prog) w 304 (.pointer (some b)) Tryz.underlying166
 go_enter Tryz.func103,Tryz.ntmps103
 go_wp2
 go_ret
 exact ⟨rfl,rfl⟩
theorem is_same (a:Addr) (w:World) :
  Calls Tryz.prog 103 #[errV a,errV a] w fun e w'=>e = .returned (.bool true)∧w'=w:=by
 obtain ⟨i,hi,hcmp⟩:=Option.map_eq_some_iff.1 ei_comp
 obtain ⟨j,hj,hjs⟩:=Option.map_eq_some_iff.1 ei_size
 have hT:=@run_callFunc_extern Tryz.prog 147 _ ReflectliteType.typeOf Tryz.func147 (by kernel_rfl) (by kernel_rfl) (by kernel_rfl) (by kernel_rfl)
 have tT:=ei_typeOf
 have cT:=ei_comparable
 have mR:=ei_method
 have heq:=run_eql_iface_ptr_same (P:=Tryz.prog) w a Tryz.underlying166 Tryz.underlying304 hi hcmp hj
 go_enter Tryz.func103,Tryz.ntmps103
 go_wp2
 refine wp_loop_rounds 1 ?_
 rw [rounds_succ]
 go_wp2
 go_ret
 exact ⟨rfl,rfl⟩
theorem is_other (a b:Addr) (ca cb:Array Value) (ta tb:TypeId) (w:World) (hne:a≠b) (ha:w.heap[a.block]? = some (.cells ca ta (0,0))) (hb:w.heap[b.block]? = some (.cells cb tb (0,0))) :
  Calls Tryz.prog 103 #[errV a,errV b] w fun e w'=>e = .returned (.bool false)∧w'=w:=by
 obtain ⟨i,hi,hcmp⟩:=Option.map_eq_some_iff.1 ei_comp
 obtain ⟨j,hj,hjs⟩:=Option.map_eq_some_iff.1 ei_size
 have hT:=@run_callFunc_extern Tryz.prog 147 _ ReflectliteType.typeOf Tryz.func147 (by kernel_rfl) (by kernel_rfl) (by kernel_rfl) (by kernel_rfl)
 have tT:=ei_typeOf
 have cT:=ei_comparable
 have mR:=ei_method
 have nE:=ei_noIs
 have uE:=ei_noUnwrap
 have vE:=ei_noUnwraps
 have heq:=run_eql_iface_ptr_other (P:=Tryz.prog) w Tryz.underlying166 Tryz.underlying304 hi hcmp hj (by rw [hjs]; decide) hne ha hb
 go_enter Tryz.func103,Tryz.ntmps103
 go_wp2
 refine wp_loop_rounds 1 ?_
 rw [rounds_succ]
 go_wp2
 go_ret
 exact ⟨rfl,rfl⟩
end Go.Proofs.YtmmadoabejgffaaGreatDoor
