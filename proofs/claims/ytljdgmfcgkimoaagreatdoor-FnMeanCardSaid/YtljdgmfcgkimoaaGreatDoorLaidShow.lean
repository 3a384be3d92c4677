/-
  Proofs.
-/
import Derived.Test.YtljdgmfcgkimoaaGreatDoorCards
import Derived.Test.YtljdgmfcgkimoaaGreatDoorTie
import Derived.WalkKit
import Derived.ProofKit
import Derived.OpenShut
import Derived.ShutString
import Derived.Deep.DeepHandedRow
import Derived.Lib.LaidTab
import Derived.Lib.ItoaNum
namespace Go.Proofs.YtljdgmfcgkimoaaGreatDoor
open Go.ChangeShapes Go.WideShapes Go.ChangeAt Go.RowKit
set_option maxRecDepth 100000
theorem own:ownKnob Tryz.prog.godebug=none:=by kernel_rfl
theorem gPow : Tryz.prog.globalNamed "internal/strconv.uint64pow10" = some 0 := by kernel_rfl
theorem gPowType:(Tryz.prog.globals[0]?).map (·.type)=some 192:=by kernel_rfl
theorem cellsPow:Tryz.prog.cellsOf 192=20:=by kernel_rfl
theorem cellsU64:Tryz.prog.cellsOf 183=1:=by kernel_rfl
theorem dataPow:(Rows.laid_internal_strconv_uint64pow10:DataW Unit)=Lib.tabData .u64 Lib.pow10Tab:=by kernel_rfl
theorem pow10S_of {W : World} {n1 n2 : String} {d1 d2 : DataW Unit} {rest : List (String × DataW Unit)} (h : laidMet Tryz.prog ((n1, d1) :: (n2, d2) :: ("internal/strconv.uint64pow10", Rows.laid_internal_strconv_uint64pow10) :: rest) W) :
  Lib.TabIs Tryz.prog W "internal/strconv.uint64pow10" .u64 Lib.pow10Tab := by
 obtain ⟨ps,h1,_⟩:=h
 obtain ⟨_,_,_,_,_,_,_,_,_,_,h2,_⟩:=h1
 obtain ⟨_,_,_,_,_,_,_,_,_,_,h3,_⟩:=h2
 obtain ⟨g',t',cs,fuel,p,q,hg',ht',hvar,hd,_,_⟩:=h3
 obtain rfl:=Option.some.inj (gPow.symm.trans hg')
 obtain rfl:=Option.some.inj (gPowType.symm.trans ht')
 rw [dataPow] at hd
 unfold Lib.TabIs
 rw [hvar,← Lib.cells_of_tab Tryz.underlying192 Tryz.underlying183 cellsU64 cellsPow hd]
def litV:DataW Unit→Value
 | .lit (.int k n) => .int k n
 | _ => .bool false
def partsOf:DataW Unit→List (DataW Unit)
 | .agg ps=>ps
 | _=>[]
def flat1 (d:DataW Unit):List Value:=(partsOf d).map litV
def putIn (cs:List Value):Obj→Obj
 | .cells _ t frozen => .cells cs.toArray t frozen
 | o=>o
noncomputable def laidWorld (os:Os):World :=
 { World.holding Tryz.prog os ⟨#[],#[],[]⟩ with heap:=((((World.holding Tryz.prog os ⟨#[],#[],[]⟩).heap.modify 0 (putIn (flat1 Rows.laid_internal_strconv_uint64pow10))).modify 1 (putIn (flat1 Rows.laid_math_bits_deBruijn32tab))).modify 2 (putIn (flat1 Rows.laid_math_bits_deBruijn64tab))) }
end Go.Proofs.YtljdgmfcgkimoaaGreatDoor
