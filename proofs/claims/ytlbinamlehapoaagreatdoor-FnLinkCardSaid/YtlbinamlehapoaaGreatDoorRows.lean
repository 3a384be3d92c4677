/-
  NARROWER THAN 'FOR EVERY INPUT', by the rows' own cells (each row's printed sentence says how): FnLink: ifaces, laid.
  DERIVED. THE GIVEN ROWS OF THIS SEAT. 1 by the template 'for every input the law returns true; each argument reads behind the call as it read before'; 0 by the template 'total and deterministic' (their statements: YtlbinamlehapoaaGreatDoorTotals.lean).
  GIVEN WITH THE SEED: the statements are not yours to turn. If you find one false, say at which input.
  Laid BY PROGRAM, IN A SANDBOX (cutbox-rows.mjs): the forced cells as the released guide's own fill.sh prints them over the translation f668421e4eb53e54… (all of the seat's roots in one cut). By AI agents, Wed Nov 11 2026. No macro, syntax, notation, axiom, sorry.
-/
import Derived.Test.YtlbinamlehapoaaGreatDoorChecked
import GoSem.Claim
import GoSem.ClaimJoined
import GoSem.ClaimMapViews
import Derived.JoinedTies
import Derived.KernelRfl
namespace Go.Proofs.YtlbinamlehapoaaGreatDoor
/- THE CELL 'sum', in the pinned program and in every row, IS THE sha256 OF THE DUMP (.gsa) THAT YtlbinamlehapoaaGreatDoorProg.lean LOADS. Nothing in Lean hashes anything: it is a label: what it is worth is what the hold of that sum in a sandbox is worth. -/
noncomputable def Tryz.pinned : Pinned := { name := "ytlbinamlehapoaagreatdoor", sum := "f668421e4eb53e54bebeabc8e1d5d8e37cfe8593fbdc12ee36ba8c9408356a8c", checked := Tryz.checked }
namespace Rows
def none {H : Type} : Left H := { results := [], args := [] }

/- WHAT THE LISTED PACKAGE-LEVEL VARIABLES READ AS WHEN THE CALL BEGINS. Each datum BY PROGRAM (the guide's laid-datum.mjs) off the statement by which the dump's own 'gosem.cut.vars' lays the variable. In a bare row this is a premise. The card (YtlbinamlehapoaaGreatDoorCards.lean) ties it to the program's text. -/
def laid_errors_errorType {H : Type} : DataW H := .iface "internal/reflectlite.rtype" (.agg [.ptr (.lit (.string [101, 114, 114, 111, 114]))])
def laid_loop_example_g00303_impl_errNoLink {H : Type} : DataW H := .iface "*errors.errorString" (.ptr (.agg [.lit (.string [116, 104, 101, 32, 108, 105, 110, 107, 32, 105, 115, 32, 110, 111, 116, 32, 114, 105, 103, 104, 116])]))
def laid_loop_example_g00303_impl_errNoMsg {H : Type} : DataW H := .iface "*errors.errorString" (.ptr (.agg [.lit (.string [116, 104, 101, 32, 109, 101, 115, 115, 97, 103, 101, 32, 105, 115, 32, 110, 111, 110, 101, 32, 111, 102, 32, 116, 104, 105, 115, 32, 110, 111, 100, 101, 32, 116, 111, 32, 97, 110, 111, 116, 104, 101, 114, 32, 111, 110, 101])]))
def laid_loop_example_g00303_impl_errNoPack {H : Type} : DataW H := .iface "*errors.errorString" (.ptr (.agg [.lit (.string [116, 104, 101, 32, 112, 97, 99, 107, 32, 104, 97, 115, 32, 110, 111, 32, 109, 101, 115, 115, 97, 103, 101, 32, 111, 102, 32, 97, 110, 111, 116, 104, 101, 114, 32, 110, 111, 100, 101, 32, 116, 111, 32, 116, 104, 105, 115, 32, 111, 110, 101])]))
def laid_loop_example_g00303_impl_errNoRoom {H : Type} : DataW H := .iface "*errors.errorString" (.ptr (.agg [.lit (.string [116, 104, 101, 114, 101, 32, 105, 115, 32, 110, 111, 32, 114, 111, 111, 109, 32, 102, 111, 114, 32, 111, 110, 101, 32, 109, 111, 114, 101, 44, 32, 111, 114, 32, 110, 111, 32, 110, 117, 109, 98, 101, 114])]))
def laid_loop_example_g00303_impl_errTwice {H : Type} : DataW H := .iface "*errors.errorString" (.ptr (.agg [.lit (.string [116, 104, 101, 32, 109, 101, 115, 115, 97, 103, 101, 32, 119, 97, 115, 32, 116, 97, 107, 101, 110, 32, 98, 101, 102, 111, 114, 101])]))

/-- 'laws.FnLink': WHATEVER THE INPUT: true; the input reads as it did. -/
def fnLinkSpec : ChangeSpec := { name := "fnLink", vars := ["loop.example/g00303/impl.errNoLink", "loop.example/g00303/impl.errNoMsg", "loop.example/g00303/impl.errNoRoom", "loop.example/g00303/impl.errNoPack", "loop.example/g00303/impl.errTwice"], fn := fun _ => fun
  | [d, g1, g2, g3, g4, g5] => { results := [.lit (.bool true)], args := [d], vars := [g1, g2, g3, g4, g5] }
  | _ => none }
def fnLinkRow : OpenClaim := { program := "ytlbinamlehapoaagreatdoor", sum := "f668421e4eb53e54bebeabc8e1d5d8e37cfe8593fbdc12ee36ba8c9408356a8c", func := "loop.example/g00303/laws.FnLink", spec := "fnLink", inPlace := ["internal/reflectlite.ValueOf", "(internal/reflectlite.Value).Type", "(internal/reflectlite.Value).IsNil", "internal/reflectlite.TypeOf", "(internal/reflectlite.Value).Elem", "(internal/reflectlite.Value).Set", "internal/abi.NoEscape"], unfollowed := true, recurses := true, named := ["loop.example/g00303/impl.errNoLink", "loop.example/g00303/impl.errNoMsg", "loop.example/g00303/impl.errNoRoom", "errors.errorType", "loop.example/g00303/impl.errNoPack", "loop.example/g00303/impl.errTwice"], ifaces := true, apart := false, laid := [("errors.errorType", laid_errors_errorType), ("loop.example/g00303/impl.errNoLink", laid_loop_example_g00303_impl_errNoLink), ("loop.example/g00303/impl.errNoMsg", laid_loop_example_g00303_impl_errNoMsg), ("loop.example/g00303/impl.errNoPack", laid_loop_example_g00303_impl_errNoPack), ("loop.example/g00303/impl.errNoRoom", laid_loop_example_g00303_impl_errNoRoom), ("loop.example/g00303/impl.errTwice", laid_loop_example_g00303_impl_errTwice)] }
def FnLinkSaid : Prop := fnLinkRow.holds Tryz.pinned (OpenSpec.ofChange fnLinkSpec)

/-- ITS FALSE NEIGHBOUR: 'it returns false'. Refute it at one input. -/
def fnLinkWrong : ChangeSpec := { name := "fnLink", vars := ["loop.example/g00303/impl.errNoLink", "loop.example/g00303/impl.errNoMsg", "loop.example/g00303/impl.errNoRoom", "loop.example/g00303/impl.errNoPack", "loop.example/g00303/impl.errTwice"], fn := fun _ => fun
  | [d, g1, g2, g3, g4, g5] => { results := [.lit (.bool false)], args := [d], vars := [g1, g2, g3, g4, g5] }
  | _ => none }
def FnLinkWrongFalsely : Prop := fnLinkRow.holds Tryz.pinned (OpenSpec.ofChange fnLinkWrong)

/- THE SECOND FORM. 'bulk': how many values and letters a reading holds, each counted each time it is reached (what is shared counts as often as it is met; a slice's spare places count too). A statement '..UptoSaid' is the law's where the arguments, and the package variables that the reading takes, are together of bulk at most 1048576: NARROWER than '..Said'. Prove '..Said' where nothing that the law and all that it calls make is longer than what came in: it says more and counts as full. Else prove '..UptoSaid'. A law counts once. -/
mutual
def uptoBulk {H : Type} : DataW H → Nat
  | .lit (.string bytes) => bytes.length + 1
  | .lit _ => 1
  | .nil => 1
  | .ptr d => uptoBulk d + 1
  | .slice elems spare => uptoBulkAll elems + uptoBulkAll spare + 1
  | .agg parts => uptoBulkAll parts + 1
  | .iface _ d => uptoBulk d + 1
  | .map entries => uptoBulkEntries entries + 1
  | .held _ => 1
def uptoBulkAll {H : Type} : List (DataW H) → Nat
  | [] => 0
  | d :: r => uptoBulk d + uptoBulkAll r
def uptoBulkEntries {H : Type} : List (Lit × DataW H) → Nat
  | [] => 0
  | x :: r => uptoBulkEntry x + uptoBulkEntries r
def uptoBulkEntry {H : Type} : Lit × DataW H → Nat
  | (.string bytes, d) => bytes.length + uptoBulk d + 1
  | (_, d) => uptoBulk d + 1
 end
def uptoSmall : (H : Type) → List (DataW H) → Bool := fun _ ds => decide (uptoBulkAll ds ≤ 1048576)
def OpenSpec.upto (s : _root_.Go.ChangeSpec) : _root_.Go.OpenSpec := { _root_.Go.OpenSpec.ofChange s with cond := some uptoSmall }

/-- 'laws.FnLink', WHERE WHAT IT READS IS OF BULK AT MOST 1048576: true; the input reads as it did. -/
def fnLinkUptoRow : OpenClaim := { program := "ytlbinamlehapoaagreatdoor", sum := "f668421e4eb53e54bebeabc8e1d5d8e37cfe8593fbdc12ee36ba8c9408356a8c", func := "loop.example/g00303/laws.FnLink", spec := "fnLink", inPlace := ["internal/reflectlite.ValueOf", "(internal/reflectlite.Value).Type", "(internal/reflectlite.Value).IsNil", "internal/reflectlite.TypeOf", "(internal/reflectlite.Value).Elem", "(internal/reflectlite.Value).Set", "internal/abi.NoEscape"], unfollowed := true, recurses := true, named := ["loop.example/g00303/impl.errNoLink", "loop.example/g00303/impl.errNoMsg", "loop.example/g00303/impl.errNoRoom", "errors.errorType", "loop.example/g00303/impl.errNoPack", "loop.example/g00303/impl.errTwice"], ifaces := true, apart := false, laid := [("errors.errorType", laid_errors_errorType), ("loop.example/g00303/impl.errNoLink", laid_loop_example_g00303_impl_errNoLink), ("loop.example/g00303/impl.errNoMsg", laid_loop_example_g00303_impl_errNoMsg), ("loop.example/g00303/impl.errNoPack", laid_loop_example_g00303_impl_errNoPack), ("loop.example/g00303/impl.errNoRoom", laid_loop_example_g00303_impl_errNoRoom), ("loop.example/g00303/impl.errTwice", laid_loop_example_g00303_impl_errTwice)], narrowed := true }
def FnLinkUptoSaid : Prop := fnLinkUptoRow.holds Tryz.pinned (OpenSpec.upto fnLinkSpec)

end Rows
end Go.Proofs.YtlbinamlehapoaaGreatDoor
