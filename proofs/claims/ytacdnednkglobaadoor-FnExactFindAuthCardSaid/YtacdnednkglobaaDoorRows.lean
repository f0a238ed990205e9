/-
  NARROWER THAN 'FOR EVERY INPUT', by the rows' own cells (each row's printed sentence says how): FnBodies: ifaces, laid · FnAskings: ifaces, laid · FnExactFindAuth: ifaces, laid.
  DERIVED. THE GIVEN ROWS OF THIS SEAT. 3 by the template 'for every input the law returns true; each argument reads behind the call as it read before'; 0 by the template 'total and deterministic' (their statements: YtacdnednkglobaaDoorTotals.lean).
  GIVEN WITH THE SEED: the statements are not yours to turn. If you find one false, say at which input.
  Laid BY PROGRAM, IN A SANDBOX (cutbox-rows.mjs): the forced cells as the released guide's own fill.sh prints them over the translation 0cb9e8e8da32d67c… (all of the seat's roots in one cut). By AI agents, Wed Nov 11 2026. No macro, syntax, notation, axiom, sorry.
-/
import Derived.Test.YtacdnednkglobaaDoorChecked
import GoSem.Claim
import GoSem.ClaimJoined
import GoSem.ClaimMapViews
import Derived.JoinedTies
import Derived.KernelRfl
namespace Go.Proofs.YtacdnednkglobaaDoor
/- THE CELL 'sum', in the pinned program and in every row, IS THE sha256 OF THE DUMP (.gsa) THAT YtacdnednkglobaaDoorProg.lean LOADS. Nothing in Lean hashes anything: it is a label: what it is worth is what the hold of that sum in a sandbox is worth. -/
noncomputable def Tryd.pinned : Pinned := { name := "ytacdnednkglobaadoor", sum := "0cb9e8e8da32d67ca6650fa358ac7dc31568cec79ac476924c774a9a83b9988d", checked := Tryd.checked }
namespace Rows
def none {H : Type} : Left H := { results := [], args := [] }

/- WHAT THE LISTED PACKAGE-LEVEL VARIABLES READ AS WHEN THE CALL BEGINS. Each datum BY PROGRAM (the guide's laid-datum.mjs) off the statement by which the dump's own 'gosem.cut.vars' lays the variable. In a bare row this is a premise. The card (YtacdnednkglobaaDoorCards.lean) ties it to the program's text. -/
def laid_loop_example_g00670_impl_errUnreadable {H : Type} : DataW H := .iface "*errors.errorString" (.ptr (.agg [.lit (.string [117, 110, 114, 101, 97, 100, 97, 98, 108, 101, 32, 98, 121, 116, 101, 115])]))
def laid_errors_errorType {H : Type} : DataW H := .iface "internal/reflectlite.rtype" (.agg [.ptr (.lit (.string [101, 114, 114, 111, 114]))])

/-- 'laws.FnBodies': WHATEVER THE INPUT: true; the input reads as it did. -/
def fnBodiesSpec : ChangeSpec := { name := "fnBodies", vars := ["loop.example/g00670/impl.errUnreadable"], fn := fun _ => fun
  | [d, g1] => { results := [.lit (.bool true)], args := [d], vars := [g1] }
  | _ => none }
def fnBodiesRow : OpenClaim := { program := "ytacdnednkglobaadoor", sum := "0cb9e8e8da32d67ca6650fa358ac7dc31568cec79ac476924c774a9a83b9988d", func := "loop.example/g00670/laws.FnBodies", spec := "fnBodies", unfollowed := true, recurses := true, named := ["loop.example/g00670/impl.errUnreadable"], ifaces := true, apart := false, laid := [("loop.example/g00670/impl.errUnreadable", laid_loop_example_g00670_impl_errUnreadable)] }
def FnBodiesSaid : Prop := fnBodiesRow.holds Tryd.pinned (OpenSpec.ofChange fnBodiesSpec)

/-- ITS FALSE NEIGHBOUR: 'it returns false'. Refute it at one input. -/
def fnBodiesWrong : ChangeSpec := { name := "fnBodies", vars := ["loop.example/g00670/impl.errUnreadable"], fn := fun _ => fun
  | [d, g1] => { results := [.lit (.bool false)], args := [d], vars := [g1] }
  | _ => none }
def FnBodiesWrongFalsely : Prop := fnBodiesRow.holds Tryd.pinned (OpenSpec.ofChange fnBodiesWrong)

/-- 'laws.FnAskings': WHATEVER THE INPUT: true; the input reads as it did. -/
def fnAskingsSpec : ChangeSpec := { name := "fnAskings", vars := ["loop.example/g00670/impl.errUnreadable"], fn := fun _ => fun
  | [d, g1] => { results := [.lit (.bool true)], args := [d], vars := [g1] }
  | _ => none }
def fnAskingsRow : OpenClaim := { program := "ytacdnednkglobaadoor", sum := "0cb9e8e8da32d67ca6650fa358ac7dc31568cec79ac476924c774a9a83b9988d", func := "loop.example/g00670/laws.FnAskings", spec := "fnAskings", unfollowed := true, recurses := true, named := ["loop.example/g00670/impl.errUnreadable"], ifaces := true, apart := false, laid := [("loop.example/g00670/impl.errUnreadable", laid_loop_example_g00670_impl_errUnreadable)] }
def FnAskingsSaid : Prop := fnAskingsRow.holds Tryd.pinned (OpenSpec.ofChange fnAskingsSpec)

/-- ITS FALSE NEIGHBOUR: 'it returns false'. Refute it at one input. -/
def fnAskingsWrong : ChangeSpec := { name := "fnAskings", vars := ["loop.example/g00670/impl.errUnreadable"], fn := fun _ => fun
  | [d, g1] => { results := [.lit (.bool false)], args := [d], vars := [g1] }
  | _ => none }
def FnAskingsWrongFalsely : Prop := fnAskingsRow.holds Tryd.pinned (OpenSpec.ofChange fnAskingsWrong)

/-- 'laws.FnExactFindAuth': WHATEVER THE INPUT: true; the input reads as it did. -/
def fnExactFindAuthSpec : ChangeSpec := { name := "fnExactFindAuth", vars := ["loop.example/g00670/impl.errUnreadable"], fn := fun _ => fun
  | [d, g1] => { results := [.lit (.bool true)], args := [d], vars := [g1] }
  | _ => none }
def fnExactFindAuthRow : OpenClaim := { program := "ytacdnednkglobaadoor", sum := "0cb9e8e8da32d67ca6650fa358ac7dc31568cec79ac476924c774a9a83b9988d", func := "loop.example/g00670/laws.FnExactFindAuth", spec := "fnExactFindAuth", inPlace := ["internal/reflectlite.ValueOf", "(internal/reflectlite.Value).Type", "(internal/reflectlite.Value).IsNil", "internal/reflectlite.TypeOf", "(internal/reflectlite.Value).Elem", "(internal/reflectlite.Value).Set"], unfollowed := true, recurses := true, named := ["loop.example/g00670/impl.errUnreadable", "errors.errorType"], ifaces := true, apart := false, laid := [("errors.errorType", laid_errors_errorType), ("loop.example/g00670/impl.errUnreadable", laid_loop_example_g00670_impl_errUnreadable)] }
def FnExactFindAuthSaid : Prop := fnExactFindAuthRow.holds Tryd.pinned (OpenSpec.ofChange fnExactFindAuthSpec)

/-- ITS FALSE NEIGHBOUR: 'it returns false'. Refute it at one input. -/
def fnExactFindAuthWrong : ChangeSpec := { name := "fnExactFindAuth", vars := ["loop.example/g00670/impl.errUnreadable"], fn := fun _ => fun
  | [d, g1] => { results := [.lit (.bool false)], args := [d], vars := [g1] }
  | _ => none }
def FnExactFindAuthWrongFalsely : Prop := fnExactFindAuthRow.holds Tryd.pinned (OpenSpec.ofChange fnExactFindAuthWrong)

/- THE SECOND FORM. 'bulk': how many values and letters a reading holds, each counted each time it is reached (what is shared counts as often as it is met; a slice's spare places count too). A statement '..UptoSaid' is the law's where the arguments, and the package variables that the reading takes, are together of bulk at most 1048576: NARROWER than '..Said'. Prove '..Said' where nothing that the law and all that it calls make is longer than what came in: it says more and counts as full. Else prove '..UptoSaid'. A law counts once. -/
mutual
def uptoBulk {H : Type} : DataW H → Nat
  | .lit (.string bytes) => bytes.length + 1
  | .lit _ => 1
  | .nil => 1
  | .ptr d => uptoBulk d + 1
  | .slice elems spare => uptoBulkAll elems + uptoBulkAll spare + 1
  | .agg parts => uptoBulkAll parts + 1
  | .iface _ d => uptoBulk d + 1
  | .map entries => uptoBulkEntries entries + 1
  | .held _ => 1
def uptoBulkAll {H : Type} : List (DataW H) → Nat
  | [] => 0
  | d :: r => uptoBulk d + uptoBulkAll r
def uptoBulkEntries {H : Type} : List (Lit × DataW H) → Nat
  | [] => 0
  | x :: r => uptoBulkEntry x + uptoBulkEntries r
def uptoBulkEntry {H : Type} : Lit × DataW H → Nat
  | (.string bytes, d) => bytes.length + uptoBulk d + 1
  | (_, d) => uptoBulk d + 1
 end
def uptoSmall : (H : Type) → List (DataW H) → Bool := fun _ ds => decide (uptoBulkAll ds ≤ 1048576)
def OpenSpec.upto (s : _root_.Go.ChangeSpec) : _root_.Go.OpenSpec := { _root_.Go.OpenSpec.ofChange s with cond := some uptoSmall }

/-- 'laws.FnBodies', WHERE WHAT IT READS IS OF BULK AT MOST 1048576: true; the input reads as it did. -/
def fnBodiesUptoRow : OpenClaim := { program := "ytacdnednkglobaadoor", sum := "0cb9e8e8da32d67ca6650fa358ac7dc31568cec79ac476924c774a9a83b9988d", func := "loop.example/g00670/laws.FnBodies", spec := "fnBodies", unfollowed := true, recurses := true, named := ["loop.example/g00670/impl.errUnreadable"], ifaces := true, apart := false, laid := [("loop.example/g00670/impl.errUnreadable", laid_loop_example_g00670_impl_errUnreadable)], narrowed := true }
def FnBodiesUptoSaid : Prop := fnBodiesUptoRow.holds Tryd.pinned (OpenSpec.upto fnBodiesSpec)

/-- 'laws.FnAskings', WHERE WHAT IT READS IS OF BULK AT MOST 1048576: true; the input reads as it did. -/
def fnAskingsUptoRow : OpenClaim := { program := "ytacdnednkglobaadoor", sum := "0cb9e8e8da32d67ca6650fa358ac7dc31568cec79ac476924c774a9a83b9988d", func := "loop.example/g00670/laws.FnAskings", spec := "fnAskings", unfollowed := true, recurses := true, named := ["loop.example/g00670/impl.errUnreadable"], ifaces := true, apart := false, laid := [("loop.example/g00670/impl.errUnreadable", laid_loop_example_g00670_impl_errUnreadable)], narrowed := true }
def FnAskingsUptoSaid : Prop := fnAskingsUptoRow.holds Tryd.pinned (OpenSpec.upto fnAskingsSpec)

/-- 'laws.FnExactFindAuth', WHERE WHAT IT READS IS OF BULK AT MOST 1048576: true; the input reads as it did. -/
def fnExactFindAuthUptoRow : OpenClaim := { program := "ytacdnednkglobaadoor", sum := "0cb9e8e8da32d67ca6650fa358ac7dc31568cec79ac476924c774a9a83b9988d", func := "loop.example/g00670/laws.FnExactFindAuth", spec := "fnExactFindAuth", inPlace := ["internal/reflectlite.ValueOf", "(internal/reflectlite.Value).Type", "(internal/reflectlite.Value).IsNil", "internal/reflectlite.TypeOf", "(internal/reflectlite.Value).Elem", "(internal/reflectlite.Value).Set"], unfollowed := true, recurses := true, named := ["loop.example/g00670/impl.errUnreadable", "errors.errorType"], ifaces := true, apart := false, laid := [("errors.errorType", laid_errors_errorType), ("loop.example/g00670/impl.errUnreadable", laid_loop_example_g00670_impl_errUnreadable)], narrowed := true }
def FnExactFindAuthUptoSaid : Prop := fnExactFindAuthUptoRow.holds Tryd.pinned (OpenSpec.upto fnExactFindAuthSpec)

end Rows
end Go.Proofs.YtacdnednkglobaaDoor
