/-
  NARROWER THAN 'FOR EVERY INPUT', by the rows' own cells (each row's printed sentence says how): FnPackets: ifaces, laid · FnExactReadPacket: ifaces, laid.
  DERIVED. THE GIVEN ROWS OF THIS SEAT. 2 by the template 'for every input the law returns true; each argument reads behind the call as it read before'; 0 by the template 'total and deterministic' (their statements: YtepcikghhnfacaaDoorTotals.lean).
  GIVEN WITH THE SEED: the statements are not yours to turn. If you find one false, say at which input.
  Laid BY PROGRAM, IN A SANDBOX (cutbox-rows.mjs): the forced cells as the released guide's own fill.sh prints them over the translation db1a096a1dc0ab60… (all of the seat's roots in one cut). By AI agents, Wed Nov 11 2026. No macro, syntax, notation, axiom, sorry.
-/
import Derived.Test.YtepcikghhnfacaaDoorChecked
import GoSem.Claim
import GoSem.ClaimJoined
import GoSem.ClaimMapViews
import Derived.JoinedTies
import Derived.KernelRfl
namespace Go.Proofs.YtepcikghhnfacaaDoor
/- THE CELL 'sum', in the pinned program and in every row, IS THE sha256 OF THE DUMP (.gsa) THAT YtepcikghhnfacaaDoorProg.lean LOADS. Nothing in Lean hashes anything: it is a label: what it is worth is what the hold of that sum in a sandbox is worth. -/
noncomputable def Tryd.pinned : Pinned := { name := "ytepcikghhnfacaadoor", sum := "db1a096a1dc0ab6050d8eeaad4e445f509f2c602bd0f1b4756367ae312f3b6f5", checked := Tryd.checked }
namespace Rows
def none {H : Type} : Left H := { results := [], args := [] }

/- WHAT THE LISTED PACKAGE-LEVEL VARIABLES READ AS WHEN THE CALL BEGINS. Each datum BY PROGRAM (the guide's laid-datum.mjs) off the statement by which the dump's own 'gosem.cut.vars' lays the variable. In a bare row this is a premise. The card (YtepcikghhnfacaaDoorCards.lean) ties it to the program's text. -/
def laid_loop_example_g00670_impl_errUnreadable {H : Type} : DataW H := .iface "*errors.errorString" (.ptr (.agg [.lit (.string [117, 110, 114, 101, 97, 100, 97, 98, 108, 101, 32, 98, 121, 116, 101, 115])]))

/-- 'laws.FnPackets': WHATEVER THE INPUT: true; the input reads as it did. -/
def fnPacketsSpec : ChangeSpec := { name := "fnPackets", vars := ["loop.example/g00670/impl.errUnreadable"], fn := fun _ => fun
  | [d, g1] => { results := [.lit (.bool true)], args := [d], vars := [g1] }
  | _ => none }
def fnPacketsRow : OpenClaim := { program := "ytepcikghhnfacaadoor", sum := "db1a096a1dc0ab6050d8eeaad4e445f509f2c602bd0f1b4756367ae312f3b6f5", func := "loop.example/g00670/laws.FnPackets", spec := "fnPackets", unfollowed := true, recurses := true, named := ["loop.example/g00670/impl.errUnreadable"], ifaces := true, apart := false, laid := [("loop.example/g00670/impl.errUnreadable", laid_loop_example_g00670_impl_errUnreadable)] }
def FnPacketsSaid : Prop := fnPacketsRow.holds Tryd.pinned (OpenSpec.ofChange fnPacketsSpec)

/-- ITS FALSE NEIGHBOUR: 'it returns false'. Refute it at one input. -/
def fnPacketsWrong : ChangeSpec := { name := "fnPackets", vars := ["loop.example/g00670/impl.errUnreadable"], fn := fun _ => fun
  | [d, g1] => { results := [.lit (.bool false)], args := [d], vars := [g1] }
  | _ => none }
def FnPacketsWrongFalsely : Prop := fnPacketsRow.holds Tryd.pinned (OpenSpec.ofChange fnPacketsWrong)

/-- 'laws.FnExactReadPacket': WHATEVER THE INPUT: true; the input reads as it did. -/
def fnExactReadPacketSpec : ChangeSpec := { name := "fnExactReadPacket", vars := ["loop.example/g00670/impl.errUnreadable"], fn := fun _ => fun
  | [d, g1] => { results := [.lit (.bool true)], args := [d], vars := [g1] }
  | _ => none }
def fnExactReadPacketRow : OpenClaim := { program := "ytepcikghhnfacaadoor", sum := "db1a096a1dc0ab6050d8eeaad4e445f509f2c602bd0f1b4756367ae312f3b6f5", func := "loop.example/g00670/laws.FnExactReadPacket", spec := "fnExactReadPacket", unfollowed := true, recurses := true, named := ["loop.example/g00670/impl.errUnreadable"], ifaces := true, apart := false, laid := [("loop.example/g00670/impl.errUnreadable", laid_loop_example_g00670_impl_errUnreadable)] }
def FnExactReadPacketSaid : Prop := fnExactReadPacketRow.holds Tryd.pinned (OpenSpec.ofChange fnExactReadPacketSpec)

/-- ITS FALSE NEIGHBOUR: 'it returns false'. Refute it at one input. -/
def fnExactReadPacketWrong : ChangeSpec := { name := "fnExactReadPacket", vars := ["loop.example/g00670/impl.errUnreadable"], fn := fun _ => fun
  | [d, g1] => { results := [.lit (.bool false)], args := [d], vars := [g1] }
  | _ => none }
def FnExactReadPacketWrongFalsely : Prop := fnExactReadPacketRow.holds Tryd.pinned (OpenSpec.ofChange fnExactReadPacketWrong)

/- THE SECOND FORM. 'bulk': how many values and letters a reading holds, each counted each time it is reached (what is shared counts as often as it is met; a slice's spare places count too). A statement '..UptoSaid' is the law's where the arguments, and the package variables that the reading takes, are together of bulk at most 1048576: NARROWER than '..Said'. Prove '..Said' where nothing that the law and all that it calls make is longer than what came in: it says more and counts as full. Else prove '..UptoSaid'. A law counts once. -/
mutual
def uptoBulk {H : Type} : DataW H → Nat
  | .lit (.string bytes) => bytes.length + 1
  | .lit _ => 1
  | .nil => 1
  | .ptr d => uptoBulk d + 1
  | .slice elems spare => uptoBulkAll elems + uptoBulkAll spare + 1
  | .agg parts => uptoBulkAll parts + 1
  | .iface _ d => uptoBulk d + 1
  | .map entries => uptoBulkEntries entries + 1
  | .held _ => 1
def uptoBulkAll {H : Type} : List (DataW H) → Nat
  | [] => 0
  | d :: r => uptoBulk d + uptoBulkAll r
def uptoBulkEntries {H : Type} : List (Lit × DataW H) → Nat
  | [] => 0
  | x :: r => uptoBulkEntry x + uptoBulkEntries r
def uptoBulkEntry {H : Type} : Lit × DataW H → Nat
  | (.string bytes, d) => bytes.length + uptoBulk d + 1
  | (_, d) => uptoBulk d + 1
 end
def uptoSmall : (H : Type) → List (DataW H) → Bool := fun _ ds => decide (uptoBulkAll ds ≤ 1048576)
def OpenSpec.upto (s : _root_.Go.ChangeSpec) : _root_.Go.OpenSpec := { _root_.Go.OpenSpec.ofChange s with cond := some uptoSmall }

/-- 'laws.FnPackets', WHERE WHAT IT READS IS OF BULK AT MOST 1048576: true; the input reads as it did. -/
def fnPacketsUptoRow : OpenClaim := { program := "ytepcikghhnfacaadoor", sum := "db1a096a1dc0ab6050d8eeaad4e445f509f2c602bd0f1b4756367ae312f3b6f5", func := "loop.example/g00670/laws.FnPackets", spec := "fnPackets", unfollowed := true, recurses := true, named := ["loop.example/g00670/impl.errUnreadable"], ifaces := true, apart := false, laid := [("loop.example/g00670/impl.errUnreadable", laid_loop_example_g00670_impl_errUnreadable)], narrowed := true }
def FnPacketsUptoSaid : Prop := fnPacketsUptoRow.holds Tryd.pinned (OpenSpec.upto fnPacketsSpec)

/-- 'laws.FnExactReadPacket', WHERE WHAT IT READS IS OF BULK AT MOST 1048576: true; the input reads as it did. -/
def fnExactReadPacketUptoRow : OpenClaim := { program := "ytepcikghhnfacaadoor", sum := "db1a096a1dc0ab6050d8eeaad4e445f509f2c602bd0f1b4756367ae312f3b6f5", func := "loop.example/g00670/laws.FnExactReadPacket", spec := "fnExactReadPacket", unfollowed := true, recurses := true, named := ["loop.example/g00670/impl.errUnreadable"], ifaces := true, apart := false, laid := [("loop.example/g00670/impl.errUnreadable", laid_loop_example_g00670_impl_errUnreadable)], narrowed := true }
def FnExactReadPacketUptoSaid : Prop := fnExactReadPacketUptoRow.holds Tryd.pinned (OpenSpec.upto fnExactReadPacketSpec)

end Rows
end Go.Proofs.YtepcikghhnfacaaDoor
