/-
  NARROWER THAN 'FOR EVERY INPUT', by the rows' own cells (each row's printed sentence says how): FnBodies: ifaces, laid · FnAskings: ifaces, laid · FnExactReadData: ifaces, laid · FnExactReadSack: ifaces, laid · FnExactReadInit: ifaces, laid · FnExactReadAsconf: ifaces, laid.
  DERIVED. THE GIVEN ROWS OF THIS SEAT. 6 by the template 'for every input the law returns true; each argument reads behind the call as it read before'; 0 by the template 'total and deterministic' (their statements: YtjjileefdjjijaaDoorTotals.lean).
  GIVEN WITH THE SEED: the statements are not yours to turn. If you find one false, say at which input.
  Laid BY PROGRAM, IN A SANDBOX (cutbox-rows.mjs): the forced cells as the released guide's own fill.sh prints them over the translation df73ebdcaa1d5976… (all of the seat's roots in one cut). By AI agents, Wed Nov 11 2026. No macro, syntax, notation, axiom, sorry.
-/
import Derived.Test.YtjjileefdjjijaaDoorChecked
import GoSem.Claim
import GoSem.ClaimJoined
import GoSem.ClaimMapViews
import Derived.JoinedTies
import Derived.KernelRfl
namespace Go.Proofs.YtjjileefdjjijaaDoor
/- THE CELL 'sum', in the pinned program and in every row, IS THE sha256 OF THE DUMP (.gsa) THAT YtjjileefdjjijaaDoorProg.lean LOADS. Nothing in Lean hashes anything: it is a label: what it is worth is what the hold of that sum in a sandbox is worth. -/
noncomputable def Tryd.pinned : Pinned := { name := "ytjjileefdjjijaadoor", sum := "df73ebdcaa1d5976d71d0b6de54914516a56875753c6f6c905f11e3f832b14ba", checked := Tryd.checked }
namespace Rows
def none {H : Type} : Left H := { results := [], args := [] }

/- WHAT THE LISTED PACKAGE-LEVEL VARIABLES READ AS WHEN THE CALL BEGINS. Each datum BY PROGRAM (the guide's laid-datum.mjs) off the statement by which the dump's own 'gosem.cut.vars' lays the variable. In a bare row this is a premise. The card (YtjjileefdjjijaaDoorCards.lean) ties it to the program's text. -/
def laid_loop_example_g00670_impl_errUnreadable {H : Type} : DataW H := .iface "*errors.errorString" (.ptr (.agg [.lit (.string [117, 110, 114, 101, 97, 100, 97, 98, 108, 101, 32, 98, 121, 116, 101, 115])]))

/-- 'laws.FnBodies': WHATEVER THE INPUT: true; the input reads as it did. -/
def fnBodiesSpec : ChangeSpec := { name := "fnBodies", vars := ["loop.example/g00670/impl.errUnreadable"], fn := fun _ => fun
  | [d, g1] => { results := [.lit (.bool true)], args := [d], vars := [g1] }
  | _ => none }
def fnBodiesRow : OpenClaim := { program := "ytjjileefdjjijaadoor", sum := "df73ebdcaa1d5976d71d0b6de54914516a56875753c6f6c905f11e3f832b14ba", func := "loop.example/g00670/laws.FnBodies", spec := "fnBodies", unfollowed := true, recurses := true, named := ["loop.example/g00670/impl.errUnreadable"], ifaces := true, apart := false, laid := [("loop.example/g00670/impl.errUnreadable", laid_loop_example_g00670_impl_errUnreadable)] }
def FnBodiesSaid : Prop := fnBodiesRow.holds Tryd.pinned (OpenSpec.ofChange fnBodiesSpec)

/-- ITS FALSE NEIGHBOUR: 'it returns false'. Refute it at one input. -/
def fnBodiesWrong : ChangeSpec := { name := "fnBodies", vars := ["loop.example/g00670/impl.errUnreadable"], fn := fun _ => fun
  | [d, g1] => { results := [.lit (.bool false)], args := [d], vars := [g1] }
  | _ => none }
def FnBodiesWrongFalsely : Prop := fnBodiesRow.holds Tryd.pinned (OpenSpec.ofChange fnBodiesWrong)

/-- 'laws.FnAskings': WHATEVER THE INPUT: true; the input reads as it did. -/
def fnAskingsSpec : ChangeSpec := { name := "fnAskings", vars := ["loop.example/g00670/impl.errUnreadable"], fn := fun _ => fun
  | [d, g1] => { results := [.lit (.bool true)], args := [d], vars := [g1] }
  | _ => none }
def fnAskingsRow : OpenClaim := { program := "ytjjileefdjjijaadoor", sum := "df73ebdcaa1d5976d71d0b6de54914516a56875753c6f6c905f11e3f832b14ba", func := "loop.example/g00670/laws.FnAskings", spec := "fnAskings", unfollowed := true, recurses := true, named := ["loop.example/g00670/impl.errUnreadable"], ifaces := true, apart := false, laid := [("loop.example/g00670/impl.errUnreadable", laid_loop_example_g00670_impl_errUnreadable)] }
def FnAskingsSaid : Prop := fnAskingsRow.holds Tryd.pinned (OpenSpec.ofChange fnAskingsSpec)

/-- ITS FALSE NEIGHBOUR: 'it returns false'. Refute it at one input. -/
def fnAskingsWrong : ChangeSpec := { name := "fnAskings", vars := ["loop.example/g00670/impl.errUnreadable"], fn := fun _ => fun
  | [d, g1] => { results := [.lit (.bool false)], args := [d], vars := [g1] }
  | _ => none }
def FnAskingsWrongFalsely : Prop := fnAskingsRow.holds Tryd.pinned (OpenSpec.ofChange fnAskingsWrong)

/-- 'laws.FnExactReadData': WHATEVER THE INPUT: true; the input reads as it did. -/
def fnExactReadDataSpec : ChangeSpec := { name := "fnExactReadData", vars := ["loop.example/g00670/impl.errUnreadable"], fn := fun _ => fun
  | [d, g1] => { results := [.lit (.bool true)], args := [d], vars := [g1] }
  | _ => none }
def fnExactReadDataRow : OpenClaim := { program := "ytjjileefdjjijaadoor", sum := "df73ebdcaa1d5976d71d0b6de54914516a56875753c6f6c905f11e3f832b14ba", func := "loop.example/g00670/laws.FnExactReadData", spec := "fnExactReadData", unfollowed := true, recurses := true, named := ["loop.example/g00670/impl.errUnreadable"], ifaces := true, apart := false, laid := [("loop.example/g00670/impl.errUnreadable", laid_loop_example_g00670_impl_errUnreadable)] }
def FnExactReadDataSaid : Prop := fnExactReadDataRow.holds Tryd.pinned (OpenSpec.ofChange fnExactReadDataSpec)

/-- ITS FALSE NEIGHBOUR: 'it returns false'. Refute it at one input. -/
def fnExactReadDataWrong : ChangeSpec := { name := "fnExactReadData", vars := ["loop.example/g00670/impl.errUnreadable"], fn := fun _ => fun
  | [d, g1] => { results := [.lit (.bool false)], args := [d], vars := [g1] }
  | _ => none }
def FnExactReadDataWrongFalsely : Prop := fnExactReadDataRow.holds Tryd.pinned (OpenSpec.ofChange fnExactReadDataWrong)

/-- 'laws.FnExactReadSack': WHATEVER THE INPUT: true; the input reads as it did. -/
def fnExactReadSackSpec : ChangeSpec := { name := "fnExactReadSack", vars := ["loop.example/g00670/impl.errUnreadable"], fn := fun _ => fun
  | [d, g1] => { results := [.lit (.bool true)], args := [d], vars := [g1] }
  | _ => none }
def fnExactReadSackRow : OpenClaim := { program := "ytjjileefdjjijaadoor", sum := "df73ebdcaa1d5976d71d0b6de54914516a56875753c6f6c905f11e3f832b14ba", func := "loop.example/g00670/laws.FnExactReadSack", spec := "fnExactReadSack", unfollowed := true, recurses := true, named := ["loop.example/g00670/impl.errUnreadable"], ifaces := true, apart := false, laid := [("loop.example/g00670/impl.errUnreadable", laid_loop_example_g00670_impl_errUnreadable)] }
def FnExactReadSackSaid : Prop := fnExactReadSackRow.holds Tryd.pinned (OpenSpec.ofChange fnExactReadSackSpec)

/-- ITS FALSE NEIGHBOUR: 'it returns false'. Refute it at one input. -/
def fnExactReadSackWrong : ChangeSpec := { name := "fnExactReadSack", vars := ["loop.example/g00670/impl.errUnreadable"], fn := fun _ => fun
  | [d, g1] => { results := [.lit (.bool false)], args := [d], vars := [g1] }
  | _ => none }
def FnExactReadSackWrongFalsely : Prop := fnExactReadSackRow.holds Tryd.pinned (OpenSpec.ofChange fnExactReadSackWrong)

/-- 'laws.FnExactReadInit': WHATEVER THE INPUT: true; the input reads as it did. -/
def fnExactReadInitSpec : ChangeSpec := { name := "fnExactReadInit", vars := ["loop.example/g00670/impl.errUnreadable"], fn := fun _ => fun
  | [d, g1] => { results := [.lit (.bool true)], args := [d], vars := [g1] }
  | _ => none }
def fnExactReadInitRow : OpenClaim := { program := "ytjjileefdjjijaadoor", sum := "df73ebdcaa1d5976d71d0b6de54914516a56875753c6f6c905f11e3f832b14ba", func := "loop.example/g00670/laws.FnExactReadInit", spec := "fnExactReadInit", unfollowed := true, recurses := true, named := ["loop.example/g00670/impl.errUnreadable"], ifaces := true, apart := false, laid := [("loop.example/g00670/impl.errUnreadable", laid_loop_example_g00670_impl_errUnreadable)] }
def FnExactReadInitSaid : Prop := fnExactReadInitRow.holds Tryd.pinned (OpenSpec.ofChange fnExactReadInitSpec)

/-- ITS FALSE NEIGHBOUR: 'it returns false'. Refute it at one input. -/
def fnExactReadInitWrong : ChangeSpec := { name := "fnExactReadInit", vars := ["loop.example/g00670/impl.errUnreadable"], fn := fun _ => fun
  | [d, g1] => { results := [.lit (.bool false)], args := [d], vars := [g1] }
  | _ => none }
def FnExactReadInitWrongFalsely : Prop := fnExactReadInitRow.holds Tryd.pinned (OpenSpec.ofChange fnExactReadInitWrong)

/-- 'laws.FnExactReadAsconf': WHATEVER THE INPUT: true; the input reads as it did. -/
def fnExactReadAsconfSpec : ChangeSpec := { name := "fnExactReadAsconf", vars := ["loop.example/g00670/impl.errUnreadable"], fn := fun _ => fun
  | [d, g1] => { results := [.lit (.bool true)], args := [d], vars := [g1] }
  | _ => none }
def fnExactReadAsconfRow : OpenClaim := { program := "ytjjileefdjjijaadoor", sum := "df73ebdcaa1d5976d71d0b6de54914516a56875753c6f6c905f11e3f832b14ba", func := "loop.example/g00670/laws.FnExactReadAsconf", spec := "fnExactReadAsconf", unfollowed := true, recurses := true, named := ["loop.example/g00670/impl.errUnreadable"], ifaces := true, apart := false, laid := [("loop.example/g00670/impl.errUnreadable", laid_loop_example_g00670_impl_errUnreadable)] }
def FnExactReadAsconfSaid : Prop := fnExactReadAsconfRow.holds Tryd.pinned (OpenSpec.ofChange fnExactReadAsconfSpec)

/-- ITS FALSE NEIGHBOUR: 'it returns false'. Refute it at one input. -/
def fnExactReadAsconfWrong : ChangeSpec := { name := "fnExactReadAsconf", vars := ["loop.example/g00670/impl.errUnreadable"], fn := fun _ => fun
  | [d, g1] => { results := [.lit (.bool false)], args := [d], vars := [g1] }
  | _ => none }
def FnExactReadAsconfWrongFalsely : Prop := fnExactReadAsconfRow.holds Tryd.pinned (OpenSpec.ofChange fnExactReadAsconfWrong)

/- THE SECOND FORM. 'bulk': how many values and letters a reading holds, each counted each time it is reached (what is shared counts as often as it is met; a slice's spare places count too). A statement '..UptoSaid' is the law's where the arguments, and the package variables that the reading takes, are together of bulk at most 1048576: NARROWER than '..Said'. Prove '..Said' where nothing that the law and all that it calls make is longer than what came in: it says more and counts as full. Else prove '..UptoSaid'. A law counts once. -/
mutual
def uptoBulk {H : Type} : DataW H → Nat
  | .lit (.string bytes) => bytes.length + 1
  | .lit _ => 1
  | .nil => 1
  | .ptr d => uptoBulk d + 1
  | .slice elems spare => uptoBulkAll elems + uptoBulkAll spare + 1
  | .agg parts => uptoBulkAll parts + 1
  | .iface _ d => uptoBulk d + 1
  | .map entries => uptoBulkEntries entries + 1
  | .held _ => 1
def uptoBulkAll {H : Type} : List (DataW H) → Nat
  | [] => 0
  | d :: r => uptoBulk d + uptoBulkAll r
def uptoBulkEntries {H : Type} : List (Lit × DataW H) → Nat
  | [] => 0
  | x :: r => uptoBulkEntry x + uptoBulkEntries r
def uptoBulkEntry {H : Type} : Lit × DataW H → Nat
  | (.string bytes, d) => bytes.length + uptoBulk d + 1
  | (_, d) => uptoBulk d + 1
 end
def uptoSmall : (H : Type) → List (DataW H) → Bool := fun _ ds => decide (uptoBulkAll ds ≤ 1048576)
def OpenSpec.upto (s : _root_.Go.ChangeSpec) : _root_.Go.OpenSpec := { _root_.Go.OpenSpec.ofChange s with cond := some uptoSmall }

/-- 'laws.FnBodies', WHERE WHAT IT READS IS OF BULK AT MOST 1048576: true; the input reads as it did. -/
def fnBodiesUptoRow : OpenClaim := { program := "ytjjileefdjjijaadoor", sum := "df73ebdcaa1d5976d71d0b6de54914516a56875753c6f6c905f11e3f832b14ba", func := "loop.example/g00670/laws.FnBodies", spec := "fnBodies", unfollowed := true, recurses := true, named := ["loop.example/g00670/impl.errUnreadable"], ifaces := true, apart := false, laid := [("loop.example/g00670/impl.errUnreadable", laid_loop_example_g00670_impl_errUnreadable)], narrowed := true }
def FnBodiesUptoSaid : Prop := fnBodiesUptoRow.holds Tryd.pinned (OpenSpec.upto fnBodiesSpec)

/-- 'laws.FnAskings', WHERE WHAT IT READS IS OF BULK AT MOST 1048576: true; the input reads as it did. -/
def fnAskingsUptoRow : OpenClaim := { program := "ytjjileefdjjijaadoor", sum := "df73ebdcaa1d5976d71d0b6de54914516a56875753c6f6c905f11e3f832b14ba", func := "loop.example/g00670/laws.FnAskings", spec := "fnAskings", unfollowed := true, recurses := true, named := ["loop.example/g00670/impl.errUnreadable"], ifaces := true, apart := false, laid := [("loop.example/g00670/impl.errUnreadable", laid_loop_example_g00670_impl_errUnreadable)], narrowed := true }
def FnAskingsUptoSaid : Prop := fnAskingsUptoRow.holds Tryd.pinned (OpenSpec.upto fnAskingsSpec)

/-- 'laws.FnExactReadData', WHERE WHAT IT READS IS OF BULK AT MOST 1048576: true; the input reads as it did. -/
def fnExactReadDataUptoRow : OpenClaim := { program := "ytjjileefdjjijaadoor", sum := "df73ebdcaa1d5976d71d0b6de54914516a56875753c6f6c905f11e3f832b14ba", func := "loop.example/g00670/laws.FnExactReadData", spec := "fnExactReadData", unfollowed := true, recurses := true, named := ["loop.example/g00670/impl.errUnreadable"], ifaces := true, apart := false, laid := [("loop.example/g00670/impl.errUnreadable", laid_loop_example_g00670_impl_errUnreadable)], narrowed := true }
def FnExactReadDataUptoSaid : Prop := fnExactReadDataUptoRow.holds Tryd.pinned (OpenSpec.upto fnExactReadDataSpec)

/-- 'laws.FnExactReadSack', WHERE WHAT IT READS IS OF BULK AT MOST 1048576: true; the input reads as it did. -/
def fnExactReadSackUptoRow : OpenClaim := { program := "ytjjileefdjjijaadoor", sum := "df73ebdcaa1d5976d71d0b6de54914516a56875753c6f6c905f11e3f832b14ba", func := "loop.example/g00670/laws.FnExactReadSack", spec := "fnExactReadSack", unfollowed := true, recurses := true, named := ["loop.example/g00670/impl.errUnreadable"], ifaces := true, apart := false, laid := [("loop.example/g00670/impl.errUnreadable", laid_loop_example_g00670_impl_errUnreadable)], narrowed := true }
def FnExactReadSackUptoSaid : Prop := fnExactReadSackUptoRow.holds Tryd.pinned (OpenSpec.upto fnExactReadSackSpec)

/-- 'laws.FnExactReadInit', WHERE WHAT IT READS IS OF BULK AT MOST 1048576: true; the input reads as it did. -/
def fnExactReadInitUptoRow : OpenClaim := { program := "ytjjileefdjjijaadoor", sum := "df73ebdcaa1d5976d71d0b6de54914516a56875753c6f6c905f11e3f832b14ba", func := "loop.example/g00670/laws.FnExactReadInit", spec := "fnExactReadInit", unfollowed := true, recurses := true, named := ["loop.example/g00670/impl.errUnreadable"], ifaces := true, apart := false, laid := [("loop.example/g00670/impl.errUnreadable", laid_loop_example_g00670_impl_errUnreadable)], narrowed := true }
def FnExactReadInitUptoSaid : Prop := fnExactReadInitUptoRow.holds Tryd.pinned (OpenSpec.upto fnExactReadInitSpec)

/-- 'laws.FnExactReadAsconf', WHERE WHAT IT READS IS OF BULK AT MOST 1048576: true; the input reads as it did. -/
def fnExactReadAsconfUptoRow : OpenClaim := { program := "ytjjileefdjjijaadoor", sum := "df73ebdcaa1d5976d71d0b6de54914516a56875753c6f6c905f11e3f832b14ba", func := "loop.example/g00670/laws.FnExactReadAsconf", spec := "fnExactReadAsconf", unfollowed := true, recurses := true, named := ["loop.example/g00670/impl.errUnreadable"], ifaces := true, apart := false, laid := [("loop.example/g00670/impl.errUnreadable", laid_loop_example_g00670_impl_errUnreadable)], narrowed := true }
def FnExactReadAsconfUptoSaid : Prop := fnExactReadAsconfUptoRow.holds Tryd.pinned (OpenSpec.upto fnExactReadAsconfSpec)

end Rows
end Go.Proofs.YtjjileefdjjijaaDoor
