/-
  No cell of these rows narrows 'for every input' (looked for: loops, veiled, ifaces, maps, wideKeys, modest, calm, conditions, laid).
  DERIVED. THE GIVEN ROWS OF THIS SEAT. 6 by the template 'for every input the law returns true; each argument reads behind the call as it read before'; 0 by the template 'total and deterministic' (their statements: YtbfbfimmhpijfaaTotals.lean).
  GIVEN WITH THE SEED: the statements are not yours to turn. If you find one false, say at which input.
  Laid BY PROGRAM, IN A SANDBOX (cutbox-rows.mjs): the forced cells as the released guide's own fill.sh prints them over the translation 43874c5c94757c9d… (all of the seat's roots in one cut). By AI agents, Wed Nov 11 2026. No macro, syntax, notation, axiom, sorry.
-/
import Derived.Test.YtbfbfimmhpijfaaChecked
import GoSem.Claim
import GoSem.ClaimJoined
import GoSem.ClaimMapViews
import Derived.JoinedTies
import Derived.KernelRfl
namespace Go.Proofs.Ytbfbfimmhpijfaa
/- THE CELL 'sum', in the pinned program and in every row, IS THE sha256 OF THE DUMP (.gsa) THAT YtbfbfimmhpijfaaProg.lean LOADS. Nothing in Lean hashes anything: it is a label: what it is worth is what the hold of that sum in a sandbox is worth. -/
noncomputable def Try.pinned : Pinned := { name := "ytbfbfimmhpijfaa", sum := "43874c5c94757c9dd0c01cf316117b9c55af27436c6d13174e48b2f85569277d", checked := Try.checked }
namespace Rows
def none {H : Type} : Left H := { results := [], args := [] }

/-- 'laws.FnCuts': WHATEVER THE INPUT: true; the input reads as it did. -/
def fnCutsSpec : ChangeSpec := { name := "fnCuts", fn := fun _ => fun
  | [d] => { results := [.lit (.bool true)], args := [d] }
  | _ => none }
def fnCutsRow : OpenClaim := { program := "ytbfbfimmhpijfaa", sum := "43874c5c94757c9dd0c01cf316117b9c55af27436c6d13174e48b2f85569277d", func := "loop.example/g00670/laws.FnCuts", spec := "fnCuts", unfollowed := true, recurses := true, apart := false }
def FnCutsSaid : Prop := fnCutsRow.holds Try.pinned (OpenSpec.ofChange fnCutsSpec)

/-- ITS FALSE NEIGHBOUR: 'it returns false'. Refute it at one input. -/
def fnCutsWrong : ChangeSpec := { name := "fnCuts", fn := fun _ => fun
  | [d] => { results := [.lit (.bool false)], args := [d] }
  | _ => none }
def FnCutsWrongFalsely : Prop := fnCutsRow.holds Try.pinned (OpenSpec.ofChange fnCutsWrong)

/-- 'laws.FnExactMessageFault': WHATEVER THE INPUT: true; the input reads as it did. -/
def fnExactMessageFaultSpec : ChangeSpec := { name := "fnExactMessageFault", fn := fun _ => fun
  | [d] => { results := [.lit (.bool true)], args := [d] }
  | _ => none }
def fnExactMessageFaultRow : OpenClaim := { program := "ytbfbfimmhpijfaa", sum := "43874c5c94757c9dd0c01cf316117b9c55af27436c6d13174e48b2f85569277d", func := "loop.example/g00670/laws.FnExactMessageFault", spec := "fnExactMessageFault", apart := false }
def FnExactMessageFaultSaid : Prop := fnExactMessageFaultRow.holds Try.pinned (OpenSpec.ofChange fnExactMessageFaultSpec)

/-- ITS FALSE NEIGHBOUR: 'it returns false'. Refute it at one input. -/
def fnExactMessageFaultWrong : ChangeSpec := { name := "fnExactMessageFault", fn := fun _ => fun
  | [d] => { results := [.lit (.bool false)], args := [d] }
  | _ => none }
def FnExactMessageFaultWrongFalsely : Prop := fnExactMessageFaultRow.holds Try.pinned (OpenSpec.ofChange fnExactMessageFaultWrong)

/-- 'laws.FnExactCutMessage': WHATEVER THE INPUT: true; the input reads as it did. -/
def fnExactCutMessageSpec : ChangeSpec := { name := "fnExactCutMessage", fn := fun _ => fun
  | [d1, d2, d3, d4] => { results := [.lit (.bool true)], args := [d1, d2, d3, d4] }
  | _ => none }
def fnExactCutMessageRow : OpenClaim := { program := "ytbfbfimmhpijfaa", sum := "43874c5c94757c9dd0c01cf316117b9c55af27436c6d13174e48b2f85569277d", func := "loop.example/g00670/laws.FnExactCutMessage", spec := "fnExactCutMessage", unfollowed := true, recurses := true, apart := false }
def FnExactCutMessageSaid : Prop := fnExactCutMessageRow.holds Try.pinned (OpenSpec.ofChange fnExactCutMessageSpec)

/-- ITS FALSE NEIGHBOUR: 'it returns false'. Refute it at one input. -/
def fnExactCutMessageWrong : ChangeSpec := { name := "fnExactCutMessage", fn := fun _ => fun
  | [d1, d2, d3, d4] => { results := [.lit (.bool false)], args := [d1, d2, d3, d4] }
  | _ => none }
def FnExactCutMessageWrongFalsely : Prop := fnExactCutMessageRow.holds Try.pinned (OpenSpec.ofChange fnExactCutMessageWrong)

/-- 'laws.FnExactJoinPieces': WHATEVER THE INPUT: true; the input reads as it did. -/
def fnExactJoinPiecesSpec : ChangeSpec := { name := "fnExactJoinPieces", fn := fun _ => fun
  | [d] => { results := [.lit (.bool true)], args := [d] }
  | _ => none }
def fnExactJoinPiecesRow : OpenClaim := { program := "ytbfbfimmhpijfaa", sum := "43874c5c94757c9dd0c01cf316117b9c55af27436c6d13174e48b2f85569277d", func := "loop.example/g00670/laws.FnExactJoinPieces", spec := "fnExactJoinPieces", apart := false }
def FnExactJoinPiecesSaid : Prop := fnExactJoinPiecesRow.holds Try.pinned (OpenSpec.ofChange fnExactJoinPiecesSpec)

/-- ITS FALSE NEIGHBOUR: 'it returns false'. Refute it at one input. -/
def fnExactJoinPiecesWrong : ChangeSpec := { name := "fnExactJoinPieces", fn := fun _ => fun
  | [d] => { results := [.lit (.bool false)], args := [d] }
  | _ => none }
def FnExactJoinPiecesWrongFalsely : Prop := fnExactJoinPiecesRow.holds Try.pinned (OpenSpec.ofChange fnExactJoinPiecesWrong)

/-- 'laws.FnExactSameMessages': WHATEVER THE INPUT: true; the input reads as it did. -/
def fnExactSameMessagesSpec : ChangeSpec := { name := "fnExactSameMessages", fn := fun _ => fun
  | [d1, d2] => { results := [.lit (.bool true)], args := [d1, d2] }
  | _ => none }
def fnExactSameMessagesRow : OpenClaim := { program := "ytbfbfimmhpijfaa", sum := "43874c5c94757c9dd0c01cf316117b9c55af27436c6d13174e48b2f85569277d", func := "loop.example/g00670/laws.FnExactSameMessages", spec := "fnExactSameMessages", unfollowed := true, recurses := true, apart := false }
def FnExactSameMessagesSaid : Prop := fnExactSameMessagesRow.holds Try.pinned (OpenSpec.ofChange fnExactSameMessagesSpec)

/-- ITS FALSE NEIGHBOUR: 'it returns false'. Refute it at one input. -/
def fnExactSameMessagesWrong : ChangeSpec := { name := "fnExactSameMessages", fn := fun _ => fun
  | [d1, d2] => { results := [.lit (.bool false)], args := [d1, d2] }
  | _ => none }
def FnExactSameMessagesWrongFalsely : Prop := fnExactSameMessagesRow.holds Try.pinned (OpenSpec.ofChange fnExactSameMessagesWrong)

/-- 'laws.FnExactSameDatas': WHATEVER THE INPUT: true; the input reads as it did. -/
def fnExactSameDatasSpec : ChangeSpec := { name := "fnExactSameDatas", fn := fun _ => fun
  | [d1, d2] => { results := [.lit (.bool true)], args := [d1, d2] }
  | _ => none }
def fnExactSameDatasRow : OpenClaim := { program := "ytbfbfimmhpijfaa", sum := "43874c5c94757c9dd0c01cf316117b9c55af27436c6d13174e48b2f85569277d", func := "loop.example/g00670/laws.FnExactSameDatas", spec := "fnExactSameDatas", unfollowed := true, recurses := true, apart := false }
def FnExactSameDatasSaid : Prop := fnExactSameDatasRow.holds Try.pinned (OpenSpec.ofChange fnExactSameDatasSpec)

/-- ITS FALSE NEIGHBOUR: 'it returns false'. Refute it at one input. -/
def fnExactSameDatasWrong : ChangeSpec := { name := "fnExactSameDatas", fn := fun _ => fun
  | [d1, d2] => { results := [.lit (.bool false)], args := [d1, d2] }
  | _ => none }
def FnExactSameDatasWrongFalsely : Prop := fnExactSameDatasRow.holds Try.pinned (OpenSpec.ofChange fnExactSameDatasWrong)

/- THE SECOND FORM. 'bulk': how many values and letters a reading holds, each counted each time it is reached (what is shared counts as often as it is met; a slice's spare places count too). A statement '..UptoSaid' is the law's where the arguments, and the package variables that the reading takes, are together of bulk at most 1048576: NARROWER than '..Said'. Prove '..Said' where nothing that the law and all that it calls make is longer than what came in: it says more and counts as full. Else prove '..UptoSaid'. A law counts once. -/
mutual
def uptoBulk {H : Type} : DataW H → Nat
  | .lit (.string bytes) => bytes.length + 1
  | .lit _ => 1
  | .nil => 1
  | .ptr d => uptoBulk d + 1
  | .slice elems spare => uptoBulkAll elems + uptoBulkAll spare + 1
  | .agg parts => uptoBulkAll parts + 1
  | .iface _ d => uptoBulk d + 1
  | .map entries => uptoBulkEntries entries + 1
  | .held _ => 1
def uptoBulkAll {H : Type} : List (DataW H) → Nat
  | [] => 0
  | d :: r => uptoBulk d + uptoBulkAll r
def uptoBulkEntries {H : Type} : List (Lit × DataW H) → Nat
  | [] => 0
  | x :: r => uptoBulkEntry x + uptoBulkEntries r
def uptoBulkEntry {H : Type} : Lit × DataW H → Nat
  | (.string bytes, d) => bytes.length + uptoBulk d + 1
  | (_, d) => uptoBulk d + 1
 end
def uptoSmall : (H : Type) → List (DataW H) → Bool := fun _ ds => decide (uptoBulkAll ds ≤ 1048576)
def OpenSpec.upto (s : _root_.Go.ChangeSpec) : _root_.Go.OpenSpec := { _root_.Go.OpenSpec.ofChange s with cond := some uptoSmall }

/-- 'laws.FnCuts', WHERE WHAT IT READS IS OF BULK AT MOST 1048576: true; the input reads as it did. -/
def fnCutsUptoRow : OpenClaim := { program := "ytbfbfimmhpijfaa", sum := "43874c5c94757c9dd0c01cf316117b9c55af27436c6d13174e48b2f85569277d", func := "loop.example/g00670/laws.FnCuts", spec := "fnCuts", unfollowed := true, recurses := true, apart := false, narrowed := true }
def FnCutsUptoSaid : Prop := fnCutsUptoRow.holds Try.pinned (OpenSpec.upto fnCutsSpec)

/-- 'laws.FnExactMessageFault', WHERE WHAT IT READS IS OF BULK AT MOST 1048576: true; the input reads as it did. -/
def fnExactMessageFaultUptoRow : OpenClaim := { program := "ytbfbfimmhpijfaa", sum := "43874c5c94757c9dd0c01cf316117b9c55af27436c6d13174e48b2f85569277d", func := "loop.example/g00670/laws.FnExactMessageFault", spec := "fnExactMessageFault", apart := false, narrowed := true }
def FnExactMessageFaultUptoSaid : Prop := fnExactMessageFaultUptoRow.holds Try.pinned (OpenSpec.upto fnExactMessageFaultSpec)

/-- 'laws.FnExactCutMessage', WHERE WHAT IT READS IS OF BULK AT MOST 1048576: true; the input reads as it did. -/
def fnExactCutMessageUptoRow : OpenClaim := { program := "ytbfbfimmhpijfaa", sum := "43874c5c94757c9dd0c01cf316117b9c55af27436c6d13174e48b2f85569277d", func := "loop.example/g00670/laws.FnExactCutMessage", spec := "fnExactCutMessage", unfollowed := true, recurses := true, apart := false, narrowed := true }
def FnExactCutMessageUptoSaid : Prop := fnExactCutMessageUptoRow.holds Try.pinned (OpenSpec.upto fnExactCutMessageSpec)

/-- 'laws.FnExactJoinPieces', WHERE WHAT IT READS IS OF BULK AT MOST 1048576: true; the input reads as it did. -/
def fnExactJoinPiecesUptoRow : OpenClaim := { program := "ytbfbfimmhpijfaa", sum := "43874c5c94757c9dd0c01cf316117b9c55af27436c6d13174e48b2f85569277d", func := "loop.example/g00670/laws.FnExactJoinPieces", spec := "fnExactJoinPieces", apart := false, narrowed := true }
def FnExactJoinPiecesUptoSaid : Prop := fnExactJoinPiecesUptoRow.holds Try.pinned (OpenSpec.upto fnExactJoinPiecesSpec)

/-- 'laws.FnExactSameMessages', WHERE WHAT IT READS IS OF BULK AT MOST 1048576: true; the input reads as it did. -/
def fnExactSameMessagesUptoRow : OpenClaim := { program := "ytbfbfimmhpijfaa", sum := "43874c5c94757c9dd0c01cf316117b9c55af27436c6d13174e48b2f85569277d", func := "loop.example/g00670/laws.FnExactSameMessages", spec := "fnExactSameMessages", unfollowed := true, recurses := true, apart := false, narrowed := true }
def FnExactSameMessagesUptoSaid : Prop := fnExactSameMessagesUptoRow.holds Try.pinned (OpenSpec.upto fnExactSameMessagesSpec)

/-- 'laws.FnExactSameDatas', WHERE WHAT IT READS IS OF BULK AT MOST 1048576: true; the input reads as it did. -/
def fnExactSameDatasUptoRow : OpenClaim := { program := "ytbfbfimmhpijfaa", sum := "43874c5c94757c9dd0c01cf316117b9c55af27436c6d13174e48b2f85569277d", func := "loop.example/g00670/laws.FnExactSameDatas", spec := "fnExactSameDatas", unfollowed := true, recurses := true, apart := false, narrowed := true }
def FnExactSameDatasUptoSaid : Prop := fnExactSameDatasUptoRow.holds Try.pinned (OpenSpec.upto fnExactSameDatasSpec)

end Rows
end Go.Proofs.Ytbfbfimmhpijfaa
