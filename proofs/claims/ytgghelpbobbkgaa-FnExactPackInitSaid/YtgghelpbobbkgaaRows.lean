/-
  No cell of these rows narrows 'for every input' (looked for: loops, veiled, ifaces, maps, wideKeys, modest, calm, conditions, laid).
  DERIVED. THE GIVEN ROWS OF THIS SEAT. 5 by the template 'for every input the law returns true; each argument reads behind the call as it read before'; 0 by the template 'total and deterministic' (their statements: YtgghelpbobbkgaaTotals.lean).
  GIVEN WITH THE SEED: the statements are not yours to turn. If you find one false, say at which input.
  Laid BY PROGRAM, IN A SANDBOX (cutbox-rows.mjs): the forced cells as the released guide's own fill.sh prints them over the translation 44f03060c1b7ea0c… (all of the seat's roots in one cut). By AI agents, Wed Nov 11 2026. No macro, syntax, notation, axiom, sorry.
-/
import Derived.Test.YtgghelpbobbkgaaChecked
import GoSem.Claim
import GoSem.ClaimJoined
import GoSem.ClaimMapViews
import Derived.JoinedTies
import Derived.KernelRfl
namespace Go.Proofs.Ytgghelpbobbkgaa
/- THE CELL 'sum', in the pinned program and in every row, IS THE sha256 OF THE DUMP (.gsa) THAT YtgghelpbobbkgaaProg.lean LOADS. Nothing in Lean hashes anything: it is a label: what it is worth is what the hold of that sum in a sandbox is worth. -/
noncomputable def Try.pinned : Pinned := { name := "ytgghelpbobbkgaa", sum := "44f03060c1b7ea0c6e71aea6e07305da9ce43d1e729f323e8b8013dc80cf8941", checked := Try.checked }
namespace Rows
def none {H : Type} : Left H := { results := [], args := [] }

/-- 'laws.FnExactPackData': WHATEVER THE INPUT: true; the input reads as it did. -/
def fnExactPackDataSpec : ChangeSpec := { name := "fnExactPackData", fn := fun _ => fun
  | [d] => { results := [.lit (.bool true)], args := [d] }
  | _ => none }
def fnExactPackDataRow : OpenClaim := { program := "ytgghelpbobbkgaa", sum := "44f03060c1b7ea0c6e71aea6e07305da9ce43d1e729f323e8b8013dc80cf8941", func := "loop.example/g00670/laws.FnExactPackData", spec := "fnExactPackData", unfollowed := true, recurses := true, apart := false }
def FnExactPackDataSaid : Prop := fnExactPackDataRow.holds Try.pinned (OpenSpec.ofChange fnExactPackDataSpec)

/-- ITS FALSE NEIGHBOUR: 'it returns false'. Refute it at one input. -/
def fnExactPackDataWrong : ChangeSpec := { name := "fnExactPackData", fn := fun _ => fun
  | [d] => { results := [.lit (.bool false)], args := [d] }
  | _ => none }
def FnExactPackDataWrongFalsely : Prop := fnExactPackDataRow.holds Try.pinned (OpenSpec.ofChange fnExactPackDataWrong)

/-- 'laws.FnExactPackSack': WHATEVER THE INPUT: true; the input reads as it did. -/
def fnExactPackSackSpec : ChangeSpec := { name := "fnExactPackSack", fn := fun _ => fun
  | [d] => { results := [.lit (.bool true)], args := [d] }
  | _ => none }
def fnExactPackSackRow : OpenClaim := { program := "ytgghelpbobbkgaa", sum := "44f03060c1b7ea0c6e71aea6e07305da9ce43d1e729f323e8b8013dc80cf8941", func := "loop.example/g00670/laws.FnExactPackSack", spec := "fnExactPackSack", unfollowed := true, recurses := true, apart := false }
def FnExactPackSackSaid : Prop := fnExactPackSackRow.holds Try.pinned (OpenSpec.ofChange fnExactPackSackSpec)

/-- ITS FALSE NEIGHBOUR: 'it returns false'. Refute it at one input. -/
def fnExactPackSackWrong : ChangeSpec := { name := "fnExactPackSack", fn := fun _ => fun
  | [d] => { results := [.lit (.bool false)], args := [d] }
  | _ => none }
def FnExactPackSackWrongFalsely : Prop := fnExactPackSackRow.holds Try.pinned (OpenSpec.ofChange fnExactPackSackWrong)

/-- 'laws.FnExactPackInit': WHATEVER THE INPUT: true; the input reads as it did. -/
def fnExactPackInitSpec : ChangeSpec := { name := "fnExactPackInit", fn := fun _ => fun
  | [d1, d2] => { results := [.lit (.bool true)], args := [d1, d2] }
  | _ => none }
def fnExactPackInitRow : OpenClaim := { program := "ytgghelpbobbkgaa", sum := "44f03060c1b7ea0c6e71aea6e07305da9ce43d1e729f323e8b8013dc80cf8941", func := "loop.example/g00670/laws.FnExactPackInit", spec := "fnExactPackInit", unfollowed := true, recurses := true, apart := false }
def FnExactPackInitSaid : Prop := fnExactPackInitRow.holds Try.pinned (OpenSpec.ofChange fnExactPackInitSpec)

/-- ITS FALSE NEIGHBOUR: 'it returns false'. Refute it at one input. -/
def fnExactPackInitWrong : ChangeSpec := { name := "fnExactPackInit", fn := fun _ => fun
  | [d1, d2] => { results := [.lit (.bool false)], args := [d1, d2] }
  | _ => none }
def FnExactPackInitWrongFalsely : Prop := fnExactPackInitRow.holds Try.pinned (OpenSpec.ofChange fnExactPackInitWrong)

/-- 'laws.FnExactPackAsconf': WHATEVER THE INPUT: true; the input reads as it did. -/
def fnExactPackAsconfSpec : ChangeSpec := { name := "fnExactPackAsconf", fn := fun _ => fun
  | [d] => { results := [.lit (.bool true)], args := [d] }
  | _ => none }
def fnExactPackAsconfRow : OpenClaim := { program := "ytgghelpbobbkgaa", sum := "44f03060c1b7ea0c6e71aea6e07305da9ce43d1e729f323e8b8013dc80cf8941", func := "loop.example/g00670/laws.FnExactPackAsconf", spec := "fnExactPackAsconf", unfollowed := true, recurses := true, apart := false }
def FnExactPackAsconfSaid : Prop := fnExactPackAsconfRow.holds Try.pinned (OpenSpec.ofChange fnExactPackAsconfSpec)

/-- ITS FALSE NEIGHBOUR: 'it returns false'. Refute it at one input. -/
def fnExactPackAsconfWrong : ChangeSpec := { name := "fnExactPackAsconf", fn := fun _ => fun
  | [d] => { results := [.lit (.bool false)], args := [d] }
  | _ => none }
def FnExactPackAsconfWrongFalsely : Prop := fnExactPackAsconfRow.holds Try.pinned (OpenSpec.ofChange fnExactPackAsconfWrong)

/-- 'laws.FnExactPackAnswer': WHATEVER THE INPUT: true; the input reads as it did. -/
def fnExactPackAnswerSpec : ChangeSpec := { name := "fnExactPackAnswer", fn := fun _ => fun
  | [d] => { results := [.lit (.bool true)], args := [d] }
  | _ => none }
def fnExactPackAnswerRow : OpenClaim := { program := "ytgghelpbobbkgaa", sum := "44f03060c1b7ea0c6e71aea6e07305da9ce43d1e729f323e8b8013dc80cf8941", func := "loop.example/g00670/laws.FnExactPackAnswer", spec := "fnExactPackAnswer", unfollowed := true, recurses := true, apart := false }
def FnExactPackAnswerSaid : Prop := fnExactPackAnswerRow.holds Try.pinned (OpenSpec.ofChange fnExactPackAnswerSpec)

/-- ITS FALSE NEIGHBOUR: 'it returns false'. Refute it at one input. -/
def fnExactPackAnswerWrong : ChangeSpec := { name := "fnExactPackAnswer", fn := fun _ => fun
  | [d] => { results := [.lit (.bool false)], args := [d] }
  | _ => none }
def FnExactPackAnswerWrongFalsely : Prop := fnExactPackAnswerRow.holds Try.pinned (OpenSpec.ofChange fnExactPackAnswerWrong)

/- THE SECOND FORM. 'bulk': how many values and letters a reading holds, each counted each time it is reached (what is shared counts as often as it is met; a slice's spare places count too). A statement '..UptoSaid' is the law's where the arguments, and the package variables that the reading takes, are together of bulk at most 1048576: NARROWER than '..Said'. Prove '..Said' where nothing that the law and all that it calls make is longer than what came in: it says more and counts as full. Else prove '..UptoSaid'. A law counts once. -/
mutual
def uptoBulk {H : Type} : DataW H → Nat
  | .lit (.string bytes) => bytes.length + 1
  | .lit _ => 1
  | .nil => 1
  | .ptr d => uptoBulk d + 1
  | .slice elems spare => uptoBulkAll elems + uptoBulkAll spare + 1
  | .agg parts => uptoBulkAll parts + 1
  | .iface _ d => uptoBulk d + 1
  | .map entries => uptoBulkEntries entries + 1
  | .held _ => 1
def uptoBulkAll {H : Type} : List (DataW H) → Nat
  | [] => 0
  | d :: r => uptoBulk d + uptoBulkAll r
def uptoBulkEntries {H : Type} : List (Lit × DataW H) → Nat
  | [] => 0
  | x :: r => uptoBulkEntry x + uptoBulkEntries r
def uptoBulkEntry {H : Type} : Lit × DataW H → Nat
  | (.string bytes, d) => bytes.length + uptoBulk d + 1
  | (_, d) => uptoBulk d + 1
 end
def uptoSmall : (H : Type) → List (DataW H) → Bool := fun _ ds => decide (uptoBulkAll ds ≤ 1048576)
def OpenSpec.upto (s : _root_.Go.ChangeSpec) : _root_.Go.OpenSpec := { _root_.Go.OpenSpec.ofChange s with cond := some uptoSmall }

/-- 'laws.FnExactPackData', WHERE WHAT IT READS IS OF BULK AT MOST 1048576: true; the input reads as it did. -/
def fnExactPackDataUptoRow : OpenClaim := { program := "ytgghelpbobbkgaa", sum := "44f03060c1b7ea0c6e71aea6e07305da9ce43d1e729f323e8b8013dc80cf8941", func := "loop.example/g00670/laws.FnExactPackData", spec := "fnExactPackData", unfollowed := true, recurses := true, apart := false, narrowed := true }
def FnExactPackDataUptoSaid : Prop := fnExactPackDataUptoRow.holds Try.pinned (OpenSpec.upto fnExactPackDataSpec)

/-- 'laws.FnExactPackSack', WHERE WHAT IT READS IS OF BULK AT MOST 1048576: true; the input reads as it did. -/
def fnExactPackSackUptoRow : OpenClaim := { program := "ytgghelpbobbkgaa", sum := "44f03060c1b7ea0c6e71aea6e07305da9ce43d1e729f323e8b8013dc80cf8941", func := "loop.example/g00670/laws.FnExactPackSack", spec := "fnExactPackSack", unfollowed := true, recurses := true, apart := false, narrowed := true }
def FnExactPackSackUptoSaid : Prop := fnExactPackSackUptoRow.holds Try.pinned (OpenSpec.upto fnExactPackSackSpec)

/-- 'laws.FnExactPackInit', WHERE WHAT IT READS IS OF BULK AT MOST 1048576: true; the input reads as it did. -/
def fnExactPackInitUptoRow : OpenClaim := { program := "ytgghelpbobbkgaa", sum := "44f03060c1b7ea0c6e71aea6e07305da9ce43d1e729f323e8b8013dc80cf8941", func := "loop.example/g00670/laws.FnExactPackInit", spec := "fnExactPackInit", unfollowed := true, recurses := true, apart := false, narrowed := true }
def FnExactPackInitUptoSaid : Prop := fnExactPackInitUptoRow.holds Try.pinned (OpenSpec.upto fnExactPackInitSpec)

/-- 'laws.FnExactPackAsconf', WHERE WHAT IT READS IS OF BULK AT MOST 1048576: true; the input reads as it did. -/
def fnExactPackAsconfUptoRow : OpenClaim := { program := "ytgghelpbobbkgaa", sum := "44f03060c1b7ea0c6e71aea6e07305da9ce43d1e729f323e8b8013dc80cf8941", func := "loop.example/g00670/laws.FnExactPackAsconf", spec := "fnExactPackAsconf", unfollowed := true, recurses := true, apart := false, narrowed := true }
def FnExactPackAsconfUptoSaid : Prop := fnExactPackAsconfUptoRow.holds Try.pinned (OpenSpec.upto fnExactPackAsconfSpec)

/-- 'laws.FnExactPackAnswer', WHERE WHAT IT READS IS OF BULK AT MOST 1048576: true; the input reads as it did. -/
def fnExactPackAnswerUptoRow : OpenClaim := { program := "ytgghelpbobbkgaa", sum := "44f03060c1b7ea0c6e71aea6e07305da9ce43d1e729f323e8b8013dc80cf8941", func := "loop.example/g00670/laws.FnExactPackAnswer", spec := "fnExactPackAnswer", unfollowed := true, recurses := true, apart := false, narrowed := true }
def FnExactPackAnswerUptoSaid : Prop := fnExactPackAnswerUptoRow.holds Try.pinned (OpenSpec.upto fnExactPackAnswerSpec)

end Rows
end Go.Proofs.Ytgghelpbobbkgaa
