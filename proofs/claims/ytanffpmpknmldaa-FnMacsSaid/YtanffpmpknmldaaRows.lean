/-
  No cell of these rows narrows 'for every input' (looked for: loops, veiled, ifaces, maps, wideKeys, modest, calm, conditions, laid).
  DERIVED. THE GIVEN ROWS OF THIS SEAT. 5 by the template 'for every input the law returns true; each argument reads behind the call as it read before'; 0 by the template 'total and deterministic' (their statements: YtanffpmpknmldaaTotals.lean).
  GIVEN WITH THE SEED: the statements are not yours to turn. If you find one false, say at which input.
  Laid BY PROGRAM, IN A SANDBOX (cutbox-rows.mjs): the forced cells as the released guide's own fill.sh prints them over the translation 3f72eddf5f8e5f16… (all of the seat's roots in one cut). By AI agents, Wed Nov 11 2026. No macro, syntax, notation, axiom, sorry.
-/
import Derived.Test.YtanffpmpknmldaaChecked
import GoSem.Claim
import GoSem.ClaimJoined
import GoSem.ClaimMapViews
import Derived.JoinedTies
import Derived.KernelRfl
namespace Go.Proofs.Ytanffpmpknmldaa
/- THE CELL 'sum', in the pinned program and in every row, IS THE sha256 OF THE DUMP (.gsa) THAT YtanffpmpknmldaaProg.lean LOADS. Nothing in Lean hashes anything: it is a label: what it is worth is what the hold of that sum in a sandbox is worth. -/
noncomputable def Try.pinned : Pinned := { name := "ytanffpmpknmldaa", sum := "3f72eddf5f8e5f161acf6727251dfa99c602951f61437256f48285f351ad0a08", checked := Try.checked }
namespace Rows
def none {H : Type} : Left H := { results := [], args := [] }

/-- 'laws.FnMacs': WHATEVER THE INPUT: true; the input reads as it did. -/
def fnMacsSpec : ChangeSpec := { name := "fnMacs", fn := fun _ => fun
  | [d] => { results := [.lit (.bool true)], args := [d] }
  | _ => none }
def fnMacsRow : OpenClaim := { program := "ytanffpmpknmldaa", sum := "3f72eddf5f8e5f161acf6727251dfa99c602951f61437256f48285f351ad0a08", func := "loop.example/g00670/laws.FnMacs", spec := "fnMacs", unfollowed := true, recurses := true, apart := false }
def FnMacsSaid : Prop := fnMacsRow.holds Try.pinned (OpenSpec.ofChange fnMacsSpec)

/-- ITS FALSE NEIGHBOUR: 'it returns false'. Refute it at one input. -/
def fnMacsWrong : ChangeSpec := { name := "fnMacs", fn := fun _ => fun
  | [d] => { results := [.lit (.bool false)], args := [d] }
  | _ => none }
def FnMacsWrongFalsely : Prop := fnMacsRow.holds Try.pinned (OpenSpec.ofChange fnMacsWrong)

/-- 'laws.FnCrcs': WHATEVER THE INPUT: true; the input reads as it did. -/
def fnCrcsSpec : ChangeSpec := { name := "fnCrcs", fn := fun _ => fun
  | [d] => { results := [.lit (.bool true)], args := [d] }
  | _ => none }
def fnCrcsRow : OpenClaim := { program := "ytanffpmpknmldaa", sum := "3f72eddf5f8e5f161acf6727251dfa99c602951f61437256f48285f351ad0a08", func := "loop.example/g00670/laws.FnCrcs", spec := "fnCrcs", apart := false }
def FnCrcsSaid : Prop := fnCrcsRow.holds Try.pinned (OpenSpec.ofChange fnCrcsSpec)

/-- ITS FALSE NEIGHBOUR: 'it returns false'. Refute it at one input. -/
def fnCrcsWrong : ChangeSpec := { name := "fnCrcs", fn := fun _ => fun
  | [d] => { results := [.lit (.bool false)], args := [d] }
  | _ => none }
def FnCrcsWrongFalsely : Prop := fnCrcsRow.holds Try.pinned (OpenSpec.ofChange fnCrcsWrong)

/-- 'laws.FnExactHmacSha': WHATEVER THE INPUT: true; the input reads as it did. -/
def fnExactHmacShaSpec : ChangeSpec := { name := "fnExactHmacSha", fn := fun _ => fun
  | [d1, d2] => { results := [.lit (.bool true)], args := [d1, d2] }
  | _ => none }
def fnExactHmacShaRow : OpenClaim := { program := "ytanffpmpknmldaa", sum := "3f72eddf5f8e5f161acf6727251dfa99c602951f61437256f48285f351ad0a08", func := "loop.example/g00670/laws.FnExactHmacSha", spec := "fnExactHmacSha", unfollowed := true, recurses := true, apart := false }
def FnExactHmacShaSaid : Prop := fnExactHmacShaRow.holds Try.pinned (OpenSpec.ofChange fnExactHmacShaSpec)

/-- ITS FALSE NEIGHBOUR: 'it returns false'. Refute it at one input. -/
def fnExactHmacShaWrong : ChangeSpec := { name := "fnExactHmacSha", fn := fun _ => fun
  | [d1, d2] => { results := [.lit (.bool false)], args := [d1, d2] }
  | _ => none }
def FnExactHmacShaWrongFalsely : Prop := fnExactHmacShaRow.holds Try.pinned (OpenSpec.ofChange fnExactHmacShaWrong)

/-- 'laws.FnExactSameMac': WHATEVER THE INPUT: true; the input reads as it did. -/
def fnExactSameMacSpec : ChangeSpec := { name := "fnExactSameMac", fn := fun _ => fun
  | [d1, d2] => { results := [.lit (.bool true)], args := [d1, d2] }
  | _ => none }
def fnExactSameMacRow : OpenClaim := { program := "ytanffpmpknmldaa", sum := "3f72eddf5f8e5f161acf6727251dfa99c602951f61437256f48285f351ad0a08", func := "loop.example/g00670/laws.FnExactSameMac", spec := "fnExactSameMac", apart := false }
def FnExactSameMacSaid : Prop := fnExactSameMacRow.holds Try.pinned (OpenSpec.ofChange fnExactSameMacSpec)

/-- ITS FALSE NEIGHBOUR: 'it returns false'. Refute it at one input. -/
def fnExactSameMacWrong : ChangeSpec := { name := "fnExactSameMac", fn := fun _ => fun
  | [d1, d2] => { results := [.lit (.bool false)], args := [d1, d2] }
  | _ => none }
def FnExactSameMacWrongFalsely : Prop := fnExactSameMacRow.holds Try.pinned (OpenSpec.ofChange fnExactSameMacWrong)

/-- 'laws.FnExactCrc32c': WHATEVER THE INPUT: true; the input reads as it did. -/
def fnExactCrc32cSpec : ChangeSpec := { name := "fnExactCrc32c", fn := fun _ => fun
  | [d] => { results := [.lit (.bool true)], args := [d] }
  | _ => none }
def fnExactCrc32cRow : OpenClaim := { program := "ytanffpmpknmldaa", sum := "3f72eddf5f8e5f161acf6727251dfa99c602951f61437256f48285f351ad0a08", func := "loop.example/g00670/laws.FnExactCrc32c", spec := "fnExactCrc32c", apart := false }
def FnExactCrc32cSaid : Prop := fnExactCrc32cRow.holds Try.pinned (OpenSpec.ofChange fnExactCrc32cSpec)

/-- ITS FALSE NEIGHBOUR: 'it returns false'. Refute it at one input. -/
def fnExactCrc32cWrong : ChangeSpec := { name := "fnExactCrc32c", fn := fun _ => fun
  | [d] => { results := [.lit (.bool false)], args := [d] }
  | _ => none }
def FnExactCrc32cWrongFalsely : Prop := fnExactCrc32cRow.holds Try.pinned (OpenSpec.ofChange fnExactCrc32cWrong)

/- THE SECOND FORM. 'bulk': how many values and letters a reading holds, each counted each time it is reached (what is shared counts as often as it is met; a slice's spare places count too). A statement '..UptoSaid' is the law's where the arguments, and the package variables that the reading takes, are together of bulk at most 1048576: NARROWER than '..Said'. Prove '..Said' where nothing that the law and all that it calls make is longer than what came in: it says more and counts as full. Else prove '..UptoSaid'. A law counts once. -/
mutual
def uptoBulk {H : Type} : DataW H → Nat
  | .lit (.string bytes) => bytes.length + 1
  | .lit _ => 1
  | .nil => 1
  | .ptr d => uptoBulk d + 1
  | .slice elems spare => uptoBulkAll elems + uptoBulkAll spare + 1
  | .agg parts => uptoBulkAll parts + 1
  | .iface _ d => uptoBulk d + 1
  | .map entries => uptoBulkEntries entries + 1
  | .held _ => 1
def uptoBulkAll {H : Type} : List (DataW H) → Nat
  | [] => 0
  | d :: r => uptoBulk d + uptoBulkAll r
def uptoBulkEntries {H : Type} : List (Lit × DataW H) → Nat
  | [] => 0
  | x :: r => uptoBulkEntry x + uptoBulkEntries r
def uptoBulkEntry {H : Type} : Lit × DataW H → Nat
  | (.string bytes, d) => bytes.length + uptoBulk d + 1
  | (_, d) => uptoBulk d + 1
 end
def uptoSmall : (H : Type) → List (DataW H) → Bool := fun _ ds => decide (uptoBulkAll ds ≤ 1048576)
def OpenSpec.upto (s : _root_.Go.ChangeSpec) : _root_.Go.OpenSpec := { _root_.Go.OpenSpec.ofChange s with cond := some uptoSmall }

/-- 'laws.FnMacs', WHERE WHAT IT READS IS OF BULK AT MOST 1048576: true; the input reads as it did. -/
def fnMacsUptoRow : OpenClaim := { program := "ytanffpmpknmldaa", sum := "3f72eddf5f8e5f161acf6727251dfa99c602951f61437256f48285f351ad0a08", func := "loop.example/g00670/laws.FnMacs", spec := "fnMacs", unfollowed := true, recurses := true, apart := false, narrowed := true }
def FnMacsUptoSaid : Prop := fnMacsUptoRow.holds Try.pinned (OpenSpec.upto fnMacsSpec)

/-- 'laws.FnCrcs', WHERE WHAT IT READS IS OF BULK AT MOST 1048576: true; the input reads as it did. -/
def fnCrcsUptoRow : OpenClaim := { program := "ytanffpmpknmldaa", sum := "3f72eddf5f8e5f161acf6727251dfa99c602951f61437256f48285f351ad0a08", func := "loop.example/g00670/laws.FnCrcs", spec := "fnCrcs", apart := false, narrowed := true }
def FnCrcsUptoSaid : Prop := fnCrcsUptoRow.holds Try.pinned (OpenSpec.upto fnCrcsSpec)

/-- 'laws.FnExactHmacSha', WHERE WHAT IT READS IS OF BULK AT MOST 1048576: true; the input reads as it did. -/
def fnExactHmacShaUptoRow : OpenClaim := { program := "ytanffpmpknmldaa", sum := "3f72eddf5f8e5f161acf6727251dfa99c602951f61437256f48285f351ad0a08", func := "loop.example/g00670/laws.FnExactHmacSha", spec := "fnExactHmacSha", unfollowed := true, recurses := true, apart := false, narrowed := true }
def FnExactHmacShaUptoSaid : Prop := fnExactHmacShaUptoRow.holds Try.pinned (OpenSpec.upto fnExactHmacShaSpec)

/-- 'laws.FnExactSameMac', WHERE WHAT IT READS IS OF BULK AT MOST 1048576: true; the input reads as it did. -/
def fnExactSameMacUptoRow : OpenClaim := { program := "ytanffpmpknmldaa", sum := "3f72eddf5f8e5f161acf6727251dfa99c602951f61437256f48285f351ad0a08", func := "loop.example/g00670/laws.FnExactSameMac", spec := "fnExactSameMac", apart := false, narrowed := true }
def FnExactSameMacUptoSaid : Prop := fnExactSameMacUptoRow.holds Try.pinned (OpenSpec.upto fnExactSameMacSpec)

/-- 'laws.FnExactCrc32c', WHERE WHAT IT READS IS OF BULK AT MOST 1048576: true; the input reads as it did. -/
def fnExactCrc32cUptoRow : OpenClaim := { program := "ytanffpmpknmldaa", sum := "3f72eddf5f8e5f161acf6727251dfa99c602951f61437256f48285f351ad0a08", func := "loop.example/g00670/laws.FnExactCrc32c", spec := "fnExactCrc32c", apart := false, narrowed := true }
def FnExactCrc32cUptoSaid : Prop := fnExactCrc32cUptoRow.holds Try.pinned (OpenSpec.upto fnExactCrc32cSpec)

end Rows
end Go.Proofs.Ytanffpmpknmldaa
