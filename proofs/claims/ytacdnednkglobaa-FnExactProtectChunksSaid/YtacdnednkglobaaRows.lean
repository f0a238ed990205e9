/-
  No cell of these rows narrows 'for every input' (looked for: loops, veiled, ifaces, maps, wideKeys, modest, calm, conditions, laid).
  DERIVED. THE GIVEN ROWS OF THIS SEAT. 3 by the template 'for every input the law returns true; each argument reads behind the call as it read before'; 0 by the template 'total and deterministic' (their statements: YtacdnednkglobaaTotals.lean).
  GIVEN WITH THE SEED: the statements are not yours to turn. If you find one false, say at which input.
  Laid BY PROGRAM, IN A SANDBOX (cutbox-rows.mjs): the forced cells as the released guide's own fill.sh prints them over the translation 38943fa95ec7272e… (all of the seat's roots in one cut). By AI agents, Wed Nov 11 2026. No macro, syntax, notation, axiom, sorry.
-/
import Derived.Test.YtacdnednkglobaaChecked
import GoSem.Claim
import GoSem.ClaimJoined
import GoSem.ClaimMapViews
import Derived.JoinedTies
import Derived.KernelRfl
namespace Go.Proofs.Ytacdnednkglobaa
/- THE CELL 'sum', in the pinned program and in every row, IS THE sha256 OF THE DUMP (.gsa) THAT YtacdnednkglobaaProg.lean LOADS. Nothing in Lean hashes anything: it is a label: what it is worth is what the hold of that sum in a sandbox is worth. -/
noncomputable def Try.pinned : Pinned := { name := "ytacdnednkglobaa", sum := "38943fa95ec7272e86f4ee0182c0e00c5e669580ef03d721de1a90df547c73dc", checked := Try.checked }
namespace Rows
def none {H : Type} : Left H := { results := [], args := [] }

/-- 'laws.FnExactNeedsAuth': WHATEVER THE INPUT: true; the input reads as it did. -/
def fnExactNeedsAuthSpec : ChangeSpec := { name := "fnExactNeedsAuth", fn := fun _ => fun
  | [d] => { results := [.lit (.bool true)], args := [d] }
  | _ => none }
def fnExactNeedsAuthRow : OpenClaim := { program := "ytacdnednkglobaa", sum := "38943fa95ec7272e86f4ee0182c0e00c5e669580ef03d721de1a90df547c73dc", func := "loop.example/g00670/laws.FnExactNeedsAuth", spec := "fnExactNeedsAuth", apart := false }
def FnExactNeedsAuthSaid : Prop := fnExactNeedsAuthRow.holds Try.pinned (OpenSpec.ofChange fnExactNeedsAuthSpec)

/-- ITS FALSE NEIGHBOUR: 'it returns false'. Refute it at one input. -/
def fnExactNeedsAuthWrong : ChangeSpec := { name := "fnExactNeedsAuth", fn := fun _ => fun
  | [d] => { results := [.lit (.bool false)], args := [d] }
  | _ => none }
def FnExactNeedsAuthWrongFalsely : Prop := fnExactNeedsAuthRow.holds Try.pinned (OpenSpec.ofChange fnExactNeedsAuthWrong)

/-- 'laws.FnExactMacText': WHATEVER THE INPUT: true; the input reads as it did. -/
def fnExactMacTextSpec : ChangeSpec := { name := "fnExactMacText", fn := fun _ => fun
  | [d1, d2] => { results := [.lit (.bool true)], args := [d1, d2] }
  | _ => none }
def fnExactMacTextRow : OpenClaim := { program := "ytacdnednkglobaa", sum := "38943fa95ec7272e86f4ee0182c0e00c5e669580ef03d721de1a90df547c73dc", func := "loop.example/g00670/laws.FnExactMacText", spec := "fnExactMacText", apart := false }
def FnExactMacTextSaid : Prop := fnExactMacTextRow.holds Try.pinned (OpenSpec.ofChange fnExactMacTextSpec)

/-- ITS FALSE NEIGHBOUR: 'it returns false'. Refute it at one input. -/
def fnExactMacTextWrong : ChangeSpec := { name := "fnExactMacText", fn := fun _ => fun
  | [d1, d2] => { results := [.lit (.bool false)], args := [d1, d2] }
  | _ => none }
def FnExactMacTextWrongFalsely : Prop := fnExactMacTextRow.holds Try.pinned (OpenSpec.ofChange fnExactMacTextWrong)

/-- 'laws.FnExactProtectChunks': WHATEVER THE INPUT: true; the input reads as it did. -/
def fnExactProtectChunksSpec : ChangeSpec := { name := "fnExactProtectChunks", fn := fun _ => fun
  | [d1, d2, d3] => { results := [.lit (.bool true)], args := [d1, d2, d3] }
  | _ => none }
def fnExactProtectChunksRow : OpenClaim := { program := "ytacdnednkglobaa", sum := "38943fa95ec7272e86f4ee0182c0e00c5e669580ef03d721de1a90df547c73dc", func := "loop.example/g00670/laws.FnExactProtectChunks", spec := "fnExactProtectChunks", unfollowed := true, recurses := true, apart := false }
def FnExactProtectChunksSaid : Prop := fnExactProtectChunksRow.holds Try.pinned (OpenSpec.ofChange fnExactProtectChunksSpec)

/-- ITS FALSE NEIGHBOUR: 'it returns false'. Refute it at one input. -/
def fnExactProtectChunksWrong : ChangeSpec := { name := "fnExactProtectChunks", fn := fun _ => fun
  | [d1, d2, d3] => { results := [.lit (.bool false)], args := [d1, d2, d3] }
  | _ => none }
def FnExactProtectChunksWrongFalsely : Prop := fnExactProtectChunksRow.holds Try.pinned (OpenSpec.ofChange fnExactProtectChunksWrong)

/- THE SECOND FORM. 'bulk': how many values and letters a reading holds, each counted each time it is reached (what is shared counts as often as it is met; a slice's spare places count too). A statement '..UptoSaid' is the law's where the arguments, and the package variables that the reading takes, are together of bulk at most 1048576: NARROWER than '..Said'. Prove '..Said' where nothing that the law and all that it calls make is longer than what came in: it says more and counts as full. Else prove '..UptoSaid'. A law counts once. -/
mutual
def uptoBulk {H : Type} : DataW H → Nat
  | .lit (.string bytes) => bytes.length + 1
  | .lit _ => 1
  | .nil => 1
  | .ptr d => uptoBulk d + 1
  | .slice elems spare => uptoBulkAll elems + uptoBulkAll spare + 1
  | .agg parts => uptoBulkAll parts + 1
  | .iface _ d => uptoBulk d + 1
  | .map entries => uptoBulkEntries entries + 1
  | .held _ => 1
def uptoBulkAll {H : Type} : List (DataW H) → Nat
  | [] => 0
  | d :: r => uptoBulk d + uptoBulkAll r
def uptoBulkEntries {H : Type} : List (Lit × DataW H) → Nat
  | [] => 0
  | x :: r => uptoBulkEntry x + uptoBulkEntries r
def uptoBulkEntry {H : Type} : Lit × DataW H → Nat
  | (.string bytes, d) => bytes.length + uptoBulk d + 1
  | (_, d) => uptoBulk d + 1
 end
def uptoSmall : (H : Type) → List (DataW H) → Bool := fun _ ds => decide (uptoBulkAll ds ≤ 1048576)
def OpenSpec.upto (s : _root_.Go.ChangeSpec) : _root_.Go.OpenSpec := { _root_.Go.OpenSpec.ofChange s with cond := some uptoSmall }

/-- 'laws.FnExactNeedsAuth', WHERE WHAT IT READS IS OF BULK AT MOST 1048576: true; the input reads as it did. -/
def fnExactNeedsAuthUptoRow : OpenClaim := { program := "ytacdnednkglobaa", sum := "38943fa95ec7272e86f4ee0182c0e00c5e669580ef03d721de1a90df547c73dc", func := "loop.example/g00670/laws.FnExactNeedsAuth", spec := "fnExactNeedsAuth", apart := false, narrowed := true }
def FnExactNeedsAuthUptoSaid : Prop := fnExactNeedsAuthUptoRow.holds Try.pinned (OpenSpec.upto fnExactNeedsAuthSpec)

/-- 'laws.FnExactMacText', WHERE WHAT IT READS IS OF BULK AT MOST 1048576: true; the input reads as it did. -/
def fnExactMacTextUptoRow : OpenClaim := { program := "ytacdnednkglobaa", sum := "38943fa95ec7272e86f4ee0182c0e00c5e669580ef03d721de1a90df547c73dc", func := "loop.example/g00670/laws.FnExactMacText", spec := "fnExactMacText", apart := false, narrowed := true }
def FnExactMacTextUptoSaid : Prop := fnExactMacTextUptoRow.holds Try.pinned (OpenSpec.upto fnExactMacTextSpec)

/-- 'laws.FnExactProtectChunks', WHERE WHAT IT READS IS OF BULK AT MOST 1048576: true; the input reads as it did. -/
def fnExactProtectChunksUptoRow : OpenClaim := { program := "ytacdnednkglobaa", sum := "38943fa95ec7272e86f4ee0182c0e00c5e669580ef03d721de1a90df547c73dc", func := "loop.example/g00670/laws.FnExactProtectChunks", spec := "fnExactProtectChunks", unfollowed := true, recurses := true, apart := false, narrowed := true }
def FnExactProtectChunksUptoSaid : Prop := fnExactProtectChunksUptoRow.holds Try.pinned (OpenSpec.upto fnExactProtectChunksSpec)

end Rows
end Go.Proofs.Ytacdnednkglobaa
