/-
  No cell of these rows narrows 'for every input' (looked for: loops, veiled, ifaces, maps, wideKeys, modest, calm, conditions, laid).
  DERIVED. THE GIVEN ROWS OF THIS SEAT. 5 by the template 'for every input the law returns true; each argument reads behind the call as it read before'; 0 by the template 'total and deterministic' (their statements: YtncnibkojneejaaTotals.lean).
  GIVEN WITH THE SEED: the statements are not yours to turn. If you find one false, say at which input.
  Laid BY PROGRAM, IN A SANDBOX (cutbox-rows.mjs): the forced cells as the released guide's own fill.sh prints them over the translation ed1edaf5beb6489e… (all of the seat's roots in one cut). By AI agents, Wed Nov 11 2026. No macro, syntax, notation, axiom, sorry.
-/
import Derived.Test.YtncnibkojneejaaChecked
import GoSem.Claim
import GoSem.ClaimJoined
import GoSem.ClaimMapViews
import Derived.JoinedTies
import Derived.KernelRfl
namespace Go.Proofs.Ytncnibkojneejaa
/- THE CELL 'sum', in the pinned program and in every row, IS THE sha256 OF THE DUMP (.gsa) THAT YtncnibkojneejaaProg.lean LOADS. Nothing in Lean hashes anything: it is a label: what it is worth is what the hold of that sum in a sandbox is worth. -/
noncomputable def Try.pinned : Pinned := { name := "ytncnibkojneejaa", sum := "ed1edaf5beb6489edc388f10bd2faaab9499933b01a3a6a8aeb3f3f6e49ff769", checked := Try.checked }
namespace Rows
def none {H : Type} : Left H := { results := [], args := [] }

/-- 'laws.FnSacks': WHATEVER THE INPUT: true; the input reads as it did. -/
def fnSacksSpec : ChangeSpec := { name := "fnSacks", fn := fun _ => fun
  | [d] => { results := [.lit (.bool true)], args := [d] }
  | _ => none }
def fnSacksRow : OpenClaim := { program := "ytncnibkojneejaa", sum := "ed1edaf5beb6489edc388f10bd2faaab9499933b01a3a6a8aeb3f3f6e49ff769", func := "loop.example/g00670/laws.FnSacks", spec := "fnSacks", unfollowed := true, recurses := true, apart := false }
def FnSacksSaid : Prop := fnSacksRow.holds Try.pinned (OpenSpec.ofChange fnSacksSpec)

/-- ITS FALSE NEIGHBOUR: 'it returns false'. Refute it at one input. -/
def fnSacksWrong : ChangeSpec := { name := "fnSacks", fn := fun _ => fun
  | [d] => { results := [.lit (.bool false)], args := [d] }
  | _ => none }
def FnSacksWrongFalsely : Prop := fnSacksRow.holds Try.pinned (OpenSpec.ofChange fnSacksWrong)

/-- 'laws.FnExactRecvFault': WHATEVER THE INPUT: true; the input reads as it did. -/
def fnExactRecvFaultSpec : ChangeSpec := { name := "fnExactRecvFault", fn := fun _ => fun
  | [d] => { results := [.lit (.bool true)], args := [d] }
  | _ => none }
def fnExactRecvFaultRow : OpenClaim := { program := "ytncnibkojneejaa", sum := "ed1edaf5beb6489edc388f10bd2faaab9499933b01a3a6a8aeb3f3f6e49ff769", func := "loop.example/g00670/laws.FnExactRecvFault", spec := "fnExactRecvFault", apart := false }
def FnExactRecvFaultSaid : Prop := fnExactRecvFaultRow.holds Try.pinned (OpenSpec.ofChange fnExactRecvFaultSpec)

/-- ITS FALSE NEIGHBOUR: 'it returns false'. Refute it at one input. -/
def fnExactRecvFaultWrong : ChangeSpec := { name := "fnExactRecvFault", fn := fun _ => fun
  | [d] => { results := [.lit (.bool false)], args := [d] }
  | _ => none }
def FnExactRecvFaultWrongFalsely : Prop := fnExactRecvFaultRow.holds Try.pinned (OpenSpec.ofChange fnExactRecvFaultWrong)

/-- 'laws.FnExactNewRecv': WHATEVER THE INPUT: true; the input reads as it did. -/
def fnExactNewRecvSpec : ChangeSpec := { name := "fnExactNewRecv", fn := fun _ => fun
  | [d] => { results := [.lit (.bool true)], args := [d] }
  | _ => none }
def fnExactNewRecvRow : OpenClaim := { program := "ytncnibkojneejaa", sum := "ed1edaf5beb6489edc388f10bd2faaab9499933b01a3a6a8aeb3f3f6e49ff769", func := "loop.example/g00670/laws.FnExactNewRecv", spec := "fnExactNewRecv", apart := false }
def FnExactNewRecvSaid : Prop := fnExactNewRecvRow.holds Try.pinned (OpenSpec.ofChange fnExactNewRecvSpec)

/-- ITS FALSE NEIGHBOUR: 'it returns false'. Refute it at one input. -/
def fnExactNewRecvWrong : ChangeSpec := { name := "fnExactNewRecv", fn := fun _ => fun
  | [d] => { results := [.lit (.bool false)], args := [d] }
  | _ => none }
def FnExactNewRecvWrongFalsely : Prop := fnExactNewRecvRow.holds Try.pinned (OpenSpec.ofChange fnExactNewRecvWrong)

/-- 'laws.FnExactSackOf': WHATEVER THE INPUT: true; the input reads as it did. -/
def fnExactSackOfSpec : ChangeSpec := { name := "fnExactSackOf", fn := fun _ => fun
  | [d] => { results := [.lit (.bool true)], args := [d] }
  | _ => none }
def fnExactSackOfRow : OpenClaim := { program := "ytncnibkojneejaa", sum := "ed1edaf5beb6489edc388f10bd2faaab9499933b01a3a6a8aeb3f3f6e49ff769", func := "loop.example/g00670/laws.FnExactSackOf", spec := "fnExactSackOf", apart := false }
def FnExactSackOfSaid : Prop := fnExactSackOfRow.holds Try.pinned (OpenSpec.ofChange fnExactSackOfSpec)

/-- ITS FALSE NEIGHBOUR: 'it returns false'. Refute it at one input. -/
def fnExactSackOfWrong : ChangeSpec := { name := "fnExactSackOf", fn := fun _ => fun
  | [d] => { results := [.lit (.bool false)], args := [d] }
  | _ => none }
def FnExactSackOfWrongFalsely : Prop := fnExactSackOfRow.holds Try.pinned (OpenSpec.ofChange fnExactSackOfWrong)

/-- 'laws.FnExactSameRecvs': WHATEVER THE INPUT: true; the input reads as it did. -/
def fnExactSameRecvsSpec : ChangeSpec := { name := "fnExactSameRecvs", fn := fun _ => fun
  | [d1, d2] => { results := [.lit (.bool true)], args := [d1, d2] }
  | _ => none }
def fnExactSameRecvsRow : OpenClaim := { program := "ytncnibkojneejaa", sum := "ed1edaf5beb6489edc388f10bd2faaab9499933b01a3a6a8aeb3f3f6e49ff769", func := "loop.example/g00670/laws.FnExactSameRecvs", spec := "fnExactSameRecvs", unfollowed := true, recurses := true, apart := false }
def FnExactSameRecvsSaid : Prop := fnExactSameRecvsRow.holds Try.pinned (OpenSpec.ofChange fnExactSameRecvsSpec)

/-- ITS FALSE NEIGHBOUR: 'it returns false'. Refute it at one input. -/
def fnExactSameRecvsWrong : ChangeSpec := { name := "fnExactSameRecvs", fn := fun _ => fun
  | [d1, d2] => { results := [.lit (.bool false)], args := [d1, d2] }
  | _ => none }
def FnExactSameRecvsWrongFalsely : Prop := fnExactSameRecvsRow.holds Try.pinned (OpenSpec.ofChange fnExactSameRecvsWrong)

/- THE SECOND FORM. 'bulk': how many values and letters a reading holds, each counted each time it is reached (what is shared counts as often as it is met; a slice's spare places count too). A statement '..UptoSaid' is the law's where the arguments, and the package variables that the reading takes, are together of bulk at most 1048576: NARROWER than '..Said'. Prove '..Said' where nothing that the law and all that it calls make is longer than what came in: it says more and counts as full. Else prove '..UptoSaid'. A law counts once. -/
mutual
def uptoBulk {H : Type} : DataW H → Nat
  | .lit (.string bytes) => bytes.length + 1
  | .lit _ => 1
  | .nil => 1
  | .ptr d => uptoBulk d + 1
  | .slice elems spare => uptoBulkAll elems + uptoBulkAll spare + 1
  | .agg parts => uptoBulkAll parts + 1
  | .iface _ d => uptoBulk d + 1
  | .map entries => uptoBulkEntries entries + 1
  | .held _ => 1
def uptoBulkAll {H : Type} : List (DataW H) → Nat
  | [] => 0
  | d :: r => uptoBulk d + uptoBulkAll r
def uptoBulkEntries {H : Type} : List (Lit × DataW H) → Nat
  | [] => 0
  | x :: r => uptoBulkEntry x + uptoBulkEntries r
def uptoBulkEntry {H : Type} : Lit × DataW H → Nat
  | (.string bytes, d) => bytes.length + uptoBulk d + 1
  | (_, d) => uptoBulk d + 1
 end
def uptoSmall : (H : Type) → List (DataW H) → Bool := fun _ ds => decide (uptoBulkAll ds ≤ 1048576)
def OpenSpec.upto (s : _root_.Go.ChangeSpec) : _root_.Go.OpenSpec := { _root_.Go.OpenSpec.ofChange s with cond := some uptoSmall }

/-- 'laws.FnSacks', WHERE WHAT IT READS IS OF BULK AT MOST 1048576: true; the input reads as it did. -/
def fnSacksUptoRow : OpenClaim := { program := "ytncnibkojneejaa", sum := "ed1edaf5beb6489edc388f10bd2faaab9499933b01a3a6a8aeb3f3f6e49ff769", func := "loop.example/g00670/laws.FnSacks", spec := "fnSacks", unfollowed := true, recurses := true, apart := false, narrowed := true }
def FnSacksUptoSaid : Prop := fnSacksUptoRow.holds Try.pinned (OpenSpec.upto fnSacksSpec)

/-- 'laws.FnExactRecvFault', WHERE WHAT IT READS IS OF BULK AT MOST 1048576: true; the input reads as it did. -/
def fnExactRecvFaultUptoRow : OpenClaim := { program := "ytncnibkojneejaa", sum := "ed1edaf5beb6489edc388f10bd2faaab9499933b01a3a6a8aeb3f3f6e49ff769", func := "loop.example/g00670/laws.FnExactRecvFault", spec := "fnExactRecvFault", apart := false, narrowed := true }
def FnExactRecvFaultUptoSaid : Prop := fnExactRecvFaultUptoRow.holds Try.pinned (OpenSpec.upto fnExactRecvFaultSpec)

/-- 'laws.FnExactNewRecv', WHERE WHAT IT READS IS OF BULK AT MOST 1048576: true; the input reads as it did. -/
def fnExactNewRecvUptoRow : OpenClaim := { program := "ytncnibkojneejaa", sum := "ed1edaf5beb6489edc388f10bd2faaab9499933b01a3a6a8aeb3f3f6e49ff769", func := "loop.example/g00670/laws.FnExactNewRecv", spec := "fnExactNewRecv", apart := false, narrowed := true }
def FnExactNewRecvUptoSaid : Prop := fnExactNewRecvUptoRow.holds Try.pinned (OpenSpec.upto fnExactNewRecvSpec)

/-- 'laws.FnExactSackOf', WHERE WHAT IT READS IS OF BULK AT MOST 1048576: true; the input reads as it did. -/
def fnExactSackOfUptoRow : OpenClaim := { program := "ytncnibkojneejaa", sum := "ed1edaf5beb6489edc388f10bd2faaab9499933b01a3a6a8aeb3f3f6e49ff769", func := "loop.example/g00670/laws.FnExactSackOf", spec := "fnExactSackOf", apart := false, narrowed := true }
def FnExactSackOfUptoSaid : Prop := fnExactSackOfUptoRow.holds Try.pinned (OpenSpec.upto fnExactSackOfSpec)

/-- 'laws.FnExactSameRecvs', WHERE WHAT IT READS IS OF BULK AT MOST 1048576: true; the input reads as it did. -/
def fnExactSameRecvsUptoRow : OpenClaim := { program := "ytncnibkojneejaa", sum := "ed1edaf5beb6489edc388f10bd2faaab9499933b01a3a6a8aeb3f3f6e49ff769", func := "loop.example/g00670/laws.FnExactSameRecvs", spec := "fnExactSameRecvs", unfollowed := true, recurses := true, apart := false, narrowed := true }
def FnExactSameRecvsUptoSaid : Prop := fnExactSameRecvsUptoRow.holds Try.pinned (OpenSpec.upto fnExactSameRecvsSpec)

end Rows
end Go.Proofs.Ytncnibkojneejaa
